/-
  The document's words of a key, of 16 and of 32 bytes. (Printed by wip/gen/aeswords.py.)
-/
import Derived.Test.YtkfmgjipocmkjaaFoldD
import Derived.Test.YtkfmgjipocmkjaaFoldA
import Derived.Deep.RegionLaw
import Derived.Deep.AppendLies
import Derived.Deep.DeepCutAuto
import Derived.StillTailTactics
namespace Go.Proofs.Ytkfmgjipocmkjaa
open Go Go.RowKit
set_option linter.unusedVariables false
set_option linter.unusedSimpArgs false

/-- The first n of a function's values. -/
def pre (f : Nat → Nat) : Nat → List Nat
  | 0 => []
  | n + 1 => pre f n ++ [f n]
theorem pre_len (f : Nat → Nat) (n : Nat) : (pre f n).length = n := by induction n with | zero => rfl | succ n ih => simp [pre, ih]
theorem pre_get (f : Nat → Nat) (n i : Nat) (h : i < n) : (pre f n)[i]? = some (f i) := by
  induction n with
  | zero => omega
  | succ n ih =>
    rw [pre]
    by_cases hi : i < n
    · rw [List.getElem?_append_left (by rw [pre_len]; exact hi)]; exact ih hi
    · obtain rfl : i = n := by omega
      rw [List.getElem?_append_right (by rw [pre_len]; exact Nat.le_refl _), pre_len, Nat.sub_self]; rfl
theorem pre_set (f g : Nat → Nat) (n k : Nat) (hk : k < n) (h : ∀ j, j < n → j ≠ k → g j = f j) : (pre f n).set k (g k) = pre g n := by
  apply List.ext_getElem?
  intro i
  rw [List.getElem?_set, pre_len]
  by_cases hi : i < n
  · by_cases e : k = i
    · subst e; rw [if_pos rfl, if_pos hk, pre_get g n k hk]
    · rw [if_neg e, pre_get f n i hi, pre_get g n i hi, h i hi (fun e' => e e'.symm)]
  · rw [List.getElem?_eq_none (by rw [pre_len]; omega)]
    by_cases e : k = i
    · omega
    · rw [if_neg e, List.getElem?_eq_none (by rw [pre_len]; omega)]
theorem vn_snoc (l : List Nat) (x : Nat) : vn l ++ [.int .u8 (x : Int)] = vn (l ++ [x]) := by simp [vn]
theorem vn_get (l : List Nat) (i : Nat) (h : i < l.length) : (vn l)[i]? = some (.int .u8 (l.getD i 0 : Int)) := by simp [vn, List.getD, h]
theorem vn_set (l : List Nat) (i x : Nat) : (vn l).set i (.int .u8 (x : Int)) = vn (l.set i x) := by simp [vn, List.map_set]
theorem vn_one (l : List Nat) : ∀ v ∈ vn l, v.oneCell' = true := by
  intro v hv
  simp only [vn, List.mem_map] at hv
  obtain ⟨b, _, rfl⟩ := hv
  rfl
theorem pre_next (f : Nat → Nat) (n x : Nat) (h : x = f n) : pre f (n + 1) = pre f n ++ [x] := by rw [h]; rfl
theorem pre4 (f : Nat → Nat) : pre f 4 = [f 0, f 1, f 2, f 3] := rfl


set_option maxRecDepth 100000 in
set_option maxHeartbeats 1000000 in
theorem rwords16_any (A : Option Addr) (l : List Nat) (cap : Nat) (hn : l.length = 16) (hl : ∀ x ∈ l, x < 256) (w : World) (h : Rd w w.heap.size A (vn l)) :
    Calls Try.prog 54 #[.slice A 16 cap] w fun e w' => ∃ v, e = .returned v ∧ w'.ownsRow w.heap.size 5 1 v 176 (vn (kAll l)) ∧ Below w.heap.size w w' := by
  obtain ⟨i0, hi, hz0, hz1, hz2⟩ := info_parts info_b
  have HI := Lib.hid hi; clear hi
  have HA : Hid (kAll l = kX 4 l 40) := Lib.hid (by unfold kAll; rw [hn])
  have HLT := Lib.hid (kX_lt 4 l hl)
  have HLEN : Hid (∀ m, (kX 4 l m).length = 16 + 4 * m) := Lib.hid fun m => by rw [kX_len, hn]
  have HC := Lib.hid (copyv_any A (vn l) 16 cap (by rw [vn_len]; exact hn) (vn_one l) w (by omega) h)
  clear h hn hl
  go_enter Try.func54, Try.ntmps54
  go_wp2_with fail
  refine HC.out.mono ?_
  rintro e w1 ⟨v, rfl, hown1, hb1⟩
  clear HC
  go_wp2_with fail
  go_loopw [4, 5] (fun v i wr => ∃ m : Nat, m ≤ 40 ∧ i = .int .i64 ((4 + m : Nat) : Int) ∧ Hid (wr.ownsRow w.heap.size 5 1 v (16 + 4 * m) (vn (kX 4 l m))) ∧ Hid (Below w.heap.size w wr)) (fun _ i _ => 44 - (intOf i).toNat)
  case atStart => exact ⟨0, by omega, rfl, Lib.hid hown1, Lib.hid hb1⟩
  case round =>
    clear hown1 hb1
    obtain ⟨m, hm, rfl, HW, HB⟩ := hrel
    by_cases hlt : m < 40
    · obtain ⟨wo, rfl⟩ : ∃ wo : World, wo = wr := ⟨_, rfl⟩
      obtain ⟨W, hW⟩ : ∃ W, W = kX 4 l m := ⟨_, rfl⟩
      have hlen : W.length = 16 + 4 * m := by rw [hW]; exact HLEN.out m
      have hwlt : ∀ x ∈ W, x < 256 := by rw [hW]; exact HLT.out m
      rw [← hW] at HW
      obtain ⟨N, hN⟩ : ∃ N : Nat, N = 16 + 4 * m := ⟨_, rfl⟩
      rw [← hN] at HW hlen
      obtain ⟨g4, c4, rfl, hg4, hg4'⟩ := HW.out.form (by omega)
      have HWL := Lib.hid hwlt; clear hwlt
      have HEQ := Lib.hid hW; clear hW
      have HL := Lib.hid hlen; clear hlen
      obtain ⟨i, hie⟩ : ∃ i : Nat, i = 4 + m := ⟨_, rfl⟩
      obtain ⟨j, hje⟩ : ∃ j : Nat, i = j + 1 := ⟨i - 1, by omega⟩
      have hi0 : 4 ≤ i := by omega
      have hi1 : i < 44 := by omega
      have hj1 : j < 44 := by omega
      have e1 : (i : Int) - 1 = (j : Int) := by omega
      rw [← hie]
      have HIE := Lib.hid hie; clear hie
      have HJE := Lib.hid hje; clear hje
      have HE1 := Lib.hid e1; clear e1
      have hN1 : N ≤ 176 := by omega
      have HN := Lib.hid hN; clear hN
      have hiI : (i : Int) < 44 := by omega
      go_wp2_with fail
      go_loopw [6, 7] (fun v p wr => ∃ q : Nat, q ≤ 4 ∧ p = .int .i64 (q : Int) ∧ Hid (wr.ownsRow wo.heap.size 5 1 v q (vn (pre (fun p => W.getD (4 * j + p) 0) q))) ∧ Hid (Below wo.heap.size wo wr)) (fun _ p _ => 4 - (intOf p).toNat)
      case atStart => exact ⟨0, by omega, rfl, Lib.hid (World.ownsRow_nil _ _ _ _), Lib.hid (Below.refl _ _)⟩
      case round =>
        obtain ⟨q, hq, rfl, HT, HB2⟩ := hrel
        by_cases hlq : q < 4
        · have hq4 : (q : Int) < 4 := by omega
          have hcell : wr.cell? ⟨g4, 4 * j + q, none⟩ = some (.int .u8 (W.getD (4 * j + q) 0 : Int)) := by
            have hx : 4 * j + q < W.length := by have := HL.out; have := HIE.out; have := HJE.out; have := HN.out; omega
            have hy := (own_below HW.out HB2.out).cellAt (4 * j + q) (by have := HL.out; have := HIE.out; have := HJE.out; have := HN.out; omega)
            rw [hy, vn_get W _ hx]
          obtain ⟨x, hx⟩ : ∃ x, x = W.getD (4 * j + q) 0 := ⟨_, rfl⟩
          rw [← hx] at hcell
          have HX := Lib.hid hx; clear hx
          have e1 := HE1.out
          have s1 : 4 * (j : Int) + (q : Int) < (N : Int) := by have := HIE.out; have := HJE.out; have := HN.out; omega
          have s2 : (0 : Int) ≤ 4 * (j : Int) + (q : Int) := by omega
          have s3 : (4 * (j : Int) + (q : Int)).toNat = 4 * j + q := by omega
          have hi := HI.out
          have hT := HT.out
          have hsz2 := HB2.out.size
          go_wp2_with (at_builtin; go_loud (refine wpList_append_lies _ rfl (.tmp 29) (.tmp 38) _ rfl wo.heap.size 5 i0 _ 1 1 Try.underlying22 hi hz0 hz1 hz2 rfl (by omega) u6 q _ rfl (hT.alloc _) ⟨_, 0, none⟩ 1 1 [.int .u8 (x : Int)] rfl rfl (World.news_of_block (cs := #[.int .u8 (x : Int)]) (t := 5) (fr := (0, 0)) (heap_alloc_new _ _)) (by simp [Value.oneCell']) (by omega) (by unfold maxLen; omega) (by omega) (by simp; omega) _ rfl ?_); intro gg cap2 w2 hown2 hgrow hat hlt2)
          go_roundw
          case rel =>
            refine ⟨q + 1, by omega, by go_num, Lib.hid ?_, Lib.hid ((HB2.out.alloc hsz2 _).grown hgrow (by simp; omega) (fun k hk => (hT.lt k hk).1))⟩
            rw [vn_snoc, ← pre_next (fun p => W.getD (4 * j + p) 0) q x HX.out] at hown2
            exact hown2
          case measure => simp [intOf]; omega
        · obtain rfl : q = 4 := by omega
          rw [show ((4 : Nat) : Int) = 4 from rfl]
          obtain ⟨g6, c6, rfl, hg6, hg6'⟩ := HT.out.form (by omega)
          obtain ⟨tF, htF⟩ : ∃ tF : Nat → Nat, tF = fun p => W.getD (4 * j + p) 0 := ⟨_, rfl⟩
          rw [← htF] at HT
          have tlt : ∀ p, tF p < 256 := fun p => by rw [htF]; exact getD_lt W HWL.out _
          have TLT := Lib.hid tlt; clear tlt
          have HTF := Lib.hid htF; clear htF
          have HTC : Hid (∀ r, r < 4 → wr.cell? ⟨g6, r, none⟩ = some (.int .u8 (tF r : Int))) := Lib.hid fun r hr => by
            have := HT.out.cellAt r (by omega)
            rw [this, vn_get _ r (by rw [pre_len]; exact hr)]
            simp [List.getD, pre_get tF 4 r hr]
          go_upto_if 43 with fail
          go_cut [6] (fun s6 wx => ∃ g7 c7 : Nat, s6 = .slice (some ⟨g7, 0, none⟩) 4 c7 ∧ wo.heap.size ≤ g7 ∧ g7 < wx.heap.size ∧ Hid (∀ p, p < 4 → wx.cell? ⟨g7, p, none⟩ = some (.int .u8 (kT 4 i tF p : Int))) ∧ Hid (Below wo.heap.size wo wx))
          case first =>
            by_cases hd : i % 4 = 0
            · have hb : ((i : Int) % 4 == 0) = true := by rw [beq_iff_eq]; omega
              have hkT : ∀ p, kT 4 i tF p = if p = 0 then gs (tF ((p + 1) % 4)) ^^^ gp 2 (i / 4 - 1) else gs (tF ((p + 1) % 4)) := fun p => by unfold kT; rw [if_pos hd]
              have HK := Lib.hid hkT; clear hkT
              have HD := Lib.hid hd; clear hd
              clear HT
              rw [hb]
              clear hb
              go_wp2_with fail
              obtain ⟨wt, rfl⟩ : ∃ wt : World, wt = wr := ⟨_, rfl⟩
              go_loopw [8, 9] (fun v p wr => ∃ q : Nat, q ≤ 4 ∧ p = .int .i64 (q : Int) ∧ Hid (wr.ownsRow wt.heap.size 5 1 v q (vn (pre (fun p => gs (tF ((p + 1) % 4))) q))) ∧ Hid (Below wt.heap.size wt wr)) (fun _ p _ => 4 - (intOf p).toNat)
              case atStart => exact ⟨0, by omega, rfl, Lib.hid (World.ownsRow_nil _ _ _ _), Lib.hid (Below.refl _ _)⟩
              case round =>
                obtain ⟨q, hq, rfl, HU, HB3⟩ := hrel
                by_cases hlq : q < 4
                · have hq4 : (q : Int) < 4 := by omega
                  obtain ⟨r, hr⟩ : ∃ r, r = (q + 1) % 4 := ⟨_, rfl⟩
                  have hr4 : r < 4 := by omega
                  have hrI : (r : Int) < 4 := by omega
                  have e2 : ((q : Int) + 1) % 4 = (r : Int) := by omega
                  have hcell : wr.cell? ⟨g6, r, none⟩ = some (.int .u8 (tF r : Int)) := (HB3.out.cell (p := ⟨g6, r, none⟩) hg6').trans (HTC.out r hr4)
                  have hx : gs (tF r) = gs (tF ((q + 1) % 4)) := by rw [hr]
                  have HX := Lib.hid hx; clear hx
                  have HR := Lib.hid hr; clear hr
                  have lx := TLT.out r
                  have hi := HI.out
                  have hU := HU.out
                  have hsz3 := HB3.out.size
                  go_wp2_with (first
                    | (go_at_call 56; refine (rsub_any (tF r) _ lx).mono ?_; rintro e w' ⟨rfl, rfl⟩)
                    | (at_builtin; go_loud (refine wpList_append_lies _ rfl (.tmp 48) (.tmp 56) _ rfl wt.heap.size 5 i0 _ 1 1 Try.underlying22 hi hz0 hz1 hz2 rfl (by omega) u8 q _ rfl (hU.alloc _) ⟨_, 0, none⟩ 1 1 [.int .u8 (gs (tF r) : Int)] rfl rfl (World.news_of_block (cs := #[.int .u8 (gs (tF r) : Int)]) (t := 5) (fr := (0, 0)) (heap_alloc_new _ _)) (by simp [Value.oneCell']) (by omega) (by unfold maxLen; omega) (by omega) (by simp; omega) _ rfl ?_); intro gg cap2 w2 hown2 hgrow hat hlt2))
                  go_roundw
                  case rel =>
                    refine ⟨q + 1, by omega, by go_num, Lib.hid ?_, Lib.hid ((HB3.out.alloc hsz3 _).grown hgrow (by simp; omega) (fun k hk => (hU.lt k hk).1))⟩
                    rw [vn_snoc, ← pre_next (fun p => gs (tF ((p + 1) % 4))) q (gs (tF r)) HX.out] at hown2
                    exact hown2
                  case measure => simp [intOf]; omega
                · obtain rfl : q = 4 := by omega
                  rw [show ((4 : Nat) : Int) = 4 from rfl]
                  obtain ⟨g8, c8, rfl, hg8, hg8'⟩ := HU.out.form (by omega)
                  obtain ⟨d, hd⟩ : ∃ d, d = i / 4 - 1 := ⟨_, rfl⟩
                  have hdlt : d ≤ 100 := by omega
                  have c0 : wr.cell? ⟨g8, 0, none⟩ = some (.int .u8 (gs (tF 1) : Int)) := by
                    rw [HU.out.cellAt 0 (by omega), vn_get _ 0 (by rw [pre_len]; omega)]
                    rfl
                  have f0 := HU.out.frozenAt 0
                  have t1 : IntKind.i64.wrap ((i : Int) / 4) = (i : Int) / 4 := IntWalk.i64_in _ (by omega)
                  have t2 : IntKind.i64.wrap ((i : Int) / 4 - 1) = (d : Int) := (IntWalk.i64_in _ (by omega)).trans (by omega)
                  have t3 : IntKind.u32.wrap (d : Int) = (d : Int) := IntWalk.u32_in _ (by omega)
                  have lg := gs_lt _ (TLT.out 1)
                  have lp := gp_lt 2 d (by omega)
                  go_upto_region 17 with fail
                  have HD2 := Lib.hid hd; clear hd
                  have hc : ∀ w : World, Calls Try.prog 69 #[.int .u8 2, .int .u32 (d : Int)] w fun e w' => e = .returned (.int .u8 ((gp 2 d : Nat) : Int)) ∧ w' = w := fun w => rpower_any 2 d w (by omega) (by omega)
                  have HCP := Lib.hid hc; clear hc
                  go_still_tail 12, (by kernel_rfl)
                  still_call (HCP.out _)
                  repeat still_step
                  refine wpStill_nil ?_
                  change wpList _ _ _ _ _ wr.drew
                  have hU : wr.drew.ownsRow wt.heap.size 5 1 (.slice (some ⟨g8, 0, none⟩) 4 c8) 4 (vn (pre (fun p => gs (tF ((p + 1) % 4))) 4)) := HU.out
                  have hBw : Below wt.heap.size wt wr.drew := HB3.out.drew
                  have c0' : wr.drew.cell? ⟨g8, 0, none⟩ = some (.int .u8 (gs (tF 1) : Int)) := c0
                  have f0' : wr.drew.frozen? ⟨g8, 0, none⟩ = false := f0
                  have hx := nbits_xor _ _ lg lp
                  have hst := hU.stored 0 (.int .u8 ((gs (tF 1) ^^^ gp 2 d : Nat) : Int))
                  have HST := Lib.hid hst; clear hst hU
                  have HBW := Lib.hid hBw; clear hBw
                  clear c0 f0 t1 t2 t3
                  generalize wr.drew = w2 at *
                  go_wp2_with fail
                  go_meet
                  have hsz2 := HB2.out.size
                  refine ⟨g8, c8, rfl, by omega, (HST.out.1.lt g8 rfl).2, Lib.hid ?_, Lib.hid ((HB2.out.trans (HBW.out.mono hsz2)).setCell (by show _ ≤ g8; omega) _)⟩
                  intro p hp
                  have e := HST.out.1.cellAt p (by omega)
                  have e3 : (gs (tF 1) ^^^ gp 2 d) = kT 4 i tF 0 := by rw [HK.out, HD2.out]; rfl
                  rw [e, e3, vn_set, pre_set (fun p => gs (tF ((p + 1) % 4))) (kT 4 i tF) 4 0 (by omega) (fun j hj h0 => by rw [HK.out, if_neg h0]), vn_get _ p (by rw [pre_len]; exact hp)]
                  simp [List.getD, pre_get (kT 4 i tF) 4 p hp]
            · have hb : ((i : Int) % 4 == 0) = false := by rw [beq_eq_false_iff_ne]; omega
              rw [hb]
              clear hb
              have hkT : ∀ p, kT 4 i tF p = tF p := fun p => by unfold kT; rw [if_neg hd, if_neg (by omega)]
              have HK := Lib.hid hkT; clear hkT
              have HD := Lib.hid hd; clear hd
              go_wp2_with fail
              go_meet
              exact ⟨g6, c6, rfl, hg6, hg6', Lib.hid (fun p hp => by rw [HK.out]; exact HTC.out p hp), HB2⟩
          case rest =>
            obtain ⟨g7, c7, rfl, hg7, hg7', HK7, HB7⟩ := hcut
            have e2 : (i : Int) - 4 = (m : Int) := by have := HIE.out; omega
            have HE2 := Lib.hid e2; clear e2
            clear HTC HB2 HT
            obtain ⟨wt, rfl⟩ : ∃ wt : World, wt = wc := ⟨_, rfl⟩
            go_wp2_with fail
            go_loopw [4, 11] (fun v p wr => ∃ q : Nat, q ≤ 4 ∧ p = .int .i64 (q : Int) ∧ Hid (wr.ownsRow w.heap.size 5 1 v (N + q) (vn (W ++ pre (kW 4 i W) q))) ∧ Hid (∀ p, p < 4 → wr.cell? ⟨g7, p, none⟩ = some (.int .u8 (kT 4 i tF p : Int))) ∧ g7 < wr.heap.size ∧ v.ownBlock ≠ some g7 ∧ Hid (Below w.heap.size w wr)) (fun _ p _ => 4 - (intOf p).toNat)
            case atStart =>
              refine ⟨0, by omega, rfl, Lib.hid ?_, HK7, hg7', ?_, Lib.hid (HB.out.trans (HB7.out.mono HB.out.size))⟩
              · have := own_below HW.out HB7.out
                simpa [pre] using this
              · simp [Value.ownBlock]; omega
            case round =>
              clear HK7 HW
              obtain ⟨q, hq, rfl, HV, HK7, hg7b, hne, HB8⟩ := hrel
              by_cases hlq : q < 4
              · have hq4 : (q : Int) < 4 := by omega
                obtain ⟨gv, cv, rfl, hgv, hgv'⟩ := HV.out.form (by have := HN.out; omega)
                have hm4 : 4 * m + q < N := by have := HN.out; omega
                have hne7 : ¬ g7 = gv := by intro e; exact hne (by rw [e]; rfl)
                have hcw : wr.cell? ⟨gv, 4 * m + q, none⟩ = some (.int .u8 (W.getD (4 * m + q) 0 : Int)) := by
                  rw [HV.out.cellAt (4 * m + q) (by omega), vn_get _ _ (by rw [List.length_append, HL.out]; omega)]
                  simp [List.getD, List.getElem?_append_left (show 4 * m + q < W.length by rw [HL.out]; exact hm4)]
                have hct := HK7.out q hlq
                obtain ⟨x, hx⟩ : ∃ x, x = W.getD (4 * m + q) 0 := ⟨_, rfl⟩
                obtain ⟨t, ht⟩ : ∃ t, t = kT 4 i tF q := ⟨_, rfl⟩
                rw [← hx] at hcw
                rw [← ht] at hct
                have lx : x < 256 := by rw [hx]; exact getD_lt W HWL.out _
                have lt' : t < 256 := by rw [ht]; exact kT_lt 4 i tF TLT.out q
                have hxr := nbits_xor t x lt' lx
                have hkw : t ^^^ x = kW 4 i W q := by
                  rw [ht, hx, HTF.out, kW]
                  have h1 := HIE.out
                  have h2 := HJE.out
                  rw [show i - 1 = j from by omega, show i - 4 = m from by omega]
                have HKW := Lib.hid hkw; clear hkw
                have HX := Lib.hid hx; clear hx
                have HT2 := Lib.hid ht; clear ht
                have e2 := HE2.out
                have t0 : IntKind.i64.wrap (m : Int) = (m : Int) := IntWalk.i64_in _ (by omega)
                have t1 : IntKind.i64.wrap (4 * (m : Int)) = 4 * (m : Int) := IntWalk.i64_in _ (by omega)
                have t2 : IntKind.i64.wrap (4 * (m : Int) + (q : Int)) = 4 * (m : Int) + (q : Int) := IntWalk.i64_in _ (by omega)
                have t3 : (4 * (m : Int) + (q : Int)).toNat = 4 * m + q := by omega
                have t4 : 4 * (m : Int) + (q : Int) < ((N + q : Nat) : Int) := by omega
                have t5 : (0 : Int) ≤ 4 * (m : Int) + (q : Int) := by omega
                have t6 : 4 * (m : Int) < (N : Int) := by omega
                have hi := HI.out
                have hV := HV.out
                have hsz8 := HB8.out.size
                go_wp2_with fail
                go_region_law (first
                  | (refine step_append_lies _ (by rfl) _ _ _ (by rfl) w.heap.size 5 i0 _ 1 1 Try.underlying22 hi hz0 hz1 hz2 rfl (by omega) _ (N + q) _ (by rfl) (by exact hV.alloc _) ⟨_, 0, none⟩ 1 1 _ (by rfl) (by rfl) (World.news_of_block (t := 5) (fr := (0, 0)) (heap_alloc_new _ _)) (by simp [Value.oneCell']) (by omega) (by unfold maxLen; omega) (by omega) (by simp; omega) _ (by rfl) ?_; intro gg cap2 w2 hown2 hgrow hat hlt2))
                all_goals
                  clear t0 t1 t2 t3 t4 t5 t6 e2 hct hcw hxr
                  go_wp2_with fail
                  go_roundw
                  case rel =>
                    refine ⟨q + 1, by omega, by go_num, Lib.hid ?_, Lib.hid ?_, ?_, ?_, Lib.hid (((bdrewN HB8.out 1).alloc (by exact hsz8) _).grown hgrow (by simp; omega) (fun k hk => (hV.lt k hk).1))⟩
                    · rw [vn_snoc, HKW.out, List.append_assoc] at hown2
                      exact hown2
                    · intro p hp
                      have hg2 := hgrow
                      change World.grownBy _ w2 (some gv) at hg2
                      exact (hg2.cell_far (a := ⟨g7, p, none⟩) (by simp; omega) (by intro e; injection e with e; exact hne7 e)).trans ((World.cell?_alloc_lt wr _ _ (by exact hg7b)).trans (HK7.out p hp))
                    · have := hgrow.size
                      simp at this
                      omega
                    · intro e
                      have e : gg = g7 := by simpa [Value.ownBlock] using e
                      rcases hat with h1 | h1
                      · have h1 : some gv = some gg := h1
                        injection h1 with h1
                        omega
                      · simp at h1
                        omega
                  case measure => simp [intOf]; omega
              · obtain rfl : q = 4 := by omega
                rw [show ((4 : Nat) : Int) = 4 from rfl]
                go_wp2_with fail
                go_roundw
                case rel =>
                  refine ⟨m + 1, by omega, ?_, Lib.hid ?_, HB8⟩
                  · exact val_int (by have := HIE.out; omega)
                  · have h1 := HV.out
                    have h2 := HIE.out
                    have h3 := HN.out
                    have e : W ++ pre (kW 4 i W) 4 = kX 4 l (m + 1) := by
                      rw [kX, ← HEQ.out, ← h2]; rfl
                    rw [e, h3] at h1
                    exact h1
                case measure => simp [intOf]; have := HIE.out; omega
    · obtain rfl : m = 40 := by omega
      have hW := HW.out
      rw [← HA.out] at hW
      have HW2 := Lib.hid hW; clear hW HW
      go_wp2_with fail
      go_ret
      exact ⟨_, rfl, HW2.out, HB.out⟩

set_option maxRecDepth 100000 in
set_option maxHeartbeats 1000000 in
theorem rwords32_any (A : Option Addr) (l : List Nat) (cap : Nat) (hn : l.length = 32) (hl : ∀ x ∈ l, x < 256) (w : World) (h : Rd w w.heap.size A (vn l)) :
    Calls Try.prog 54 #[.slice A 32 cap] w fun e w' => ∃ v, e = .returned v ∧ w'.ownsRow w.heap.size 5 1 v 240 (vn (kAll l)) ∧ Below w.heap.size w w' := by
  obtain ⟨i0, hi, hz0, hz1, hz2⟩ := info_parts info_b
  have HI := Lib.hid hi; clear hi
  have HA : Hid (kAll l = kX 8 l 52) := Lib.hid (by unfold kAll; rw [hn])
  have HLT := Lib.hid (kX_lt 8 l hl)
  have HLEN : Hid (∀ m, (kX 8 l m).length = 32 + 4 * m) := Lib.hid fun m => by rw [kX_len, hn]
  have HC := Lib.hid (copyv_any A (vn l) 32 cap (by rw [vn_len]; exact hn) (vn_one l) w (by omega) h)
  clear h hn hl
  go_enter Try.func54, Try.ntmps54
  go_wp2_with fail
  refine HC.out.mono ?_
  rintro e w1 ⟨v, rfl, hown1, hb1⟩
  clear HC
  go_wp2_with fail
  go_loopw [4, 5] (fun v i wr => ∃ m : Nat, m ≤ 52 ∧ i = .int .i64 ((8 + m : Nat) : Int) ∧ Hid (wr.ownsRow w.heap.size 5 1 v (32 + 4 * m) (vn (kX 8 l m))) ∧ Hid (Below w.heap.size w wr)) (fun _ i _ => 60 - (intOf i).toNat)
  case atStart => exact ⟨0, by omega, rfl, Lib.hid hown1, Lib.hid hb1⟩
  case round =>
    clear hown1 hb1
    obtain ⟨m, hm, rfl, HW, HB⟩ := hrel
    by_cases hlt : m < 52
    · obtain ⟨wo, rfl⟩ : ∃ wo : World, wo = wr := ⟨_, rfl⟩
      obtain ⟨W, hW⟩ : ∃ W, W = kX 8 l m := ⟨_, rfl⟩
      have hlen : W.length = 32 + 4 * m := by rw [hW]; exact HLEN.out m
      have hwlt : ∀ x ∈ W, x < 256 := by rw [hW]; exact HLT.out m
      rw [← hW] at HW
      obtain ⟨N, hN⟩ : ∃ N : Nat, N = 32 + 4 * m := ⟨_, rfl⟩
      rw [← hN] at HW hlen
      obtain ⟨g4, c4, rfl, hg4, hg4'⟩ := HW.out.form (by omega)
      have HWL := Lib.hid hwlt; clear hwlt
      have HEQ := Lib.hid hW; clear hW
      have HL := Lib.hid hlen; clear hlen
      obtain ⟨i, hie⟩ : ∃ i : Nat, i = 8 + m := ⟨_, rfl⟩
      obtain ⟨j, hje⟩ : ∃ j : Nat, i = j + 1 := ⟨i - 1, by omega⟩
      have hi0 : 8 ≤ i := by omega
      have hi1 : i < 60 := by omega
      have hj1 : j < 60 := by omega
      have e1 : (i : Int) - 1 = (j : Int) := by omega
      rw [← hie]
      have HIE := Lib.hid hie; clear hie
      have HJE := Lib.hid hje; clear hje
      have HE1 := Lib.hid e1; clear e1
      have hN1 : N ≤ 240 := by omega
      have HN := Lib.hid hN; clear hN
      have hiI : (i : Int) < 60 := by omega
      go_wp2_with fail
      go_loopw [6, 7] (fun v p wr => ∃ q : Nat, q ≤ 4 ∧ p = .int .i64 (q : Int) ∧ Hid (wr.ownsRow wo.heap.size 5 1 v q (vn (pre (fun p => W.getD (4 * j + p) 0) q))) ∧ Hid (Below wo.heap.size wo wr)) (fun _ p _ => 4 - (intOf p).toNat)
      case atStart => exact ⟨0, by omega, rfl, Lib.hid (World.ownsRow_nil _ _ _ _), Lib.hid (Below.refl _ _)⟩
      case round =>
        obtain ⟨q, hq, rfl, HT, HB2⟩ := hrel
        by_cases hlq : q < 4
        · have hq4 : (q : Int) < 4 := by omega
          have hcell : wr.cell? ⟨g4, 4 * j + q, none⟩ = some (.int .u8 (W.getD (4 * j + q) 0 : Int)) := by
            have hx : 4 * j + q < W.length := by have := HL.out; have := HIE.out; have := HJE.out; have := HN.out; omega
            have hy := (own_below HW.out HB2.out).cellAt (4 * j + q) (by have := HL.out; have := HIE.out; have := HJE.out; have := HN.out; omega)
            rw [hy, vn_get W _ hx]
          obtain ⟨x, hx⟩ : ∃ x, x = W.getD (4 * j + q) 0 := ⟨_, rfl⟩
          rw [← hx] at hcell
          have HX := Lib.hid hx; clear hx
          have e1 := HE1.out
          have s1 : 4 * (j : Int) + (q : Int) < (N : Int) := by have := HIE.out; have := HJE.out; have := HN.out; omega
          have s2 : (0 : Int) ≤ 4 * (j : Int) + (q : Int) := by omega
          have s3 : (4 * (j : Int) + (q : Int)).toNat = 4 * j + q := by omega
          have hi := HI.out
          have hT := HT.out
          have hsz2 := HB2.out.size
          go_wp2_with (at_builtin; go_loud (refine wpList_append_lies _ rfl (.tmp 29) (.tmp 38) _ rfl wo.heap.size 5 i0 _ 1 1 Try.underlying22 hi hz0 hz1 hz2 rfl (by omega) u6 q _ rfl (hT.alloc _) ⟨_, 0, none⟩ 1 1 [.int .u8 (x : Int)] rfl rfl (World.news_of_block (cs := #[.int .u8 (x : Int)]) (t := 5) (fr := (0, 0)) (heap_alloc_new _ _)) (by simp [Value.oneCell']) (by omega) (by unfold maxLen; omega) (by omega) (by simp; omega) _ rfl ?_); intro gg cap2 w2 hown2 hgrow hat hlt2)
          go_roundw
          case rel =>
            refine ⟨q + 1, by omega, by go_num, Lib.hid ?_, Lib.hid ((HB2.out.alloc hsz2 _).grown hgrow (by simp; omega) (fun k hk => (hT.lt k hk).1))⟩
            rw [vn_snoc, ← pre_next (fun p => W.getD (4 * j + p) 0) q x HX.out] at hown2
            exact hown2
          case measure => simp [intOf]; omega
        · obtain rfl : q = 4 := by omega
          rw [show ((4 : Nat) : Int) = 4 from rfl]
          obtain ⟨g6, c6, rfl, hg6, hg6'⟩ := HT.out.form (by omega)
          obtain ⟨tF, htF⟩ : ∃ tF : Nat → Nat, tF = fun p => W.getD (4 * j + p) 0 := ⟨_, rfl⟩
          rw [← htF] at HT
          have tlt : ∀ p, tF p < 256 := fun p => by rw [htF]; exact getD_lt W HWL.out _
          have TLT := Lib.hid tlt; clear tlt
          have HTF := Lib.hid htF; clear htF
          have HTC : Hid (∀ r, r < 4 → wr.cell? ⟨g6, r, none⟩ = some (.int .u8 (tF r : Int))) := Lib.hid fun r hr => by
            have := HT.out.cellAt r (by omega)
            rw [this, vn_get _ r (by rw [pre_len]; exact hr)]
            simp [List.getD, pre_get tF 4 r hr]
          go_upto_if 43 with fail
          go_cut [6] (fun s6 wx => ∃ g7 c7 : Nat, s6 = .slice (some ⟨g7, 0, none⟩) 4 c7 ∧ wo.heap.size ≤ g7 ∧ g7 < wx.heap.size ∧ Hid (∀ p, p < 4 → wx.cell? ⟨g7, p, none⟩ = some (.int .u8 (kT 8 i tF p : Int))) ∧ Hid (Below wo.heap.size wo wx))
          case first =>
            by_cases hd : i % 8 = 0
            · have hb : ((i : Int) % 8 == 0) = true := by rw [beq_iff_eq]; omega
              have hkT : ∀ p, kT 8 i tF p = if p = 0 then gs (tF ((p + 1) % 4)) ^^^ gp 2 (i / 8 - 1) else gs (tF ((p + 1) % 4)) := fun p => by unfold kT; rw [if_pos hd]
              have HK := Lib.hid hkT; clear hkT
              have HD := Lib.hid hd; clear hd
              clear HT
              rw [hb]
              clear hb
              go_wp2_with fail
              obtain ⟨wt, rfl⟩ : ∃ wt : World, wt = wr := ⟨_, rfl⟩
              go_loopw [8, 9] (fun v p wr => ∃ q : Nat, q ≤ 4 ∧ p = .int .i64 (q : Int) ∧ Hid (wr.ownsRow wt.heap.size 5 1 v q (vn (pre (fun p => gs (tF ((p + 1) % 4))) q))) ∧ Hid (Below wt.heap.size wt wr)) (fun _ p _ => 4 - (intOf p).toNat)
              case atStart => exact ⟨0, by omega, rfl, Lib.hid (World.ownsRow_nil _ _ _ _), Lib.hid (Below.refl _ _)⟩
              case round =>
                obtain ⟨q, hq, rfl, HU, HB3⟩ := hrel
                by_cases hlq : q < 4
                · have hq4 : (q : Int) < 4 := by omega
                  obtain ⟨r, hr⟩ : ∃ r, r = (q + 1) % 4 := ⟨_, rfl⟩
                  have hr4 : r < 4 := by omega
                  have hrI : (r : Int) < 4 := by omega
                  have e2 : ((q : Int) + 1) % 4 = (r : Int) := by omega
                  have hcell : wr.cell? ⟨g6, r, none⟩ = some (.int .u8 (tF r : Int)) := (HB3.out.cell (p := ⟨g6, r, none⟩) hg6').trans (HTC.out r hr4)
                  have hx : gs (tF r) = gs (tF ((q + 1) % 4)) := by rw [hr]
                  have HX := Lib.hid hx; clear hx
                  have HR := Lib.hid hr; clear hr
                  have lx := TLT.out r
                  have hi := HI.out
                  have hU := HU.out
                  have hsz3 := HB3.out.size
                  go_wp2_with (first
                    | (go_at_call 56; refine (rsub_any (tF r) _ lx).mono ?_; rintro e w' ⟨rfl, rfl⟩)
                    | (at_builtin; go_loud (refine wpList_append_lies _ rfl (.tmp 48) (.tmp 56) _ rfl wt.heap.size 5 i0 _ 1 1 Try.underlying22 hi hz0 hz1 hz2 rfl (by omega) u8 q _ rfl (hU.alloc _) ⟨_, 0, none⟩ 1 1 [.int .u8 (gs (tF r) : Int)] rfl rfl (World.news_of_block (cs := #[.int .u8 (gs (tF r) : Int)]) (t := 5) (fr := (0, 0)) (heap_alloc_new _ _)) (by simp [Value.oneCell']) (by omega) (by unfold maxLen; omega) (by omega) (by simp; omega) _ rfl ?_); intro gg cap2 w2 hown2 hgrow hat hlt2))
                  go_roundw
                  case rel =>
                    refine ⟨q + 1, by omega, by go_num, Lib.hid ?_, Lib.hid ((HB3.out.alloc hsz3 _).grown hgrow (by simp; omega) (fun k hk => (hU.lt k hk).1))⟩
                    rw [vn_snoc, ← pre_next (fun p => gs (tF ((p + 1) % 4))) q (gs (tF r)) HX.out] at hown2
                    exact hown2
                  case measure => simp [intOf]; omega
                · obtain rfl : q = 4 := by omega
                  rw [show ((4 : Nat) : Int) = 4 from rfl]
                  obtain ⟨g8, c8, rfl, hg8, hg8'⟩ := HU.out.form (by omega)
                  obtain ⟨d, hd⟩ : ∃ d, d = i / 8 - 1 := ⟨_, rfl⟩
                  have hdlt : d ≤ 100 := by omega
                  have c0 : wr.cell? ⟨g8, 0, none⟩ = some (.int .u8 (gs (tF 1) : Int)) := by
                    rw [HU.out.cellAt 0 (by omega), vn_get _ 0 (by rw [pre_len]; omega)]
                    rfl
                  have f0 := HU.out.frozenAt 0
                  have t1 : IntKind.i64.wrap ((i : Int) / 8) = (i : Int) / 8 := IntWalk.i64_in _ (by omega)
                  have t2 : IntKind.i64.wrap ((i : Int) / 8 - 1) = (d : Int) := (IntWalk.i64_in _ (by omega)).trans (by omega)
                  have t3 : IntKind.u32.wrap (d : Int) = (d : Int) := IntWalk.u32_in _ (by omega)
                  have lg := gs_lt _ (TLT.out 1)
                  have lp := gp_lt 2 d (by omega)
                  go_upto_region 17 with fail
                  have HD2 := Lib.hid hd; clear hd
                  have hc : ∀ w : World, Calls Try.prog 69 #[.int .u8 2, .int .u32 (d : Int)] w fun e w' => e = .returned (.int .u8 ((gp 2 d : Nat) : Int)) ∧ w' = w := fun w => rpower_any 2 d w (by omega) (by omega)
                  have HCP := Lib.hid hc; clear hc
                  go_still_tail 12, (by kernel_rfl)
                  still_call (HCP.out _)
                  repeat still_step
                  refine wpStill_nil ?_
                  change wpList _ _ _ _ _ wr.drew
                  have hU : wr.drew.ownsRow wt.heap.size 5 1 (.slice (some ⟨g8, 0, none⟩) 4 c8) 4 (vn (pre (fun p => gs (tF ((p + 1) % 4))) 4)) := HU.out
                  have hBw : Below wt.heap.size wt wr.drew := HB3.out.drew
                  have c0' : wr.drew.cell? ⟨g8, 0, none⟩ = some (.int .u8 (gs (tF 1) : Int)) := c0
                  have f0' : wr.drew.frozen? ⟨g8, 0, none⟩ = false := f0
                  have hx := nbits_xor _ _ lg lp
                  have hst := hU.stored 0 (.int .u8 ((gs (tF 1) ^^^ gp 2 d : Nat) : Int))
                  have HST := Lib.hid hst; clear hst hU
                  have HBW := Lib.hid hBw; clear hBw
                  clear c0 f0 t1 t2 t3
                  generalize wr.drew = w2 at *
                  go_wp2_with fail
                  go_meet
                  have hsz2 := HB2.out.size
                  refine ⟨g8, c8, rfl, by omega, (HST.out.1.lt g8 rfl).2, Lib.hid ?_, Lib.hid ((HB2.out.trans (HBW.out.mono hsz2)).setCell (by show _ ≤ g8; omega) _)⟩
                  intro p hp
                  have e := HST.out.1.cellAt p (by omega)
                  have e3 : (gs (tF 1) ^^^ gp 2 d) = kT 8 i tF 0 := by rw [HK.out, HD2.out]; rfl
                  rw [e, e3, vn_set, pre_set (fun p => gs (tF ((p + 1) % 4))) (kT 8 i tF) 4 0 (by omega) (fun j hj h0 => by rw [HK.out, if_neg h0]), vn_get _ p (by rw [pre_len]; exact hp)]
                  simp [List.getD, pre_get (kT 8 i tF) 4 p hp]
            · have hb : ((i : Int) % 8 == 0) = false := by rw [beq_eq_false_iff_ne]; omega
              rw [hb]
              clear hb
              by_cases hd2 : i % 8 = 4
              · have hb4 : ((i : Int) % 8 == 4) = true := by rw [beq_iff_eq]; omega
                have hkT : ∀ p, kT 8 i tF p = gs (tF p) := fun p => by unfold kT; rw [if_neg hd, if_pos ⟨rfl, hd2⟩]
                have HK := Lib.hid hkT; clear hkT
                have HD := Lib.hid hd; clear hd
                have HD2 := Lib.hid hd2; clear hd2
                go_upto_if 77 with fail
                try rw [hb4]
                clear hb4
                go_wp2_with fail
                have hstart : wr.ownsRow wo.heap.size 5 1 (.slice (some ⟨g6, 0, none⟩) 4 c6) 4 (vn (pre (fun p => if p < 0 then gs (tF p) else tF p) 4)) := by simpa using HT.out
                have HS := Lib.hid hstart; clear hstart HT HTC
                go_loopw [10] (fun p wr => ∃ q : Nat, q ≤ 4 ∧ p = .int .i64 (q : Int) ∧ Hid (wr.ownsRow wo.heap.size 5 1 (.slice (some ⟨g6, 0, none⟩) 4 c6) 4 (vn (pre (fun p => if p < q then gs (tF p) else tF p) 4))) ∧ Hid (Below wo.heap.size wo wr)) (fun p _ => 4 - (intOf p).toNat)
                case atStart => exact ⟨0, by omega, rfl, HS, HB2⟩
                case round =>
                  clear HS HB2
                  obtain ⟨q, hq, rfl, HS, HB2⟩ := hrel
                  by_cases hlq : q < 4
                  · have hq4 : (q : Int) < 4 := by omega
                    have c0 : wr.cell? ⟨g6, q, none⟩ = some (.int .u8 (tF q : Int)) := by
                      rw [HS.out.cellAt q (by omega), vn_get _ q (by rw [pre_len]; exact hlq)]
                      simp [List.getD, pre_get (fun p => if p < q then gs (tF p) else tF p) 4 q hlq]
                    have f0 := HS.out.frozenAt q
                    have lx := TLT.out q
                    have hst := HS.out.stored q (.int .u8 ((gs (tF q) : Nat) : Int))
                    have e : (vn (pre (fun p => if p < q then gs (tF p) else tF p) 4)).set q (.int .u8 ((gs (tF q) : Nat) : Int)) = vn (pre (fun p => if p < q + 1 then gs (tF p) else tF p) 4) := by
                      have h1 := pre_set (fun p => if p < q then gs (tF p) else tF p) (fun p => if p < q + 1 then gs (tF p) else tF p) 4 q hlq (fun j hj hjq => by
                        by_cases h2 : j < q
                        · simp [h2, show j < q + 1 by omega]
                        · simp [h2, show ¬ j < q + 1 by omega])
                      simp only [show q < q + 1 by omega, if_true] at h1
                      rw [vn_set, h1]
                    rw [e] at hst
                    have HST := Lib.hid hst; clear hst e
                    go_wp2_with (go_at_call 56; refine (rsub_any (tF q) _ lx).mono ?_; rintro e w' ⟨rfl, rfl⟩)
                    go_roundw
                    case rel => exact ⟨q + 1, by omega, by go_num, Lib.hid HST.out.1, Lib.hid (HB2.out.setCell (by exact hg6) _)⟩
                    case measure => simp [intOf]; omega
                  · obtain rfl : q = 4 := by omega
                    go_wp2_with fail
                    go_meet
                    refine ⟨g6, c6, rfl, hg6, (HS.out.lt g6 rfl).2, Lib.hid ?_, HB2⟩
                    intro p hp
                    rw [HS.out.cellAt p (by omega), vn_get _ p (by rw [pre_len]; exact hp), HK.out]
                    simp [List.getD, pre_get (fun p => if p < 4 then gs (tF p) else tF p) 4 p hp, hp]
              · have hb4 : ((i : Int) % 8 == 4) = false := by rw [beq_eq_false_iff_ne]; omega
                have hkT : ∀ p, kT 8 i tF p = tF p := fun p => by unfold kT; rw [if_neg hd, if_neg (by omega)]
                have HK := Lib.hid hkT; clear hkT
                have HD := Lib.hid hd; clear hd
                have HD2 := Lib.hid hd2; clear hd2
                go_upto_if 77 with fail
                try rw [hb4]
                clear hb4
                go_wp2_with fail
                go_meet
                exact ⟨g6, c6, rfl, hg6, hg6', Lib.hid (fun p hp => by rw [HK.out]; exact HTC.out p hp), HB2⟩
          case rest =>
            obtain ⟨g7, c7, rfl, hg7, hg7', HK7, HB7⟩ := hcut
            have e2 : (i : Int) - 8 = (m : Int) := by have := HIE.out; omega
            have HE2 := Lib.hid e2; clear e2
            clear HTC HB2 HT
            obtain ⟨wt, rfl⟩ : ∃ wt : World, wt = wc := ⟨_, rfl⟩
            go_wp2_with fail
            go_loopw [4, 11] (fun v p wr => ∃ q : Nat, q ≤ 4 ∧ p = .int .i64 (q : Int) ∧ Hid (wr.ownsRow w.heap.size 5 1 v (N + q) (vn (W ++ pre (kW 8 i W) q))) ∧ Hid (∀ p, p < 4 → wr.cell? ⟨g7, p, none⟩ = some (.int .u8 (kT 8 i tF p : Int))) ∧ g7 < wr.heap.size ∧ v.ownBlock ≠ some g7 ∧ Hid (Below w.heap.size w wr)) (fun _ p _ => 4 - (intOf p).toNat)
            case atStart =>
              refine ⟨0, by omega, rfl, Lib.hid ?_, HK7, hg7', ?_, Lib.hid (HB.out.trans (HB7.out.mono HB.out.size))⟩
              · have := own_below HW.out HB7.out
                simpa [pre] using this
              · simp [Value.ownBlock]; omega
            case round =>
              clear HK7 HW
              obtain ⟨q, hq, rfl, HV, HK7, hg7b, hne, HB8⟩ := hrel
              by_cases hlq : q < 4
              · have hq4 : (q : Int) < 4 := by omega
                obtain ⟨gv, cv, rfl, hgv, hgv'⟩ := HV.out.form (by have := HN.out; omega)
                have hm4 : 4 * m + q < N := by have := HN.out; omega
                have hne7 : ¬ g7 = gv := by intro e; exact hne (by rw [e]; rfl)
                have hcw : wr.cell? ⟨gv, 4 * m + q, none⟩ = some (.int .u8 (W.getD (4 * m + q) 0 : Int)) := by
                  rw [HV.out.cellAt (4 * m + q) (by omega), vn_get _ _ (by rw [List.length_append, HL.out]; omega)]
                  simp [List.getD, List.getElem?_append_left (show 4 * m + q < W.length by rw [HL.out]; exact hm4)]
                have hct := HK7.out q hlq
                obtain ⟨x, hx⟩ : ∃ x, x = W.getD (4 * m + q) 0 := ⟨_, rfl⟩
                obtain ⟨t, ht⟩ : ∃ t, t = kT 8 i tF q := ⟨_, rfl⟩
                rw [← hx] at hcw
                rw [← ht] at hct
                have lx : x < 256 := by rw [hx]; exact getD_lt W HWL.out _
                have lt' : t < 256 := by rw [ht]; exact kT_lt 8 i tF TLT.out q
                have hxr := nbits_xor t x lt' lx
                have hkw : t ^^^ x = kW 8 i W q := by
                  rw [ht, hx, HTF.out, kW]
                  have h1 := HIE.out
                  have h2 := HJE.out
                  rw [show i - 1 = j from by omega, show i - 8 = m from by omega]
                have HKW := Lib.hid hkw; clear hkw
                have HX := Lib.hid hx; clear hx
                have HT2 := Lib.hid ht; clear ht
                have e2 := HE2.out
                have t0 : IntKind.i64.wrap (m : Int) = (m : Int) := IntWalk.i64_in _ (by omega)
                have t1 : IntKind.i64.wrap (4 * (m : Int)) = 4 * (m : Int) := IntWalk.i64_in _ (by omega)
                have t2 : IntKind.i64.wrap (4 * (m : Int) + (q : Int)) = 4 * (m : Int) + (q : Int) := IntWalk.i64_in _ (by omega)
                have t3 : (4 * (m : Int) + (q : Int)).toNat = 4 * m + q := by omega
                have t4 : 4 * (m : Int) + (q : Int) < ((N + q : Nat) : Int) := by omega
                have t5 : (0 : Int) ≤ 4 * (m : Int) + (q : Int) := by omega
                have t6 : 4 * (m : Int) < (N : Int) := by omega
                have hi := HI.out
                have hV := HV.out
                have hsz8 := HB8.out.size
                go_wp2_with fail
                go_region_law (first
                  | (refine step_append_lies _ (by rfl) _ _ _ (by rfl) w.heap.size 5 i0 _ 1 1 Try.underlying22 hi hz0 hz1 hz2 rfl (by omega) _ (N + q) _ (by rfl) (by exact hV.alloc _) ⟨_, 0, none⟩ 1 1 _ (by rfl) (by rfl) (World.news_of_block (t := 5) (fr := (0, 0)) (heap_alloc_new _ _)) (by simp [Value.oneCell']) (by omega) (by unfold maxLen; omega) (by omega) (by simp; omega) _ (by rfl) ?_; intro gg cap2 w2 hown2 hgrow hat hlt2))
                all_goals
                  clear t0 t1 t2 t3 t4 t5 t6 e2 hct hcw hxr
                  go_wp2_with fail
                  go_roundw
                  case rel =>
                    refine ⟨q + 1, by omega, by go_num, Lib.hid ?_, Lib.hid ?_, ?_, ?_, Lib.hid (((bdrewN HB8.out 1).alloc (by exact hsz8) _).grown hgrow (by simp; omega) (fun k hk => (hV.lt k hk).1))⟩
                    · rw [vn_snoc, HKW.out, List.append_assoc] at hown2
                      exact hown2
                    · intro p hp
                      have hg2 := hgrow
                      change World.grownBy _ w2 (some gv) at hg2
                      exact (hg2.cell_far (a := ⟨g7, p, none⟩) (by simp; omega) (by intro e; injection e with e; exact hne7 e)).trans ((World.cell?_alloc_lt wr _ _ (by exact hg7b)).trans (HK7.out p hp))
                    · have := hgrow.size
                      simp at this
                      omega
                    · intro e
                      have e : gg = g7 := by simpa [Value.ownBlock] using e
                      rcases hat with h1 | h1
                      · have h1 : some gv = some gg := h1
                        injection h1 with h1
                        omega
                      · simp at h1
                        omega
                  case measure => simp [intOf]; omega
              · obtain rfl : q = 4 := by omega
                rw [show ((4 : Nat) : Int) = 4 from rfl]
                go_wp2_with fail
                go_roundw
                case rel =>
                  refine ⟨m + 1, by omega, ?_, Lib.hid ?_, HB8⟩
                  · exact val_int (by have := HIE.out; omega)
                  · have h1 := HV.out
                    have h2 := HIE.out
                    have h3 := HN.out
                    have e : W ++ pre (kW 8 i W) 4 = kX 8 l (m + 1) := by
                      rw [kX, ← HEQ.out, ← h2]; rfl
                    rw [e, h3] at h1
                    exact h1
                case measure => simp [intOf]; have := HIE.out; omega
    · obtain rfl : m = 52 := by omega
      have hW := HW.out
      rw [← HA.out] at hW
      have HW2 := Lib.hid hW; clear hW HW
      go_wp2_with fail
      go_ret
      exact ⟨_, rfl, HW2.out, HB.out⟩
end Go.Proofs.Ytkfmgjipocmkjaa
