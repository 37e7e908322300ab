/-
  What was synced stays: blocks that were written and synced, and not written to since, are there behind any Crash; of the others each sector is what it was at the Sync, or that of one of the writes since: DiskSynced, for every input.
-/
import Derived.Test.YtajplflefagbaaaDkV2
import Derived.Test.YtajplflefagbaaaNPlays
namespace Go.Proofs.Ytajplflefagbaaa
open Go Go.RowKit Go.ChangeShapes Go.WideShapes Go.ChangeAt Go.Deep
set_option linter.unusedVariables false
set_option linter.unusedSimpArgs false

theorem beq_u8i (a b : UInt8) (x y : Nat) (hx : x = a.toNat) (hy : y = b.toNat) : ((x : Int) == (y : Int)) = (a == b) := by
  rw [Bool.eq_iff_iff, beq_iff_eq, beq_iff_eq, Int.natCast_inj, hx, hy]
  exact ⟨fun h => UInt8.toNat_inj.1 h, fun h => by rw [h]⟩
theorem okS_t1 {b fb : UInt8} {l : List UInt8} {s n : Nat} (hn : n = l.length) (hs : s < n) (h : true = okS b b fb l s) : true = okS b b fb l (s + 1) := by
  rw [okS_succ _ _ _ _ _ (hn ▸ hs), ← h]; rfl
theorem okS_t2 {b fb x : UInt8} {l : List UInt8} {s n : Nat} (hn : n = l.length) (hs : s < n) (hx : x = l.getD s 0) (e : (b == x) = true) : true = okS b b fb l (s + 1) := by
  rw [okS_succ _ _ _ _ _ (hn ▸ hs), ← hx, e]; simp
theorem okS_t3 {b fb x : UInt8} {l : List UInt8} {s n : Nat} (hn : n = l.length) (hs : s < n) (hx : x = l.getD s 0) (e : (b == x) = false) (h : false = okS b b fb l s) : false = okS b b fb l (s + 1) := by
  rw [okS_succ _ _ _ _ _ (hn ▸ hs), ← hx, e, ← h]; rfl
theorem okS_end {b fb : UInt8} {l : List UInt8} {s n : Nat} {ob : Bool} (hn : n = l.length) (hs : s = n) (hm : b = fb ∨ b ∈ l) (h : ob = okS b b fb l s) : ob = true := by
  rw [h, hs, hn]; exact okS_all b b fb l rfl hm
theorem updB_same (f : Nat → UInt8) (k : Nat) : updB f k (f k) = f := by funext i; unfold updB; split <;> simp_all
theorem updB_zero (k : Nat) : updB (fun _ => 0) k 0 = fun _ => (0 : UInt8) := updB_same (fun _ => 0) k
set_option maxRecDepth 100000 in
set_option maxHeartbeats 40000000 in
theorem nsynced_any (A1 : Option Addr) (len1 cap1 : Nat) (O1 : Nat → OpV) (A2 : Option Addr) (len2 cap2 : Nat) (O2 : Nat → OpV) (M : Option Addr) (ml : List UInt8) (mn mc : Nat) (hmn : ml.length = mn) (w : World)
    (hlen1 : len1 ≤ 140737488351360) (hO1 : ∀ i, i < len1 → (O1 i).Ok w ∧ ∃ ad, A1 = some ad ∧ (O1 i).At w ad i) (hlen2 : len2 ≤ 140737488351360) (hO2 : ∀ i, i < len2 → (O2 i).Ok w ∧ ∃ ad, A2 = some ad ∧ (O2 i).At w ad i)
    (hm1 : mn ≤ 140737488351232) (hm2 : mn ≤ mc) (hm3 : Rd w w.heap.size M (vb ml)) :
    Calls Try.prog 5 #[.slice A1 len1 cap1, .slice A2 len2 cap2, .slice M mn mc] w fun e w' => e = .returned (.bool true) ∧ Below w.heap.size w w' := by
  have HO1 := Lib.hid hO1; clear hO1
  have HO2 := Lib.hid hO2; clear hO2
  have HM := Lib.hid (And.intro hmn (And.intro hm1 (And.intro hm2 hm3))); clear hmn hm1 hm2 hm3
  by_cases h1 : 60 < len1
  · have hi : (60 : Int) < (len1 : Int) := by omega
    go_enter Try.func5, Try.ntmps5
    go_wp2_with fail
    refine (known08_any _).mono ?_
    rintro e wk ⟨rfl, hbk⟩
    go_wp2_with fail
    go_ret
    exact ⟨rfl, hbk⟩
  · have hi1 : ¬ (60 : Int) < (len1 : Int) := by omega
    by_cases h2 : 60 < len2
    · have hi2 : (60 : Int) < (len2 : Int) := by omega
      go_enter Try.func5, Try.ntmps5
      go_wp2_with fail
      refine (known08_any _).mono ?_
      rintro e wk ⟨rfl, hbk⟩
      go_wp2_with fail
      go_ret
      exact ⟨rfl, hbk⟩
    · have hi2 : ¬ (60 : Int) < (len2 : Int) := by omega
      have hnew := cdnew_any w 8 (by decide) (by decide)
      rw [show ((8 : Nat) : Int) = 8 from rfl] at hnew
      have HN := Lib.hid hnew; clear hnew
      go_enter Try.func5, Try.ntmps5
      go_wp2_with fail
      refine HN.out.mono ?_
      rintro e w1 ⟨d, rfl, hcd, hb1⟩
      have HC1 := Lib.hid hcd; clear hcd
      have HB1 := Lib.hid hb1; clear hb1 HN
      obtain ⟨L1, hL1⟩ : ∃ L1, L1 = fun b => w.heap.size ≤ b ∧ b < w1.heap.size := ⟨_, rfl⟩
      rw [← hL1] at HC1
      have HL1w : Hid (∀ b, L1 b → w.heap.size ≤ b) := Lib.hid fun b h => by rw [hL1] at h; exact h.1
      have hl1lt : ∀ b, L1 b → b < w1.heap.size := fun b h => by rw [hL1] at h; exact h.2
      clear hL1
      go_upto_region 7 with fail
      have hA0 : FA (w1.alloc (.cells #[.slice none 0 0, .slice none 0 0, .slice none 0 0, .slice none 0 0, .slice none 0 0, .slice none 0 0, .slice none 0 0, .slice none 0 0] 55)) w1.heap.size 0 L1 (w1.heap.size + 1) (fun _ => 0) := ⟨_, fun _ => 0, fun _ => 0, heap_alloc_new w1 _, rfl, ⟨fun h => Nat.lt_irrefl _ (hl1lt _ h), Nat.lt_succ_self _⟩, fun i hi => absurd hi (Nat.not_lt_zero _), fun i hi => absurd hi (Nat.not_lt_zero _), fun i hi => absurd hi (Nat.not_lt_zero _)⟩
      have hbA : Below w1.heap.size w1 (w1.alloc (.cells #[.slice none 0 0, .slice none 0 0, .slice none 0 0, .slice none 0 0, .slice none 0 0, .slice none 0 0, .slice none 0 0, .slice none 0 0] 55)) := (Below.refl _ _).alloc (Nat.le_refl _) _
      have hsA : w1.heap.size < (w1.alloc (.cells #[.slice none 0 0, .slice none 0 0, .slice none 0 0, .slice none 0 0, .slice none 0 0, .slice none 0 0, .slice none 0 0, .slice none 0 0] 55)).heap.size := by rw [World.size_alloc]; exact Nat.lt_succ_self _
      have HA0 := Lib.hid (And.intro hA0 (And.intro hbA hsA)); clear hA0 hbA hsA
      generalize w1.alloc (.cells #[.slice none 0 0, .slice none 0 0, .slice none 0 0, .slice none 0 0, .slice none 0 0, .slice none 0 0, .slice none 0 0, .slice none 0 0] 55) = w2 at *
      obtain ⟨b9, hb9e⟩ : ∃ b9, b9 = w1.heap.size := ⟨_, rfl⟩
      rw [← hb9e] at HA0
      have HL1 : Hid (∀ b, L1 b → b < b9) := Lib.hid fun b h => by rw [hb9e]; exact hl1lt b h
      rw [← hb9e]
      have HB9 := Lib.hid hb9e
      have HWB : Hid (w.heap.size ≤ b9) := Lib.hid (by rw [hb9e]; exact HB1.out.size)
      clear hb9e hl1lt
      go_wp2_with fail
      go_loopw [42] (fun i wr => ∃ (m Z : Nat), m ≤ 8 ∧ i = .int .i64 m ∧ FA wr b9 m L1 Z (fun _ => 0) ∧ Below b9 w1 wr ∧ b9 < wr.heap.size) (fun i _ => 8 - (intOf i).toNat)
      case atStart => exact ⟨0, _, Nat.zero_le _, rfl, HA0.out.1, HA0.out.2.1, HA0.out.2.2⟩
      case round =>
        rename World => wr
        obtain ⟨m, Z, hm, rfl, hfa, hbw, hb9⟩ := hrel
        clear HA0
        have HFA := Lib.hid hfa; clear hfa
        have HBW := Lib.hid (And.intro hbw hb9); clear hbw hb9
        by_cases hm8 : m < 8
        · have hmi : (m : Int) < 8 := by omega
          have hfu : Calls Try.prog 29 #[.int .u8 0] wr fun e w' => ∃ v, e = .returned v ∧ w'.ownsRow wr.heap.size 5 1 v 256 (vb (fullB 0)) ∧ Below wr.heap.size wr w' := full_any 0 wr
          have HFU := Lib.hid hfu; clear hfu
          go_wp2_with fail
          refine HFU.out.mono ?_
          rintro e w3 ⟨v3, rfl, ho3, hb3⟩
          obtain ⟨A3, c3, rfl, _, _⟩ := Rd.of_own ho3
          obtain ⟨q, rfl, hq, hrow⟩ := Row.of_own ho3 (by decide)
          have hfa3 := HFA.out.call hb3
          obtain ⟨vc, hvc, hvf⟩ := hfa3.cellAt m hm8
          have hsz3 := hb3.size
          have hqlt := hrow.lt
          have hp := hfa3.put (Z' := max Z w3.heap.size) (k := m) (q := q) (cq := c3) (x := 0) hm8 (Nat.le_refl _) hrow ⟨fun h => by have := HL1.out q h; have := HBW.out.2; omega, by omega, by have := HBW.out.2; omega⟩ (by omega)
          rw [updB_zero, Nat.max_eq_right (Nat.le_succ m)] at hp
          have hbn : Below b9 w1 (w3.setCell ⟨b9, m, none⟩ (.slice (some ⟨q, 0, none⟩) 256 c3)) := (HBW.out.1.trans (hb3.mono (Nat.le_of_lt HBW.out.2))).setCell (p := ⟨b9, m, none⟩) (Nat.le_refl _) _
          have hsn : b9 < (w3.setCell ⟨b9, m, none⟩ (.slice (some ⟨q, 0, none⟩) 256 c3)).heap.size := by rw [World.size_setCell]; have := HBW.out.2; omega
          have HP := Lib.hid (And.intro hp (And.intro hbn hsn)); clear hp hbn hsn hfa3 ho3 hb3 hrow hq hqlt hsz3 HFU
          go_wp2_with fail
          go_roundw
          case rel => exact ⟨m + 1, _, by omega, by go_num, HP.out⟩
          case measure => simp [intOf]; omega
        · have hmi : ¬ (m : Int) < 8 := by omega
          have hm8e : m = 8 := by omega
          rw [hm8e] at HFA
          clear hm8e
          have hL1b : ∀ b, L1 b → w.heap.size ≤ b := fun b h => (HL1w.out b h)
          have HI := Lib.hid (And.intro (HC1.out.call (by rw [← HB9.out]; exact HBW.out.1)) (And.intro hL1b (And.intro (HB1.out.trans (HBW.out.1.mono (by rw [HB9.out]; exact HB1.out.size))) (And.intro SI1.start HFA.out)))); clear hL1b HBW HFA
          go_wp2_with fail
          go_loopw [51] (fun i wr => ∃ (j : Nat) (L : Nat → Prop) (D : Dev) (Z : Nat) (f : Nat → UInt8), j ≤ len1 ∧ i = .int .i64 j ∧ CD wr d L 8 D ∧ (∀ b, L b → w.heap.size ≤ b) ∧ Below w.heap.size w wr ∧ SI1 j f D ∧ FA wr b9 8 L Z f) (fun i _ => len1 - (intOf i).toNat)
          case atStart => exact ⟨0, _, _, _, _, Nat.zero_le _, rfl, HI.out⟩
          case round =>
            rename World => wr
            obtain ⟨j, L, D, Z, f, hj, rfl, hcd, hL, hB, hsi, hfa⟩ := hrel
            clear HI
            have HB := Lib.hid hB; clear hB
            have HL := Lib.hid hL; clear hL
            have HC := Lib.hid hcd; clear hcd
            have HSI := Lib.hid hsi; clear hsi
            have HFA := Lib.hid hfa; clear hfa
            by_cases hlt : j < len1
            · have hji : (j : Int) < (len1 : Int) := by omega
              obtain ⟨hok, ad, hA, hat⟩ := HO1.out j hlt
              obtain ⟨o, hoo⟩ : ∃ o, o = O1 j := ⟨_, rfl⟩
              rw [← hoo] at hok hat
              clear hoo
              obtain ⟨e0, e1, e2, e3, e4⟩ := hat.go HB.out
              have hcs : ∀ (k : Nat) (v : Value), ([.int .i64 o.k, .int .i64 o.i, .int .i64 o.a, .slice o.B o.bl.length o.bc, .slice o.M o.ml.length o.mc] : List Value)[k]? = some v → wr.cell? ((ad.add (j * 5)).add k) = some v := fun k v hk => by
                rcases k with _ | _ | _ | _ | _ | k
                · cases hk; exact e0
                · cases hk; rw [add_add, ← field_add _ _ _ (by decide)]; exact e1
                · cases hk; rw [add_add, ← field_add _ _ _ (by decide)]; exact e2
                · cases hk; rw [add_add, ← field_add _ _ _ (by decide)]; exact e3
                · cases hk; rw [add_add, ← field_add _ _ _ (by decide)]; exact e4
                · exact absurd (List.getElem?_eq_some_iff.1 hk).1 (by simp)
              have HCS := Lib.hid hcs; clear hcs e0 e1 e2 e3 e4 hat hok
              subst hA
              obtain ⟨x, hx⟩ : ∃ x, x = at7 o.i := ⟨_, rfl⟩
              have hx7 : bits .and .i64 o.i 7 = (x : Int) := by rw [i64_and7, hx]; rfl
              have hxh : hasB 8 (x : Int) = true := by rw [hx]; exact at7_has o.i
              clear hx
              have HXH := Lib.hid hxh; clear hxh
              have hx8 : (x : Int) < 8 := ((hasB_iff 8 _).1 HXH.out).2
              have hx8n : x < 8 := by omega
              have hb9lt : b9 < wr.heap.size := by obtain ⟨cur, g, c, h⟩ := HFA.out; exact (Array.getElem?_eq_some_iff.1 h.hp).1
              go_upto_region 15 with (refine wpList_load_at rfl 36 (.tmp 53) rfl (ad.add (j * 5)) rfl [.int .i64 o.k, .int .i64 o.i, .int .i64 o.a, .slice o.B o.bl.length o.bc, .slice o.M o.ml.length o.mc] _ HCS.out Try.underlying36 (by rw [op_size]; rfl) ?_)
              have hOb : Ob (wr.alloc (.cells (opA o) 36)) wr.heap.size o := heap_alloc_new _ _
              have hb0 : Below wr.heap.size wr (wr.alloc (.cells (opA o) 36)) := (Below.refl _ _).alloc (Nat.le_refl _) _
              have hbL : ¬ L wr.heap.size := fun h => Nat.lt_irrefl _ (HC.out.lt _ h)
              generalize wr.alloc (.cells (opA o) 36) = w0 at *
              generalize hb10 : wr.heap.size = b10 at *
              have HC0 := Lib.hid (HC.out.call (by rw [hb10]; exact hb0))
              have HB0 : Hid (Below w.heap.size w w0) := Lib.hid (HB.out.trans (hb0.mono (by rw [← hb10]; exact HB.out.size)))
              have HOB := Lib.hid (And.intro hOb hbL)
              have HFA0 := Lib.hid (HFA.out.call (by rw [hb10]; exact hb0))
              have HNE : Hid (b9 ≠ b10) := Lib.hid (Nat.ne_of_lt hb9lt)
              clear HFA
              clear hb0 hbL HC hb10 HB HCS hOb
              go_region_held3 (fun w' => w'.cell? ⟨b10, 1, none⟩ = some (.int .i64 o.i) ∧ w'.cell? ⟨b10, 2, none⟩ = some (.int .i64 o.a))
                (first | exact HOB.out.1.cells2 | (refine Ob.cells2 (o := o) ?_; assumption))
                ((first
                  | (go_at_call 24; refine (cdwrite_any w3 d 8 L D (HC0.out.call hbw3) (x : Int) A3 (fullB (u8of o.a)) 256 c3 (fullB_len _) hcap3 (by decide) hrd3 (fun _ => hA3) (by have := HSI.out.ci.load; omega)).mono ?_; rw [(HSI.out.write x HXH.out (u8of o.a)).2]; rintro e w5 ⟨rfl, hc5, hk5⟩; have hob5 := hob3.keep hk5 HOB.out.2)
                  | (go_at_call 29; refine (fullw_any o.a _).mono ?_; rintro e w3 ⟨v3, rfl, ho3, hb3⟩; have hbw3 : Below w0.heap.size w0 w3 := (Below.refl _ _).drew.trans (hb3.mono (Nat.le_refl _)); have hob3 := HOB.out.1.call hbw3; have hA3 := full_aside HC0.out.lt (show w3.ownsRow w0.heap.size _ _ _ _ _ from ho3); obtain ⟨A3, c3, rfl, _, hrd3⟩ := Rd.of_own ho3; replace hA3 := hA3 A3 256 c3 rfl; have hcap3 := own_cap8 ho3)))
              have hB3 := HB0.out.trans (hbw3.mono HB0.out.size)
              have HB5 := Lib.hid (Keep.toBelow hB3 hk5 HL.out hB3.size)
              have HL5 : Hid (∀ b, ext L w3 w5 b → w.heap.size ≤ b) := Lib.hid fun b h => h.elim (HL.out b) (fun h => Nat.le_trans hB3.size h.1)
              have HFA5 := Lib.hid ((HFA0.out.call hbw3).dev hk5)
              have HNL : Hid (¬ ext L w3 w5 b9) := Lib.hid (by obtain ⟨cur, g, c, h⟩ := HFA5.out; exact h.nb.1)
              have HSI5 := Lib.hid (HSI.out.write x HXH.out (u8of o.a)).1
              have HC5 := Lib.hid hc5
              have HOB5 := Lib.hid hob5
              clear hc5 hk5 hob5 hob3 hbw3 hB3 hA3 hrd3 hcap3 ho3 hb3 HB0 HC0 HFA0
              go_upto_region 17 with fail
              go_region_held3 (fun w' => w'.cell? ⟨b10, 1, none⟩ = some (.int .i64 o.i) ∧ w'.cell? ⟨b10, 2, none⟩ = some (.int .i64 o.a))
                (first
                  | exact HOB5.out.cells2
                  | (refine Ob.cells2 (o := o) ?_; assumption)
                  | exact ⟨(World.cell?_setCell_other _ _ _ _ (fun e => HNE.out (congrArg Addr.block e))).trans hob7.c1, (World.cell?_setCell_other _ _ _ _ (fun e => HNE.out (congrArg Addr.block e))).trans hob7.c2⟩)
                ((go_at_call 29; refine (fullw_any o.a _).mono ?_; rintro e w7 ⟨v7, rfl, ho7, hb7⟩; have hbw7 : Below w5.heap.size w5 w7 := (Below.refl _ _).drew.trans (hb7.mono (Nat.le_refl _)); have hob7 := HOB5.out.call hbw7; obtain ⟨A7, c7, rfl, _, _⟩ := Rd.of_own ho7; obtain ⟨q7, rfl, hq7, hrow7⟩ := Row.of_own ho7 (by decide); have hfa7 := HFA5.out.call hbw7; obtain ⟨vc, hvc, hvf⟩ := hfa7.cellAt x hx8n))
              have hq7' : w5.heap.size ≤ q7 := hq7
              have hb95 : b9 < w5.heap.size := by obtain ⟨cur, g, c, h⟩ := HFA5.out; exact (Array.getElem?_eq_some_iff.1 h.hp).1
              have hp := hfa7.put (Z' := max Z w7.heap.size) (k := x) (q := q7) (cq := c7) (x := u8of o.a) hx8n (Nat.le_of_lt hx8n) hrow7 ⟨fun h => by have := HC5.out.lt q7 h; omega, by have := hrow7.lt; omega, by omega⟩ (by omega)
              rw [show max 8 (x + 1) = 8 from by omega] at hp
              have hk7 : Keep (fun b => b = b9) w7 (w7.setCell ⟨b9, x, none⟩ (.slice (some ⟨q7, 0, none⟩) 256 c7)) := (Keep.refl (fun b => b = b9) w7).setCell (a := ⟨b9, x, none⟩) (fun _ => rfl) _
              have hc7 := (HC5.out.call hbw7).keep hk7 (fun b hb e => HNL.out (e ▸ hb))
              have hB7 := ((HB5.out.trans (hbw7.mono HB5.out.size)).setCell (p := ⟨b9, x, none⟩) (show w.heap.size ≤ b9 from HWB.out) (.slice (some ⟨q7, 0, none⟩) 256 c7))
              have HF := Lib.hid (And.intro hc7 (And.intro HL5.out (And.intro hB7 (And.intro HSI5.out hp)))); clear hc7 hB7 hp hk7 hob7 ho7 hb7 hbw7 hfa7 hvc hvf hrow7 hq7 hq7' HC5 HB5 HL5 HSI5 HFA5 HOB5
              go_wp2_with fail
              go_roundw
              case rel => exact ⟨j + 1, _, _, _, _, by omega, by go_num, HF.out⟩
              case measure => simp [intOf]; omega
            · have hji : ¬ (j : Int) < (len1 : Int) := by omega
              obtain ⟨K, hK⟩ : ∃ K : Nat → Nat, K = fun t => at7 (O2 t).i := ⟨_, rfl⟩
              obtain ⟨X, hX⟩ : ∃ X : Nat → UInt8, X = fun t => u8of (O2 t).a := ⟨_, rfl⟩
              have HKX := Lib.hid (And.intro hK hX); clear hK hX
              have hsy := cdsync_any wr d 8 L D HC.out (by have := HSI.out.ci.load; omega)
              rw [HSI.out.ci.stepE] at hsy
              have HSY := Lib.hid hsy; clear hsy
              go_wp2_with fail
              refine HSY.out.mono ?_
              rintro e w5 ⟨rfl, hc5, hk5⟩
              have hsi5 := HSI.out.sync K X (by omega)
              have hfa5 := HFA.out.dev hk5
              have hB5 := Keep.toBelow HB.out hk5 HL.out HB.out.size
              have hL5 : ∀ b, ext L wr w5 b → w.heap.size ≤ b := fun b h => h.elim (HL.out b) (fun h => Nat.le_trans HB.out.size h.1)
              have hlt5 : ∀ b, ext L wr w5 b → b < w5.heap.size := fun b h => hc5.lt b h
              clear hk5
              have HC5 := Lib.hid hc5; clear hc5
              generalize ext L wr w5 = L5 at *
              go_upto_region 22 with fail
              have hSA : SA (w5.alloc (.cells #[.slice none 0 0, .slice none 0 0, .slice none 0 0, .slice none 0 0, .slice none 0 0, .slice none 0 0, .slice none 0 0, .slice none 0 0] 55)) w5.heap.size L5 (fun _ => .slice none 0 0) (sinceL K X 0) := by
                refine ⟨⟨_, heap_alloc_new w5 _, rfl, fun i hi => ?_⟩, fun h => Nat.lt_irrefl _ (hlt5 _ h), fun i hi => ⟨rfl, .inl ⟨rfl, rfl⟩⟩, fun i hi b hb => by simp [Value.ownBlock] at hb, fun i k hi hk b hb => by simp [Value.ownBlock] at hb⟩
                have : i = 0 ∨ i = 1 ∨ i = 2 ∨ i = 3 ∨ i = 4 ∨ i = 5 ∨ i = 6 ∨ i = 7 := by omega
                rcases this with rfl | rfl | rfl | rfl | rfl | rfl | rfl | rfl <;> rfl
              have hB5s := hB5.size
              have hbA : Below w5.heap.size w5 (w5.alloc (.cells #[.slice none 0 0, .slice none 0 0, .slice none 0 0, .slice none 0 0, .slice none 0 0, .slice none 0 0, .slice none 0 0, .slice none 0 0] 55)) := (Below.refl _ _).alloc (Nat.le_refl _) _
              have HI3 := Lib.hid (And.intro (HC5.out.call hbA) (And.intro hL5 (And.intro (hB5.trans (hbA.mono hB5.size)) (And.intro hsi5 (And.intro (hfa5.tight.call hbA) hSA))))); clear hSA hbA hL5 hB5 hsi5 hfa5 hlt5 HC5 HSY HC HB HL HSI HFA
              generalize w5.alloc (.cells #[.slice none 0 0, .slice none 0 0, .slice none 0 0, .slice none 0 0, .slice none 0 0, .slice none 0 0, .slice none 0 0, .slice none 0 0] 55) = w6 at *
              have hwb13 : w.heap.size ≤ w5.heap.size := hB5s
              generalize w5.heap.size = b13 at *
              have HWB13 := Lib.hid hwb13; clear hwb13 hB5s
              go_wp2_with fail
              go_loopw [79] (fun i wr => ∃ (j : Nat) (L : Nat → Prop) (D : Dev) (V : Nat → Value), j ≤ len2 ∧ i = .int .i64 j ∧ CD wr d L 8 D ∧ (∀ b, L b → w.heap.size ≤ b) ∧ Below w.heap.size w wr ∧ SI2 j K X f D ∧ FA wr b9 8 L b13 f ∧ SA wr b13 L V (sinceL K X j)) (fun i _ => len2 - (intOf i).toNat)
              case atStart => exact ⟨0, _, _, _, Nat.zero_le _, rfl, HI3.out⟩
              case round =>
                rename World => wr
                obtain ⟨j, L, D, V, hj, rfl, hcd, hL, hB, hsi, hfa, hsa⟩ := hrel
                clear HI3
                have HB := Lib.hid hB; clear hB
                have HL := Lib.hid hL; clear hL
                have HC := Lib.hid hcd; clear hcd
                have HSI := Lib.hid hsi; clear hsi
                have HFA := Lib.hid hfa; clear hfa
                have HSA := Lib.hid hsa; clear hsa
                by_cases hlt : j < len2
                · have hji : (j : Int) < (len2 : Int) := by omega
                  obtain ⟨hok, ad, hA, hat⟩ := HO2.out j hlt
                  obtain ⟨o, hoo⟩ : ∃ o, o = O2 j := ⟨_, rfl⟩
                  rw [← hoo] at hok hat
                  obtain ⟨e0, e1, e2, e3, e4⟩ := hat.go HB.out
                  have hcs : ∀ (k : Nat) (v : Value), ([.int .i64 o.k, .int .i64 o.i, .int .i64 o.a, .slice o.B o.bl.length o.bc, .slice o.M o.ml.length o.mc] : List Value)[k]? = some v → wr.cell? ((ad.add (j * 5)).add k) = some v := fun k v hk => by
                    rcases k with _ | _ | _ | _ | _ | k
                    · cases hk; exact e0
                    · cases hk; rw [add_add, ← field_add _ _ _ (by decide)]; exact e1
                    · cases hk; rw [add_add, ← field_add _ _ _ (by decide)]; exact e2
                    · cases hk; rw [add_add, ← field_add _ _ _ (by decide)]; exact e3
                    · cases hk; rw [add_add, ← field_add _ _ _ (by decide)]; exact e4
                    · exact absurd (List.getElem?_eq_some_iff.1 hk).1 (by simp)
                  have HCS := Lib.hid hcs; clear hcs e0 e1 e2 e3 e4 hat hok
                  subst hA
                  obtain ⟨x, hx⟩ : ∃ x, x = at7 o.i := ⟨_, rfl⟩
                  have hx7 : bits .and .i64 o.i 7 = (x : Int) := by rw [i64_and7, hx]; rfl
                  have hxh : hasB 8 (x : Int) = true := by rw [hx]; exact at7_has o.i
                  have HKJ : Hid (K j = x ∧ X j = u8of o.a) := Lib.hid ⟨by rw [HKX.out.1, hx, hoo], by rw [HKX.out.2, hoo]⟩
                  clear hx hoo
                  have HXH := Lib.hid hxh; clear hxh
                  have hx8 : (x : Int) < 8 := ((hasB_iff 8 _).1 HXH.out).2
                  have hx8n : x < 8 := by omega
                  have hsw := HSI.out.write (by rw [HKJ.out.1]; exact HXH.out)
                  rw [HKJ.out.1, HKJ.out.2] at hsw
                  have HSW := Lib.hid hsw; clear hsw
                  go_upto_region 25 with (refine wpList_load_at rfl 36 (.tmp 81) rfl (ad.add (j * 5)) rfl [.int .i64 o.k, .int .i64 o.i, .int .i64 o.a, .slice o.B o.bl.length o.bc, .slice o.M o.ml.length o.mc] _ HCS.out Try.underlying36 (by rw [op_size]; rfl) ?_)
                  have hOb : Ob (wr.alloc (.cells (opA o) 36)) wr.heap.size o := heap_alloc_new _ _
                  have hb0 : Below wr.heap.size wr (wr.alloc (.cells (opA o) 36)) := (Below.refl _ _).alloc (Nat.le_refl _) _
                  have hbL : ¬ L wr.heap.size := fun h => Nat.lt_irrefl _ (HC.out.lt _ h)
                  generalize wr.alloc (.cells (opA o) 36) = w0 at *
                  generalize hb10 : wr.heap.size = b10 at *
                  have HC0 := Lib.hid (HC.out.call (by rw [hb10]; exact hb0))
                  have HB0 : Hid (Below w.heap.size w w0) := Lib.hid (HB.out.trans (hb0.mono (by rw [← hb10]; exact HB.out.size)))
                  have HOB := Lib.hid (And.intro hOb hbL)
                  have HFA0 := Lib.hid (HFA.out.call (by rw [hb10]; exact hb0))
                  have HSA0 := Lib.hid (HSA.out.call (by rw [hb10]; exact hb0))
                  have HNE : Hid (b13 ≠ b10) := Lib.hid (Nat.ne_of_lt (hb10 ▸ HSA.out.lt))
                  have HVN : Hid (∀ b, (V x).ownBlock = some b → b < b10) := Lib.hid fun b h => by rw [← hb10]; exact ((HSA.out.own x hx8n).lt b h).2
                  clear HFA HSA
                  clear hb0 hbL HC hb10 HB HCS hOb
                  go_region_held3 (fun w' => w'.cell? ⟨b10, 1, none⟩ = some (.int .i64 o.i) ∧ w'.cell? ⟨b10, 2, none⟩ = some (.int .i64 o.a))
                    (first | exact HOB.out.1.cells2 | (refine Ob.cells2 (o := o) ?_; assumption))
                    ((first
                      | (go_at_call 24; refine (cdwrite_any w3 d 8 L D (HC0.out.call hbw3) (x : Int) A3 (fullB (u8of o.a)) 256 c3 (fullB_len _) hcap3 (by decide) hrd3 (fun _ => hA3) (by have := HSI.out.ci.load; omega)).mono ?_; rw [HSW.out.2]; rintro e w5 ⟨rfl, hc5, hk5⟩; have hob5 := hob3.keep hk5 HOB.out.2)
                      | (go_at_call 29; refine (fullw_any o.a _).mono ?_; rintro e w3 ⟨v3, rfl, ho3, hb3⟩; have hbw3 : Below w0.heap.size w0 w3 := (Below.refl _ _).drew.trans (hb3.mono (Nat.le_refl _)); have hob3 := HOB.out.1.call hbw3; have hA3 := full_aside HC0.out.lt (show w3.ownsRow w0.heap.size _ _ _ _ _ from ho3); obtain ⟨A3, c3, rfl, _, hrd3⟩ := Rd.of_own ho3; replace hA3 := hA3 A3 256 c3 rfl; have hcap3 := own_cap8 ho3)))
                  have hB3 := HB0.out.trans (hbw3.mono HB0.out.size)
                  have HB5 := Lib.hid (Keep.toBelow hB3 hk5 HL.out hB3.size)
                  have HL5 : Hid (∀ b, ext L w3 w5 b → w.heap.size ≤ b) := Lib.hid fun b h => h.elim (HL.out b) (fun h => Nat.le_trans hB3.size h.1)
                  have HFA5 := Lib.hid ((HFA0.out.call hbw3).dev hk5)
                  have HSA5 := Lib.hid ((HSA0.out.call hbw3).dev hk5)
                  have HNL : Hid (¬ ext L w3 w5 b13) := Lib.hid HSA5.out.nb
                  have HSI5 := Lib.hid HSW.out.1
                  have HC5 := Lib.hid hc5
                  have HOB5 := Lib.hid hob5
                  clear HSA0 HSW hc5 hk5 hob5 hob3 hbw3 hB3 hA3 hrd3 hcap3 ho3 hb3 HB0 HC0 HFA0
                  go_upto_region 27 with fail
                  obtain ⟨j0, hi, hz0, hz1, hz2⟩ := info_parts info_b
                  obtain ⟨ll, hll⟩ : ∃ ll, ll = sinceL K X j x := ⟨_, rfl⟩
                  have hln : ll.length ≤ j := by rw [hll]; exact sinceL_len K X j x
                  have hox : w5.ownsRow (b13 + 1) 5 1 (V x) ll.length (vb ll) := by rw [hll]; exact HSA5.out.own x hx8n
                  have HLL := Lib.hid hll; clear hll
                  have hb13l : b13 < w5.heap.size := HSA5.out.lt
                  refine wp_region_noPanic ?_
                  refine wp_region_held_drew (S := (fun w' => w'.cell? ⟨b10, 1, none⟩ = some (.int .i64 o.i) ∧ w'.cell? ⟨b10, 2, none⟩ = some (.int .i64 o.a))) (by kernel_rfl) ?_ (fun hHeld => ?_)
                  · exact HOB5.out.cells2
                  refine wpAnyH_take (i := 0) (v := ?_) rfl (by kernel_rfl) (by kernel_rfl) (by kernel_rfl) (fun _ _ _ h => h) (Or.inl ⟨by rfl, ?_⟩) hHeld ?_
                  rotate_left
                  · intro w' hSw
                    (try dsimp only at hSw)
                    go_simp
                    try with_reducible rfl
                  try simp only [Act.put, zq1, zq2, zq3, zq4, zq5, zq6]
                  refine wpAnyH_take (i := 1) (v := ?_) rfl (by kernel_rfl) (by kernel_rfl) (by kernel_rfl) (fun _ _ _ h => h) (Or.inl ⟨by rfl, ?_⟩) hHeld ?_
                  rotate_left
                  · intro w' hSw
                    (try dsimp only at hSw)
                    obtain ⟨hs1, hs2⟩ := hSw
                    go_simp
                    try with_reducible rfl
                  try simp only [Act.put, zq1, zq2, zq3, zq4, zq5, zq6]
                  refine wpAnyH_take (i := 2) (v := ?_) rfl (by kernel_rfl) (by kernel_rfl) (by kernel_rfl) (fun _ _ _ h => h) (Or.inl ⟨by rfl, ?_⟩) hHeld ?_
                  rotate_left
                  · intro w' hSw
                    (try dsimp only at hSw)
                    go_simp
                    try with_reducible rfl
                  try simp only [Act.put, zq1, zq2, zq3, zq4, zq5, zq6]
                  refine wpAnyH_take (i := 3) (v := ?_) rfl (by kernel_rfl) (by kernel_rfl) (by kernel_rfl) (fun _ _ _ h => h) (Or.inl ⟨by rfl, ?_⟩) hHeld ?_
                  rotate_left
                  · intro w' hSw
                    (try dsimp only at hSw)
                    go_simp
                    try with_reducible rfl
                  try simp only [Act.put, zq1, zq2, zq3, zq4, zq5, zq6]
                  refine wpAnyH_take (i := 4) (v := ?_) rfl (by kernel_rfl) (by kernel_rfl) (by kernel_rfl) (fun _ _ _ h => h) (Or.inl ⟨by rfl, ?_⟩) hHeld ?_
                  rotate_left
                  · intro w' hSw
                    (try dsimp only at hSw)
                    obtain ⟨hs1, hs2⟩ := hSw
                    go_simp
                    try with_reducible rfl
                  try simp only [Act.put, zq1, zq2, zq3, zq4, zq5, zq6]
                  refine wpAnyH_take (i := 5) (v := ?_) rfl (by kernel_rfl) (by kernel_rfl) (by kernel_rfl) (fun _ _ _ h => h) (Or.inl ⟨by rfl, ?_⟩) hHeld ?_
                  rotate_left
                  · intro w' hSw
                    (try dsimp only at hSw)
                    go_simp
                    try with_reducible rfl
                  try simp only [Act.put, zq1, zq2, zq3, zq4, zq5, zq6]
                  refine wpAnyH_take (i := 6) (v := ?_) rfl (by kernel_rfl) (by kernel_rfl) (by kernel_rfl) (fun _ _ _ h => h) (Or.inl ⟨by rfl, ?_⟩) hHeld ?_
                  rotate_left
                  · intro w' hSw
                    (try dsimp only at hSw)
                    go_simp
                    try with_reducible rfl
                  try simp only [Act.put, zq1, zq2, zq3, zq4, zq5, zq6]
                  refine wpAnyH_take (i := 8) (v := ?_) rfl (by kernel_rfl) (by kernel_rfl) (by kernel_rfl) (fun _ _ _ h => h) (Or.inl ⟨by rfl, ?_⟩) hHeld ?_
                  rotate_left
                  · intro w' hSw
                    (try dsimp only at hSw)
                    go_simp
                    try with_reducible rfl
                  try simp only [Act.put, zq1, zq2, zq3, zq4, zq5, zq6]
                  refine wpAnyH_take (i := 9) (v := ?_) rfl (by kernel_rfl) (by kernel_rfl) (by kernel_rfl) (fun _ _ _ h => h) (Or.inl ⟨by rfl, ?_⟩) hHeld ?_
                  rotate_left
                  · intro w' hSw
                    (try dsimp only at hSw)
                    obtain ⟨hs1, hs2⟩ := hSw
                    go_simp
                    try with_reducible rfl
                  try simp only [Act.put, zq1, zq2, zq3, zq4, zq5, zq6]
                  refine wpAnyH_take (i := 10) (v := ?_) rfl (by kernel_rfl) (by kernel_rfl) (by kernel_rfl) (fun _ _ _ h => h) (Or.inl ⟨by rfl, ?_⟩) hHeld ?_
                  rotate_left
                  · intro w' hSw
                    (try dsimp only at hSw)
                    go_simp
                    try with_reducible rfl
                  try simp only [Act.put, zq1, zq2, zq3, zq4, zq5, zq6]
                  refine wpAnyH_ready (rs := [7, 11]) (by kernel_rfl) (by simp) ?_
                  refine AllReadyH.cons rfl (fun K hK => ?_) (AllReadyH.cons rfl (fun K hK => ?_) (AllReadyH.nil))
                  · try simp only [zq1, zq2, zq3]
                    have hcl : World.cell? (w5.drew) ⟨b13, x, none⟩ = some (V x) := (HSA5.out.cellAt x hx8n).1
                    go_simp
                    clear hcl
                    refine hK.out _ _ ?_ (fun hHeld => ?_)
                    · exact HOB5.out.cells2
                    clear hK K
                    try simp only [Act.put, zq1, zq2, zq3, zq4, zq5, zq6]
                    refine wpAnyH_ready (rs := [11]) (by kernel_rfl) (by simp) ?_
                    refine AllReadyH.cons rfl (fun K hK => ?_) (AllReadyH.nil)
                    try simp only [zq1, zq2, zq3]
                    go_simp
                    refine hK.out _ _ ?_ (fun hHeld => ?_)
                    · exact (HOB5.out.call ((((Below.refl _ _).alloc (Nat.le_refl _) (.cells #[.int .u8 (IntKind.u8.wrap o.a)] 5)).drew))).cells2
                    clear hK K
                    try simp only [Act.put, zq1, zq2, zq3, zq4, zq5, zq6]
                    refine wpAnyH_ready (rs := [12]) (by kernel_rfl) (by simp) ?_
                    refine AllReadyH.cons rfl (fun K hK => ?_) (AllReadyH.nil)
                    refine step_append_lies _ (by rfl) _ _ _ (by rfl) (b13 + 1) 5 j0 _ 1 1 Try.underlying34 hi hz0 hz1 hz2 rfl (by omega) (V x) ll.length (vb ll) (by rfl) (by exact hox.alloc _) ⟨_, 0, none⟩ 1 1 [.int .u8 (IntKind.u8.wrap o.a)] (by rfl) (by rfl) (World.news_of_block (t := 5) (fr := (0, 0)) (heap_alloc_new _ _)) (by simp [Value.oneCell']) (by omega) (by unfold maxLen; omega) (by omega) (by simp; omega) _ (by rfl) ?_
                    intro g2 cap2 w6 hown6 hgrow6 hat6 hlt6
                    have hbA : Below w5.heap.size w5 ((w5.alloc (.cells #[.int .u8 (IntKind.u8.wrap o.a)] 5)).drew) := ((Below.refl _ _).alloc (Nat.le_refl _) _).drew
                    have hsA := HSA5.out.call hbA
                    have hszA : w5.heap.size < ((w5.alloc (.cells #[.int .u8 (IntKind.u8.wrap o.a)] 5)).drew).heap.size := by show _ < (w5.alloc (.cells #[.int .u8 (IntKind.u8.wrap o.a)] 5)).heap.size; rw [World.size_alloc]; exact Nat.lt_succ_self _
                    generalize (w5.alloc (.cells #[.int .u8 (IntKind.u8.wrap o.a)] 5)).drew = wA at *
                    have hoA := HOB5.out.call hbA
                    have hob6 : Ob w6 b10 o := (hgrow6.block b10 hoA.lt (fun e => by have := HVN.out b10 e.symm; omega)).trans hoA
                    refine hK.out _ _ ?_ (fun hHeld => ?_)
                    · exact hob6.cells2
                    clear hK K
                    try simp only [Act.put, zq1, zq2, zq3, zq4, zq5, zq6]
                    refine wpAnyH_take (i := 13) (v := ?_) rfl (by kernel_rfl) (by kernel_rfl) (by kernel_rfl) (fun _ _ _ h => h) (Or.inl ⟨by rfl, ?_⟩) hHeld ?_
                    rotate_left
                    · intro w' hSw
                      (try dsimp only at hSw)
                      go_simp
                      try with_reducible rfl
                    try simp only [Act.put, zq1, zq2, zq3, zq4, zq5, zq6]
                    refine wpAnyH_ready (rs := [14]) (by kernel_rfl) (by simp) ?_
                    refine AllReadyH.cons rfl (fun K hK => ?_) (AllReadyH.nil)
                    try simp only [zq1, zq2, zq3]
                    obtain ⟨cur, hh1, hh2, hh3⟩ := hsA.hp
                    have hb6 : w6.heap[b13]? = some (.cells cur 55 (0, 0)) := (hgrow6.block b13 hsA.lt (fun e => by have := ((hsA.own x hx8n).lt b13 e.symm).1; omega)).trans hh1
                    have hcl : w6.cell? ⟨b13, x, none⟩ = some (V x) := by rw [cell_of_row _ _ _ _ _ _ hb6]; exact hh3 x hx8n
                    have hfl : w6.frozen? ⟨b13, x, none⟩ = false := frozen_of_row _ _ _ _ _ hb6
                    go_simp
                    clear hcl hfl hb6 hh1 hh2 hh3
                    refine hK.out _ _ ?_ (fun hHeld => ?_)
                    · exact ⟨(World.cell?_setCell_other _ _ _ _ (fun e => HNE.out (congrArg Addr.block e))).trans hob6.c1, (World.cell?_setCell_other _ _ _ _ (fun e => HNE.out (congrArg Addr.block e))).trans hob6.c2⟩
                    clear hK K
                    try simp only [Act.put, zq1, zq2, zq3, zq4, zq5, zq6]
                    refine wpAnyH_done (by kernel_rfl) ?_ _
                    refine NoPanic.normal ?_
                    rw [u8of_wrap] at hown6
                    rw [HLL.out] at hown6 ⊢
                    have hat7 : (V x).ownBlock = some g2 ∨ wA.heap.size ≤ g2 := hat6.elim .inl fun h => .inr (by rw [h]; exact Nat.le_refl _)
                    have hlA : ∀ b, ext L w3 w5 b → b < wA.heap.size := fun b h => Nat.lt_of_lt_of_le (HC5.out.lt b h) hbA.size
                    have hsa7 := hsA.app hx8n hgrow6 hown6 hat7 hlA
                    have hsl : (fun i => if i = x then sinceL K X j x ++ [u8of o.a] else sinceL K X j i) = sinceL K X (j + 1) := by
                      funext i
                      rw [sinceL_succ, HKJ.out.1, HKJ.out.2]
                      by_cases e : i = x
                      · subst e; simp
                      · rw [if_neg e, if_neg (fun h => e h.symm)]
                    rw [hsl] at hsa7
                    have hvb : ∀ b, (V x).ownBlock = some b → b13 + 1 ≤ b := fun b h => ((hsA.own x hx8n).lt b h).1
                    have hk7 : Keep (fun b => b = b13 ∨ (V x).ownBlock = some b) w5 (w6.setCell ⟨b13, x, none⟩ (.slice (some ⟨g2, 0, none⟩) ((sinceL K X j x).length + 1) cap2)) := ((Keep.of (L := fun b => b = b13 ∨ (V x).ownBlock = some b) hbA).grown hgrow6 (fun k hk _ => .inr hk)).setCell (a := ⟨b13, x, none⟩) (fun _ => .inl rfl) _
                    have hc7 := HC5.out.keep hk7 (fun b hb e => e.elim (fun e => HNL.out (e ▸ hb)) (fun e => HSA5.out.nl x hx8n b e hb))
                    have hfa7 : FA (w6.setCell ⟨b13, x, none⟩ (.slice (some ⟨g2, 0, none⟩) ((sinceL K X j x).length + 1) cap2)) b9 8 (ext L w3 w5) b13 f := HFA5.out.keep (fun b _ hz hs => hk7.block b hs (fun e => e.elim (fun e => by omega) (fun e => by have := hvb b e; omega))) (fun b h _ => h) (Nat.le_refl _)
                    have hwb : w.heap.size ≤ b13 := HWB13.out
                    have hB7 := ((HB5.out.trans (hbA.mono HB5.out.size)).grown hgrow6 (by have := HB5.out.size; omega) (fun k hk => by have := hvb k hk; omega)).setCell (p := ⟨b13, x, none⟩) hwb (.slice (some ⟨g2, 0, none⟩) ((sinceL K X j x).length + 1) cap2)
                    have HF := Lib.hid (And.intro hc7 (And.intro HL5.out (And.intro hB7 (And.intro HSI5.out (And.intro hfa7 hsa7))))); clear hc7 hB7 hfa7 hsa7 hk7 hlA hat7 hsl hvb hwb hob6 hoA hgrow6 hown6 hat6 hbA hsA HC5 HB5 HL5 HSI5 HFA5 HSA5 HOB5
                    go_wp2_with fail
                    go_roundw
                    case rel => exact ⟨j + 1, _, _, _, by omega, by go_num, HF.out⟩
                    case measure => simp [intOf]; omega
                  · try simp only [zq1, zq2, zq3]
                    go_simp
                    refine hK.out _ _ ?_ (fun hHeld => ?_)
                    · exact (HOB5.out.call ((((Below.refl _ _).alloc (Nat.le_refl _) (.cells #[.int .u8 (IntKind.u8.wrap o.a)] 5)).drew))).cells2
                    clear hK K
                    try simp only [Act.put, zq1, zq2, zq3, zq4, zq5, zq6]
                    refine wpAnyH_ready (rs := [7]) (by kernel_rfl) (by simp) ?_
                    refine AllReadyH.cons rfl (fun K hK => ?_) (AllReadyH.nil)
                    try simp only [zq1, zq2, zq3]
                    have hcl : World.cell? (w5) ⟨b13, x, none⟩ = some (V x) := (HSA5.out.cellAt x hx8n).1
                    go_simp
                    clear hcl
                    refine hK.out _ _ ?_ (fun hHeld => ?_)
                    · exact (HOB5.out.call ((((Below.refl _ _).alloc (Nat.le_refl _) (.cells #[.int .u8 (IntKind.u8.wrap o.a)] 5)).drew))).cells2
                    clear hK K
                    try simp only [Act.put, zq1, zq2, zq3, zq4, zq5, zq6]
                    refine wpAnyH_ready (rs := [12]) (by kernel_rfl) (by simp) ?_
                    refine AllReadyH.cons rfl (fun K hK => ?_) (AllReadyH.nil)
                    refine step_append_lies _ (by rfl) _ _ _ (by rfl) (b13 + 1) 5 j0 _ 1 1 Try.underlying34 hi hz0 hz1 hz2 rfl (by omega) (V x) ll.length (vb ll) (by rfl) (by exact hox.alloc _) ⟨_, 0, none⟩ 1 1 [.int .u8 (IntKind.u8.wrap o.a)] (by rfl) (by rfl) (World.news_of_block (t := 5) (fr := (0, 0)) (heap_alloc_new _ _)) (by simp [Value.oneCell']) (by omega) (by unfold maxLen; omega) (by omega) (by simp; omega) _ (by rfl) ?_
                    intro g2 cap2 w6 hown6 hgrow6 hat6 hlt6
                    have hbA : Below w5.heap.size w5 ((w5.alloc (.cells #[.int .u8 (IntKind.u8.wrap o.a)] 5)).drew) := ((Below.refl _ _).alloc (Nat.le_refl _) _).drew
                    have hsA := HSA5.out.call hbA
                    have hszA : w5.heap.size < ((w5.alloc (.cells #[.int .u8 (IntKind.u8.wrap o.a)] 5)).drew).heap.size := by show _ < (w5.alloc (.cells #[.int .u8 (IntKind.u8.wrap o.a)] 5)).heap.size; rw [World.size_alloc]; exact Nat.lt_succ_self _
                    generalize (w5.alloc (.cells #[.int .u8 (IntKind.u8.wrap o.a)] 5)).drew = wA at *
                    have hoA := HOB5.out.call hbA
                    have hob6 : Ob w6 b10 o := (hgrow6.block b10 hoA.lt (fun e => by have := HVN.out b10 e.symm; omega)).trans hoA
                    refine hK.out _ _ ?_ (fun hHeld => ?_)
                    · exact hob6.cells2
                    clear hK K
                    try simp only [Act.put, zq1, zq2, zq3, zq4, zq5, zq6]
                    refine wpAnyH_take (i := 13) (v := ?_) rfl (by kernel_rfl) (by kernel_rfl) (by kernel_rfl) (fun _ _ _ h => h) (Or.inl ⟨by rfl, ?_⟩) hHeld ?_
                    rotate_left
                    · intro w' hSw
                      (try dsimp only at hSw)
                      go_simp
                      try with_reducible rfl
                    try simp only [Act.put, zq1, zq2, zq3, zq4, zq5, zq6]
                    refine wpAnyH_ready (rs := [14]) (by kernel_rfl) (by simp) ?_
                    refine AllReadyH.cons rfl (fun K hK => ?_) (AllReadyH.nil)
                    try simp only [zq1, zq2, zq3]
                    obtain ⟨cur, hh1, hh2, hh3⟩ := hsA.hp
                    have hb6 : w6.heap[b13]? = some (.cells cur 55 (0, 0)) := (hgrow6.block b13 hsA.lt (fun e => by have := ((hsA.own x hx8n).lt b13 e.symm).1; omega)).trans hh1
                    have hcl : w6.cell? ⟨b13, x, none⟩ = some (V x) := by rw [cell_of_row _ _ _ _ _ _ hb6]; exact hh3 x hx8n
                    have hfl : w6.frozen? ⟨b13, x, none⟩ = false := frozen_of_row _ _ _ _ _ hb6
                    go_simp
                    clear hcl hfl hb6 hh1 hh2 hh3
                    refine hK.out _ _ ?_ (fun hHeld => ?_)
                    · exact ⟨(World.cell?_setCell_other _ _ _ _ (fun e => HNE.out (congrArg Addr.block e))).trans hob6.c1, (World.cell?_setCell_other _ _ _ _ (fun e => HNE.out (congrArg Addr.block e))).trans hob6.c2⟩
                    clear hK K
                    try simp only [Act.put, zq1, zq2, zq3, zq4, zq5, zq6]
                    refine wpAnyH_done (by kernel_rfl) ?_ _
                    refine NoPanic.normal ?_
                    rw [u8of_wrap] at hown6
                    rw [HLL.out] at hown6 ⊢
                    have hat7 : (V x).ownBlock = some g2 ∨ wA.heap.size ≤ g2 := hat6.elim .inl fun h => .inr (by rw [h]; exact Nat.le_refl _)
                    have hlA : ∀ b, ext L w3 w5 b → b < wA.heap.size := fun b h => Nat.lt_of_lt_of_le (HC5.out.lt b h) hbA.size
                    have hsa7 := hsA.app hx8n hgrow6 hown6 hat7 hlA
                    have hsl : (fun i => if i = x then sinceL K X j x ++ [u8of o.a] else sinceL K X j i) = sinceL K X (j + 1) := by
                      funext i
                      rw [sinceL_succ, HKJ.out.1, HKJ.out.2]
                      by_cases e : i = x
                      · subst e; simp
                      · rw [if_neg e, if_neg (fun h => e h.symm)]
                    rw [hsl] at hsa7
                    have hvb : ∀ b, (V x).ownBlock = some b → b13 + 1 ≤ b := fun b h => ((hsA.own x hx8n).lt b h).1
                    have hk7 : Keep (fun b => b = b13 ∨ (V x).ownBlock = some b) w5 (w6.setCell ⟨b13, x, none⟩ (.slice (some ⟨g2, 0, none⟩) ((sinceL K X j x).length + 1) cap2)) := ((Keep.of (L := fun b => b = b13 ∨ (V x).ownBlock = some b) hbA).grown hgrow6 (fun k hk _ => .inr hk)).setCell (a := ⟨b13, x, none⟩) (fun _ => .inl rfl) _
                    have hc7 := HC5.out.keep hk7 (fun b hb e => e.elim (fun e => HNL.out (e ▸ hb)) (fun e => HSA5.out.nl x hx8n b e hb))
                    have hfa7 : FA (w6.setCell ⟨b13, x, none⟩ (.slice (some ⟨g2, 0, none⟩) ((sinceL K X j x).length + 1) cap2)) b9 8 (ext L w3 w5) b13 f := HFA5.out.keep (fun b _ hz hs => hk7.block b hs (fun e => e.elim (fun e => by omega) (fun e => by have := hvb b e; omega))) (fun b h _ => h) (Nat.le_refl _)
                    have hwb : w.heap.size ≤ b13 := HWB13.out
                    have hB7 := ((HB5.out.trans (hbA.mono HB5.out.size)).grown hgrow6 (by have := HB5.out.size; omega) (fun k hk => by have := hvb k hk; omega)).setCell (p := ⟨b13, x, none⟩) hwb (.slice (some ⟨g2, 0, none⟩) ((sinceL K X j x).length + 1) cap2)
                    have HF := Lib.hid (And.intro hc7 (And.intro HL5.out (And.intro hB7 (And.intro HSI5.out (And.intro hfa7 hsa7))))); clear hc7 hB7 hfa7 hsa7 hk7 hlA hat7 hsl hvb hwb hob6 hoA hgrow6 hown6 hat6 hbA hsA HC5 HB5 HL5 HSI5 HFA5 HSA5 HOB5
                    go_wp2_with fail
                    go_roundw
                    case rel => exact ⟨j + 1, _, _, _, by omega, by go_num, HF.out⟩
                    case measure => simp [intOf]; omega
                · have hji : ¬ (j : Int) < (len2 : Int) := by omega
                  have hj2 : j = len2 := by omega
                  rw [hj2] at HSI HSA
                  have hwl : D.waits.length = len2 := by rw [HSI.out.wts, wrL_len]
                  have hww : D.waits.length ≤ 1000000 := by omega
                  have HMR := Lib.hid (HM.out.2.2.2.go HB.out)
                  have HMA : Hid (ml.length ≠ 0 → ∀ ad, M = some ad → ¬ L ad.block) := Lib.hid fun h0 ad e hl => by
                    obtain ⟨ad', e', h1, _⟩ := HM.out.2.2.2.at_ (k := 0) (by simp [vb]; omega)
                    rw [e] at e'; cases e'
                    have := HL.out _ hl; omega
                  have hcw := cdwaiting_any wr d 8 L D HC.out hww
                  rw [hwl] at hcw
                  have HCW := Lib.hid hcw; clear hcw
                  go_wp2_with fail
                  refine HCW.out.mono ?_
                  rintro e v1 ⟨rfl, hb1⟩
                  have hcc := cdcrash_any v1 d 8 L D (HC.out.call hb1) M ml mn mc HM.out.1 HM.out.2.2.1 HM.out.2.1 (HMR.out.go hb1) HMA.out hww
                  have HCC := Lib.hid hcc; clear hcc
                  have HB1' := Lib.hid (HB.out.trans (hb1.mono HB.out.size))
                  have HFA1 := Lib.hid (HFA.out.call hb1)
                  have HSA1 := Lib.hid (HSA.out.call hb1)
                  clear hb1 HCW HB HFA HSA HMR HMA
                  go_wp2_with fail
                  refine HCC.out.mono ?_
                  rintro e v2 ⟨rfl, hc2, hk2⟩
                  have HB2 := Lib.hid (Keep.toBelow HB1'.out hk2 HL.out HB1'.out.size)
                  have HFA2 := Lib.hid (HFA1.out.dev hk2)
                  have HSA2 := Lib.hid (HSA1.out.dev hk2)
                  have HC2 := Lib.hid hc2
                  have hcw := cdwaiting_any v2 d 8 _ _ hc2 (show (D.crash (ml.map UInt8.toNat)).waits.length ≤ 1000000 from Nat.zero_le _)
                  rw [show (D.crash (ml.map UInt8.toNat)).waits.length = 0 from rfl] at hcw
                  have HCW := Lib.hid hcw; clear hcw hc2 hk2 HCC HB1' HFA1 HSA1
                  go_wp2_with fail
                  refine HCW.out.mono ?_
                  rintro e v3 ⟨rfl, hb3⟩
                  have HI4 := Lib.hid (And.intro (HC2.out.call hb3) (And.intro (HB2.out.trans (hb3.mono HB2.out.size)) (And.intro (HFA2.out.call hb3) (HSA2.out.call hb3))))
                  clear hb3 HCW HC2 HB2 HFA2 HSA2
                  have HRD : Hid (∀ i : Nat, i < 8 → (D.crash (ml.map UInt8.toNat)).readE 8 (i : Int) = 0 ∧ Sec (fun y => y = f i ∨ y ∈ sinceL K X len2 i) ((D.crash (ml.map UInt8.toNat)).readB 8 (i : Int))) := Lib.hid fun i hi => HSI.out.read (fun t => by rw [HKX.out.1]; show at7 _ < 8; unfold at7; omega) _ i hi
                  obtain ⟨DC, hDC⟩ : ∃ DC, DC = D.crash (ml.map UInt8.toNat) := ⟨_, rfl⟩
                  rw [← hDC] at HRD HI4
                  clear hDC
                  generalize ext L v1 v2 = LC at *
                  go_wp2_with fail
                  go_loopw [124] (fun i wz => ∃ t : Nat, t ≤ 8 ∧ i = .int .i64 t ∧ Below v3.heap.size v3 wz) (fun i _ => 8 - (intOf i).toNat)
                  case atStart => exact ⟨0, Nat.zero_le _, rfl, Below.refl _ _⟩
                  case round =>
                    rename World => wz
                    obtain ⟨t, ht, rfl, hbz⟩ := hrel
                    by_cases ht8 : t < 8
                    · have hti : (t : Int) < 8 := by omega
                      have hq := cdread_any wz d 8 _ DC (HI4.out.1.call hbz) (t : Int)
                      rw [(HRD.out t ht8).1] at hq
                      obtain ⟨rb, hrb⟩ : ∃ rb, rb = DC.readB 8 (t : Int) := ⟨_, rfl⟩
                      have hsec := (HRD.out t ht8).2
                      rw [← hrb] at hq hsec
                      have hlen : rb.length = 256 := hsec.len
                      rw [hlen] at hq
                      have HQ := Lib.hid hq
                      have HSE := Lib.hid hsec
                      have HBZ := Lib.hid hbz
                      clear hq hsec hbz hrb
                      go_wp2_with fail
                      refine HQ.out.mono ?_
                      rintro e v4 ⟨v, rfl, ho, hb⟩
                      obtain ⟨A4, c4, rfl, _, hr4⟩ := Rd.of_own8 ho
                      have HR4 := Lib.hid hr4
                      have HB4 := Lib.hid (HBZ.out.trans (hb.mono HBZ.out.size))
                      clear hr4 ho hb HQ HBZ
                      go_wp2_with fail
                      go_loopw [142] (fun i wy => ∃ k : Nat, k ≤ 256 ∧ i = .int .i64 k ∧ Below v4.heap.size v4 wy) (fun i _ => 256 - (intOf i).toNat)
                      case atStart => exact ⟨0, Nat.zero_le _, rfl, Below.refl _ _⟩
                      case round =>
                        rename World => wy
                        obtain ⟨k, hk, rfl, hby⟩ := hrel
                        by_cases hk256 : k < 256
                        · have hki : (k : Int) < 256 := by omega
                          have HY := Lib.hid (HB4.out.trans (hby.mono HB4.out.size))
                          have hsec := HSE.out
                          have hu := hsec.uni k hk256
                          have hm := hsec.mem k hk256
                          have hfy := HI4.out.2.2.1.call HY.out
                          have hsy := HI4.out.2.2.2.call HY.out
                          obtain ⟨cur, g, cg, hF⟩ := hfy
                          have hf1 : wy.cell? ⟨b9, t, none⟩ = some (.slice (some ⟨g t, 0, none⟩) 256 (cg t)) := by rw [cell_of_row _ _ _ _ _ _ hF.hp]; exact hF.at_ t ht8
                          have hf2 := (hF.row t ht8).cellAt k (by rw [fullB_len]; omega)
                          rw [fullB_at (f t) k hk256] at hf2
                          have hs1 := (hsy.cellAt t ht8).1
                          have hs2 := hsy.own t ht8
                          have hr := HR4.out.go hby
                          obtain ⟨ad, eA, _, hc1⟩ := hr.byte (k := k) (by rw [hlen]; omega)
                          subst eA
                          obtain ⟨k2, hk2⟩ : ∃ k2, k2 = k / 64 * 64 := ⟨_, rfl⟩
                          obtain ⟨qk, hqk⟩ : ∃ qk, qk = k / 64 := ⟨_, rfl⟩
                          have hk2l : k2 < 256 := by omega
                          obtain ⟨ad', eA, _, hc2⟩ := hr.byte (k := k2) (by rw [hlen]; omega)
                          cases eA
                          have g1 : rb[k]'(by rw [hlen]; omega) = rb.getD k 0 := by rw [List.getD_eq_getElem?_getD, List.getElem?_eq_getElem (by rw [hlen]; omega)]; rfl
                          have g2 : rb[k2]'(by rw [hlen]; omega) = rb.getD k 0 := by rw [hu, ← hk2, List.getD_eq_getElem?_getD, List.getElem?_eq_getElem (by rw [hlen]; omega)]; rfl
                          rw [g1] at hc1
                          rw [g2] at hc2
                          obtain ⟨bb, hbb⟩ : ∃ bb, bb = rb.getD k 0 := ⟨_, rfl⟩
                          rw [← hbb] at hc1 hc2 hm
                          obtain ⟨fb, hfb⟩ : ∃ fb, fb = f t := ⟨_, rfl⟩
                          rw [← hfb] at hf2 hm
                          obtain ⟨ll, hll⟩ : ∃ ll, ll = sinceL K X len2 t := ⟨_, rfl⟩
                          rw [← hll] at hs2 hm
                          obtain ⟨sA, sc, hsV, hsn, hsr⟩ := Rd.of_own hs2
                          have hs2c := hsr
                          rw [hsV] at hs1
                          have HMM := Lib.hid hm
                          have hll60 : ll.length ≤ 60 := by rw [hll]; exact Nat.le_trans (sinceL_len K X len2 t) (by omega)
                          have q1 : (k : Int).tdiv 64 = (qk : Int) := by rw [Int.tdiv_eq_ediv_of_nonneg (by omega)]; omega
                          have q1' : (k : Int) / 64 = (qk : Int) := by omega
                          have q2 : IntKind.i64.wrap ((qk : Int) * 64) = (k2 : Int) := by rw [IntWalk.i64_in _ (by omega)]; omega
                          have hk2i : (k2 : Int) < 256 := by omega
                          obtain ⟨ln, hln⟩ : ∃ ln, ln = ll.length := ⟨_, rfl⟩
                          rw [← hln] at hs1 hll60
                          have HSR := Lib.hid hsr
                          have HLN := Lib.hid hln
                          clear hsec hu hm hsy hF hs2 hr hk2 hqk g1 g2 hbb hfb hll hsV hsn hsr hs2c hln
                          obtain ⟨b0, hb0⟩ : ∃ b0, b0 = bb.toNat := ⟨_, rfl⟩
                          obtain ⟨f0, hf0⟩ : ∃ f0, f0 = fb.toNat := ⟨_, rfl⟩
                          rw [← hb0] at hc1 hc2
                          rw [← hf0] at hf2
                          have HBF := Lib.hid (And.intro hb0 hf0)
                          clear hb0 hf0
                          have hok0 : (((b0 : Int) == (f0 : Int)) = okS bb bb fb ll 0) := by
                            rw [beq_u8i _ _ _ _ HBF.out.1 HBF.out.2]
                            simp [okS]
                          have HOK0 := Lib.hid hok0; clear hok0
                          cases hbf : ((b0 : Int) == (f0 : Int))
                          all_goals (rw [hbf] at HOK0)
                          · go_upto_region 40 with fail
                            go_quiet (fail)
                            have hc1' : (wy.drewN nq).cell? (ad.add k) = some (.int .u8 (b0 : Int)) := hc1
                            have hc2' : (wy.drewN nq).cell? (ad.add k2) = some (.int .u8 (b0 : Int)) := hc2
                            have hs1' : (wy.drewN nq).cell? ⟨b13, t, none⟩ = some (.slice sA ln sc) := hs1
                            have HSR' : Hid (Rd (wy.drewN nq) wy.heap.size sA (vb ll)) := Lib.hid HSR.out
                            have HBU := Lib.hid (bdrewN hby nq)
                            clear hc1 hc2 hs1 HSR hf1 hf2
                            generalize wy.drewN nq = wu at *
                            go_wp2_with fail
                            go_loopw [20, 173] (fun o i wx => ∃ (s : Nat) (ob : Bool), s ≤ ln ∧ i = .int .i64 s ∧ o = .bool ob ∧ Hid (ob = okS bb bb fb ll s) ∧ wu = wx) (fun _ i _ => ln - (intOf i).toNat)
                            case atStart => exact ⟨0, false, Nat.zero_le _, rfl, rfl, HOK0, rfl⟩
                            case round =>
                              obtain ⟨s, ob, hs, rfl, rfl, HOB, rfl⟩ := hrel
                              clear HOK0
                              by_cases hlt6 : s < ln
                              · have hsi : (s : Int) < (ln : Int) := by omega
                                obtain ⟨ads, eS, _, hcs⟩ := HSR'.out.byte (k := s) (by rw [← HLN.out]; exact hlt6)
                                subst eS
                                obtain ⟨xx, hxx⟩ : ∃ xx, xx = ll.getD s 0 := ⟨_, rfl⟩
                                have hgx : ll[s]'(by rw [← HLN.out]; exact hlt6) = xx := by rw [hxx, List.getD_eq_getElem?_getD, List.getElem?_eq_getElem (by rw [← HLN.out]; exact hlt6)]; rfl
                                rw [hgx] at hcs
                                obtain ⟨x0, hx0⟩ : ∃ x0, x0 = xx.toNat := ⟨_, rfl⟩
                                rw [← hx0] at hcs
                                have HX0 := Lib.hid hxx
                                have hbq := beq_u8i bb xx b0 x0 HBF.out.1 hx0
                                clear hgx hxx hx0
                                cases ob
                                · cases hbx : ((b0 : Int) == (x0 : Int))
                                  · rw [hbx] at hbq
                                    have HX1 := Lib.hid hbq.symm
                                    clear hbq
                                    go_wp2_with fail
                                    go_roundw
                                    case rel => exact ⟨s + 1, false, by omega, by go_num, rfl, Lib.hid (okS_t3 HLN.out hlt6 HX0.out HX1.out HOB.out), trivial⟩
                                    case measure => simp [intOf]; omega
                                  · rw [hbx] at hbq
                                    have HX1 := Lib.hid hbq.symm
                                    have hbe : (b0 : Int) = (x0 : Int) := by simpa using hbx
                                    have hbe2 : b0 = x0 := by omega
                                    rw [← hbe2] at hcs
                                    clear hbq hbx hbe hbe2
                                    go_wp2_with fail
                                    go_roundw
                                    case rel => exact ⟨s + 1, true, by omega, by go_num, rfl, Lib.hid (okS_t2 HLN.out hlt6 HX0.out HX1.out), trivial⟩
                                    case measure => simp [intOf]; omega
                                · clear hbq
                                  go_wp2_with fail
                                  go_roundw
                                  case rel => exact ⟨s + 1, true, by omega, by go_num, rfl, Lib.hid (okS_t1 HLN.out hlt6 HOB.out), trivial⟩
                                  case measure => simp [intOf]; omega
                              · have hsi : ¬ (s : Int) < (ln : Int) := by omega
                                have hob : ob = true := okS_end HLN.out (by omega) HMM.out HOB.out
                                subst hob
                                go_wp2_with fail
                                go_roundw
                                case rel => exact ⟨k + 1, by omega, by go_num, HBU.out⟩
                                case measure => simp [intOf]; omega
                          · have hbe : (b0 : Int) = (f0 : Int) := by simpa using hbf
                            have hbe2 : b0 = f0 := by omega
                            rw [← hbe2] at hf2
                            clear hbf hbe hbe2
                            go_upto_region 40 with fail
                            go_quiet (fail)
                            have hc1' : (wy.drewN nq).cell? (ad.add k) = some (.int .u8 (b0 : Int)) := hc1
                            have hc2' : (wy.drewN nq).cell? (ad.add k2) = some (.int .u8 (b0 : Int)) := hc2
                            have hs1' : (wy.drewN nq).cell? ⟨b13, t, none⟩ = some (.slice sA ln sc) := hs1
                            have HSR' : Hid (Rd (wy.drewN nq) wy.heap.size sA (vb ll)) := Lib.hid HSR.out
                            have HBU := Lib.hid (bdrewN hby nq)
                            clear hc1 hc2 hs1 HSR hf1 hf2
                            generalize wy.drewN nq = wu at *
                            go_wp2_with fail
                            go_loopw [20, 173] (fun o i wx => ∃ (s : Nat) (ob : Bool), s ≤ ln ∧ i = .int .i64 s ∧ o = .bool ob ∧ Hid (ob = okS bb bb fb ll s) ∧ wu = wx) (fun _ i _ => ln - (intOf i).toNat)
                            case atStart => exact ⟨0, true, Nat.zero_le _, rfl, rfl, HOK0, rfl⟩
                            case round =>
                              obtain ⟨s, ob, hs, rfl, rfl, HOB, rfl⟩ := hrel
                              clear HOK0
                              by_cases hlt6 : s < ln
                              · have hsi : (s : Int) < (ln : Int) := by omega
                                obtain ⟨ads, eS, _, hcs⟩ := HSR'.out.byte (k := s) (by rw [← HLN.out]; exact hlt6)
                                subst eS
                                obtain ⟨xx, hxx⟩ : ∃ xx, xx = ll.getD s 0 := ⟨_, rfl⟩
                                have hgx : ll[s]'(by rw [← HLN.out]; exact hlt6) = xx := by rw [hxx, List.getD_eq_getElem?_getD, List.getElem?_eq_getElem (by rw [← HLN.out]; exact hlt6)]; rfl
                                rw [hgx] at hcs
                                obtain ⟨x0, hx0⟩ : ∃ x0, x0 = xx.toNat := ⟨_, rfl⟩
                                rw [← hx0] at hcs
                                have HX0 := Lib.hid hxx
                                have hbq := beq_u8i bb xx b0 x0 HBF.out.1 hx0
                                clear hgx hxx hx0
                                cases ob
                                · cases hbx : ((b0 : Int) == (x0 : Int))
                                  · rw [hbx] at hbq
                                    have HX1 := Lib.hid hbq.symm
                                    clear hbq
                                    go_wp2_with fail
                                    go_roundw
                                    case rel => exact ⟨s + 1, false, by omega, by go_num, rfl, Lib.hid (okS_t3 HLN.out hlt6 HX0.out HX1.out HOB.out), trivial⟩
                                    case measure => simp [intOf]; omega
                                  · rw [hbx] at hbq
                                    have HX1 := Lib.hid hbq.symm
                                    have hbe : (b0 : Int) = (x0 : Int) := by simpa using hbx
                                    have hbe2 : b0 = x0 := by omega
                                    rw [← hbe2] at hcs
                                    clear hbq hbx hbe hbe2
                                    go_wp2_with fail
                                    go_roundw
                                    case rel => exact ⟨s + 1, true, by omega, by go_num, rfl, Lib.hid (okS_t2 HLN.out hlt6 HX0.out HX1.out), trivial⟩
                                    case measure => simp [intOf]; omega
                                · clear hbq
                                  go_wp2_with fail
                                  go_roundw
                                  case rel => exact ⟨s + 1, true, by omega, by go_num, rfl, Lib.hid (okS_t1 HLN.out hlt6 HOB.out), trivial⟩
                                  case measure => simp [intOf]; omega
                              · have hsi : ¬ (s : Int) < (ln : Int) := by omega
                                have hob : ob = true := okS_end HLN.out (by omega) HMM.out HOB.out
                                subst hob
                                go_wp2_with fail
                                go_roundw
                                case rel => exact ⟨k + 1, by omega, by go_num, HBU.out⟩
                                case measure => simp [intOf]; omega
                        · have hki : ¬ (k : Int) < 256 := by omega
                          have HBY := Lib.hid (HB4.out.trans (hby.mono HB4.out.size)); clear hby
                          go_wp2_with fail
                          go_roundw
                          case rel => exact ⟨t + 1, by omega, by go_num, HBY.out⟩
                          case measure => simp [intOf]; omega
                    · have hti : ¬ (t : Int) < 8 := by omega
                      have HBW := Lib.hid (HI4.out.2.1.trans (hbz.mono HI4.out.2.1.size))
                      go_wp2_with fail
                      refine (known08_any _).mono ?_
                      rintro e wk ⟨rfl, hbk⟩
                      go_wp2_with fail
                      go_ret
                      exact ⟨rfl, HBW.out.trans (hbk.mono HBW.out.size)⟩

set_option maxRecDepth 100000 in
theorem nsynced_lifted (os : Os) (started : os.Started) (H : Type) (enc : TypeId × Value → H) :
    ReturnsInHanded {} Try.checked os 5 .any (Rows.diskSyncedSpec.pre6 enc Try.prog Try.f5 Rows.diskSyncedRow.domain false) (Rows.diskSyncedSpec.post enc Try.prog Try.f5 false true false false) := by
  refine returnsInHanded_of_change_sized (C := Try.checked) Try.own started (by kernel_rfl) Try.func5
    (ChangeSpec.witness6 (enc := enc) (C := Try.checked) false ⟨#[], #[.slice none 0 0, .slice none 0 0, .slice none 0 0], []⟩ 8 (by kernel_rfl) (by kernel_rfl) (by kernel_rfl) (by kernel_rfl)) ?_
  intro W base args ds gs before hval0 hW _ hsz0 _
  have hsz : (DataW.weightsEach Try.prog (Try.f5.params.toList ++ Rows.diskSyncedSpec.plain.varTypes Try.prog) (ds ++ gs)).all (· ≤ reachBytes) = true := hsz0
  have hval : ∀ (j : Nat) t v, Try.f5.params[j]? = some t → args[j]? = some v → Value.okWide Try.prog W .any base t v := hval0
  have hW' := hW
  obtain ⟨p, q, hA0, hV, rfl, _, _⟩ := hW
  have hA : DataW.TrodAll enc Try.prog W 0 (fun _ => true) true Try.f5.params.toList args.toList ds p := hA0
  rw [Try.params5] at hA hval hsz
  have hlt := hW'.lt
  clear hA0 hval0 hsz0
  obtain ⟨v0, vs0, d0, ds0, p0, q0, hv0, rfl, rfl, h0, r0⟩ := trodAll_cons hA
  obtain ⟨v1, vs1, d1, ds1, p1, q1, hv1, rfl, rfl, h1, r1⟩ := trodAll_cons r0
  subst hv1
  obtain ⟨v2, vs2, d2, ds2, p2, q2, hv2, rfl, rfl, h2, r2⟩ := trodAll_cons r1
  subst hv2
  obtain ⟨rfl, rfl, rfl⟩ := trodAll_nil r2
  obtain rfl : args = #[v0, v1, v2] := by cases args; simp_all
  obtain ⟨rfl, rfl⟩ := trodVars_none hV
  obtain ⟨A0, len0, cap0, rfl, le0, hs0⟩ := open_structsW Try.underlying22 Try.underlying36 (by kernel_rfl) (by kernel_rfl) (hval 0 22 v0 rfl rfl) h0 (fun m hm => by have := List.all_eq_true.1 hsz m (DataW.weights_mem_each (j := 0) (t := 22) rfl rfl m hm); simpa using this) (of_decide_eq_true (by kernel_rfl))
  obtain ⟨O0, hk0⟩ := structs_op Try.underlying3 Try.underlying3 Try.underlying3 Try.underlying34 Try.underlying34 Try.underlying5 Try.cellsU8 Try.bytesU8 hs0
  obtain ⟨A1, len1, cap1, rfl, le1, hs1⟩ := open_structsW Try.underlying22 Try.underlying36 (by kernel_rfl) (by kernel_rfl) (hval 1 22 v1 rfl rfl) h1 (fun m hm => by have := List.all_eq_true.1 hsz m (DataW.weights_mem_each (j := 1) (t := 22) rfl rfl m hm); simpa using this) (of_decide_eq_true (by kernel_rfl))
  obtain ⟨O1, hk1⟩ := structs_op Try.underlying3 Try.underlying3 Try.underlying3 Try.underlying34 Try.underlying34 Try.underlying5 Try.cellsU8 Try.bytesU8 hs1
  obtain ⟨A2, l2, c2, rfl, rd2, le2, lc2⟩ := open_bytes_cap Try.underlying34 Try.underlying5 Try.cellsU8 (hval 2 34 v2 rfl rfl) h2 (fun x hx => hlt x (by simp [hx])) (fun es sp he => by subst he; have := sized_slice hsz (j := 2) (t := 34) (e := 5) rfl rfl Try.underlying34; rw [Try.bytesU8, Nat.mul_one] at this; exact this)
  refine (nsynced_any A0 len0 cap0 O0 A1 len1 cap1 O1 A2 l2 l2.length c2 rfl W (by unfold reachBytes at le0; omega) hk0 (by unfold reachBytes at le1; omega) hk1 le2 lc2 rd2).mono fun e W' ⟨he, hb⟩ => ⟨_, he, ?_⟩
  exact law_post 4 Try.underlying4 (by kernel_rfl) rfl Try.laidOut (by kernel_rfl) hW' ⟨rfl, rfl, rfl⟩ hb

theorem nsynced_holds : Rows.DiskSyncedSaid :=
  OpenClaim.holds_of_wide 5 Try.f5 rfl rfl rfl rfl rfl rfl rfl ⟨rfl, rfl, rfl, rfl, rfl⟩ rfl rfl rfl rfl rfl (by kernel_rfl) Try.func5 (by kernel_rfl)
    (of_decide_eq_true (by kernel_rfl)) (by unfold Func.isWrapper; first | (rw [if_pos (by decide +kernel)]; kernel_rfl) | (rw [if_neg (by decide +kernel)]; exact ⟨rfl, rfl⟩))
    (fun os started H enc _ => nsynced_lifted os started H enc)
end Go.Proofs.Ytajplflefagbaaa
