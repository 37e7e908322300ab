/-
  A Crash in which all that waits comes through leaves what the device told; one in which nothing does leaves what was firm: DiskCalm, for every input.
-/
import Derived.Test.YtajplflefagbaaaDkZ
import Derived.Test.YtajplflefagbaaaNPlays
namespace Go.Proofs.Ytajplflefagbaaa
open Go Go.RowKit Go.ChangeShapes Go.WideShapes Go.ChangeAt Go.Deep
set_option linter.unusedVariables false
set_option linter.unusedSimpArgs false

/-- The first j are 15. -/
def m15 (n j : Nat) : List UInt8 := List.replicate j 15 ++ List.replicate (n - j) 0
theorem m15_len (n j : Nat) (h : j ≤ n) : (m15 n j).length = n := by simp [m15]; omega
theorem m15_set (n j : Nat) (h : j < n) : (m15 n j).set j 15 = m15 n (j + 1) := by
  unfold m15
  rw [List.set_append_right _ _ (by simp), List.length_replicate, Nat.sub_self, show n - j = (n - (j + 1)) + 1 from by omega, List.replicate_succ, List.set_cons_zero, List.replicate_succ', List.append_assoc]
  rfl
theorem m15_all (n : Nat) : (m15 n n).map UInt8.toNat = List.replicate n 15 := by simp [m15]
set_option maxRecDepth 100000 in
set_option maxHeartbeats 40000000 in
theorem ncalm_any (A : Option Addr) (len cap : Nat) (O : Nat → OpV) (sy : Int) (w : World) (hlen : len ≤ 140737488351360) (hO : ∀ i, i < len → (O i).Ok w ∧ ∃ ad, A = some ad ∧ (O i).At w ad i) (hsy : -9223372036854775808 ≤ sy ∧ sy ≤ 9223372036854775807) :
    Calls Try.prog 6 #[.slice A len cap, .int .i64 sy] w fun e w' => e = .returned (.bool true) ∧ Below w.heap.size w w' := by
  have HO := Lib.hid hO; clear hO hsy
  by_cases h60 : 60 < len
  · have hi : (60 : Int) < (len : Int) := by omega
    go_enter Try.func6, Try.ntmps6
    go_wp2_with fail
    refine (known08_any _).mono ?_
    rintro e wk ⟨rfl, hbk⟩
    go_wp2_with fail
    go_ret
    exact ⟨rfl, hbk⟩
  · have hi : ¬ (60 : Int) < (len : Int) := by omega
    have hnew := cdnew_any w 8 (by decide) (by decide)
    rw [show ((8 : Nat) : Int) = 8 from rfl] at hnew
    have HN := Lib.hid hnew; clear hnew
    go_enter Try.func6, Try.ntmps6
    go_wp2_with fail
    refine HN.out.mono ?_
    rintro e w1 ⟨d, rfl, hcd, hb1⟩
    have HS3 := Lib.hid (And.intro hcd (And.intro (show ∀ b, (w.heap.size ≤ b ∧ b < w1.heap.size) → w.heap.size ≤ b from fun b h => h.1) (And.intro hb1 CI.start))); clear hcd hb1 HN
    go_wp2_with fail
    go_loopw [40] (fun i wr => ∃ (j : Nat) (L : Nat → Prop) (D : Dev), j ≤ len ∧ i = .int .i64 j ∧ CD wr d L 8 D ∧ (∀ b, L b → w.heap.size ≤ b) ∧ Below w.heap.size w wr ∧ CI 0 j D) (fun i _ => len - (intOf i).toNat)
    case atStart => exact ⟨0, _, _, Nat.zero_le _, rfl, HS3.out⟩
    case round =>
      rename World => wr
      obtain ⟨j, L, D, hj, rfl, hcd, hL, hB, hci⟩ := hrel
      clear HS3
      have HB := Lib.hid hB; clear hB
      have HL := Lib.hid hL; clear hL
      have HC := Lib.hid hcd; clear hcd
      by_cases hlt : j < len
      · have hji : (j : Int) < (len : Int) := by omega
        have HCI := Lib.hid hci; clear hci
        obtain ⟨hok, ad, hA, hat⟩ := HO.out j hlt
        obtain ⟨o, hoo⟩ : ∃ o, o = O j := ⟨_, rfl⟩
        rw [← hoo] at hok hat
        clear hoo
        obtain ⟨e0, e1, e2, e3, e4⟩ := hat.go HB.out
        have hcs : ∀ (k : Nat) (v : Value), ([.int .i64 o.k, .int .i64 o.i, .int .i64 o.a, .slice o.B o.bl.length o.bc, .slice o.M o.ml.length o.mc] : List Value)[k]? = some v → wr.cell? ((ad.add (j * 5)).add k) = some v := fun k v hk => by
          rcases k with _ | _ | _ | _ | _ | k
          · cases hk; exact e0
          · cases hk; rw [add_add, ← field_add _ _ _ (by decide)]; exact e1
          · cases hk; rw [add_add, ← field_add _ _ _ (by decide)]; exact e2
          · cases hk; rw [add_add, ← field_add _ _ _ (by decide)]; exact e3
          · cases hk; rw [add_add, ← field_add _ _ _ (by decide)]; exact e4
          · exact absurd (List.getElem?_eq_some_iff.1 hk).1 (by simp)
        have HCS := Lib.hid hcs; clear hcs e0 e1 e2 e3 e4 hat hok
        subst hA
        obtain ⟨x, hx⟩ : ∃ x, x = at7 o.i := ⟨_, rfl⟩
        have hx7 : bits .and .i64 o.i 7 = (x : Int) := by rw [i64_and7, hx]; rfl
        have hxh : hasB 8 (x : Int) = true := by rw [hx]; exact at7_has o.i
        clear hx
        have HXH := Lib.hid hxh; clear hxh
        by_cases hsj : (j : Int) = sy
        · subst hsj
          go_upto_region 9 with (refine wpList_load_at rfl 36 (.tmp 43) rfl (ad.add (j * 5)) rfl [.int .i64 o.k, .int .i64 o.i, .int .i64 o.a, .slice o.B o.bl.length o.bc, .slice o.M o.ml.length o.mc] _ HCS.out Try.underlying36 (by rw [op_size]; rfl) ?_)
          have hOb : Ob (wr.alloc (.cells (opA o) 36)) wr.heap.size o := heap_alloc_new _ _
          have hb0 : Below wr.heap.size wr (wr.alloc (.cells (opA o) 36)) := (Below.refl _ _).alloc (Nat.le_refl _) _
          have hbL : ¬ L wr.heap.size := fun h => Nat.lt_irrefl _ (HC.out.lt _ h)
          generalize wr.alloc (.cells (opA o) 36) = w0 at *
          generalize hb10 : wr.heap.size = b10 at *
          have HC0 := Lib.hid (HC.out.call (by rw [hb10]; exact hb0))
          have HB0 : Hid (Below w.heap.size w w0) := Lib.hid (HB.out.trans (hb0.mono (by rw [← hb10]; exact HB.out.size)))
          have HOB := Lib.hid (And.intro hOb hbL)
          clear hb0 hbL HC hb10 HB HCS hOb
          go_region_held3 (fun w' => w'.cell? ⟨b10, 1, none⟩ = some (.int .i64 o.i) ∧ w'.cell? ⟨b10, 2, none⟩ = some (.int .i64 o.a))
            (first | exact HOB.out.1.cells2 | (refine Ob.cells2 (o := o) ?_; assumption))
            ((first
              | (go_at_call 24; refine (cdwrite_any w3 d 8 L D (HC0.out.call hbw3) (x : Int) A3 (fullB (u8of o.a)) 256 c3 (fullB_len _) hcap3 (by decide) hrd3 (fun _ => hA3) (by have := HCI.out.load; omega)).mono ?_; rw [(HCI.out.write x HXH.out (fullB (u8of o.a)) (fullB_len _)).2]; rintro e w5 ⟨rfl, hc5, hk5⟩; have hob5 := hob3.keep hk5 HOB.out.2; have hci5 := (HCI.out.write x HXH.out (fullB (u8of o.a)) (fullB_len _)).1)
                  | (go_at_call 25; refine (cdsync_any w5 d 8 _ _ hc5 (by have h1 := hci5.load; omega)).mono ?_; rw [hci5.stepE]; rintro e w6 ⟨rfl, hc6, hk6⟩; have hob6 := hob5.keep hk6 (fun h => h.elim HOB.out.2 (fun h => by have h1 : w3.heap.size ≤ b10 := h.1; have := hob3.lt; omega)))
              | (go_at_call 29; refine (fullw_any o.a _).mono ?_; rintro e w3 ⟨v3, rfl, ho3, hb3⟩; have hbw3 : Below w0.heap.size w0 w3 := (Below.refl _ _).drew.trans (hb3.mono (Nat.le_refl _)); have hob3 := HOB.out.1.call hbw3; have hA3 := full_aside HC0.out.lt (show w3.ownsRow w0.heap.size _ _ _ _ _ from ho3); obtain ⟨A3, c3, rfl, _, hrd3⟩ := Rd.of_own ho3; replace hA3 := hA3 A3 256 c3 rfl; have hcap3 := own_cap8 ho3)))
          have hB3 := HB0.out.trans (hbw3.mono HB0.out.size)
          have HB5 := Lib.hid (Keep.toBelow hB3 hk5 HL.out hB3.size)
          have HL5 : Hid (∀ b, ext L w3 w5 b → w.heap.size ≤ b) := Lib.hid fun b h => h.elim (HL.out b) (fun h => Nat.le_trans hB3.size h.1)
          have hcf := HCI.out.writeSync x HXH.out (fullB (u8of o.a)) (fullB_len _)
          have hB6 := Keep.toBelow HB5.out hk6 HL5.out HB5.out.size
          have hL6 : ∀ b, ext (ext L w3 w5) w5 w6 b → w.heap.size ≤ b := fun b h => h.elim (HL5.out b) (fun h => Nat.le_trans HB5.out.size h.1)
          have HF := Lib.hid (And.intro hc6 (And.intro hL6 (And.intro hB6 hcf))); clear hc6 hk6 hB6 hL6 hcf hob6
          clear hc5 hk5 hob5 hob3 hbw3 hB3 hA3 hrd3 hcap3 ho3 hb3 HB0 HC0 HB5 HL5 hci5
          go_wp2_with fail
          go_roundw
          case rel => exact ⟨j + 1, _, _, by omega, by go_num, HF.out⟩
          case measure => simp [intOf]; omega
        · have HSJ : Hid (((j : Int) == sy) = false) := Lib.hid (by simp [hsj])
          clear hsj
          go_upto_region 9 with (refine wpList_load_at rfl 36 (.tmp 43) rfl (ad.add (j * 5)) rfl [.int .i64 o.k, .int .i64 o.i, .int .i64 o.a, .slice o.B o.bl.length o.bc, .slice o.M o.ml.length o.mc] _ HCS.out Try.underlying36 (by rw [op_size]; rfl) ?_)
          have hOb : Ob (wr.alloc (.cells (opA o) 36)) wr.heap.size o := heap_alloc_new _ _
          have hb0 : Below wr.heap.size wr (wr.alloc (.cells (opA o) 36)) := (Below.refl _ _).alloc (Nat.le_refl _) _
          have hbL : ¬ L wr.heap.size := fun h => Nat.lt_irrefl _ (HC.out.lt _ h)
          generalize wr.alloc (.cells (opA o) 36) = w0 at *
          generalize hb10 : wr.heap.size = b10 at *
          have HC0 := Lib.hid (HC.out.call (by rw [hb10]; exact hb0))
          have HB0 : Hid (Below w.heap.size w w0) := Lib.hid (HB.out.trans (hb0.mono (by rw [← hb10]; exact HB.out.size)))
          have HOB := Lib.hid (And.intro hOb hbL)
          clear hb0 hbL HC hb10 HB HCS hOb
          have hsjb := HSJ.out
          refine wp_region_noPanic ?_
          refine wp_region_held_drew (S := (fun w' => w'.cell? ⟨b10, 1, none⟩ = some (.int .i64 o.i) ∧ w'.cell? ⟨b10, 2, none⟩ = some (.int .i64 o.a))) (by kernel_rfl) ?_ (fun hHeld => ?_)
          · exact HOB.out.1.cells2
          refine wpAnyH_take (i := 0) (v := ?_) rfl (by kernel_rfl) (by kernel_rfl) (by kernel_rfl) (fun _ _ _ h => h) (Or.inl ⟨by rfl, ?_⟩) hHeld ?_
          rotate_left
          · intro w' hSw
            (try dsimp only at hSw)
            go_simp
            try with_reducible rfl
          try simp only [Act.put, zq1, zq2, zq3, zq4, zq5, zq6]
          refine wpAnyH_take (i := 1) (v := ?_) rfl (by kernel_rfl) (by kernel_rfl) (by kernel_rfl) (fun _ _ _ h => h) (Or.inl ⟨by rfl, ?_⟩) hHeld ?_
          rotate_left
          · intro w' hSw
            (try dsimp only at hSw)
            go_simp
            try with_reducible rfl
          try simp only [Act.put, zq1, zq2, zq3, zq4, zq5, zq6]
          refine wpAnyH_take (i := 2) (v := ?_) rfl (by kernel_rfl) (by kernel_rfl) (by kernel_rfl) (fun _ _ _ h => h) (Or.inl ⟨by rfl, ?_⟩) hHeld ?_
          rotate_left
          · intro w' hSw
            (try dsimp only at hSw)
            obtain ⟨hs1, hs2⟩ := hSw
            go_simp
            try with_reducible rfl
          try simp only [Act.put, zq1, zq2, zq3, zq4, zq5, zq6]
          refine wpAnyH_take (i := 3) (v := ?_) rfl (by kernel_rfl) (by kernel_rfl) (by kernel_rfl) (fun _ _ _ h => h) (Or.inl ⟨by rfl, ?_⟩) hHeld ?_
          rotate_left
          · intro w' hSw
            (try dsimp only at hSw)
            go_simp
            try with_reducible rfl
          try simp only [Act.put, zq1, zq2, zq3, zq4, zq5, zq6]
          refine wpAnyH_take (i := 4) (v := ?_) rfl (by kernel_rfl) (by kernel_rfl) (by kernel_rfl) (fun _ _ _ h => h) (Or.inl ⟨by rfl, ?_⟩) hHeld ?_
          rotate_left
          · intro w' hSw
            (try dsimp only at hSw)
            go_simp
            try with_reducible rfl
          try simp only [Act.put, zq1, zq2, zq3, zq4, zq5, zq6]
          refine wpAnyH_take (i := 5) (v := ?_) rfl (by kernel_rfl) (by kernel_rfl) (by kernel_rfl) (fun _ _ _ h => h) (Or.inl ⟨by rfl, ?_⟩) hHeld ?_
          rotate_left
          · intro w' hSw
            (try dsimp only at hSw)
            obtain ⟨hs1, hs2⟩ := hSw
            go_simp
            try with_reducible rfl
          try simp only [Act.put, zq1, zq2, zq3, zq4, zq5, zq6]
          refine wpAnyH_take (i := 6) (v := ?_) rfl (by kernel_rfl) (by kernel_rfl) (by kernel_rfl) (fun _ _ _ h => h) (Or.inl ⟨by rfl, ?_⟩) hHeld ?_
          rotate_left
          · intro w' hSw
            (try dsimp only at hSw)
            go_simp
            try with_reducible rfl
          try simp only [Act.put, zq1, zq2, zq3, zq4, zq5, zq6]
          refine wpAnyH_ready (rs := [7]) (by kernel_rfl) (by simp) ?_
          refine AllReadyH.cons rfl (fun K hK => ?_) (AllReadyH.nil)
          try simp only [zq1, zq2, zq3]
          go_simp
          refine (fullw_any o.a _).mono ?_
          rintro e w3 ⟨v3, rfl, ho3, hb3⟩
          have hbw3 : Below w0.heap.size w0 w3 := (Below.refl _ _).drew.trans (hb3.mono (Nat.le_refl _))
          have hob3 := HOB.out.1.call hbw3
          have hA3 := full_aside HC0.out.lt (show w3.ownsRow w0.heap.size _ _ _ _ _ from ho3)
          obtain ⟨A3, c3, rfl, _, hrd3⟩ := Rd.of_own ho3
          replace hA3 := hA3 A3 256 c3 rfl
          have hcap3 := own_cap8 ho3
          refine hK.out _ _ ?_ (fun hHeld => ?_)
          · exact hob3.cells2
          clear hK K
          try simp only [Act.put, zq1, zq2, zq3, zq4, zq5, zq6]
          refine wpAnyH_ready (rs := [8]) (by kernel_rfl) (by simp) ?_
          refine AllReadyH.cons rfl (fun K hK => ?_) (AllReadyH.nil)
          try simp only [zq1, zq2, zq3]
          go_simp
          refine (cdwrite_any w3 d 8 L D (HC0.out.call hbw3) (x : Int) A3 (fullB (u8of o.a)) 256 c3 (fullB_len _) hcap3 (by decide) hrd3 (fun _ => hA3) (by have := HCI.out.load; omega)).mono ?_
          rw [(HCI.out.write x HXH.out (fullB (u8of o.a)) (fullB_len _)).2]
          rintro e w5 ⟨rfl, hc5, hk5⟩
          have hob5 := hob3.keep hk5 HOB.out.2
          have hci5 := (HCI.out.write x HXH.out (fullB (u8of o.a)) (fullB_len _)).1
          refine hK.out _ _ ?_ (fun hHeld => ?_)
          · exact hob5.cells2
          clear hK K
          try simp only [Act.put, zq1, zq2, zq3, zq4, zq5, zq6]
          refine wpAnyH_take (i := 9) (v := ?_) rfl (by kernel_rfl) (by kernel_rfl) (by kernel_rfl) (fun _ _ _ h => h) (Or.inl ⟨by rfl, ?_⟩) hHeld ?_
          rotate_left
          · intro w' hSw
            (try dsimp only at hSw)
            go_simp
            try with_reducible rfl
          try simp only [Act.put, zq1, zq2, zq3, zq4, zq5, zq6]
          refine wpAnyH_take (i := 10) (v := ?_) rfl (by kernel_rfl) (by kernel_rfl) (by kernel_rfl) (fun _ _ _ h => h) (Or.inl ⟨by rfl, ?_⟩) hHeld ?_
          rotate_left
          · intro w' hSw
            (try dsimp only at hSw)
            go_simp
            try with_reducible rfl
          try simp only [Act.put, zq1, zq2, zq3, zq4, zq5, zq6]
          refine wpAnyH_take (i := 11) (v := ?_) rfl (by kernel_rfl) (by kernel_rfl) (by kernel_rfl) (fun _ _ _ h => h) (Or.inl ⟨by rfl, ?_⟩) hHeld ?_
          rotate_left
          · intro w' hSw
            (try dsimp only at hSw)
            go_simp
            try with_reducible rfl
          try simp only [Act.put, zq1, zq2, zq3, zq4, zq5, zq6]
          refine wpAnyH_take (i := 12) (v := ?_) rfl (by kernel_rfl) (by kernel_rfl) (by kernel_rfl) (fun _ _ _ h => h) (Or.inl ⟨by rfl, ?_⟩) hHeld ?_
          rotate_left
          · intro w' hSw
            (try dsimp only at hSw)
            go_simp
            try with_reducible rfl
          try simp only [Act.put, zq1, zq2, zq3, zq4, zq5, zq6]
          refine wpAnyH_take (i := 13) (v := ?_) rfl (by kernel_rfl) (by kernel_rfl) (by kernel_rfl) (fun _ _ _ h => h) (Or.inl ⟨by rfl, ?_⟩) hHeld ?_
          rotate_left
          · intro w' hSw
            (try dsimp only at hSw)
            go_simp
            try with_reducible rfl
          try simp only [Act.put, zq1, zq2, zq3, zq4, zq5, zq6]
          refine wpAnyH_take (i := 14) (v := ?_) rfl (by kernel_rfl) (by kernel_rfl) (by kernel_rfl) (fun _ _ _ h => h) (Or.inl ⟨by rfl, ?_⟩) hHeld ?_
          rotate_left
          · intro w' hSw
            (try dsimp only at hSw)
            go_simp
            try with_reducible rfl
          try simp only [Act.put, zq1, zq2, zq3, zq4, zq5, zq6]
          refine wpAnyH_take (i := 15) (v := undef) rfl (by kernel_rfl) (by kernel_rfl) (by kernel_rfl) (fun _ _ _ h => h) (Or.inr ⟨by rfl, rfl⟩) hHeld ?_
          try simp only [Act.put, zq1, zq2, zq3, zq4, zq5, zq6]
          refine wpAnyH_take (i := 16) (v := undef) rfl (by kernel_rfl) (by kernel_rfl) (by kernel_rfl) (fun _ _ _ h => h) (Or.inr ⟨by rfl, rfl⟩) hHeld ?_
          try simp only [Act.put, zq1, zq2, zq3, zq4, zq5, zq6]
          refine wpAnyH_take (i := 17) (v := undef) rfl (by kernel_rfl) (by kernel_rfl) (by kernel_rfl) (fun _ _ _ h => h) (Or.inr ⟨by rfl, rfl⟩) hHeld ?_
          try simp only [Act.put, zq1, zq2, zq3, zq4, zq5, zq6]
          refine wpAnyH_take (i := 18) (v := ?_) rfl (by kernel_rfl) (by kernel_rfl) (by kernel_rfl) (fun _ _ _ h => h) (Or.inl ⟨by rfl, ?_⟩) hHeld ?_
          rotate_left
          · intro w' hSw
            (try dsimp only at hSw)
            go_simp
            try with_reducible rfl
          try simp only [Act.put, zq1, zq2, zq3, zq4, zq5, zq6]
          refine wpAnyH_take (i := 19) (v := ?_) rfl (by kernel_rfl) (by kernel_rfl) (by kernel_rfl) (fun _ _ _ h => h) (Or.inl ⟨by rfl, ?_⟩) hHeld ?_
          rotate_left
          · intro w' hSw
            (try dsimp only at hSw)
            go_simp
            try with_reducible rfl
          try simp only [Act.put, zq1, zq2, zq3, zq4, zq5, zq6]
          refine wpAnyH_done (by kernel_rfl) ?_ _
          refine NoPanic.normal ?_
          have hB3 := HB0.out.trans (hbw3.mono HB0.out.size)
          have hB5 := Keep.toBelow hB3 hk5 HL.out hB3.size
          have hL5 : ∀ b, ext L w3 w5 b → w.heap.size ≤ b := fun b h => h.elim (HL.out b) (fun h => Nat.le_trans hB3.size h.1)
          have HF := Lib.hid (And.intro hc5 (And.intro hL5 (And.intro hB5 hci5)))
          clear hc5 hk5 hob5 hob3 hbw3 hB3 hA3 hrd3 hcap3 ho3 hb3 HB0 HC0 hB5 hL5 hci5
          go_wp2_with fail
          go_roundw
          case rel => exact ⟨j + 1, _, _, by omega, by go_num, HF.out⟩
          case measure => simp [intOf]; omega
      · skip
        have hji : ¬ (j : Int) < (len : Int) := by omega
        have HCI := Lib.hid (hci.more (show j ≤ len from hj)); clear hci
        obtain ⟨i0, hi0, hz0, hz1, hz2⟩ := info_parts info_b
        go_upto_region 13 with (at_make; refine wpList_make_full _ rfl _ _ 34 rfl wr.heap.size 5 i0 (.int .u8 0) 1 Try.underlying34 hi0 hz0 hz1 .i64 .i64 _ _ len rfl rfl rfl rfl (by rw [hz2]; omega) (by unfold maxLen; omega) (Nat.le_refl _) ?_; intro w0 hown0 hgrow0)
        have hown1 : w0.ownsRow wr.heap.size 5 1 (.slice (some ⟨wr.heap.size, 0, none⟩) len len) len (vb (m15 len 0)) := by
          have e : (madeCells (Value.int .u8 0).cells (len * 1)).toList = vb (m15 len 0) := by
            rw [show (Value.int .u8 0).cells = #[Value.int .u8 0] from rfl, Nat.mul_one, toList_madeCells_one]
            unfold m15 vb
            rw [List.replicate_zero, List.nil_append, List.map_replicate]
            rfl
          rw [← e]; exact hown0
        have hb0 : Below wr.heap.size wr w0 := (Below.refl _ _).grown hgrow0 (Nat.le_refl _) (by simp)
        clear hown0 hgrow0 hi0 hz0 hz1 hz2
        have H0 := Lib.hid (And.intro hown1 hb0); clear hown1 hb0
        go_wp2_with fail
        go_loopw [71] (fun i wz => ∃ m : Nat, m ≤ len ∧ i = .int .i64 m ∧ wz.ownsRow wr.heap.size 5 1 (.slice (some ⟨wr.heap.size, 0, none⟩) len len) len (vb (m15 len m)) ∧ Below wr.heap.size wr wz) (fun i _ => len - (intOf i).toNat)
        case atStart => exact ⟨0, Nat.zero_le _, rfl, H0.out⟩
        case round =>
          rename World => wz
          obtain ⟨m, hm, rfl, hown, hb⟩ := hrel
          clear H0
          by_cases hlt2 : m < len
          · have hfz := hown.frozenAt m
            have hce := (hown.cellAt m (by omega)).trans (List.getElem?_eq_getElem (by rw [List.length_map, m15_len len m (by omega)]; exact hlt2))
            have hst := hown.stored m (.int .u8 15)
            have hse : (vb (m15 len m)).set m (.int .u8 15) = vb (m15 len (m + 1)) := by
              rw [← m15_set len m hlt2]; simp [vb, List.map_set]
            rw [hse] at hst
            have HST := Lib.hid hst; clear hst hse hown
            have hmi : (m : Int) < (len : Int) := by omega
            have HBb := Lib.hid hb; clear hb
            go_wp2_with fail
            go_roundw
            case rel => exact ⟨m + 1, by omega, by go_num, HST.out.1, HBb.out.grown HST.out.2 HBb.out.size (by simp)⟩
            case measure => simp [intOf]; omega
          · have hmi : ¬ (m : Int) < (len : Int) := by omega
            have hml : m = len := by omega
            rw [hml] at hown
            clear hml
            have HOW := Lib.hid hown; clear hown
            have HBW := Lib.hid hb; clear hb
            have HC1 := Lib.hid (HC.out.call HBW.out)
            have hwl : D.waits.length ≤ 1000000 := by have := HCI.out.w; omega
            go_wp2_with fail
            refine (cdfork_any wz d 8 L D HC1.out hwl).mono ?_
            rintro e v1 ⟨x, rfl, hx1, hb1⟩
            have HC2 := Lib.hid (HC1.out.call hb1)
            have HX1 := Lib.hid (And.intro hx1 hb1); clear hx1 hb1
            go_wp2_with fail
            refine (cdfork_any v1 d 8 L D HC2.out hwl).mono ?_
            rintro e v2 ⟨y, rfl, hy2, hb2⟩
            have HY2 := Lib.hid (And.intro hy2 hb2); clear hy2 hb2
            have HX2 := Lib.hid (HX1.out.1.call HY2.out.2)
            have HC3 := Lib.hid (HC2.out.call HY2.out.2)
            have hown2 : v2.ownsRow wr.heap.size 5 1 (.slice (some ⟨wr.heap.size, 0, none⟩) len len) len (vb (m15 len len)) := own_below (own_below HOW.out HX1.out.2) HY2.out.2
            have hgz : wr.heap.size < wz.heap.size := (HOW.out.lt wr.heap.size rfl).2
            have hcc := cdcrash_any v2 x 8 _ D HX2.out (some ⟨wr.heap.size, 0, none⟩) (m15 len len) len len (m15_len _ _ (Nat.le_refl _)) (Nat.le_refl _) (by omega) (own_rd8 hown2) (fun _ ad e h => by cases e; have h1 : wz.heap.size ≤ wr.heap.size := h.1; omega) hwl
            rw [m15_all] at hcc
            have HCC := Lib.hid hcc; clear hcc hown2
            go_wp2_with fail
            refine HCC.out.mono ?_
            rintro e v3 ⟨rfl, hx3, hk3⟩
            have HX3 := Lib.hid hx3; clear hx3 HCC
            have hz12 := HX1.out.2.size
            have hz23 := HY2.out.2.size
            have hy3 := HY2.out.1.keep hk3 (fun b h1 h2 => by omega)
            have hc3 := HC3.out.keep hk3 (fun b h1 h2 => by have := HC1.out.lt b h1; omega)
            have HYC3 := Lib.hid (And.intro hy3 (And.intro hc3 hk3)); clear hy3 hc3 hk3
            go_wp2_with fail
            refine (cdcrash_any v3 y 8 _ D HYC3.out.1 none [] 0 0 rfl (Nat.le_refl _) (by decide) (Rd.nil _ _ _) (fun _ ad e => by cases e) hwl).mono ?_
            rintro e v4 ⟨rfl, hy4, hk4⟩
            have hz34 := HYC3.out.2.2.size
            have hx4 := HX3.out.keep hk4 (fun b h1 h2 => h1.elim (fun h1 => by omega) (fun h1 => by have := h1.1; omega))
            have hc4 := HYC3.out.2.1.keep hk4 (fun b h1 h2 => by have := HC1.out.lt b h1; omega)
            have hBz := HB.out.trans (HBW.out.mono HB.out.size)
            have hB2 := hBz.trans ((HX1.out.2.trans (HY2.out.2.mono HX1.out.2.size)).mono hBz.size)
            have hB3 := Keep.toBelow hB2 HYC3.out.2.2 (fun b h => Nat.le_trans hBz.size h.1) hB2.size
            have hB4 := Keep.toBelow hB3 hk4 (fun b h => Nat.le_trans (Nat.le_trans hBz.size hz12) h.1) hB3.size
            rw [show ([] : List UInt8).map UInt8.toNat = [] from rfl] at hy4
            have HX := Lib.hid (And.intro hc4 (And.intro hx4 (And.intro hy4 hB4))); clear hc4 hx4 hy4 hB4 hB3 hB2 hBz hk4 hz12 hz23 hz34 hgz HX3 HYC3 HX2 HC3 HY2 HX1 HC2 HC1
            go_wp2_with fail
            go_loopw [99] (fun i wz => ∃ k : Nat, k ≤ 8 ∧ i = .int .i64 k ∧ Below v4.heap.size v4 wz) (fun i _ => 8 - (intOf i).toNat)
            case atStart => exact ⟨0, Nat.zero_le _, rfl, Below.refl _ _⟩
            case round =>
              rename World => wz
              obtain ⟨k, hk, rfl, hbz⟩ := hrel
              by_cases hk8 : k < 8
              · have hki : (k : Int) < 8 := by omega
                have hkh : hasB 8 (k : Int) = true := (hasB_iff 8 _).2 ⟨by omega, hki⟩
                obtain ⟨q1, q2, q3, q4, q5, q6⟩ := HCI.out.reads len (by omega) k hkh
                have q0 : Dev.firmE 8 (k : Int) = 0 := by unfold Dev.firmE; rw [if_pos hkh]
                have HBZ0 := Lib.hid hbz; clear hbz
                obtain ⟨nb, hnb⟩ : ∃ nb, nb = D.readB 8 (k : Int) := ⟨_, rfl⟩
                obtain ⟨fb, hfb⟩ : ∃ fb, fb = D.firmB 8 (k : Int) := ⟨_, rfl⟩
                have HQ := Lib.hid (And.intro q0 (And.intro q1 (And.intro q2 (And.intro q3 (And.intro q4 (And.intro q5 (And.intro q6 (And.intro hnb hfb)))))))); clear q0 q1 q2 q3 q4 q5 q6 hnb hfb hkh
                have hq1 := cdread_any wz d 8 _ D (HX.out.1.call HBZ0.out) (k : Int)
                rw [HQ.out.2.1, ← HQ.out.2.2.2.2.2.2.2.1] at hq1
                have HQ1 := Lib.hid hq1; clear hq1
                go_wp2_with fail
                refine HQ1.out.mono ?_
                rintro e z1 ⟨v, rfl, ho, hb⟩
                obtain ⟨A1, c1, rfl, _, hr1⟩ := Rd.of_own8 ho
                have HBZ1 := Lib.hid (HBZ0.out.trans (hb.mono HBZ0.out.size))
                have HR1_1 := Lib.hid hr1
                clear hr1 ho hb HQ1
                have hq2 := cdfirm_any z1 d 8 _ D (HX.out.1.call HBZ1.out) (k : Int)
                rw [HQ.out.1, ← HQ.out.2.2.2.2.2.2.2.2] at hq2
                have HQ2 := Lib.hid hq2; clear hq2
                go_wp2_with fail
                refine HQ2.out.mono ?_
                rintro e z2 ⟨v, rfl, ho, hb⟩
                obtain ⟨A2, c2, rfl, _, hr2⟩ := Rd.of_own8 ho
                have HBZ2 := Lib.hid (HBZ1.out.trans (hb.mono HBZ1.out.size))
                have HR1_2 := Lib.hid (HR1_1.out.go hb)
                clear HR1_1
                have HR2_2 := Lib.hid hr2
                clear hr2 ho hb HQ2
                have hq3 := cdread_any z2 x 8 _ _ (HX.out.2.1.call HBZ2.out) (k : Int)
                rw [HQ.out.2.2.1, HQ.out.2.2.2.2.1, ← HQ.out.2.2.2.2.2.2.2.1] at hq3
                have HQ3 := Lib.hid hq3; clear hq3
                go_wp2_with fail
                refine HQ3.out.mono ?_
                rintro e z3 ⟨v, rfl, ho, hb⟩
                obtain ⟨A3, c3, rfl, _, hr3⟩ := Rd.of_own8 ho
                have HBZ3 := Lib.hid (HBZ2.out.trans (hb.mono HBZ2.out.size))
                have HR1_3 := Lib.hid (HR1_2.out.go hb)
                clear HR1_2
                have HR2_3 := Lib.hid (HR2_2.out.go hb)
                clear HR2_2
                have HR3_3 := Lib.hid hr3
                clear hr3 ho hb HQ3
                have hq4 := cdread_any z3 y 8 _ _ (HX.out.2.2.1.call HBZ3.out) (k : Int)
                rw [HQ.out.2.2.2.1, HQ.out.2.2.2.2.2.1, ← HQ.out.2.2.2.2.2.2.2.2] at hq4
                have HQ4 := Lib.hid hq4; clear hq4
                go_wp2_with fail
                refine HQ4.out.mono ?_
                rintro e z4 ⟨v, rfl, ho, hb⟩
                obtain ⟨A4, c4, rfl, _, hr4⟩ := Rd.of_own8 ho
                have HBZ4 := Lib.hid (HBZ3.out.trans (hb.mono HBZ3.out.size))
                have HR1_4 := Lib.hid (HR1_3.out.go hb)
                clear HR1_3
                have HR2_4 := Lib.hid (HR2_3.out.go hb)
                clear HR2_3
                have HR3_4 := Lib.hid (HR3_3.out.go hb)
                clear HR3_3
                have HR4_4 := Lib.hid hr4
                clear hr4 ho hb HQ4
                have hq5 := cdfirm_any z4 x 8 _ _ (HX.out.2.1.call HBZ4.out) (k : Int)
                rw [HQ.out.1, HQ.out.2.2.2.2.2.2.1, ← HQ.out.2.2.2.2.2.2.2.1] at hq5
                have HQ5 := Lib.hid hq5; clear hq5
                go_wp2_with fail
                refine HQ5.out.mono ?_
                rintro e z5 ⟨v, rfl, ho, hb⟩
                obtain ⟨A5, c5, rfl, _, hr5⟩ := Rd.of_own8 ho
                have HBZ5 := Lib.hid (HBZ4.out.trans (hb.mono HBZ4.out.size))
                have HR1_5 := Lib.hid (HR1_4.out.go hb)
                clear HR1_4
                have HR2_5 := Lib.hid (HR2_4.out.go hb)
                clear HR2_4
                have HR3_5 := Lib.hid (HR3_4.out.go hb)
                clear HR3_4
                have HR4_5 := Lib.hid (HR4_4.out.go hb)
                clear HR4_4
                have HR5_5 := Lib.hid hr5
                clear hr5 ho hb HQ5
                have s1 := run_str (P := Try.prog) 34 9 5 Try.underlying34 Try.underlying5 Try.underlying9 (rfl : nb.length = nb.length) c1 HR1_5.out
                have s2 := run_str (P := Try.prog) 34 9 5 Try.underlying34 Try.underlying5 Try.underlying9 (rfl : fb.length = fb.length) c2 HR2_5.out
                have s3 := run_str (P := Try.prog) 34 9 5 Try.underlying34 Try.underlying5 Try.underlying9 (rfl : nb.length = nb.length) c3 HR3_5.out
                have s4 := run_str (P := Try.prog) 34 9 5 Try.underlying34 Try.underlying5 Try.underlying9 (rfl : fb.length = fb.length) c4 HR4_5.out
                have s5 := run_str (P := Try.prog) 34 9 5 Try.underlying34 Try.underlying5 Try.underlying9 (rfl : nb.length = nb.length) c5 HR5_5.out
                go_wp2_with fail
                go_roundw
                case rel => exact ⟨k + 1, by omega, by go_num, HBZ5.out⟩
                case measure => simp [intOf]; omega
              · have hki : ¬ (k : Int) < 8 := by omega
                have HBW := Lib.hid (HX.out.2.2.2.trans (hbz.mono HX.out.2.2.2.size))
                go_wp2_with fail
                refine (known08_any _).mono ?_
                rintro e wk ⟨rfl, hbk⟩
                go_wp2_with fail
                go_ret
                exact ⟨rfl, HBW.out.trans (hbk.mono HBW.out.size)⟩
set_option maxRecDepth 100000 in
theorem ncalm_lifted (os : Os) (started : os.Started) (H : Type) (enc : TypeId × Value → H) :
    ReturnsInHanded {} Try.checked os 6 .any (Rows.diskCalmSpec.pre6 enc Try.prog Try.f6 Rows.diskCalmRow.domain false) (Rows.diskCalmSpec.post enc Try.prog Try.f6 false true false false) := by
  refine returnsInHanded_of_change_sized (C := Try.checked) Try.own started (by kernel_rfl) Try.func6
    (ChangeSpec.witness6 (enc := enc) (C := Try.checked) false ⟨#[], #[.slice none 0 0, .int .i64 0], []⟩ 8 (by kernel_rfl) (by kernel_rfl) (by kernel_rfl) (by kernel_rfl)) ?_
  intro W base args ds gs before hval0 hW _ hsz0 _
  have hsz : (DataW.weightsEach Try.prog (Try.f6.params.toList ++ Rows.diskCalmSpec.plain.varTypes Try.prog) (ds ++ gs)).all (· ≤ reachBytes) = true := hsz0
  have hval : ∀ (j : Nat) t v, Try.f6.params[j]? = some t → args[j]? = some v → Value.okWide Try.prog W .any base t v := hval0
  have hW' := hW
  obtain ⟨p, q, hA0, hV, rfl, _, _⟩ := hW
  have hA : DataW.TrodAll enc Try.prog W 0 (fun _ => true) true Try.f6.params.toList args.toList ds p := hA0
  rw [Try.params6] at hA hval hsz
  have hlt := hW'.lt
  clear hA0 hval0 hsz0
  obtain ⟨v0, vs0, d0, ds0, p0, q0, hv0, rfl, rfl, h0, r0⟩ := trodAll_cons hA
  obtain ⟨v1, vs1, d1, ds1, p1, q1, hv1, rfl, rfl, h1, r1⟩ := trodAll_cons r0
  subst hv1
  obtain ⟨rfl, rfl, rfl⟩ := trodAll_nil r1
  obtain rfl : args = #[v0, v1] := by cases args; simp_all
  obtain ⟨rfl, rfl⟩ := trodVars_none hV
  obtain ⟨A0, len0, cap0, rfl, le0, hs0⟩ := open_structsW Try.underlying22 Try.underlying36 (by kernel_rfl) (by kernel_rfl) (hval 0 22 v0 rfl rfl) h0 (fun m hm => by have := List.all_eq_true.1 hsz m (DataW.weights_mem_each (j := 0) (t := 22) rfl rfl m hm); simpa using this) (of_decide_eq_true (by kernel_rfl))
  obtain ⟨O0, hk0⟩ := structs_op Try.underlying3 Try.underlying3 Try.underlying3 Try.underlying34 Try.underlying34 Try.underlying5 Try.cellsU8 Try.bytesU8 hs0
  obtain ⟨a1, rfl, rfl, rfl, w1⟩ := open_int Try.underlying3 (hval 1 3 v1 rfl rfl) h1
  have b1 : -9223372036854775808 ≤ a1 ∧ a1 ≤ 9223372036854775807 := by simpa [Lit.wf, IntKind.min, IntKind.max, IntKind.signed, IntKind.bits] using w1
  refine (ncalm_any A0 len0 cap0 O0 a1 W (by unfold reachBytes at le0; omega) hk0 b1).mono fun e W' ⟨he, hb⟩ => ⟨_, he, ?_⟩
  exact law_post 4 Try.underlying4 (by kernel_rfl) rfl Try.laidOut (by kernel_rfl) hW' ⟨rfl, rfl, rfl⟩ hb

theorem ncalm_holds : Rows.DiskCalmSaid :=
  OpenClaim.holds_of_wide 6 Try.f6 rfl rfl rfl rfl rfl rfl rfl ⟨rfl, rfl, rfl, rfl, rfl⟩ rfl rfl rfl rfl rfl (by kernel_rfl) Try.func6 (by kernel_rfl)
    (of_decide_eq_true (by kernel_rfl)) (by unfold Func.isWrapper; first | (rw [if_pos (by decide +kernel)]; kernel_rfl) | (rw [if_neg (by decide +kernel)]; exact ⟨rfl, rfl⟩))
    (fun os started H enc _ => ncalm_lifted os started H enc)
end Go.Proofs.Ytajplflefagbaaa
