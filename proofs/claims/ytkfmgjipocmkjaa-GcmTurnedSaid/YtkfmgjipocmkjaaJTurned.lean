/-
  What was sealed is opened as it was; with a byte that is another one, just where the document's tag is still that of what is there: GcmTurned, for every input.
-/
import Derived.Test.YtkfmgjipocmkjaaFoldA
import Derived.Test.YtkfmgjipocmkjaaFoldI
import Derived.WalkLawsBesides
namespace Go.Proofs.Ytkfmgjipocmkjaa
open Go Go.RowKit Go.ChangeShapes Go.WideShapes Go.ChangeAt Go.Deep
set_option linter.unusedVariables false
set_option linter.unusedSimpArgs false

def AnsM (w : World) (m : Nat) (B : List UInt8) (R : Nat) (e : Ending) (w' : World) : Prop :=
  ∃ C c, e = .returned (.tuple #[.slice C m c, .int .i64 (R : Int)]) ∧ m ≤ c ∧ Rd w' w'.heap.size C (vb B) ∧ Below w.heap.size w w'
theorem ansM {w : World} {m : Nat} {B : List UInt8} {R : Nat} (hm : m = B.length) : ∀ (e : Ending) (w' : World), Ans w B R e w' → AnsM w m B R e w' := by
  subst hm
  exact fun e w' h => h
theorem vb_get (l : List UInt8) (k : Nat) (hk : k < l.length) : (vb l)[k]? = some (.int .u8 ((l.map UInt8.toNat).getD k 0 : Int)) := by
  simp [vb, List.getD, hk]
theorem vb_set (l : List UInt8) (k z : Nat) (hz : z < 256) : vb (l.set k (UInt8.ofNat z)) = (vb l).set k (.int .u8 (z : Int)) := by
  unfold vb
  rw [List.map_set]
  congr 2
  rw [UInt8.toNat_ofNat', Nat.mod_eq_of_lt hz]
theorem set_self (l : List UInt8) (k : Nat) (hk : k < l.length) : l.set k (UInt8.ofNat ((l.map UInt8.toNat).getD k 0)) = l := by
  have e : UInt8.ofNat ((l.map UInt8.toNat).getD k 0) = l[k] := by simp [List.getD, hk]
  rw [e, List.set_getElem_self]
theorem nm_lt2 (l : List UInt8) (k : Nat) : (l.map UInt8.toNat).getD k 0 < 256 := by
  rw [List.getD_eq_getElem?_getD]
  cases h : (l.map UInt8.toNat)[k]? with
  | none => simp
  | some x => simpa using vb_lt l x (List.mem_of_getElem? h)
theorem box6_0 {w : World} {b t : Nat} {v0 v1 v2 v3 v4 v5 : Value} (h : w.heap[b]? = some (.cells #[v0, v1, v2, v3, v4, v5] t (0, 0))) : w.cell? ⟨b, 0, none⟩ = some v0 := by rw [cell_of_row _ _ _ _ _ _ h]; rfl
theorem box6_1 {w : World} {b t : Nat} {v0 v1 v2 v3 v4 v5 : Value} (h : w.heap[b]? = some (.cells #[v0, v1, v2, v3, v4, v5] t (0, 0))) : w.cell? ⟨b, 1, none⟩ = some v1 := by rw [cell_of_row _ _ _ _ _ _ h]; rfl
theorem box6_2 {w : World} {b t : Nat} {v0 v1 v2 v3 v4 v5 : Value} (h : w.heap[b]? = some (.cells #[v0, v1, v2, v3, v4, v5] t (0, 0))) : w.cell? ⟨b, 2, none⟩ = some v2 := by rw [cell_of_row _ _ _ _ _ _ h]; rfl
theorem box6_3 {w : World} {b t : Nat} {v0 v1 v2 v3 v4 v5 : Value} (h : w.heap[b]? = some (.cells #[v0, v1, v2, v3, v4, v5] t (0, 0))) : w.cell? ⟨b, 3, none⟩ = some v3 := by rw [cell_of_row _ _ _ _ _ _ h]; rfl
theorem box6_4 {w : World} {b t : Nat} {v0 v1 v2 v3 v4 v5 : Value} (h : w.heap[b]? = some (.cells #[v0, v1, v2, v3, v4, v5] t (0, 0))) : w.cell? ⟨b, 4, none⟩ = some v4 := by rw [cell_of_row _ _ _ _ _ _ h]; rfl
theorem box6_5 {w : World} {b t : Nat} {v0 v1 v2 v3 v4 v5 : Value} (h : w.heap[b]? = some (.cells #[v0, v1, v2, v3, v4, v5] t (0, 0))) : w.cell? ⟨b, 5, none⟩ = some v5 := by rw [cell_of_row _ _ _ _ _ _ h]; rfl

set_option maxRecDepth 100000 in
set_option maxHeartbeats 20000000 in
theorem jturned_any (K : Option Addr) (kl : List UInt8) (nk ck : Nat) (hkn : kl.length = nk) (A : Option Addr) (nl : List UInt8) (nn cn : Nat) (hnn : nl.length = nn) (D : Option Addr) (al : List UInt8) (na ca : Nat) (hna : al.length = na)
    (B : Option Addr) (tl : List UInt8) (nt ct : Nat) (hnt : tl.length = nt) (at_ : Int) (by_ : Nat) (w : World)
    (hl1 : nk ≤ 140737488351232) (c1 : nk ≤ ck) (h1 : Rd w w.heap.size K (vb kl)) (hl2 : nn ≤ 140737488351232) (c2 : nn ≤ cn) (h2 : Rd w w.heap.size A (vb nl)) (hl3 : na ≤ 140737488351232) (c3 : na ≤ ca) (h3 : Rd w w.heap.size D (vb al))
    (hl4 : nt ≤ 140737488351232) (c4 : nt ≤ ct) (h4 : Rd w w.heap.size B (vb tl)) (hat : -9223372036854775808 ≤ at_ ∧ at_ ≤ 9223372036854775807) (hby : by_ ≤ 255) :
    Calls Try.prog 5 #[.agg #[.slice K nk ck, .slice A nn cn, .slice D na ca, .slice B nt ct, .int .i64 at_, .int .u8 (by_ : Int)]] w fun e w' => e = .returned (.bool true) ∧ Below w.heap.size w w' := by
  have HK := Lib.hid hkn; clear hkn
  have HA := Lib.hid hnn; clear hnn
  have HD := Lib.hid hna; clear hna
  have HT := Lib.hid hnt; clear hnt
  have hBw : Below w.heap.size w (w.alloc (.cells #[.slice K nk ck, .slice A nn cn, .slice D na ca, .slice B nt ct, .int .i64 at_, .int .u8 (by_ : Int)] 32)) := (Below.refl _ _).alloc (Nat.le_refl _) _
  have HX : Hid ((w.alloc (.cells #[.slice K nk ck, .slice A nn cn, .slice D na ca, .slice B nt ct, .int .i64 at_, .int .u8 (by_ : Int)] 32)).heap[w.heap.size]? = some (.cells #[.slice K nk ck, .slice A nn cn, .slice D na ca, .slice B nt ct, .int .i64 at_, .int .u8 (by_ : Int)] 32 (0, 0))) := Lib.hid (heap_alloc_new w _)
  have R1 := Lib.hid (h1.go hBw); clear h1
  have R2 := Lib.hid (h2.go hBw); clear h2
  have R3 := Lib.hid (h3.go hBw); clear h3
  have R4 := Lib.hid (h4.go hBw); clear h4
  have HB := Lib.hid hBw; clear hBw
  have hm6 := fun W => rmay6_any K A nk nn ck cn W
  by_cases hok : (nk = 16 ∨ nk = 32) ∧ nn = 12
  · rw [decide_eq_true hok] at hm6
    have HM := Lib.hid hm6; clear hm6
    have HOK := Lib.hid hok; clear hok
    by_cases ha : na ≤ 400
    · have i1 : ¬ (400 : Int) < (na : Int) := by omega
      by_cases ht : nt ≤ 400
      · have i2 : ¬ (400 : Int) < (nt : Int) := by omega
        have s0 : selR kl nl al tl = 0 := by unfold selR; rw [HK.out, HA.out, HD.out, HT.out]; exact selE_zero HOK.out.1 HOK.out.2 (by omega) (by omega)
        have sb : selB kl nl al tl = sealb kl nl al tl := by unfold selB; rw [if_pos s0]
        have o0 : opnR kl nl al (sealb kl nl al tl) = 0 := opnR_seal _ _ _ _ s0
        have o1 : opnB kl nl al (sealb kl nl al tl) = tl := opnB_seal _ _ _ _ s0
        have lb : (sealb kl nl al tl).length = nt + 16 := by rw [sealb_len, HT.out]
        have hs := fun (W : World) (q1 : Rd W W.heap.size K (vb kl)) (q2 : Rd W W.heap.size A (vb nl)) (q3 : Rd W W.heap.size D (vb al)) (q4 : Rd W W.heap.size B (vb tl)) => gseal_own K A D B kl nl al tl nk nn na nt ck cn ca ct HK.out HA.out HD.out HT.out c1 c2 c3 c4 (by omega) (by omega) (by omega) (by omega) W q1 q2 q3 q4
        rw [sb, s0] at hs
        clear sb s0
        generalize sealb kl nl al tl = bs at *
        have hp := fun (W : World) (C : Option Addr) (c : Nat) (hc : nt + 16 ≤ c) (q1 : Rd W W.heap.size K (vb kl)) (q2 : Rd W W.heap.size A (vb nl)) (q3 : Rd W W.heap.size D (vb al)) (q4 : Rd W W.heap.size C (vb bs)) => gopen_all K A D C kl nl al bs nk nn na (nt + 16) ck cn ca c HK.out HA.out HD.out lb c1 c2 c3 hc (by omega) (by omega) (by omega) (by omega) W q1 q2 q3 q4
        rw [o1, o0] at hp
        have HO0 := Lib.hid o0; clear o0 o1
        have HS := Lib.hid hs; clear hs
        have HP := Lib.hid hp; clear hp
        have HLB := Lib.hid lb; clear lb
        go_enter Try.func5, Try.ntmps5
        go_upto_region 1 with fail
        generalize w.alloc (.cells #[.slice K nk ck, .slice A nn cn, .slice D na ca, .slice B nt ct, .int .i64 at_, .int .u8 (by_ : Int)] 32) = u1 at *
        obtain ⟨b0, hb0⟩ : ∃ b0, b0 = w.heap.size := ⟨_, rfl⟩
        rw [← hb0] at HX
        rw [← hb0]
        clear hb0
        have d0 := box6_0 (HX.out)
        have d1 := box6_1 (HX.out)
        have d2 := box6_2 (HX.out)
        have d3 := box6_3 (HX.out)
        have d4 := box6_4 (HX.out)
        have d5 := box6_5 (HX.out)
        go_wp2_with fail
        refine (HM.out u1).mono ?_
        rintro e wq ⟨rfl, rfl⟩
        clear HM
        go_wp2_with fail
        clear d0 d1 d2 d3 d4 d5
        refine (HS.out wq R1.out R2.out R3.out R4.out).mono ?_
        clear HS
        rintro e w2 ⟨v, rfl, ho, hb5⟩
        rw [HLB.out] at ho
        obtain ⟨g, cb, rfl, hg1, hg2⟩ := ho.form (by omega)
        have hcb := own_cap ho
        have hr : Rd w2 w2.heap.size (some ⟨g, 0, none⟩) (vb bs) := by
          obtain ⟨A', c', e, _, hr⟩ := Rd.of_own ho
          injection e with e1 _ _
          rw [e1]; exact hr
        have S1 := Lib.hid hr; clear hr ho
        replace R1 := Lib.hid (R1.out.go hb5)
        replace R2 := Lib.hid (R2.out.go hb5)
        replace R3 := Lib.hid (R3.out.go hb5)
        replace R4 := Lib.hid (R4.out.go hb5)
        replace HX := Lib.hid (one_call HX.out hb5)
        replace HB := Lib.hid (HB.out.trans (hb5.mono HB.out.size))
        clear hb5
        have d0 := box6_0 (HX.out)
        have d1 := box6_1 (HX.out)
        have d2 := box6_2 (HX.out)
        have d3 := box6_3 (HX.out)
        have d4 := box6_4 (HX.out)
        have d5 := box6_5 (HX.out)
        go_wp2_with fail
        clear d0 d1 d2 d3 d4 d5
        refine (HP.out w2 (some ⟨g, 0, none⟩) cb hcb R1.out R2.out R3.out S1.out).mono ?_
        clear HP
        rintro e w3 ⟨C, c, rfl, hcc, rc, hb5⟩
        rw [HT.out]
        have S2 := Lib.hid rc; clear rc
        replace R1 := Lib.hid (R1.out.go hb5)
        replace R2 := Lib.hid (R2.out.go hb5)
        replace R3 := Lib.hid (R3.out.go hb5)
        replace R4 := Lib.hid (R4.out.go hb5)
        replace S1 := Lib.hid (S1.out.go hb5)
        replace HX := Lib.hid (one_call HX.out hb5)
        replace HB := Lib.hid (HB.out.trans (hb5.mono HB.out.size))
        clear hb5
        have d0 := box6_0 (HX.out)
        have d1 := box6_1 (HX.out)
        have d2 := box6_2 (HX.out)
        have d3 := box6_3 (HX.out)
        have d4 := box6_4 (HX.out)
        have d5 := box6_5 (HX.out)
        have h16 : ((nt + 16 : Nat) : Int) = (nt : Int) + 16 := by omega
        have hwr : IntKind.i64.wrap ((nt : Int) + 16) = (nt : Int) + 16 := IntWalk.i64_in _ (by omega)
        simp only [h16]
        go_wp2_with fail
        refine (same_self C B tl nt c ct HT.out _ S2.out R4.out).mono ?_
        rintro e wq2 ⟨rfl, rfl⟩
        go_wp2_with fail
        clear d0 d1 d2 d3 d4 d5
        clear S2 hwr h16
        refine (copyv_any D (vb al) na ca (by simpa using HD.out) (vb_onec al) wq2 (by omega) R3.out).mono ?_
        rintro e w4 ⟨v2, rfl, ho2, hb5⟩
        have HOC := Lib.hid ho2; clear ho2
        have HB4 := Lib.hid hb5
        have P1 := R1
        have P2 := R2
        have P3 := R3
        have HX4 := HX
        have HBQ0 := HB
        replace R1 := Lib.hid (R1.out.go hb5)
        replace R2 := Lib.hid (R2.out.go hb5)
        replace R3 := Lib.hid (R3.out.go hb5)
        replace R4 := Lib.hid (R4.out.go hb5)
        replace S1 := Lib.hid (S1.out.go hb5)
        replace HX := Lib.hid (one_call HX.out hb5)
        replace HB := Lib.hid (HB.out.trans (hb5.mono HB.out.size))
        clear hb5
        obtain ⟨j0, hi, hz0, hz1, hz2⟩ := info_parts info_b
        obtain ⟨_, ew, _, hsc⟩ := S1.out (by simp [vb]; have := HLB.out; omega)
        cases ew
        have HSC := Lib.hid hsc; clear hsc
        have hsz4 : wq2.heap.size ≤ w4.heap.size := HB4.out.size
        go_upto_region 8 with (first
          | (at_builtin
             refine wpList_append_lies _ rfl (.tmp 79) (.tmp 80) 22 rfl wq2.heap.size 5 j0 (.int .u8 0) 1 1 Try.underlying22 hi hz0 hz1 hz2 rfl (by omega) v2 na (vb al) rfl HOC.out ⟨g, 0, none⟩ (nt + 16) cb (vb bs) rfl (by simp [vb]; exact HLB.out) HSC.out (vb_onec _) (by omega) (by unfold maxLen; omega) (by omega) hsz4 w4.heap.size rfl ?_
             intro ga capa w5 hown5 hgrow5 hat5 hlt5
             have HOW := Lib.hid hown5; clear hown5
             have HGR := Lib.hid hgrow5; clear hgrow5 hat5))
        have HBQ := Lib.hid (HB4.out.grown HGR.out hsz4 (fun k hk => (HOC.out.lt k hk).1))
        clear R1 R2 R3 R4 HX HB HGR HOC HSC S1 hi hz0 hz1 hz2
        try clear hsz4 hlt5
        have hbq : b0 < wq2.heap.size := (Array.getElem?_eq_some_iff.1 HX4.out).1
        have hwq : w.heap.size ≤ wq2.heap.size := HBQ0.out.size
        have HX := Lib.hid ((HBQ.out.block b0 hbq).trans HX4.out)
        obtain ⟨xs, hxs⟩ : ∃ xs, xs = al ++ bs := ⟨_, rfl⟩
        have evb : vb al ++ vb bs = vb xs := by rw [hxs]; simp [vb]
        obtain ⟨N, hN⟩ : ∃ N, N = na + (nt + 16) := ⟨_, rfl⟩
        have lxs : xs.length = N := by rw [hxs, List.length_append, HD.out, HLB.out, hN]
        rw [evb, ← hN] at HOW
        rw [← hN]
        have HXS := Lib.hid hxs; clear hxs evb
        have HLX := Lib.hid lxs; clear lxs
        have hca := own_cap HOW.out
        have hgq : wq2.heap.size ≤ ga := (HOW.out.lt ga rfl).1
        have hN2 : na ≤ N := by omega
        have hN3 : N - na = nt + 16 := by omega
        have hN4 : N ≤ 816 := by omega
        have hN5 : 16 ≤ N := by omega
        have HNN := Lib.hid hN; clear hN HB4
        have d0 := box6_0 (HX.out)
        have d1 := box6_1 (HX.out)
        have d2 := box6_2 (HX.out)
        have d3 := box6_3 (HX.out)
        have d4 := box6_4 (HX.out)
        have d5 := box6_5 (HX.out)
        by_cases hp : 0 < at_
        · obtain ⟨i, hi⟩ : ∃ i, i = at_.toNat % N := ⟨_, rfl⟩
          have hiN : i < N := by rw [hi]; exact Nat.mod_lt _ (by omega)
          have e0 : ¬ (N : Int) = 0 := by omega
          have e1 : at_.tmod (N : Int) = (i : Int) := by
            rw [Int.tmod_eq_emod_of_nonneg (by omega), hi, Int.natCast_emod, Int.toNat_of_nonneg (by omega)]
          have e2 : IntKind.i64.wrap (i : Int) = (i : Int) := IntWalk.i64_in _ (by omega)
          clear hi
          have hN6 : 0 < N := by omega
          have hiN2 : (i : Int) < (N : Int) := by omega
          obtain ⟨x, hx⟩ : ∃ x, x = (xs.map UInt8.toNat).getD i 0 := ⟨_, rfl⟩
          have hx256 : x < 256 := by rw [hx]; exact nm_lt2 _ _
          obtain ⟨z, hz⟩ : ∃ z, z = x ^^^ by_ := ⟨_, rfl⟩
          have hz256 : z < 256 := by rw [hz]; exact Nat.xor_lt_two_pow (n := 8) hx256 (by omega)
          have hxr : bits .xor .u8 (x : Int) (by_ : Int) = (z : Int) := by rw [hz]; exact xor_u8 x by_ hx256 (by omega)
          have hxc : w5.cell? ⟨ga, i, none⟩ = some (.int .u8 (x : Int)) := by rw [HOW.out.cellAt i (by omega), hx]; exact vb_get xs i (by rw [HLX.out]; omega)
          obtain ⟨all2, hal⟩ : ∃ all2, all2 = xs.set i (UInt8.ofNat z) := ⟨_, rfl⟩
          have hvb : (vb xs).set i (.int .u8 (z : Int)) = vb all2 := by rw [hal]; exact (vb_set xs i z hz256).symm
          have hl2 : all2.length = N := by rw [hal, List.length_set, HLX.out]
          have hself : by_ = 0 → all2 = xs := fun e => by
            rw [hal, hz, e, Nat.xor_zero, hx]
            exact set_self xs i (by rw [HLX.out]; omega)
          have HSELF := Lib.hid hself; clear hself
          have HVB := Lib.hid hvb; clear hvb
          have HL2 := Lib.hid hl2; clear hl2
          clear hx hz hal hx256 hz256
          go_upto_region 11 with fail
          refine wp_region_noPanic ?_
          refine wp_region_held_drew (S := (fun w' => w'.cell? ⟨b0, 5, none⟩ = some (.int .u8 (by_ : Int)))) (by kernel_rfl) ?_ (fun hHeld => ?_)
          · exact cell_kept (Below.refl w5.heap.size w5).drew d5
          have hs : Below w5.heap.size w5 w5.drew := (Below.refl w5.heap.size w5).drew
          have HOS := Lib.hid (own_below HOW.out hs)
          have HBS := Lib.hid (HBQ.out.trans (hs.mono HBQ.out.size))
          have hxs := cell_kept hs hxc
          have hfs := HOS.out.frozenAt i
          clear hs hxc d0 d1 d2 d3 d4 d5 HX HOW HBQ
          generalize w5.drew = ws at *
          refine wpAnyH_take (i := 0) (v := ?_) rfl (by kernel_rfl) (by kernel_rfl) (by kernel_rfl) (fun _ _ _ h => h) (Or.inl ⟨by rfl, ?_⟩) hHeld ?_
          rotate_left
          · intro w' hSw
            (try dsimp only at hSw)
            go_simp
            try with_reducible rfl
          try simp only [Act.put, zq1, zq2, zq3, zq4, zq5, zq6]
          refine wpAnyH_take (i := 1) (v := ?_) rfl (by kernel_rfl) (by kernel_rfl) (by kernel_rfl) (fun _ _ _ h => h) (Or.inl ⟨by rfl, ?_⟩) hHeld ?_
          rotate_left
          · intro w' hSw
            (try dsimp only at hSw)
            go_simp
            try with_reducible rfl
          try simp only [Act.put, zq1, zq2, zq3, zq4, zq5, zq6]
          refine wpAnyH_take (i := 2) (v := ?_) rfl (by kernel_rfl) (by kernel_rfl) (by kernel_rfl) (fun _ _ _ h => h) (Or.inl ⟨by rfl, ?_⟩) hHeld ?_
          rotate_left
          · intro w' hSw
            (try dsimp only at hSw)
            go_simp
            try with_reducible rfl
          try simp only [Act.put, zq1, zq2, zq3, zq4, zq5, zq6]
          refine wpAnyH_take (i := 4) (v := ?_) rfl (by kernel_rfl) (by kernel_rfl) (by kernel_rfl) (fun _ _ _ h => h) (Or.inl ⟨by rfl, ?_⟩) hHeld ?_
          rotate_left
          · intro w' hSw
            (try dsimp only at hSw)
            go_simp
            try with_reducible rfl
          try simp only [Act.put, zq1, zq2, zq3, zq4, zq5, zq6]
          refine wpAnyH_take (i := 5) (v := ?_) rfl (by kernel_rfl) (by kernel_rfl) (by kernel_rfl) (fun _ _ _ h => h) (Or.inl ⟨by rfl, ?_⟩) hHeld ?_
          rotate_left
          · intro w' hSw
            (try dsimp only at hSw)
            go_simp
            try with_reducible rfl
          try simp only [Act.put, zq1, zq2, zq3, zq4, zq5, zq6]
          refine wpAnyH_ready (rs := [3]) (by kernel_rfl) (by simp) ?_
          refine AllReadyH.cons rfl (fun K hK => ?_) (AllReadyH.nil)
          try simp only [zq1, zq2, zq3]
          go_simp
          refine hK.out _ _ ?_ (fun hHeld => ?_)
          · exact hHeld
          clear hK K
          try simp only [Act.put, zq1, zq2, zq3, zq4, zq5, zq6]
          refine wpAnyH_take (i := 6) (v := ?_) rfl (by kernel_rfl) (by kernel_rfl) (by kernel_rfl) (fun _ _ _ h => h) (Or.inl ⟨by rfl, ?_⟩) hHeld ?_
          rotate_left
          · intro w' hSw
            (try dsimp only at hSw)
            go_simp
            try with_reducible rfl
          try simp only [Act.put, zq1, zq2, zq3, zq4, zq5, zq6]
          refine wpAnyH_take (i := 7) (v := ?_) rfl (by kernel_rfl) (by kernel_rfl) (by kernel_rfl) (fun _ _ _ h => h) (Or.inl ⟨by rfl, ?_⟩) hHeld ?_
          rotate_left
          · intro w' hSw
            (try dsimp only at hSw)
            go_simp
            try with_reducible rfl
          try simp only [Act.put, zq1, zq2, zq3, zq4, zq5, zq6]
          refine wpAnyH_ready (rs := [8]) (by kernel_rfl) (by simp) ?_
          refine AllReadyH.cons rfl (fun K hK => ?_) (AllReadyH.nil)
          try simp only [zq1, zq2, zq3]
          go_simp
          refine hK.out _ _ ?_ (fun hHeld => ?_)
          · exact (World.cell?_setCell_other _ _ _ _ (fun e => by have := congrArg Addr.block e; simp at this; omega)).trans hHeld
          clear hK K
          try simp only [Act.put, zq1, zq2, zq3, zq4, zq5, zq6]
          refine wpAnyH_done (by kernel_rfl) ?_ _
          refine NoPanic.normal ?_
          have ho6 := (HOS.out.stored i (.int .u8 (z : Int))).1
          rw [HVB.out] at ho6
          have hb6 : Below wq2.heap.size wq2 (ws.setCell ⟨ga, i, none⟩ (.int .u8 (z : Int))) := HBS.out.setCell hgq _
          clear hHeld HOS HBS HVB hxr hfs
          generalize ws.setCell ⟨ga, i, none⟩ (.int .u8 (z : Int)) = w6 at *
          try clear w5
          have HO6 := Lib.hid ho6; clear ho6
          have HB6 := Lib.hid hb6; clear hb6
          have HX := Lib.hid ((HB6.out.block b0 hbq).trans HX4.out)
          have R1 := Lib.hid ((P1.out.below HB6.out).more HB6.out.size)
          have R2 := Lib.hid ((P2.out.below HB6.out).more HB6.out.size)
          have HB := Lib.hid (HBQ0.out.trans (HB6.out.mono hwq))
          have hrw : Rd w6 w6.heap.size (some ⟨ga, 0, none⟩) (vb all2) := by
            obtain ⟨A', c', e, _, hr⟩ := Rd.of_own HO6.out
            injection e with e1 _ _
            rw [e1]; exact hr
          have ra : Rd w6 w6.heap.size (some ⟨ga, 0, none⟩) (vb (all2.take na)) := by have := hrw.take na; simpa [vb, List.map_take] using this
          have rs : Rd w6 w6.heap.size (some ((⟨ga, 0, none⟩ : Addr).add na)) (vb (all2.drop na)) := by have := hrw.tail na; simpa [vb, List.map_drop] using this
          have la : (all2.take na).length = na := by rw [List.length_take, HL2.out]; omega
          have ls : (all2.drop na).length = nt + 16 := by rw [List.length_drop, HL2.out]; exact hN3
          have hR0 : by_ = 0 → opnR kl nl (all2.take na) (all2.drop na) = 0 := fun e => by
            rw [HSELF.out e, HXS.out, List.take_left' HD.out, List.drop_left' HD.out]
            exact HO0.out
          obtain ⟨j0, hi, hz0, hz1, hz2⟩ := info_parts info_b
          have q1 := run_head (P := Try.prog) 22 5 j0 Try.underlying22 hi (some ⟨ga, 0, none⟩) N capa na (by omega)
          have q2 := run_tailB (P := Try.prog) 22 5 j0 Try.underlying22 hi hz1 ⟨ga, 0, none⟩ N capa na hN2 hca (by omega)
          rw [hN3] at q2
          obtain ⟨sd, hsd⟩ : ∃ sd, sd = (⟨ga, 0, none⟩ : Addr).add na := ⟨_, rfl⟩
          rw [← hsd] at q2 rs
          obtain ⟨cs2, hcs2⟩ : ∃ cs2, cs2 = capa - na := ⟨_, rfl⟩
          rw [← hcs2] at q2
          have hc1 : na ≤ capa := by omega
          have hc2 : nt + 16 ≤ cs2 := by omega
          clear hsd hcs2 hi hz0 hz1 hz2 hrw
          generalize all2.take na = al2 at *
          generalize all2.drop na = sl2 at *
          clear HL2 HSELF HO6 HB6 HXS HLX
          have hg := fun (W : World) (hb : Below w6.heap.size w6 W) => gopen_all K A (some ⟨ga, 0, none⟩) (some sd) kl nl al2 sl2 nk nn na (nt + 16) ck cn capa cs2 HK.out HA.out la ls c1 c2 hc1 hc2 (by omega) (by omega) (by omega) (by omega) W (R1.out.go hb) (R2.out.go hb) (ra.go hb) (rs.go hb)
          have hf := fun (W : World) (hb : Below w6.heap.size w6 W) => ropen_all K A (some ⟨ga, 0, none⟩) (some sd) kl nl al2 sl2 nk nn na (nt + 16) ck cn capa cs2 HK.out HA.out la ls hc2 W (R1.out.go hb) (R2.out.go hb) (ra.go hb) (rs.go hb)
          generalize opnB kl nl al2 sl2 = bs2 at *
          generalize opnR kl nl al2 sl2 = Q at *
          obtain ⟨m2, hm2⟩ : ∃ m2, m2 = bs2.length := ⟨_, rfl⟩
          have HG : Hid (∀ W : World, Below w6.heap.size w6 W → Calls Try.prog 14 #[.slice K nk ck, .slice A nn cn, .slice (some ⟨ga, 0, none⟩) na capa, .slice (some sd) (nt + 16) cs2] W (AnsM W m2 bs2 Q)) := Lib.hid fun W hb => (hg W hb).mono (ansM hm2)
          have HF : Hid (∀ W : World, Below w6.heap.size w6 W → Calls Try.prog 15 #[.slice K nk ck, .slice A nn cn, .slice (some ⟨ga, 0, none⟩) na capa, .slice (some sd) (nt + 16) cs2] W (AnsM W m2 bs2 Q)) := Lib.hid fun W hb => (hf W hb).mono (ansM hm2)
          have HM2 := Lib.hid hm2; clear hm2 hg hf
          have HR0 := Lib.hid hR0; clear hR0
          clear ra rs la ls R1 R2
          go_upto_region 12 with fail
          go_cut [9, 10] (fun s9 s10 wx => ∃ C2 k2, s9 = .slice C2 m2 k2 ∧ s10 = .int .i64 (Q : Int) ∧ m2 ≤ k2 ∧ Hid (Rd wx wx.heap.size C2 (vb bs2)) ∧ Hid (Below w6.heap.size w6 wx))
          case first =>
            refine wp_region_noPanic ?_
            refine wp_region_held_drew (S := (fun w' => Below w6.heap.size w6 w')) (by kernel_rfl) ?_ (fun hHeld => ?_)
            · exact (Below.refl w6.heap.size w6).drew
            have hs2 : Below w6.heap.size w6 w6.drew := (Below.refl w6.heap.size w6).drew
            generalize w6.drew = ws1 at *
            refine wpAnyH_take (i := 0) (v := ?_) rfl (by kernel_rfl) (by kernel_rfl) (by kernel_rfl) (fun _ _ _ h => h) (Or.inl ⟨by rfl, ?_⟩) hHeld ?_
            rotate_left
            · intro w' hSw
              (try dsimp only at hSw)
              go_simp
              try with_reducible rfl
            try simp only [Act.put, zq1, zq2, zq3, zq4, zq5, zq6]
            refine wpAnyH_take (i := 1) (v := ?_) rfl (by kernel_rfl) (by kernel_rfl) (by kernel_rfl) (fun _ _ _ h => h) (Or.inl ⟨by rfl, ?_⟩) hHeld ?_
            rotate_left
            · intro w' hSw
              (try dsimp only at hSw)
              have cf := box6_0 (one_call HX.out hSw)
              go_simp
              try with_reducible rfl
            try simp only [Act.put, zq1, zq2, zq3, zq4, zq5, zq6]
            refine wpAnyH_take (i := 2) (v := ?_) rfl (by kernel_rfl) (by kernel_rfl) (by kernel_rfl) (fun _ _ _ h => h) (Or.inl ⟨by rfl, ?_⟩) hHeld ?_
            rotate_left
            · intro w' hSw
              (try dsimp only at hSw)
              go_simp
              try with_reducible rfl
            try simp only [Act.put, zq1, zq2, zq3, zq4, zq5, zq6]
            refine wpAnyH_take (i := 3) (v := ?_) rfl (by kernel_rfl) (by kernel_rfl) (by kernel_rfl) (fun _ _ _ h => h) (Or.inl ⟨by rfl, ?_⟩) hHeld ?_
            rotate_left
            · intro w' hSw
              (try dsimp only at hSw)
              have cf := box6_1 (one_call HX.out hSw)
              go_simp
              try with_reducible rfl
            try simp only [Act.put, zq1, zq2, zq3, zq4, zq5, zq6]
            refine wpAnyH_take (i := 4) (v := ?_) rfl (by kernel_rfl) (by kernel_rfl) (by kernel_rfl) (fun _ _ _ h => h) (Or.inl ⟨by rfl, ?_⟩) hHeld ?_
            rotate_left
            · intro w' hSw
              (try dsimp only at hSw)
              go_simp
              try with_reducible rfl
            try simp only [Act.put, zq1, zq2, zq3, zq4, zq5, zq6]
            refine wpAnyH_take (i := 5) (v := ?_) rfl (by kernel_rfl) (by kernel_rfl) (by kernel_rfl) (fun _ _ _ h => h) (Or.inl ⟨by rfl, ?_⟩) hHeld ?_
            rotate_left
            · intro w' hSw
              (try dsimp only at hSw)
              go_simp
              try with_reducible rfl
            try simp only [Act.put, zq1, zq2, zq3, zq4, zq5, zq6]
            refine wpAnyH_take (i := 6) (v := ?_) rfl (by kernel_rfl) (by kernel_rfl) (by kernel_rfl) (fun _ _ _ h => h) (Or.inl ⟨by rfl, ?_⟩) hHeld ?_
            rotate_left
            · intro w' hSw
              (try dsimp only at hSw)
              have cf := box6_2 (one_call HX.out hSw)
              go_simp
              try with_reducible rfl
            try simp only [Act.put, zq1, zq2, zq3, zq4, zq5, zq6]
            refine wpAnyH_take (i := 7) (v := ?_) rfl (by kernel_rfl) (by kernel_rfl) (by kernel_rfl) (fun _ _ _ h => h) (Or.inl ⟨by rfl, ?_⟩) hHeld ?_
            rotate_left
            · intro w' hSw
              (try dsimp only at hSw)
              go_simp
              try with_reducible rfl
            try simp only [Act.put, zq1, zq2, zq3, zq4, zq5, zq6]
            refine wpAnyH_take (i := 8) (v := ?_) rfl (by kernel_rfl) (by kernel_rfl) (by kernel_rfl) (fun _ _ _ h => h) (Or.inl ⟨by rfl, ?_⟩) hHeld ?_
            rotate_left
            · intro w' hSw
              (try dsimp only at hSw)
              go_simp
              try with_reducible rfl
            try simp only [Act.put, zq1, zq2, zq3, zq4, zq5, zq6]
            refine wpAnyH_take (i := 9) (v := ?_) rfl (by kernel_rfl) (by kernel_rfl) (by kernel_rfl) (fun _ _ _ h => h) (Or.inl ⟨by rfl, ?_⟩) hHeld ?_
            rotate_left
            · intro w' hSw
              (try dsimp only at hSw)
              go_simp
              try with_reducible rfl
            try simp only [Act.put, zq1, zq2, zq3, zq4, zq5, zq6]
            refine wpAnyH_take (i := 10) (v := ?_) rfl (by kernel_rfl) (by kernel_rfl) (by kernel_rfl) (fun _ _ _ h => h) (Or.inl ⟨by rfl, ?_⟩) hHeld ?_
            rotate_left
            · intro w' hSw
              (try dsimp only at hSw)
              go_simp
              try with_reducible rfl
            try simp only [Act.put, zq1, zq2, zq3, zq4, zq5, zq6]
            refine wpAnyH_take (i := 11) (v := ?_) rfl (by kernel_rfl) (by kernel_rfl) (by kernel_rfl) (fun _ _ _ h => h) (Or.inl ⟨by rfl, ?_⟩) hHeld ?_
            rotate_left
            · intro w' hSw
              (try dsimp only at hSw)
              have cf := box6_2 (one_call HX.out hSw)
              go_simp
              try with_reducible rfl
            try simp only [Act.put, zq1, zq2, zq3, zq4, zq5, zq6]
            refine wpAnyH_take (i := 12) (v := ?_) rfl (by kernel_rfl) (by kernel_rfl) (by kernel_rfl) (fun _ _ _ h => h) (Or.inl ⟨by rfl, ?_⟩) hHeld ?_
            rotate_left
            · intro w' hSw
              (try dsimp only at hSw)
              go_simp
              try with_reducible rfl
            try simp only [Act.put, zq1, zq2, zq3, zq4, zq5, zq6]
            refine wpAnyH_take (i := 13) (v := ?_) rfl (by kernel_rfl) (by kernel_rfl) (by kernel_rfl) (fun _ _ _ h => h) (Or.inl ⟨by rfl, ?_⟩) hHeld ?_
            rotate_left
            · intro w' hSw
              (try dsimp only at hSw)
              go_simp
              try with_reducible rfl
            try simp only [Act.put, zq1, zq2, zq3, zq4, zq5, zq6]
            refine wpAnyH_ready (rs := [14]) (by kernel_rfl) (by simp) ?_
            refine AllReadyH.cons rfl (fun K hK => ?_) (AllReadyH.nil)
            try simp only [zq1, zq2, zq3]
            go_simp
            refine (HG.out ws1 hs2).mono ?_
            rintro e w3 ⟨C2, k2, rfl, hk2, hr2, hb4⟩
            have hw5 : Below w6.heap.size w6 w3 := hs2.trans (hb4.mono hs2.size)
            refine hK.out _ _ ?_ (fun hHeld => ?_)
            · exact hw5
            clear hK K
            try simp only [Act.put, zq1, zq2, zq3, zq4, zq5, zq6]
            clear hb4
            refine wpAnyH_take (i := 15) (v := ?_) rfl (by kernel_rfl) (by kernel_rfl) (by kernel_rfl) (fun _ _ _ h => h) (Or.inl ⟨by rfl, ?_⟩) hHeld ?_
            rotate_left
            · intro w' hSw
              (try dsimp only at hSw)
              go_simp
              try with_reducible rfl
            try simp only [Act.put, zq1, zq2, zq3, zq4, zq5, zq6]
            refine wpAnyH_take (i := 16) (v := ?_) rfl (by kernel_rfl) (by kernel_rfl) (by kernel_rfl) (fun _ _ _ h => h) (Or.inl ⟨by rfl, ?_⟩) hHeld ?_
            rotate_left
            · intro w' hSw
              (try dsimp only at hSw)
              go_simp
              try with_reducible rfl
            try simp only [Act.put, zq1, zq2, zq3, zq4, zq5, zq6]
            refine wpAnyH_take (i := 17) (v := ?_) rfl (by kernel_rfl) (by kernel_rfl) (by kernel_rfl) (fun _ _ _ h => h) (Or.inl ⟨by rfl, ?_⟩) hHeld ?_
            rotate_left
            · intro w' hSw
              (try dsimp only at hSw)
              go_simp
              try with_reducible rfl
            try simp only [Act.put, zq1, zq2, zq3, zq4, zq5, zq6]
            refine wpAnyH_take (i := 18) (v := ?_) rfl (by kernel_rfl) (by kernel_rfl) (by kernel_rfl) (fun _ _ _ h => h) (Or.inl ⟨by rfl, ?_⟩) hHeld ?_
            rotate_left
            · intro w' hSw
              (try dsimp only at hSw)
              go_simp
              try with_reducible rfl
            try simp only [Act.put, zq1, zq2, zq3, zq4, zq5, zq6]
            refine wpAnyH_take (i := 19) (v := ?_) rfl (by kernel_rfl) (by kernel_rfl) (by kernel_rfl) (fun _ _ _ h => h) (Or.inl ⟨by rfl, ?_⟩) hHeld ?_
            rotate_left
            · intro w' hSw
              (try dsimp only at hSw)
              go_simp
              try with_reducible rfl
            try simp only [Act.put, zq1, zq2, zq3, zq4, zq5, zq6]
            refine wpAnyH_done (by kernel_rfl) ?_ _
            refine NoPanic.normal ?_
            go_wp2_with fail
            go_meet
            refine ⟨_, _, rfl, rfl, hk2, Lib.hid hr2, Lib.hid hw5⟩
          case rest =>
            obtain ⟨C2, k2, rfl, rfl, hk2, HR2, HW2⟩ := hcut
            obtain ⟨w7, rfl⟩ : ∃ w7 : World, w7 = wc := ⟨_, rfl⟩
            have HX7 := Lib.hid (one_call HX.out HW2.out)
            have HF7 : Hid (∀ W : World, Below w7.heap.size w7 W → Calls Try.prog 15 #[.slice K nk ck, .slice A nn cn, .slice (some ⟨ga, 0, none⟩) na capa, .slice (some sd) (nt + 16) cs2] W (AnsM W m2 bs2 Q)) := Lib.hid fun W hb => HF.out W (HW2.out.trans (hb.mono HW2.out.size))
            replace HB := Lib.hid (HB.out.trans (HW2.out.mono HB.out.size))
            clear HF HG HW2 HX
            try clear w6
            go_upto_region 13 with fail
            go_cut [11, 12] (fun s11 s12 wx => ∃ C3 k3, s11 = .slice C3 m2 k3 ∧ s12 = .int .i64 (Q : Int) ∧ Hid (Rd wx wx.heap.size C3 (vb bs2)) ∧ Hid (Below w7.heap.size w7 wx))
            case first =>
              refine wp_region_noPanic ?_
              refine wp_region_held_drew (S := (fun w' => Below w7.heap.size w7 w')) (by kernel_rfl) ?_ (fun hHeld => ?_)
              · exact (Below.refl w7.heap.size w7).drew
              have hs2 : Below w7.heap.size w7 w7.drew := (Below.refl w7.heap.size w7).drew
              generalize w7.drew = ws1 at *
              refine wpAnyH_take (i := 0) (v := ?_) rfl (by kernel_rfl) (by kernel_rfl) (by kernel_rfl) (fun _ _ _ h => h) (Or.inl ⟨by rfl, ?_⟩) hHeld ?_
              rotate_left
              · intro w' hSw
                (try dsimp only at hSw)
                go_simp
                try with_reducible rfl
              try simp only [Act.put, zq1, zq2, zq3, zq4, zq5, zq6]
              refine wpAnyH_take (i := 1) (v := ?_) rfl (by kernel_rfl) (by kernel_rfl) (by kernel_rfl) (fun _ _ _ h => h) (Or.inl ⟨by rfl, ?_⟩) hHeld ?_
              rotate_left
              · intro w' hSw
                (try dsimp only at hSw)
                have cf := box6_0 (one_call HX7.out hSw)
                go_simp
                try with_reducible rfl
              try simp only [Act.put, zq1, zq2, zq3, zq4, zq5, zq6]
              refine wpAnyH_take (i := 2) (v := ?_) rfl (by kernel_rfl) (by kernel_rfl) (by kernel_rfl) (fun _ _ _ h => h) (Or.inl ⟨by rfl, ?_⟩) hHeld ?_
              rotate_left
              · intro w' hSw
                (try dsimp only at hSw)
                go_simp
                try with_reducible rfl
              try simp only [Act.put, zq1, zq2, zq3, zq4, zq5, zq6]
              refine wpAnyH_take (i := 3) (v := ?_) rfl (by kernel_rfl) (by kernel_rfl) (by kernel_rfl) (fun _ _ _ h => h) (Or.inl ⟨by rfl, ?_⟩) hHeld ?_
              rotate_left
              · intro w' hSw
                (try dsimp only at hSw)
                have cf := box6_1 (one_call HX7.out hSw)
                go_simp
                try with_reducible rfl
              try simp only [Act.put, zq1, zq2, zq3, zq4, zq5, zq6]
              refine wpAnyH_take (i := 4) (v := ?_) rfl (by kernel_rfl) (by kernel_rfl) (by kernel_rfl) (fun _ _ _ h => h) (Or.inl ⟨by rfl, ?_⟩) hHeld ?_
              rotate_left
              · intro w' hSw
                (try dsimp only at hSw)
                go_simp
                try with_reducible rfl
              try simp only [Act.put, zq1, zq2, zq3, zq4, zq5, zq6]
              refine wpAnyH_take (i := 5) (v := ?_) rfl (by kernel_rfl) (by kernel_rfl) (by kernel_rfl) (fun _ _ _ h => h) (Or.inl ⟨by rfl, ?_⟩) hHeld ?_
              rotate_left
              · intro w' hSw
                (try dsimp only at hSw)
                go_simp
                try with_reducible rfl
              try simp only [Act.put, zq1, zq2, zq3, zq4, zq5, zq6]
              refine wpAnyH_take (i := 6) (v := ?_) rfl (by kernel_rfl) (by kernel_rfl) (by kernel_rfl) (fun _ _ _ h => h) (Or.inl ⟨by rfl, ?_⟩) hHeld ?_
              rotate_left
              · intro w' hSw
                (try dsimp only at hSw)
                have cf := box6_2 (one_call HX7.out hSw)
                go_simp
                try with_reducible rfl
              try simp only [Act.put, zq1, zq2, zq3, zq4, zq5, zq6]
              refine wpAnyH_take (i := 7) (v := ?_) rfl (by kernel_rfl) (by kernel_rfl) (by kernel_rfl) (fun _ _ _ h => h) (Or.inl ⟨by rfl, ?_⟩) hHeld ?_
              rotate_left
              · intro w' hSw
                (try dsimp only at hSw)
                go_simp
                try with_reducible rfl
              try simp only [Act.put, zq1, zq2, zq3, zq4, zq5, zq6]
              refine wpAnyH_take (i := 8) (v := ?_) rfl (by kernel_rfl) (by kernel_rfl) (by kernel_rfl) (fun _ _ _ h => h) (Or.inl ⟨by rfl, ?_⟩) hHeld ?_
              rotate_left
              · intro w' hSw
                (try dsimp only at hSw)
                go_simp
                try with_reducible rfl
              try simp only [Act.put, zq1, zq2, zq3, zq4, zq5, zq6]
              refine wpAnyH_take (i := 9) (v := ?_) rfl (by kernel_rfl) (by kernel_rfl) (by kernel_rfl) (fun _ _ _ h => h) (Or.inl ⟨by rfl, ?_⟩) hHeld ?_
              rotate_left
              · intro w' hSw
                (try dsimp only at hSw)
                go_simp
                try with_reducible rfl
              try simp only [Act.put, zq1, zq2, zq3, zq4, zq5, zq6]
              refine wpAnyH_take (i := 10) (v := ?_) rfl (by kernel_rfl) (by kernel_rfl) (by kernel_rfl) (fun _ _ _ h => h) (Or.inl ⟨by rfl, ?_⟩) hHeld ?_
              rotate_left
              · intro w' hSw
                (try dsimp only at hSw)
                go_simp
                try with_reducible rfl
              try simp only [Act.put, zq1, zq2, zq3, zq4, zq5, zq6]
              refine wpAnyH_take (i := 11) (v := ?_) rfl (by kernel_rfl) (by kernel_rfl) (by kernel_rfl) (fun _ _ _ h => h) (Or.inl ⟨by rfl, ?_⟩) hHeld ?_
              rotate_left
              · intro w' hSw
                (try dsimp only at hSw)
                have cf := box6_2 (one_call HX7.out hSw)
                go_simp
                try with_reducible rfl
              try simp only [Act.put, zq1, zq2, zq3, zq4, zq5, zq6]
              refine wpAnyH_take (i := 12) (v := ?_) rfl (by kernel_rfl) (by kernel_rfl) (by kernel_rfl) (fun _ _ _ h => h) (Or.inl ⟨by rfl, ?_⟩) hHeld ?_
              rotate_left
              · intro w' hSw
                (try dsimp only at hSw)
                go_simp
                try with_reducible rfl
              try simp only [Act.put, zq1, zq2, zq3, zq4, zq5, zq6]
              refine wpAnyH_take (i := 13) (v := ?_) rfl (by kernel_rfl) (by kernel_rfl) (by kernel_rfl) (fun _ _ _ h => h) (Or.inl ⟨by rfl, ?_⟩) hHeld ?_
              rotate_left
              · intro w' hSw
                (try dsimp only at hSw)
                go_simp
                try with_reducible rfl
              try simp only [Act.put, zq1, zq2, zq3, zq4, zq5, zq6]
              refine wpAnyH_ready (rs := [14]) (by kernel_rfl) (by simp) ?_
              refine AllReadyH.cons rfl (fun K hK => ?_) (AllReadyH.nil)
              try simp only [zq1, zq2, zq3]
              go_simp
              refine (HF7.out ws1 hs2).mono ?_
              rintro e w3 ⟨C3, k3, rfl, hk3, hr3, hb4⟩
              have hw5 : Below w7.heap.size w7 w3 := hs2.trans (hb4.mono hs2.size)
              refine hK.out _ _ ?_ (fun hHeld => ?_)
              · exact hw5
              clear hK K
              try simp only [Act.put, zq1, zq2, zq3, zq4, zq5, zq6]
              clear hb4
              refine wpAnyH_take (i := 15) (v := ?_) rfl (by kernel_rfl) (by kernel_rfl) (by kernel_rfl) (fun _ _ _ h => h) (Or.inl ⟨by rfl, ?_⟩) hHeld ?_
              rotate_left
              · intro w' hSw
                (try dsimp only at hSw)
                go_simp
                try with_reducible rfl
              try simp only [Act.put, zq1, zq2, zq3, zq4, zq5, zq6]
              refine wpAnyH_take (i := 16) (v := ?_) rfl (by kernel_rfl) (by kernel_rfl) (by kernel_rfl) (fun _ _ _ h => h) (Or.inl ⟨by rfl, ?_⟩) hHeld ?_
              rotate_left
              · intro w' hSw
                (try dsimp only at hSw)
                go_simp
                try with_reducible rfl
              try simp only [Act.put, zq1, zq2, zq3, zq4, zq5, zq6]
              refine wpAnyH_take (i := 17) (v := ?_) rfl (by kernel_rfl) (by kernel_rfl) (by kernel_rfl) (fun _ _ _ h => h) (Or.inl ⟨by rfl, ?_⟩) hHeld ?_
              rotate_left
              · intro w' hSw
                (try dsimp only at hSw)
                go_simp
                try with_reducible rfl
              try simp only [Act.put, zq1, zq2, zq3, zq4, zq5, zq6]
              refine wpAnyH_take (i := 18) (v := ?_) rfl (by kernel_rfl) (by kernel_rfl) (by kernel_rfl) (fun _ _ _ h => h) (Or.inl ⟨by rfl, ?_⟩) hHeld ?_
              rotate_left
              · intro w' hSw
                (try dsimp only at hSw)
                go_simp
                try with_reducible rfl
              try simp only [Act.put, zq1, zq2, zq3, zq4, zq5, zq6]
              refine wpAnyH_take (i := 19) (v := ?_) rfl (by kernel_rfl) (by kernel_rfl) (by kernel_rfl) (fun _ _ _ h => h) (Or.inl ⟨by rfl, ?_⟩) hHeld ?_
              rotate_left
              · intro w' hSw
                (try dsimp only at hSw)
                go_simp
                try with_reducible rfl
              try simp only [Act.put, zq1, zq2, zq3, zq4, zq5, zq6]
              refine wpAnyH_done (by kernel_rfl) ?_ _
              refine NoPanic.normal ?_
              go_wp2_with fail
              go_meet
              refine ⟨_, _, rfl, rfl, Lib.hid hr3, Lib.hid hw5⟩
            case rest =>
              obtain ⟨C3, k3, rfl, rfl, HR3, HW3⟩ := hcut
              obtain ⟨w8, rfl⟩ : ∃ w8 : World, w8 = wc := ⟨_, rfl⟩
              have HX8 := Lib.hid (one_call HX7.out HW3.out)
              replace HR2 := Lib.hid (HR2.out.go HW3.out)
              replace HB := Lib.hid (HB.out.trans (HW3.out.mono HB.out.size))
              clear HF7 HW3 HX7 q1 q2
              try clear w7
              have d5 := box6_5 (HX8.out)
              by_cases hbz : by_ = 0
              · have hq0 : (Q : Int) = 0 := by have := HR0.out hbz; omega
                have hb0 : (by_ : Int) = 0 := by omega
                clear HR0 hbz
                go_wp2_with fail
                refine (same_self C2 C3 bs2 m2 k2 k3 HM2.out.symm _ HR2.out HR3.out).mono ?_
                rintro e wq9 ⟨rfl, rfl⟩
                go_wp2_with fail
                refine (known06_any _).mono ?_
                rintro e wz ⟨rfl, hz⟩
                go_wp2_with fail
                go_ret
                exact ⟨rfl, HB.out.trans (hz.mono HB.out.size)⟩
              · have hb0 : ¬ (by_ : Int) = 0 := by omega
                clear HR0 hbz
                go_wp2_with fail
                refine (same_self C2 C3 bs2 m2 k2 k3 HM2.out.symm _ HR2.out HR3.out).mono ?_
                rintro e wq9 ⟨rfl, rfl⟩
                go_wp2_with fail
                refine (known06_any _).mono ?_
                rintro e wz ⟨rfl, hz⟩
                go_wp2_with fail
                go_ret
                exact ⟨rfl, HB.out.trans (hz.mono HB.out.size)⟩
        · skip
          have hN6 : 0 < N := by omega
          have hiN2 : (0 : Int) < (N : Int) := by omega
          obtain ⟨x, hx⟩ : ∃ x, x = (xs.map UInt8.toNat).getD 0 0 := ⟨_, rfl⟩
          have hx256 : x < 256 := by rw [hx]; exact nm_lt2 _ _
          obtain ⟨z, hz⟩ : ∃ z, z = x ^^^ by_ := ⟨_, rfl⟩
          have hz256 : z < 256 := by rw [hz]; exact Nat.xor_lt_two_pow (n := 8) hx256 (by omega)
          have hxr : bits .xor .u8 (x : Int) (by_ : Int) = (z : Int) := by rw [hz]; exact xor_u8 x by_ hx256 (by omega)
          have hxc : w5.cell? ⟨ga, 0, none⟩ = some (.int .u8 (x : Int)) := by rw [HOW.out.cellAt 0 (by omega), hx]; exact vb_get xs 0 (by rw [HLX.out]; omega)
          obtain ⟨all2, hal⟩ : ∃ all2, all2 = xs.set 0 (UInt8.ofNat z) := ⟨_, rfl⟩
          have hvb : (vb xs).set 0 (.int .u8 (z : Int)) = vb all2 := by rw [hal]; exact (vb_set xs 0 z hz256).symm
          have hl2 : all2.length = N := by rw [hal, List.length_set, HLX.out]
          have hself : by_ = 0 → all2 = xs := fun e => by
            rw [hal, hz, e, Nat.xor_zero, hx]
            exact set_self xs 0 (by rw [HLX.out]; omega)
          have HSELF := Lib.hid hself; clear hself
          have HVB := Lib.hid hvb; clear hvb
          have HL2 := Lib.hid hl2; clear hl2
          clear hx hz hal hx256 hz256
          go_upto_region 11 with fail
          refine wp_region_noPanic ?_
          refine wp_region_held_drew (S := (fun w' => w'.cell? ⟨b0, 5, none⟩ = some (.int .u8 (by_ : Int)))) (by kernel_rfl) ?_ (fun hHeld => ?_)
          · exact cell_kept (Below.refl w5.heap.size w5).drew d5
          have hs : Below w5.heap.size w5 w5.drew := (Below.refl w5.heap.size w5).drew
          have HOS := Lib.hid (own_below HOW.out hs)
          have HBS := Lib.hid (HBQ.out.trans (hs.mono HBQ.out.size))
          have hxs := cell_kept hs hxc
          have hfs := HOS.out.frozenAt 0
          clear hs hxc d0 d1 d2 d3 d4 d5 HX HOW HBQ
          generalize w5.drew = ws at *
          refine wpAnyH_take (i := 0) (v := ?_) rfl (by kernel_rfl) (by kernel_rfl) (by kernel_rfl) (fun _ _ _ h => h) (Or.inl ⟨by rfl, ?_⟩) hHeld ?_
          rotate_left
          · intro w' hSw
            (try dsimp only at hSw)
            go_simp
            try with_reducible rfl
          try simp only [Act.put, zq1, zq2, zq3, zq4, zq5, zq6]
          refine wpAnyH_take (i := 1) (v := ?_) rfl (by kernel_rfl) (by kernel_rfl) (by kernel_rfl) (fun _ _ _ h => h) (Or.inl ⟨by rfl, ?_⟩) hHeld ?_
          rotate_left
          · intro w' hSw
            (try dsimp only at hSw)
            go_simp
            try with_reducible rfl
          try simp only [Act.put, zq1, zq2, zq3, zq4, zq5, zq6]
          refine wpAnyH_take (i := 2) (v := ?_) rfl (by kernel_rfl) (by kernel_rfl) (by kernel_rfl) (fun _ _ _ h => h) (Or.inl ⟨by rfl, ?_⟩) hHeld ?_
          rotate_left
          · intro w' hSw
            (try dsimp only at hSw)
            go_simp
            try with_reducible rfl
          try simp only [Act.put, zq1, zq2, zq3, zq4, zq5, zq6]
          refine wpAnyH_take (i := 4) (v := ?_) rfl (by kernel_rfl) (by kernel_rfl) (by kernel_rfl) (fun _ _ _ h => h) (Or.inl ⟨by rfl, ?_⟩) hHeld ?_
          rotate_left
          · intro w' hSw
            (try dsimp only at hSw)
            go_simp
            try with_reducible rfl
          try simp only [Act.put, zq1, zq2, zq3, zq4, zq5, zq6]
          refine wpAnyH_take (i := 5) (v := ?_) rfl (by kernel_rfl) (by kernel_rfl) (by kernel_rfl) (fun _ _ _ h => h) (Or.inl ⟨by rfl, ?_⟩) hHeld ?_
          rotate_left
          · intro w' hSw
            (try dsimp only at hSw)
            go_simp
            try with_reducible rfl
          try simp only [Act.put, zq1, zq2, zq3, zq4, zq5, zq6]
          refine wpAnyH_ready (rs := [3]) (by kernel_rfl) (by simp) ?_
          refine AllReadyH.cons rfl (fun K hK => ?_) (AllReadyH.nil)
          try simp only [zq1, zq2, zq3]
          go_simp
          refine hK.out _ _ ?_ (fun hHeld => ?_)
          · exact hHeld
          clear hK K
          try simp only [Act.put, zq1, zq2, zq3, zq4, zq5, zq6]
          refine wpAnyH_take (i := 6) (v := ?_) rfl (by kernel_rfl) (by kernel_rfl) (by kernel_rfl) (fun _ _ _ h => h) (Or.inl ⟨by rfl, ?_⟩) hHeld ?_
          rotate_left
          · intro w' hSw
            (try dsimp only at hSw)
            go_simp
            try with_reducible rfl
          try simp only [Act.put, zq1, zq2, zq3, zq4, zq5, zq6]
          refine wpAnyH_take (i := 7) (v := ?_) rfl (by kernel_rfl) (by kernel_rfl) (by kernel_rfl) (fun _ _ _ h => h) (Or.inl ⟨by rfl, ?_⟩) hHeld ?_
          rotate_left
          · intro w' hSw
            (try dsimp only at hSw)
            go_simp
            try with_reducible rfl
          try simp only [Act.put, zq1, zq2, zq3, zq4, zq5, zq6]
          refine wpAnyH_ready (rs := [8]) (by kernel_rfl) (by simp) ?_
          refine AllReadyH.cons rfl (fun K hK => ?_) (AllReadyH.nil)
          try simp only [zq1, zq2, zq3]
          go_simp
          refine hK.out _ _ ?_ (fun hHeld => ?_)
          · exact (World.cell?_setCell_other _ _ _ _ (fun e => by have := congrArg Addr.block e; simp at this; omega)).trans hHeld
          clear hK K
          try simp only [Act.put, zq1, zq2, zq3, zq4, zq5, zq6]
          refine wpAnyH_done (by kernel_rfl) ?_ _
          refine NoPanic.normal ?_
          have ho6 := (HOS.out.stored 0 (.int .u8 (z : Int))).1
          rw [HVB.out] at ho6
          have hb6 : Below wq2.heap.size wq2 (ws.setCell ⟨ga, 0, none⟩ (.int .u8 (z : Int))) := HBS.out.setCell hgq _
          clear hHeld HOS HBS HVB hxr hfs
          generalize ws.setCell ⟨ga, 0, none⟩ (.int .u8 (z : Int)) = w6 at *
          try clear w5
          have HO6 := Lib.hid ho6; clear ho6
          have HB6 := Lib.hid hb6; clear hb6
          have HX := Lib.hid ((HB6.out.block b0 hbq).trans HX4.out)
          have R1 := Lib.hid ((P1.out.below HB6.out).more HB6.out.size)
          have R2 := Lib.hid ((P2.out.below HB6.out).more HB6.out.size)
          have HB := Lib.hid (HBQ0.out.trans (HB6.out.mono hwq))
          have hrw : Rd w6 w6.heap.size (some ⟨ga, 0, none⟩) (vb all2) := by
            obtain ⟨A', c', e, _, hr⟩ := Rd.of_own HO6.out
            injection e with e1 _ _
            rw [e1]; exact hr
          have ra : Rd w6 w6.heap.size (some ⟨ga, 0, none⟩) (vb (all2.take na)) := by have := hrw.take na; simpa [vb, List.map_take] using this
          have rs : Rd w6 w6.heap.size (some ((⟨ga, 0, none⟩ : Addr).add na)) (vb (all2.drop na)) := by have := hrw.tail na; simpa [vb, List.map_drop] using this
          have la : (all2.take na).length = na := by rw [List.length_take, HL2.out]; omega
          have ls : (all2.drop na).length = nt + 16 := by rw [List.length_drop, HL2.out]; exact hN3
          have hR0 : by_ = 0 → opnR kl nl (all2.take na) (all2.drop na) = 0 := fun e => by
            rw [HSELF.out e, HXS.out, List.take_left' HD.out, List.drop_left' HD.out]
            exact HO0.out
          obtain ⟨j0, hi, hz0, hz1, hz2⟩ := info_parts info_b
          have q1 := run_head (P := Try.prog) 22 5 j0 Try.underlying22 hi (some ⟨ga, 0, none⟩) N capa na (by omega)
          have q2 := run_tailB (P := Try.prog) 22 5 j0 Try.underlying22 hi hz1 ⟨ga, 0, none⟩ N capa na hN2 hca (by omega)
          rw [hN3] at q2
          obtain ⟨sd, hsd⟩ : ∃ sd, sd = (⟨ga, 0, none⟩ : Addr).add na := ⟨_, rfl⟩
          rw [← hsd] at q2 rs
          obtain ⟨cs2, hcs2⟩ : ∃ cs2, cs2 = capa - na := ⟨_, rfl⟩
          rw [← hcs2] at q2
          have hc1 : na ≤ capa := by omega
          have hc2 : nt + 16 ≤ cs2 := by omega
          clear hsd hcs2 hi hz0 hz1 hz2 hrw
          generalize all2.take na = al2 at *
          generalize all2.drop na = sl2 at *
          clear HL2 HSELF HO6 HB6 HXS HLX
          have hg := fun (W : World) (hb : Below w6.heap.size w6 W) => gopen_all K A (some ⟨ga, 0, none⟩) (some sd) kl nl al2 sl2 nk nn na (nt + 16) ck cn capa cs2 HK.out HA.out la ls c1 c2 hc1 hc2 (by omega) (by omega) (by omega) (by omega) W (R1.out.go hb) (R2.out.go hb) (ra.go hb) (rs.go hb)
          have hf := fun (W : World) (hb : Below w6.heap.size w6 W) => ropen_all K A (some ⟨ga, 0, none⟩) (some sd) kl nl al2 sl2 nk nn na (nt + 16) ck cn capa cs2 HK.out HA.out la ls hc2 W (R1.out.go hb) (R2.out.go hb) (ra.go hb) (rs.go hb)
          generalize opnB kl nl al2 sl2 = bs2 at *
          generalize opnR kl nl al2 sl2 = Q at *
          obtain ⟨m2, hm2⟩ : ∃ m2, m2 = bs2.length := ⟨_, rfl⟩
          have HG : Hid (∀ W : World, Below w6.heap.size w6 W → Calls Try.prog 14 #[.slice K nk ck, .slice A nn cn, .slice (some ⟨ga, 0, none⟩) na capa, .slice (some sd) (nt + 16) cs2] W (AnsM W m2 bs2 Q)) := Lib.hid fun W hb => (hg W hb).mono (ansM hm2)
          have HF : Hid (∀ W : World, Below w6.heap.size w6 W → Calls Try.prog 15 #[.slice K nk ck, .slice A nn cn, .slice (some ⟨ga, 0, none⟩) na capa, .slice (some sd) (nt + 16) cs2] W (AnsM W m2 bs2 Q)) := Lib.hid fun W hb => (hf W hb).mono (ansM hm2)
          have HM2 := Lib.hid hm2; clear hm2 hg hf
          have HR0 := Lib.hid hR0; clear hR0
          clear ra rs la ls R1 R2
          go_upto_region 12 with fail
          go_cut [9, 10] (fun s9 s10 wx => ∃ C2 k2, s9 = .slice C2 m2 k2 ∧ s10 = .int .i64 (Q : Int) ∧ m2 ≤ k2 ∧ Hid (Rd wx wx.heap.size C2 (vb bs2)) ∧ Hid (Below w6.heap.size w6 wx))
          case first =>
            refine wp_region_noPanic ?_
            refine wp_region_held_drew (S := (fun w' => Below w6.heap.size w6 w')) (by kernel_rfl) ?_ (fun hHeld => ?_)
            · exact (Below.refl w6.heap.size w6).drew
            have hs2 : Below w6.heap.size w6 w6.drew := (Below.refl w6.heap.size w6).drew
            generalize w6.drew = ws1 at *
            refine wpAnyH_take (i := 0) (v := ?_) rfl (by kernel_rfl) (by kernel_rfl) (by kernel_rfl) (fun _ _ _ h => h) (Or.inl ⟨by rfl, ?_⟩) hHeld ?_
            rotate_left
            · intro w' hSw
              (try dsimp only at hSw)
              go_simp
              try with_reducible rfl
            try simp only [Act.put, zq1, zq2, zq3, zq4, zq5, zq6]
            refine wpAnyH_take (i := 1) (v := ?_) rfl (by kernel_rfl) (by kernel_rfl) (by kernel_rfl) (fun _ _ _ h => h) (Or.inl ⟨by rfl, ?_⟩) hHeld ?_
            rotate_left
            · intro w' hSw
              (try dsimp only at hSw)
              have cf := box6_0 (one_call HX.out hSw)
              go_simp
              try with_reducible rfl
            try simp only [Act.put, zq1, zq2, zq3, zq4, zq5, zq6]
            refine wpAnyH_take (i := 2) (v := ?_) rfl (by kernel_rfl) (by kernel_rfl) (by kernel_rfl) (fun _ _ _ h => h) (Or.inl ⟨by rfl, ?_⟩) hHeld ?_
            rotate_left
            · intro w' hSw
              (try dsimp only at hSw)
              go_simp
              try with_reducible rfl
            try simp only [Act.put, zq1, zq2, zq3, zq4, zq5, zq6]
            refine wpAnyH_take (i := 3) (v := ?_) rfl (by kernel_rfl) (by kernel_rfl) (by kernel_rfl) (fun _ _ _ h => h) (Or.inl ⟨by rfl, ?_⟩) hHeld ?_
            rotate_left
            · intro w' hSw
              (try dsimp only at hSw)
              have cf := box6_1 (one_call HX.out hSw)
              go_simp
              try with_reducible rfl
            try simp only [Act.put, zq1, zq2, zq3, zq4, zq5, zq6]
            refine wpAnyH_take (i := 4) (v := ?_) rfl (by kernel_rfl) (by kernel_rfl) (by kernel_rfl) (fun _ _ _ h => h) (Or.inl ⟨by rfl, ?_⟩) hHeld ?_
            rotate_left
            · intro w' hSw
              (try dsimp only at hSw)
              go_simp
              try with_reducible rfl
            try simp only [Act.put, zq1, zq2, zq3, zq4, zq5, zq6]
            refine wpAnyH_take (i := 5) (v := ?_) rfl (by kernel_rfl) (by kernel_rfl) (by kernel_rfl) (fun _ _ _ h => h) (Or.inl ⟨by rfl, ?_⟩) hHeld ?_
            rotate_left
            · intro w' hSw
              (try dsimp only at hSw)
              go_simp
              try with_reducible rfl
            try simp only [Act.put, zq1, zq2, zq3, zq4, zq5, zq6]
            refine wpAnyH_take (i := 6) (v := ?_) rfl (by kernel_rfl) (by kernel_rfl) (by kernel_rfl) (fun _ _ _ h => h) (Or.inl ⟨by rfl, ?_⟩) hHeld ?_
            rotate_left
            · intro w' hSw
              (try dsimp only at hSw)
              have cf := box6_2 (one_call HX.out hSw)
              go_simp
              try with_reducible rfl
            try simp only [Act.put, zq1, zq2, zq3, zq4, zq5, zq6]
            refine wpAnyH_take (i := 7) (v := ?_) rfl (by kernel_rfl) (by kernel_rfl) (by kernel_rfl) (fun _ _ _ h => h) (Or.inl ⟨by rfl, ?_⟩) hHeld ?_
            rotate_left
            · intro w' hSw
              (try dsimp only at hSw)
              go_simp
              try with_reducible rfl
            try simp only [Act.put, zq1, zq2, zq3, zq4, zq5, zq6]
            refine wpAnyH_take (i := 8) (v := ?_) rfl (by kernel_rfl) (by kernel_rfl) (by kernel_rfl) (fun _ _ _ h => h) (Or.inl ⟨by rfl, ?_⟩) hHeld ?_
            rotate_left
            · intro w' hSw
              (try dsimp only at hSw)
              go_simp
              try with_reducible rfl
            try simp only [Act.put, zq1, zq2, zq3, zq4, zq5, zq6]
            refine wpAnyH_take (i := 9) (v := ?_) rfl (by kernel_rfl) (by kernel_rfl) (by kernel_rfl) (fun _ _ _ h => h) (Or.inl ⟨by rfl, ?_⟩) hHeld ?_
            rotate_left
            · intro w' hSw
              (try dsimp only at hSw)
              go_simp
              try with_reducible rfl
            try simp only [Act.put, zq1, zq2, zq3, zq4, zq5, zq6]
            refine wpAnyH_take (i := 10) (v := ?_) rfl (by kernel_rfl) (by kernel_rfl) (by kernel_rfl) (fun _ _ _ h => h) (Or.inl ⟨by rfl, ?_⟩) hHeld ?_
            rotate_left
            · intro w' hSw
              (try dsimp only at hSw)
              go_simp
              try with_reducible rfl
            try simp only [Act.put, zq1, zq2, zq3, zq4, zq5, zq6]
            refine wpAnyH_take (i := 11) (v := ?_) rfl (by kernel_rfl) (by kernel_rfl) (by kernel_rfl) (fun _ _ _ h => h) (Or.inl ⟨by rfl, ?_⟩) hHeld ?_
            rotate_left
            · intro w' hSw
              (try dsimp only at hSw)
              have cf := box6_2 (one_call HX.out hSw)
              go_simp
              try with_reducible rfl
            try simp only [Act.put, zq1, zq2, zq3, zq4, zq5, zq6]
            refine wpAnyH_take (i := 12) (v := ?_) rfl (by kernel_rfl) (by kernel_rfl) (by kernel_rfl) (fun _ _ _ h => h) (Or.inl ⟨by rfl, ?_⟩) hHeld ?_
            rotate_left
            · intro w' hSw
              (try dsimp only at hSw)
              go_simp
              try with_reducible rfl
            try simp only [Act.put, zq1, zq2, zq3, zq4, zq5, zq6]
            refine wpAnyH_take (i := 13) (v := ?_) rfl (by kernel_rfl) (by kernel_rfl) (by kernel_rfl) (fun _ _ _ h => h) (Or.inl ⟨by rfl, ?_⟩) hHeld ?_
            rotate_left
            · intro w' hSw
              (try dsimp only at hSw)
              go_simp
              try with_reducible rfl
            try simp only [Act.put, zq1, zq2, zq3, zq4, zq5, zq6]
            refine wpAnyH_ready (rs := [14]) (by kernel_rfl) (by simp) ?_
            refine AllReadyH.cons rfl (fun K hK => ?_) (AllReadyH.nil)
            try simp only [zq1, zq2, zq3]
            go_simp
            refine (HG.out ws1 hs2).mono ?_
            rintro e w3 ⟨C2, k2, rfl, hk2, hr2, hb4⟩
            have hw5 : Below w6.heap.size w6 w3 := hs2.trans (hb4.mono hs2.size)
            refine hK.out _ _ ?_ (fun hHeld => ?_)
            · exact hw5
            clear hK K
            try simp only [Act.put, zq1, zq2, zq3, zq4, zq5, zq6]
            clear hb4
            refine wpAnyH_take (i := 15) (v := ?_) rfl (by kernel_rfl) (by kernel_rfl) (by kernel_rfl) (fun _ _ _ h => h) (Or.inl ⟨by rfl, ?_⟩) hHeld ?_
            rotate_left
            · intro w' hSw
              (try dsimp only at hSw)
              go_simp
              try with_reducible rfl
            try simp only [Act.put, zq1, zq2, zq3, zq4, zq5, zq6]
            refine wpAnyH_take (i := 16) (v := ?_) rfl (by kernel_rfl) (by kernel_rfl) (by kernel_rfl) (fun _ _ _ h => h) (Or.inl ⟨by rfl, ?_⟩) hHeld ?_
            rotate_left
            · intro w' hSw
              (try dsimp only at hSw)
              go_simp
              try with_reducible rfl
            try simp only [Act.put, zq1, zq2, zq3, zq4, zq5, zq6]
            refine wpAnyH_take (i := 17) (v := ?_) rfl (by kernel_rfl) (by kernel_rfl) (by kernel_rfl) (fun _ _ _ h => h) (Or.inl ⟨by rfl, ?_⟩) hHeld ?_
            rotate_left
            · intro w' hSw
              (try dsimp only at hSw)
              go_simp
              try with_reducible rfl
            try simp only [Act.put, zq1, zq2, zq3, zq4, zq5, zq6]
            refine wpAnyH_take (i := 18) (v := ?_) rfl (by kernel_rfl) (by kernel_rfl) (by kernel_rfl) (fun _ _ _ h => h) (Or.inl ⟨by rfl, ?_⟩) hHeld ?_
            rotate_left
            · intro w' hSw
              (try dsimp only at hSw)
              go_simp
              try with_reducible rfl
            try simp only [Act.put, zq1, zq2, zq3, zq4, zq5, zq6]
            refine wpAnyH_take (i := 19) (v := ?_) rfl (by kernel_rfl) (by kernel_rfl) (by kernel_rfl) (fun _ _ _ h => h) (Or.inl ⟨by rfl, ?_⟩) hHeld ?_
            rotate_left
            · intro w' hSw
              (try dsimp only at hSw)
              go_simp
              try with_reducible rfl
            try simp only [Act.put, zq1, zq2, zq3, zq4, zq5, zq6]
            refine wpAnyH_done (by kernel_rfl) ?_ _
            refine NoPanic.normal ?_
            go_wp2_with fail
            go_meet
            refine ⟨_, _, rfl, rfl, hk2, Lib.hid hr2, Lib.hid hw5⟩
          case rest =>
            obtain ⟨C2, k2, rfl, rfl, hk2, HR2, HW2⟩ := hcut
            obtain ⟨w7, rfl⟩ : ∃ w7 : World, w7 = wc := ⟨_, rfl⟩
            have HX7 := Lib.hid (one_call HX.out HW2.out)
            have HF7 : Hid (∀ W : World, Below w7.heap.size w7 W → Calls Try.prog 15 #[.slice K nk ck, .slice A nn cn, .slice (some ⟨ga, 0, none⟩) na capa, .slice (some sd) (nt + 16) cs2] W (AnsM W m2 bs2 Q)) := Lib.hid fun W hb => HF.out W (HW2.out.trans (hb.mono HW2.out.size))
            replace HB := Lib.hid (HB.out.trans (HW2.out.mono HB.out.size))
            clear HF HG HW2 HX
            try clear w6
            go_upto_region 13 with fail
            go_cut [11, 12] (fun s11 s12 wx => ∃ C3 k3, s11 = .slice C3 m2 k3 ∧ s12 = .int .i64 (Q : Int) ∧ Hid (Rd wx wx.heap.size C3 (vb bs2)) ∧ Hid (Below w7.heap.size w7 wx))
            case first =>
              refine wp_region_noPanic ?_
              refine wp_region_held_drew (S := (fun w' => Below w7.heap.size w7 w')) (by kernel_rfl) ?_ (fun hHeld => ?_)
              · exact (Below.refl w7.heap.size w7).drew
              have hs2 : Below w7.heap.size w7 w7.drew := (Below.refl w7.heap.size w7).drew
              generalize w7.drew = ws1 at *
              refine wpAnyH_take (i := 0) (v := ?_) rfl (by kernel_rfl) (by kernel_rfl) (by kernel_rfl) (fun _ _ _ h => h) (Or.inl ⟨by rfl, ?_⟩) hHeld ?_
              rotate_left
              · intro w' hSw
                (try dsimp only at hSw)
                go_simp
                try with_reducible rfl
              try simp only [Act.put, zq1, zq2, zq3, zq4, zq5, zq6]
              refine wpAnyH_take (i := 1) (v := ?_) rfl (by kernel_rfl) (by kernel_rfl) (by kernel_rfl) (fun _ _ _ h => h) (Or.inl ⟨by rfl, ?_⟩) hHeld ?_
              rotate_left
              · intro w' hSw
                (try dsimp only at hSw)
                have cf := box6_0 (one_call HX7.out hSw)
                go_simp
                try with_reducible rfl
              try simp only [Act.put, zq1, zq2, zq3, zq4, zq5, zq6]
              refine wpAnyH_take (i := 2) (v := ?_) rfl (by kernel_rfl) (by kernel_rfl) (by kernel_rfl) (fun _ _ _ h => h) (Or.inl ⟨by rfl, ?_⟩) hHeld ?_
              rotate_left
              · intro w' hSw
                (try dsimp only at hSw)
                go_simp
                try with_reducible rfl
              try simp only [Act.put, zq1, zq2, zq3, zq4, zq5, zq6]
              refine wpAnyH_take (i := 3) (v := ?_) rfl (by kernel_rfl) (by kernel_rfl) (by kernel_rfl) (fun _ _ _ h => h) (Or.inl ⟨by rfl, ?_⟩) hHeld ?_
              rotate_left
              · intro w' hSw
                (try dsimp only at hSw)
                have cf := box6_1 (one_call HX7.out hSw)
                go_simp
                try with_reducible rfl
              try simp only [Act.put, zq1, zq2, zq3, zq4, zq5, zq6]
              refine wpAnyH_take (i := 4) (v := ?_) rfl (by kernel_rfl) (by kernel_rfl) (by kernel_rfl) (fun _ _ _ h => h) (Or.inl ⟨by rfl, ?_⟩) hHeld ?_
              rotate_left
              · intro w' hSw
                (try dsimp only at hSw)
                go_simp
                try with_reducible rfl
              try simp only [Act.put, zq1, zq2, zq3, zq4, zq5, zq6]
              refine wpAnyH_take (i := 5) (v := ?_) rfl (by kernel_rfl) (by kernel_rfl) (by kernel_rfl) (fun _ _ _ h => h) (Or.inl ⟨by rfl, ?_⟩) hHeld ?_
              rotate_left
              · intro w' hSw
                (try dsimp only at hSw)
                go_simp
                try with_reducible rfl
              try simp only [Act.put, zq1, zq2, zq3, zq4, zq5, zq6]
              refine wpAnyH_take (i := 6) (v := ?_) rfl (by kernel_rfl) (by kernel_rfl) (by kernel_rfl) (fun _ _ _ h => h) (Or.inl ⟨by rfl, ?_⟩) hHeld ?_
              rotate_left
              · intro w' hSw
                (try dsimp only at hSw)
                have cf := box6_2 (one_call HX7.out hSw)
                go_simp
                try with_reducible rfl
              try simp only [Act.put, zq1, zq2, zq3, zq4, zq5, zq6]
              refine wpAnyH_take (i := 7) (v := ?_) rfl (by kernel_rfl) (by kernel_rfl) (by kernel_rfl) (fun _ _ _ h => h) (Or.inl ⟨by rfl, ?_⟩) hHeld ?_
              rotate_left
              · intro w' hSw
                (try dsimp only at hSw)
                go_simp
                try with_reducible rfl
              try simp only [Act.put, zq1, zq2, zq3, zq4, zq5, zq6]
              refine wpAnyH_take (i := 8) (v := ?_) rfl (by kernel_rfl) (by kernel_rfl) (by kernel_rfl) (fun _ _ _ h => h) (Or.inl ⟨by rfl, ?_⟩) hHeld ?_
              rotate_left
              · intro w' hSw
                (try dsimp only at hSw)
                go_simp
                try with_reducible rfl
              try simp only [Act.put, zq1, zq2, zq3, zq4, zq5, zq6]
              refine wpAnyH_take (i := 9) (v := ?_) rfl (by kernel_rfl) (by kernel_rfl) (by kernel_rfl) (fun _ _ _ h => h) (Or.inl ⟨by rfl, ?_⟩) hHeld ?_
              rotate_left
              · intro w' hSw
                (try dsimp only at hSw)
                go_simp
                try with_reducible rfl
              try simp only [Act.put, zq1, zq2, zq3, zq4, zq5, zq6]
              refine wpAnyH_take (i := 10) (v := ?_) rfl (by kernel_rfl) (by kernel_rfl) (by kernel_rfl) (fun _ _ _ h => h) (Or.inl ⟨by rfl, ?_⟩) hHeld ?_
              rotate_left
              · intro w' hSw
                (try dsimp only at hSw)
                go_simp
                try with_reducible rfl
              try simp only [Act.put, zq1, zq2, zq3, zq4, zq5, zq6]
              refine wpAnyH_take (i := 11) (v := ?_) rfl (by kernel_rfl) (by kernel_rfl) (by kernel_rfl) (fun _ _ _ h => h) (Or.inl ⟨by rfl, ?_⟩) hHeld ?_
              rotate_left
              · intro w' hSw
                (try dsimp only at hSw)
                have cf := box6_2 (one_call HX7.out hSw)
                go_simp
                try with_reducible rfl
              try simp only [Act.put, zq1, zq2, zq3, zq4, zq5, zq6]
              refine wpAnyH_take (i := 12) (v := ?_) rfl (by kernel_rfl) (by kernel_rfl) (by kernel_rfl) (fun _ _ _ h => h) (Or.inl ⟨by rfl, ?_⟩) hHeld ?_
              rotate_left
              · intro w' hSw
                (try dsimp only at hSw)
                go_simp
                try with_reducible rfl
              try simp only [Act.put, zq1, zq2, zq3, zq4, zq5, zq6]
              refine wpAnyH_take (i := 13) (v := ?_) rfl (by kernel_rfl) (by kernel_rfl) (by kernel_rfl) (fun _ _ _ h => h) (Or.inl ⟨by rfl, ?_⟩) hHeld ?_
              rotate_left
              · intro w' hSw
                (try dsimp only at hSw)
                go_simp
                try with_reducible rfl
              try simp only [Act.put, zq1, zq2, zq3, zq4, zq5, zq6]
              refine wpAnyH_ready (rs := [14]) (by kernel_rfl) (by simp) ?_
              refine AllReadyH.cons rfl (fun K hK => ?_) (AllReadyH.nil)
              try simp only [zq1, zq2, zq3]
              go_simp
              refine (HF7.out ws1 hs2).mono ?_
              rintro e w3 ⟨C3, k3, rfl, hk3, hr3, hb4⟩
              have hw5 : Below w7.heap.size w7 w3 := hs2.trans (hb4.mono hs2.size)
              refine hK.out _ _ ?_ (fun hHeld => ?_)
              · exact hw5
              clear hK K
              try simp only [Act.put, zq1, zq2, zq3, zq4, zq5, zq6]
              clear hb4
              refine wpAnyH_take (i := 15) (v := ?_) rfl (by kernel_rfl) (by kernel_rfl) (by kernel_rfl) (fun _ _ _ h => h) (Or.inl ⟨by rfl, ?_⟩) hHeld ?_
              rotate_left
              · intro w' hSw
                (try dsimp only at hSw)
                go_simp
                try with_reducible rfl
              try simp only [Act.put, zq1, zq2, zq3, zq4, zq5, zq6]
              refine wpAnyH_take (i := 16) (v := ?_) rfl (by kernel_rfl) (by kernel_rfl) (by kernel_rfl) (fun _ _ _ h => h) (Or.inl ⟨by rfl, ?_⟩) hHeld ?_
              rotate_left
              · intro w' hSw
                (try dsimp only at hSw)
                go_simp
                try with_reducible rfl
              try simp only [Act.put, zq1, zq2, zq3, zq4, zq5, zq6]
              refine wpAnyH_take (i := 17) (v := ?_) rfl (by kernel_rfl) (by kernel_rfl) (by kernel_rfl) (fun _ _ _ h => h) (Or.inl ⟨by rfl, ?_⟩) hHeld ?_
              rotate_left
              · intro w' hSw
                (try dsimp only at hSw)
                go_simp
                try with_reducible rfl
              try simp only [Act.put, zq1, zq2, zq3, zq4, zq5, zq6]
              refine wpAnyH_take (i := 18) (v := ?_) rfl (by kernel_rfl) (by kernel_rfl) (by kernel_rfl) (fun _ _ _ h => h) (Or.inl ⟨by rfl, ?_⟩) hHeld ?_
              rotate_left
              · intro w' hSw
                (try dsimp only at hSw)
                go_simp
                try with_reducible rfl
              try simp only [Act.put, zq1, zq2, zq3, zq4, zq5, zq6]
              refine wpAnyH_take (i := 19) (v := ?_) rfl (by kernel_rfl) (by kernel_rfl) (by kernel_rfl) (fun _ _ _ h => h) (Or.inl ⟨by rfl, ?_⟩) hHeld ?_
              rotate_left
              · intro w' hSw
                (try dsimp only at hSw)
                go_simp
                try with_reducible rfl
              try simp only [Act.put, zq1, zq2, zq3, zq4, zq5, zq6]
              refine wpAnyH_done (by kernel_rfl) ?_ _
              refine NoPanic.normal ?_
              go_wp2_with fail
              go_meet
              refine ⟨_, _, rfl, rfl, Lib.hid hr3, Lib.hid hw5⟩
            case rest =>
              obtain ⟨C3, k3, rfl, rfl, HR3, HW3⟩ := hcut
              obtain ⟨w8, rfl⟩ : ∃ w8 : World, w8 = wc := ⟨_, rfl⟩
              have HX8 := Lib.hid (one_call HX7.out HW3.out)
              replace HR2 := Lib.hid (HR2.out.go HW3.out)
              replace HB := Lib.hid (HB.out.trans (HW3.out.mono HB.out.size))
              clear HF7 HW3 HX7 q1 q2
              try clear w7
              have d5 := box6_5 (HX8.out)
              by_cases hbz : by_ = 0
              · have hq0 : (Q : Int) = 0 := by have := HR0.out hbz; omega
                have hb0 : (by_ : Int) = 0 := by omega
                clear HR0 hbz
                go_wp2_with fail
                refine (same_self C2 C3 bs2 m2 k2 k3 HM2.out.symm _ HR2.out HR3.out).mono ?_
                rintro e wq9 ⟨rfl, rfl⟩
                go_wp2_with fail
                refine (known06_any _).mono ?_
                rintro e wz ⟨rfl, hz⟩
                go_wp2_with fail
                go_ret
                exact ⟨rfl, HB.out.trans (hz.mono HB.out.size)⟩
              · have hb0 : ¬ (by_ : Int) = 0 := by omega
                clear HR0 hbz
                go_wp2_with fail
                refine (same_self C2 C3 bs2 m2 k2 k3 HM2.out.symm _ HR2.out HR3.out).mono ?_
                rintro e wq9 ⟨rfl, rfl⟩
                go_wp2_with fail
                refine (known06_any _).mono ?_
                rintro e wz ⟨rfl, hz⟩
                go_wp2_with fail
                go_ret
                exact ⟨rfl, HB.out.trans (hz.mono HB.out.size)⟩
      · have i2 : (400 : Int) < (nt : Int) := by omega
        go_enter Try.func5, Try.ntmps5
        go_upto_region 1 with fail
        generalize w.alloc (.cells #[.slice K nk ck, .slice A nn cn, .slice D na ca, .slice B nt ct, .int .i64 at_, .int .u8 (by_ : Int)] 32) = u1 at *
        obtain ⟨b0, hb0⟩ : ∃ b0, b0 = w.heap.size := ⟨_, rfl⟩
        rw [← hb0] at HX
        rw [← hb0]
        clear hb0
        have d0 := box6_0 (HX.out)
        have d1 := box6_1 (HX.out)
        have d2 := box6_2 (HX.out)
        have d3 := box6_3 (HX.out)
        have d4 := box6_4 (HX.out)
        have d5 := box6_5 (HX.out)
        go_wp2_with fail
        refine (HM.out u1).mono ?_
        rintro e wq ⟨rfl, rfl⟩
        go_wp2_with fail
        refine (known06_any _).mono ?_
        rintro e wz ⟨rfl, hz⟩
        go_wp2_with fail
        go_ret
        exact ⟨rfl, HB.out.trans (hz.mono HB.out.size)⟩
    · have i1 : (400 : Int) < (na : Int) := by omega
      go_enter Try.func5, Try.ntmps5
      go_upto_region 1 with fail
      generalize w.alloc (.cells #[.slice K nk ck, .slice A nn cn, .slice D na ca, .slice B nt ct, .int .i64 at_, .int .u8 (by_ : Int)] 32) = u1 at *
      obtain ⟨b0, hb0⟩ : ∃ b0, b0 = w.heap.size := ⟨_, rfl⟩
      rw [← hb0] at HX
      rw [← hb0]
      clear hb0
      have d0 := box6_0 (HX.out)
      have d1 := box6_1 (HX.out)
      have d2 := box6_2 (HX.out)
      have d3 := box6_3 (HX.out)
      have d4 := box6_4 (HX.out)
      have d5 := box6_5 (HX.out)
      go_wp2_with fail
      refine (HM.out u1).mono ?_
      rintro e wq ⟨rfl, rfl⟩
      go_wp2_with fail
      refine (known06_any _).mono ?_
      rintro e wz ⟨rfl, hz⟩
      go_wp2_with fail
      go_ret
      exact ⟨rfl, HB.out.trans (hz.mono HB.out.size)⟩
  · rw [decide_eq_false hok] at hm6
    have HM := Lib.hid hm6; clear hm6 hok
    go_enter Try.func5, Try.ntmps5
    go_upto_region 1 with fail
    generalize w.alloc (.cells #[.slice K nk ck, .slice A nn cn, .slice D na ca, .slice B nt ct, .int .i64 at_, .int .u8 (by_ : Int)] 32) = u1 at *
    obtain ⟨b0, hb0⟩ : ∃ b0, b0 = w.heap.size := ⟨_, rfl⟩
    rw [← hb0] at HX
    rw [← hb0]
    clear hb0
    have d0 := box6_0 (HX.out)
    have d1 := box6_1 (HX.out)
    have d2 := box6_2 (HX.out)
    have d3 := box6_3 (HX.out)
    have d4 := box6_4 (HX.out)
    have d5 := box6_5 (HX.out)
    go_wp2_with fail
    refine (HM.out u1).mono ?_
    rintro e wq ⟨rfl, rfl⟩
    go_wp2_with fail
    refine (known06_any _).mono ?_
    rintro e wz ⟨rfl, hz⟩
    go_wp2_with fail
    go_ret
    exact ⟨rfl, HB.out.trans (hz.mono HB.out.size)⟩

set_option maxRecDepth 100000 in
theorem jturned_lifted (os : Os) (started : os.Started) (H : Type) (enc : TypeId × Value → H) :
    ReturnsInHanded {} Try.checked os 5 .any (Rows.gcmTurnedSpec.pre6 enc Try.prog Try.f5 Rows.gcmTurnedRow.domain false) (Rows.gcmTurnedSpec.post enc Try.prog Try.f5 false true false false) := by
  refine returnsInHanded_of_change_sized (C := Try.checked) Try.own started (by kernel_rfl) Try.func5
    (ChangeSpec.witness6 (enc := enc) (C := Try.checked) false ⟨#[], #[.agg #[.slice none 0 0, .slice none 0 0, .slice none 0 0, .slice none 0 0, .int .i64 0, .int .u8 0]], []⟩ 8 (by kernel_rfl) (by kernel_rfl) (by kernel_rfl) (by kernel_rfl)) ?_
  intro W base args ds gs before hval0 hW _ hsz0 _
  have hsz : (DataW.weightsEach Try.prog (Try.f5.params.toList ++ Rows.gcmTurnedSpec.plain.varTypes Try.prog) (ds ++ gs)).all (· ≤ reachBytes) = true := hsz0
  have hval : ∀ (j : Nat) t v, Try.f5.params[j]? = some t → args[j]? = some v → Value.okWide Try.prog W .any base t v := hval0
  have hW' := hW
  obtain ⟨p, q, hA0, hV, rfl, _, _⟩ := hW
  have hA : DataW.TrodAll enc Try.prog W 0 (fun _ => true) true Try.f5.params.toList args.toList ds p := hA0
  rw [Try.params5] at hA hval hsz
  have hlt := hW'.lt
  clear hA0 hval0 hsz0
  obtain ⟨v0, vs0, d0, ds0, p0, q0, hv0, rfl, rfl, h0, r0⟩ := trodAll_cons hA
  obtain ⟨rfl, rfl, rfl⟩ := trodAll_nil r0
  obtain rfl : args = #[v0] := by cases args; simp_all
  obtain ⟨rfl, rfl⟩ := trodVars_none hV
  obtain ⟨V0, Y0, m0, rfl, rfl, rfl, hf0⟩ := open_struct Try.underlying32 (by kernel_rfl) (by kernel_rfl) (hval 0 32 v0 rfl rfl) h0
  have hz0 := sized_struct hsz (j := 0) (t := 32) rfl rfl Try.underlying32
  obtain ⟨A0_0, l0_0, c0_0, e0_0, rd0_0, le0_0, lc0_0⟩ := field_bytes Try.underlying22 Try.underlying5 Try.cellsU8 (hf0 0 _ rfl) (fun x hx => hlt x (by have hm : x ∈ (List.range 6).flatMap (fun i => (Y0 i).2) := List.mem_flatMap.2 ⟨0, List.mem_range.2 (by decide), hx⟩; first | exact hm | exact List.mem_append_left _ hm | exact List.mem_append_left _ (List.mem_append_left _ hm) | trace_state)) (fun es sp he => by have := sized_slice hz0 (j := 0) (t := 22) (e := 5) (elems := es) (spare := sp) rfl (show some (Y0 0).1 = _ from congrArg some he) Try.underlying22; rw [Try.bytesU8, Nat.mul_one] at this; exact this)
  obtain ⟨A0_1, l0_1, c0_1, e0_1, rd0_1, le0_1, lc0_1⟩ := field_bytes Try.underlying22 Try.underlying5 Try.cellsU8 (hf0 1 _ rfl) (fun x hx => hlt x (by have hm : x ∈ (List.range 6).flatMap (fun i => (Y0 i).2) := List.mem_flatMap.2 ⟨1, List.mem_range.2 (by decide), hx⟩; first | exact hm | exact List.mem_append_left _ hm | exact List.mem_append_left _ (List.mem_append_left _ hm) | trace_state)) (fun es sp he => by have := sized_slice hz0 (j := 1) (t := 22) (e := 5) (elems := es) (spare := sp) rfl (show some (Y0 1).1 = _ from congrArg some he) Try.underlying22; rw [Try.bytesU8, Nat.mul_one] at this; exact this)
  obtain ⟨A0_2, l0_2, c0_2, e0_2, rd0_2, le0_2, lc0_2⟩ := field_bytes Try.underlying22 Try.underlying5 Try.cellsU8 (hf0 2 _ rfl) (fun x hx => hlt x (by have hm : x ∈ (List.range 6).flatMap (fun i => (Y0 i).2) := List.mem_flatMap.2 ⟨2, List.mem_range.2 (by decide), hx⟩; first | exact hm | exact List.mem_append_left _ hm | exact List.mem_append_left _ (List.mem_append_left _ hm) | trace_state)) (fun es sp he => by have := sized_slice hz0 (j := 2) (t := 22) (e := 5) (elems := es) (spare := sp) rfl (show some (Y0 2).1 = _ from congrArg some he) Try.underlying22; rw [Try.bytesU8, Nat.mul_one] at this; exact this)
  obtain ⟨A0_3, l0_3, c0_3, e0_3, rd0_3, le0_3, lc0_3⟩ := field_bytes Try.underlying22 Try.underlying5 Try.cellsU8 (hf0 3 _ rfl) (fun x hx => hlt x (by have hm : x ∈ (List.range 6).flatMap (fun i => (Y0 i).2) := List.mem_flatMap.2 ⟨3, List.mem_range.2 (by decide), hx⟩; first | exact hm | exact List.mem_append_left _ hm | exact List.mem_append_left _ (List.mem_append_left _ hm) | trace_state)) (fun es sp he => by have := sized_slice hz0 (j := 3) (t := 22) (e := 5) (elems := es) (spare := sp) rfl (show some (Y0 3).1 = _ from congrArg some he) Try.underlying22; rw [Try.bytesU8, Nat.mul_one] at this; exact this)
  obtain ⟨a0_4, e0_4, w0_4⟩ := field_int Try.underlying3 (hf0 4 _ rfl)
  have b0_4 : -9223372036854775808 ≤ a0_4 ∧ a0_4 ≤ 9223372036854775807 := by simpa [Lit.wf, IntKind.min, IntKind.max, IntKind.signed, IntKind.bits] using w0_4
  obtain ⟨a0_5, e0_5, w0_5⟩ := field_int Try.underlying5 (hf0 5 _ rfl)
  have b0_5 : 0 ≤ a0_5 ∧ a0_5 ≤ 255 := by simpa [Lit.wf, IntKind.min, IntKind.max, IntKind.signed, IntKind.bits] using w0_5
  obtain ⟨n0_5, rfl⟩ : ∃ n0_5 : Nat, a0_5 = n0_5 := ⟨a0_5.toNat, by omega⟩
  have ea0 : ((List.range 6).map V0).toArray = #[.slice A0_0 l0_0.length c0_0, .slice A0_1 l0_1.length c0_1, .slice A0_2 l0_2.length c0_2, .slice A0_3 l0_3.length c0_3, .int .i64 a0_4, .int .u8 (n0_5 : Int)] := by rw [show (List.range 6).map V0 = [V0 0, V0 1, V0 2, V0 3, V0 4, V0 5] from rfl, e0_0, e0_1, e0_2, e0_3, e0_4, e0_5]
  have hw := jturned_any A0_0 l0_0 l0_0.length c0_0 rfl A0_1 l0_1 l0_1.length c0_1 rfl A0_2 l0_2 l0_2.length c0_2 rfl A0_3 l0_3 l0_3.length c0_3 rfl a0_4 n0_5 W le0_0 lc0_0 rd0_0 le0_1 lc0_1 rd0_1 le0_2 lc0_2 rd0_2 le0_3 lc0_3 rd0_3 b0_4 (by omega)
  rw [← ea0] at hw
  refine (hw).mono fun e W' ⟨he, hb⟩ => ⟨_, he, ?_⟩
  exact law_post 4 Try.underlying4 (by kernel_rfl) rfl Try.laidOut (by kernel_rfl) hW' ⟨rfl, rfl, rfl⟩ hb

theorem jturned_holds : Rows.GcmTurnedSaid :=
  OpenClaim.holds_of_wide 5 Try.f5 rfl rfl rfl rfl rfl rfl rfl ⟨rfl, rfl, rfl, rfl, rfl⟩ rfl rfl rfl rfl rfl (by kernel_rfl) Try.func5 (by kernel_rfl)
    (of_decide_eq_true (by kernel_rfl)) (by unfold Func.isWrapper; first | (rw [if_pos (by decide +kernel)]; kernel_rfl) | (rw [if_neg (by decide +kernel)]; exact ⟨rfl, rfl⟩))
    (fun os started H enc _ => jturned_lifted os started H enc)
end Go.Proofs.Ytkfmgjipocmkjaa
