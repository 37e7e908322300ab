/-
  Bytes added bit by bit: by themselves they are noughts, by noughts they stay, no order counts: OctetRing, for every input.
-/
import Derived.Test.YtlafndoidioomaaLaw
import Derived.Test.YtlafndoidioomaaOctA
import Derived.Test.YtlafndoidioomaaOctD
import Derived.Test.YtlafndoidioomaaOctG
import Derived.WalkLawsBesides
import Derived.Deep.DeepCutAuto
namespace Go.Proofs.Ytlafndoidioomaa
open Go Go.RowKit Go.ChangeShapes Go.WideShapes Go.ChangeAt
set_option linter.unusedVariables false

theorem orX_comm (a b : List UInt8) : orX a b = orX b a := by
  unfold orX
  rw [List.zipWith_comm]
  congr 1
  funext x y
  exact UInt8.xor_comm y x
theorem orX_assoc : ∀ (a b c : List UInt8), orX (orX a b) c = orX a (orX b c)
  | [], _, _ => by simp [orX]
  | _ :: _, [], _ => by simp [orX]
  | _ :: _, _ :: _, [] => by simp [orX]
  | x :: a, y :: b, z :: c => by
    have := orX_assoc a b c
    simp only [orX, List.zipWith_cons_cons, UInt8.xor_assoc] at this ⊢
    rw [this]
theorem orX_self : ∀ a : List UInt8, (orX a a).all (· == 0) = true
  | [] => rfl
  | x :: a => by
    have := orX_self a
    simp only [orX, List.zipWith_cons_cons, List.all_cons] at this ⊢
    rw [this]; simp
theorem orX_back : ∀ (a b : List UInt8), a.length = b.length → orX (orX a b) b = a
  | [], _, _ => by simp [orX]
  | _ :: _, [], h => by simp at h
  | x :: a, y :: b, h => by
    have := orX_back a b (by simpa using h)
    simp only [orX, List.zipWith_cons_cons] at this ⊢
    rw [this, UInt8.xor_assoc, UInt8.xor_self, UInt8.xor_zero]

/-- Xor, and what it gives, as bytes that can be read. -/
theorem xor_rd (A B : Option Addr) (a b : List UInt8) (n ca cb : Nat) (hn : Hid (a.length = n)) (hm : Hid (b.length = n)) (w : World) (hl : n ≤ 140737488351232)
    (h : Rd w w.heap.size A (vb a)) (h' : Rd w w.heap.size B (vb b)) :
    Calls Try.prog 18 #[.slice A n ca, .slice B n cb] w fun e w' => ∃ X cx, e = .returned (.tuple #[.slice X n cx, .int .i64 0]) ∧ Rd w' w'.heap.size X (vb (orX a b)) ∧ Hid ((orX a b).length = n) ∧ Below w.heap.size w w' :=
  (xor_any A B a b n ca cb hn.out hm.out w hl h h').mono fun e w' ⟨v, he, hown, hb⟩ => by
    obtain ⟨X, cx, rfl, hlen, hrd⟩ := Rd.of_own hown
    exact ⟨X, cx, he, hrd, Lib.hid (by simpa using hlen), hb⟩

set_option maxRecDepth 100000 in
set_option maxHeartbeats 4000000 in
theorem ring_walk (A B C : Option Addr) (a b c : List UInt8) (na nb nc ca cb cc : Nat) (hna : a.length = na) (hnb : b.length = nb) (hnc : c.length = nc) (w : World) (hla : na ≤ 140737488351232) (hlb : nb ≤ 140737488351232) (hlc : nc ≤ 140737488351232) (hca : na ≤ ca) (hcb : nb ≤ cb) (hcc : nc ≤ cc)
    (h1 : Rd w w.heap.size A (vb a)) (h2 : Rd w w.heap.size B (vb b)) (h3 : Rd w w.heap.size C (vb c)) :
    Calls Try.prog 9 #[.slice A na ca, .slice B nb cb, .slice C nc cc] w fun e w' => e = .returned (.bool true) ∧ Below w.heap.size w w' := by
  obtain ⟨n, hn⟩ : ∃ n, n = min (min na nb) nc := ⟨_, rfl⟩
  have hn1 : n ≤ na := by omega
  have hn2 : n ≤ nb := by omega
  have hn3 : n ≤ nc := by omega
  have HMN := Lib.hid hn; clear hn
  obtain ⟨j0, hi, hz0, hz1, hz2⟩ := info_parts info_u8
  have r1 := run_head (P := Try.prog) 23 5 j0 Try.underlying23 hi A na ca n (by omega)
  have r2 := run_head (P := Try.prog) 23 5 j0 Try.underlying23 hi B nb cb n (by omega)
  have r3 := run_head (P := Try.prog) 23 5 j0 Try.underlying23 hi C nc cc n (by omega)
  have ha : (a.take n).length = n := by simp; omega
  have hb : (b.take n).length = n := by simp; omega
  have hc : (c.take n).length = n := by simp; omega
  have HA := Lib.hid ha
  have HB := Lib.hid hb
  have HC := Lib.hid hc
  clear ha hb hc
  have g1 : Rd w w.heap.size A (vb (a.take n)) := by have := h1.take n; simpa [vb, List.map_take] using this
  have g2 : Rd w w.heap.size B (vb (b.take n)) := by have := h2.take n; simpa [vb, List.map_take] using this
  have g3 : Rd w w.heap.size C (vb (c.take n)) := by have := h3.take n; simpa [vb, List.map_take] using this
  generalize a.take n = a' at *
  generalize b.take n = b' at *
  generalize c.take n = c' at *
  clear h1 h2 h3
  clear hna hnb hnc
  go_enter Try.func9, Try.ntmps9
  go_upto_region 1 with fail
  go_cut [7] (fun s7 wx => s7 = .int .i64 (n : Int) ∧ wx = w)
  case first =>
    go_wp2_with fail
    all_goals (go_meet; exact ⟨val_int (by have := HMN.out; omega), rfl⟩)
  case rest =>
    obtain ⟨rfl, rfl⟩ := hcut
    have i0 : (0 : Int) ≤ (n : Int) := by omega
    go_wp2_with fail
    go_quiet (fail)
    have f1 : Rd (wc.drewN nq) (wc.drewN nq).heap.size A (vb a') := g1
    have f2 : Rd (wc.drewN nq) (wc.drewN nq).heap.size B (vb b') := g2
    have f3 : Rd (wc.drewN nq) (wc.drewN nq).heap.size C (vb c') := g3
    have bb : Below wc.heap.size wc (wc.drewN nq) := bdrewN (Below.refl _ _) nq
    clear g1 g2 g3 r1 r2 r3 hi hz0 hz1 hz2
    have hl : n ≤ 140737488351232 := by omega
    clear hla hlb hlc hca hcb hcc hn1 hn2 hn3
    generalize wc.drewN nq = w1 at *
    go_wp2_with fail
    refine (xor_rd A B a' b' n ca cb HA HB _ hl f1 f2).mono ?_
    rintro e w2 ⟨X, cx, rfl, x2, HX, b2⟩
    have f1 := f1.go b2
    have f2 := f2.go b2
    have f3 := f3.go b2
    have bb := bb.trans (b2.mono bb.size)
    go_wp2_with fail
    refine (xor_rd B A b' a' n cb ca HB HA _ hl f2 f1).mono ?_
    rintro e w3 ⟨Y, cy, rfl, y3, HY, b3⟩
    have f1 := f1.go b3
    have f2 := f2.go b3
    have f3 := f3.go b3
    have x3 := x2.go b3
    have bb := bb.trans (b3.mono bb.size)
    go_wp2_with fail
    refine (xor_rd X C (orX a' b') c' n cx cc HX HC _ hl x3 f3).mono ?_
    rintro e w4 ⟨Z, cz, rfl, z4, HZ, b4⟩
    have f1 := f1.go b4
    have f2 := f2.go b4
    have f3 := f3.go b4
    have x4 := x3.go b4
    have y4 := y3.go b4
    have bb := bb.trans (b4.mono bb.size)
    go_wp2_with fail
    refine (xor_rd B C b' c' n cb cc HB HC _ hl f2 f3).mono ?_
    rintro e w5 ⟨U, cu, rfl, u5, HU, b5⟩
    have f1 := f1.go b5
    have f2 := f2.go b5
    have x5 := x4.go b5
    have y5 := y4.go b5
    have z5 := z4.go b5
    have bb := bb.trans (b5.mono bb.size)
    go_wp2_with fail
    refine (xor_rd A U a' (orX b' c') n ca cu HA HU _ hl f1 u5).mono ?_
    rintro e w6 ⟨V, cv, rfl, v6, HV, b6⟩
    have f1 := f1.go b6
    have f2 := f2.go b6
    have x6 := x5.go b6
    have y6 := y5.go b6
    have z6 := z5.go b6
    have bb := bb.trans (b6.mono bb.size)
    go_wp2_with fail
    refine (xor_rd A A a' a' n ca ca HA HA _ hl f1 f1).mono ?_
    rintro e w7 ⟨O, co, rfl, o7, HO, b7⟩
    have f1 := f1.go b7
    have f2 := f2.go b7
    have x7 := x6.go b7
    have y7 := y6.go b7
    have z7 := z6.go b7
    have v7 := v6.go b7
    have bb := bb.trans (b7.mono bb.size)
    go_wp2_with fail
    refine (xor_rd X B (orX a' b') b' n cx cb HX HB _ hl x7 f2).mono ?_
    rintro e w8 ⟨K, ck, rfl, k8, HK, b8⟩
    have f1 := f1.go b8
    have f2 := f2.go b8
    have x8 := x7.go b8
    have y8 := y7.go b8
    have z8 := z7.go b8
    have v8 := v7.go b8
    have o8 := o7.go b8
    have bb := bb.trans (b8.mono bb.size)
    rw [orX_comm b' a'] at y8 HY
    rw [← orX_assoc] at v8 HV
    rw [orX_back _ _ (HA.out.trans HB.out.symm)] at k8 HK
    go_wp2_with fail
    refine (same_bel X Y _ _ n n cx cy HX.out HY.out _ hl hl x8 y8).mono ?_
    rintro e w9 ⟨rfl, b9⟩
    rw [beq_self_eq_true]
    have f1 := f1.go b9
    have f2 := f2.go b9
    have x9 := x8.go b9
    have z9 := z8.go b9
    have v9 := v8.go b9
    have o9 := o8.go b9
    have k9 := k8.go b9
    have bb := bb.trans (b9.mono bb.size)
    go_wp2_with fail
    refine (same_bel Z V _ _ n n cz cv HZ.out HV.out _ hl hl z9 v9).mono ?_
    rintro e w10 ⟨rfl, b10⟩
    rw [beq_self_eq_true]
    have f1 := f1.go b10
    have f2 := f2.go b10
    have x10 := x9.go b10
    have o10 := o9.go b10
    have k10 := k9.go b10
    have bb := bb.trans (b10.mono bb.size)
    go_wp2_with fail
    refine (nought_any O _ n co HO.out _ hl o10).mono ?_
    rintro e w11 ⟨rfl, rfl⟩
    rw [orX_self]
    go_wp2_with fail
    refine (same_bel K A _ _ n n ck ca HK.out HA.out _ hl hl k10 f1).mono ?_
    rintro e w12 ⟨rfl, b12⟩
    rw [beq_self_eq_true]
    have f1 := f1.go b12
    have f2 := f2.go b12
    have x12 := x10.go b12
    have bb := bb.trans (b12.mono bb.size)
    go_wp2_with fail
    refine (nought_any X _ n cx HX.out _ hl x12).mono ?_
    rintro e w13 ⟨rfl, rfl⟩
    rw [same_eq a' b' (HA.out.trans HB.out.symm)]
    go_wp2_with fail
    refine (same_bel A B _ _ n n ca cb HA.out HB.out _ hl hl f1 f2).mono ?_
    rintro e w14 ⟨rfl, b14⟩
    have bb := bb.trans (b14.mono bb.size)
    generalize (a' == b') = t
    have ht : (t == t) = true := by cases t <;> rfl
    go_wp2_with fail
    refine (known_any _).mono ?_
    rintro e w15 ⟨rfl, b15⟩
    go_wp2_with fail
    go_ret
    exact ⟨rfl, bb.trans (b15.mono bb.size)⟩

theorem ring_any (A : Option Addr) (a : List UInt8) (na ca : Nat) (hna : a.length = na) (B : Option Addr) (b : List UInt8) (nb cb : Nat) (hnb : b.length = nb) (C : Option Addr) (c : List UInt8) (nc cc : Nat) (hnc : c.length = nc) (w : World)
    (hla : na ≤ 140737488351232) (hca : na ≤ ca) (h1 : Rd w w.heap.size A (vb a)) (hlb : nb ≤ 140737488351232) (hcb : nb ≤ cb) (h2 : Rd w w.heap.size B (vb b)) (hlc : nc ≤ 140737488351232) (hcc : nc ≤ cc) (h3 : Rd w w.heap.size C (vb c)) :
    Calls Try.prog 9 #[.slice A na ca, .slice B nb cb, .slice C nc cc] w fun e w' => e = .returned (.bool true) ∧ Below w.heap.size w w' :=
  ring_walk A B C a b c na nb nc ca cb cc hna hnb hnc w hla hlb hlc hca hcb hcc h1 h2 h3

set_option maxRecDepth 100000 in
theorem ring_lifted (os : Os) (started : os.Started) (H : Type) (enc : TypeId × Value → H) :
    ReturnsInHanded {} Try.checked os 9 .any (Rows.octetRingSpec.pre6 enc Try.prog Try.f9 Rows.octetRingRow.domain false) (Rows.octetRingSpec.post enc Try.prog Try.f9 false true false false) := by
  refine returnsInHanded_of_change_sized (C := Try.checked) Try.own started (by kernel_rfl) Try.func9
    (ChangeSpec.witness6 (enc := enc) (C := Try.checked) false ⟨#[], #[.slice none 0 0, .slice none 0 0, .slice none 0 0], []⟩ 8 (by kernel_rfl) (by kernel_rfl) (by kernel_rfl) (by kernel_rfl)) ?_
  intro W base args ds gs before hval0 hW _ hsz0 _
  have hsz : (DataW.weightsEach Try.prog (Try.f9.params.toList ++ Rows.octetRingSpec.plain.varTypes Try.prog) (ds ++ gs)).all (· ≤ reachBytes) = true := hsz0
  have hval : ∀ (j : Nat) t v, Try.f9.params[j]? = some t → args[j]? = some v → Value.okWide Try.prog W .any base t v := hval0
  have hW' := hW
  obtain ⟨p, q, hA0, hV, rfl, _, _⟩ := hW
  have hA : DataW.TrodAll enc Try.prog W 0 (fun _ => true) true Try.f9.params.toList args.toList ds p := hA0
  rw [Try.params9] at hA hval hsz
  have hlt := hW'.lt
  clear hA0 hval0 hsz0
  obtain ⟨v0, vs0, d0, ds0, p0, q0, hv0, rfl, rfl, h0, r0⟩ := trodAll_cons hA
  obtain ⟨v1, vs1, d1, ds1, p1, q1, hv1, rfl, rfl, h1, r1⟩ := trodAll_cons r0
  subst hv1
  obtain ⟨v2, vs2, d2, ds2, p2, q2, hv2, rfl, rfl, h2, r2⟩ := trodAll_cons r1
  subst hv2
  obtain ⟨rfl, rfl, rfl⟩ := trodAll_nil r2
  obtain rfl : args = #[v0, v1, v2] := by cases args; simp_all
  obtain ⟨rfl, rfl⟩ := trodVars_none hV
  obtain ⟨A0, l0, c0, rfl, rd0, le0, lc0⟩ := open_bytes_cap Try.underlying23 Try.underlying5 Try.cellsU8 (hval 0 23 v0 rfl rfl) h0 (fun x hx => hlt x (by simp [hx])) (fun es sp he => by subst he; have := sized_slice hsz (j := 0) (t := 23) (e := 5) rfl rfl Try.underlying23; rw [Try.bytesU8, Nat.mul_one] at this; exact this)
  obtain ⟨A1, l1, c1, rfl, rd1, le1, lc1⟩ := open_bytes_cap Try.underlying23 Try.underlying5 Try.cellsU8 (hval 1 23 v1 rfl rfl) h1 (fun x hx => hlt x (by simp [hx])) (fun es sp he => by subst he; have := sized_slice hsz (j := 1) (t := 23) (e := 5) rfl rfl Try.underlying23; rw [Try.bytesU8, Nat.mul_one] at this; exact this)
  obtain ⟨A2, l2, c2, rfl, rd2, le2, lc2⟩ := open_bytes_cap Try.underlying23 Try.underlying5 Try.cellsU8 (hval 2 23 v2 rfl rfl) h2 (fun x hx => hlt x (by simp [hx])) (fun es sp he => by subst he; have := sized_slice hsz (j := 2) (t := 23) (e := 5) rfl rfl Try.underlying23; rw [Try.bytesU8, Nat.mul_one] at this; exact this)
  refine (ring_any A0 l0 l0.length c0 rfl A1 l1 l1.length c1 rfl A2 l2 l2.length c2 rfl W le0 lc0 rd0 le1 lc1 rd1 le2 lc2 rd2).mono fun e W' ⟨he, hb⟩ => ⟨_, he, ?_⟩
  exact law_post 4 Try.underlying4 (by kernel_rfl) rfl Try.laidOut (by kernel_rfl) hW' ⟨rfl, rfl, rfl⟩ hb

theorem ring_holds : Rows.OctetRingSaid :=
  OpenClaim.holds_of_wide 9 Try.f9 rfl rfl rfl rfl rfl rfl rfl ⟨rfl, rfl, rfl, rfl, rfl⟩ rfl rfl rfl rfl rfl (by kernel_rfl) Try.func9 (by kernel_rfl)
    (of_decide_eq_true (by kernel_rfl)) (by unfold Func.isWrapper; first | (rw [if_pos (by decide +kernel)]; kernel_rfl) | (rw [if_neg (by decide +kernel)]; exact ⟨rfl, rfl⟩))
    (fun os started H enc _ => ring_lifted os started H enc)
end Go.Proofs.Ytlafndoidioomaa
