/-
  octet.Xor, Same and Nought answer what the document's do, for any two rows of bytes, and what is handed in stays: OctetXors, for every input.
-/
import Derived.Test.YtlafndoidioomaaLaw
import Derived.Test.YtlafndoidioomaaOctA
import Derived.Test.YtlafndoidioomaaOctD
import Derived.Test.YtlafndoidioomaaOctE
import Derived.Test.YtlafndoidioomaaOctG
namespace Go.Proofs.Ytlafndoidioomaa
open Go Go.RowKit Go.ChangeShapes Go.WideShapes Go.ChangeAt
set_option linter.unusedVariables false

set_option maxRecDepth 100000 in
set_option maxHeartbeats 4000000 in
theorem xors_like (A B : Option Addr) (a b : List UInt8) (n ca cb : Nat) (hn : a.length = n) (hm : b.length = n) (w : World) (hl : n ≤ 140737488351232)
    (h : Rd w w.heap.size A (vb a)) (h' : Rd w w.heap.size B (vb b)) :
    Calls Try.prog 5 #[.slice A n ca, .slice B n cb] w fun e w' => e = .returned (.bool true) ∧ Below w.heap.size w w' := by
  have HN := Lib.hid hn; clear hn
  have HM := Lib.hid hm; clear hm
  go_enter Try.func5, Try.ntmps5
  go_wp2_with fail
  refine (copy_any A a n ca HN.out _ hl h).mono ?_
  rintro e w1 ⟨v, rfl, hown1, hb1⟩
  obtain ⟨X, cx, rfl, _, hx⟩ := Rd.of_own hown1
  clear hown1
  go_wp2_with fail
  refine (copy_any B b n cb HM.out _ hl (h'.go hb1)).mono ?_
  rintro e w2 ⟨v, rfl, hown2, hb2⟩
  obtain ⟨Y, cy, rfl, _, hy⟩ := Rd.of_own hown2
  clear hown2
  have hx2 := hx.go hb2
  have bb2 : Below w.heap.size w w2 := hb1.trans (hb2.mono hb1.size)
  clear hx hb1 hb2
  go_wp2_with fail
  refine (xor_any X Y a b n cx cy HN.out HM.out _ hl hx2 hy).mono ?_
  rintro e w3 ⟨v, rfl, hown3, hb3⟩
  have hx3 := hx2.go hb3
  have hy3 := hy.go hb3
  have bb3 : Below w.heap.size w w3 := bb2.trans (hb3.mono bb2.size)
  go_wp2_with fail
  refine (same_bel X Y a b n n cx cy HN.out HM.out _ hl hl hx3 hy3).mono ?_
  rintro e w4 ⟨rfl, hb4⟩
  have hx4 := hx3.go hb4
  have hy4 := hy3.go hb4
  have hown4 := own_below hown3 hb4
  have bb4 : Below w.heap.size w w4 := bb3.trans (hb4.mono bb3.size)
  have sz4 : w2.heap.size ≤ w4.heap.size := Nat.le_trans hb3.size hb4.size
  have hx24 : Below w2.heap.size w2 w4 := hb3.trans (hb4.mono hb3.size)
  clear hx3 hy3 hown3 hb3 hb4 bb3
  go_wp2_with fail
  refine (nought_any X a n cx HN.out _ hl hx4).mono ?_
  rintro e w5 ⟨rfl, rfl⟩
  go_wp2_with fail
  refine (rsame_any X A a a n n cx ca HN.out HN.out _ hx4 (h.below bb4)).mono ?_
  rintro e w6 ⟨rfl, rfl⟩
  rw [beq_self_eq_true]
  go_wp2_with fail
  refine (rsame_any Y B b b n n cy cb HM.out HM.out _ hy4 (h'.below bb4)).mono ?_
  rintro e w7 ⟨rfl, rfl⟩
  rw [beq_self_eq_true]
  go_wp2_with fail
  refine (rsame_any A B a b n n ca cb HN.out HM.out _ (h.below bb4) (h'.below bb4)).mono ?_
  rintro e w8 ⟨rfl, rfl⟩
  generalize (a == b) = t
  have ht : (t != t) = false := by cases t <;> rfl
  go_wp2_with fail
  refine (rnought_any A a n ca HN.out _ hl ((h.below bb4).more bb4.size)).mono ?_
  rintro e w9 ⟨rfl, rfl⟩
  generalize (a.all (· == 0)) = u
  have hu : (u != u) = false := by cases u <;> rfl
  go_wp2_with fail
  refine (rxor_any A B a b n ca cb HN.out HM.out _ hl (h.go bb4) (h'.go bb4)).mono ?_
  rintro e w10 ⟨v10, rfl, hown10, hb10⟩
  obtain ⟨Z, cz, rfl, hz, hz10⟩ := Rd.of_own hown10
  have HZ : Hid ((orX a b).length = n) := Lib.hid (by simpa using hz)
  clear hown10 hz
  have hx10 := hx4.go hb10
  have hy10 := hy4.go hb10
  have hown11 := own_below hown4 hb10
  have hx2A : Below w2.heap.size w2 w10 := hx24.trans (hb10.mono sz4)
  clear hx4 hy4 hown4 hx24 bb4 sz4 hb10
  obtain ⟨C, cc, rfl, _, hc10⟩ := Rd.of_own hown11
  go_wp2_with fail
  refine (rsame_any C Z (orX a b) (orX a b) n n cc cz HZ.out HZ.out _ hc10 hz10).mono ?_
  rintro e w12 ⟨rfl, rfl⟩
  rw [beq_self_eq_true]
  clear hc10 hz10 hx10 hy10
  go_wp2_with fail
  go_loopw [77] (fun i wr => ∃ k : Nat, k ≤ n ∧ i = .int .i64 k ∧ (∃ zs : List UInt8, wr.ownsRow w2.heap.size 5 1 (.slice C n cc) n (vb zs)) ∧ Below w2.heap.size w2 wr) (fun i _ => n - (intOf i).toNat)
  case atStart => exact ⟨0, Nat.zero_le _, rfl, ⟨_, hown11⟩, hx2A⟩
  case round =>
    clear hown11 hx2A
    obtain ⟨k, hk, rfl, ⟨zs, hown⟩, hb⟩ := hrel
    by_cases hlt : k < n
    · obtain ⟨g, cap, hv, hg, hgs⟩ := hown.form (by omega)
      obtain ⟨rfl, rfl⟩ : C = some ⟨g, 0, none⟩ ∧ cap = cc := by injection hv with h1 h2 h3; exact ⟨h1, h3.symm⟩
      have hzl : zs.length = n := by have := hown.1; simpa using this
      have hfz := hown.frozenAt k
      obtain ⟨uu, hce⟩ : ∃ uu, wr.cell? ⟨g, k, none⟩ = some uu := ⟨_, (hown.cellAt k (by omega)).trans (List.getElem?_eq_getElem (by simp; omega))⟩
      have hst := hown.stored k (.int .u8 ((7 : UInt8).toNat : Int))
      have e7 : (vb zs).set k (.int .u8 ((7 : UInt8).toNat : Int)) = vb (zs.set k 7) := by simp [vb, List.map_set]
      rw [e7] at hst
      have HST := Lib.hid hst
      clear hst e7 hzl hv
      go_wp2_with fail
      go_roundw
      case rel => exact ⟨k + 1, by omega, by go_num, ⟨_, HST.out.1⟩, hb.grown HST.out.2 hb.size (by simp [hg])⟩
      case measure => simp [intOf]; omega
    · have bb := bb2.trans (hb.mono bb2.size)
      have hx13 := hx2.go hb
      have hy13 := hy.go hb
      go_wp2_with fail
      refine (rsame_any X A a a n n cx ca HN.out HN.out _ hx13 (h.below bb)).mono ?_
      rintro e w14 ⟨rfl, rfl⟩
      rw [beq_self_eq_true]
      go_wp2_with fail
      refine (rsame_any Y B b b n n cy cb HM.out HM.out _ hy13 (h'.below bb)).mono ?_
      rintro e w15 ⟨rfl, rfl⟩
      rw [beq_self_eq_true]
      go_wp2_with fail
      refine (known_any _).mono ?_
      rintro e w16 ⟨rfl, hb16⟩
      go_wp2_with fail
      go_ret
      exact ⟨rfl, bb.trans (hb16.mono bb.size)⟩

set_option maxRecDepth 100000 in
set_option maxHeartbeats 4000000 in
theorem xors_unlike (A B : Option Addr) (a b : List UInt8) (n m ca cb : Nat) (hn : a.length = n) (hm : b.length = m) (w : World) (hl : n ≤ 140737488351232) (hl' : m ≤ 140737488351232) (hne : n ≠ m)
    (h : Rd w w.heap.size A (vb a)) (h' : Rd w w.heap.size B (vb b)) :
    Calls Try.prog 5 #[.slice A n ca, .slice B m cb] w fun e w' => e = .returned (.bool true) ∧ Below w.heap.size w w' := by
  have hx : (((n : Int)) != (m : Int)) = true := by rw [bne_iff_ne]; omega
  have HN := Lib.hid hn; clear hn
  have HM := Lib.hid hm; clear hm
  go_enter Try.func5, Try.ntmps5
  go_wp2_with fail
  refine (copy_any A a n ca HN.out _ hl h).mono ?_
  rintro e w1 ⟨v, rfl, hown1, hb1⟩
  obtain ⟨X, cx, rfl, _, hx⟩ := Rd.of_own hown1
  clear hown1
  go_wp2_with fail
  refine (copy_any B b m cb HM.out _ hl' (h'.go hb1)).mono ?_
  rintro e w2 ⟨v, rfl, hown2, hb2⟩
  obtain ⟨Y, cy, rfl, _, hy⟩ := Rd.of_own hown2
  clear hown2
  have hx2 := hx.go hb2
  have bb2 : Below w.heap.size w w2 := hb1.trans (hb2.mono hb1.size)
  clear hx hb1 hb2
  go_wp2_with fail
  refine (xor_err X Y n m cx cy _ hne hl hl').mono ?_
  rintro e w3 ⟨rfl, rfl⟩
  go_wp2_with fail
  refine (same_bel X Y a b n m cx cy HN.out HM.out _ hl hl' hx2 hy).mono ?_
  rintro e w4 ⟨rfl, hb4⟩
  have hx4 := hx2.go hb4
  have hy4 := hy.go hb4
  have bb4 : Below w.heap.size w w4 := bb2.trans (hb4.mono bb2.size)
  clear hx2 hy hb4 bb2
  go_wp2_with fail
  refine (nought_any X a n cx HN.out _ hl hx4).mono ?_
  rintro e w5 ⟨rfl, rfl⟩
  go_wp2_with fail
  refine (rsame_any X A a a n n cx ca HN.out HN.out _ hx4 (h.below bb4)).mono ?_
  rintro e w6 ⟨rfl, rfl⟩
  rw [beq_self_eq_true]
  go_wp2_with fail
  refine (rsame_any Y B b b m m cy cb HM.out HM.out _ hy4 (h'.below bb4)).mono ?_
  rintro e w7 ⟨rfl, rfl⟩
  rw [beq_self_eq_true]
  go_wp2_with fail
  refine (rsame_any A B a b n m ca cb HN.out HM.out _ (h.below bb4) (h'.below bb4)).mono ?_
  rintro e w8 ⟨rfl, rfl⟩
  generalize (a == b) = t
  have ht : (t != t) = false := by cases t <;> rfl
  go_wp2_with fail
  refine (rnought_any A a n ca HN.out _ hl ((h.below bb4).more bb4.size)).mono ?_
  rintro e w9 ⟨rfl, rfl⟩
  generalize (a.all (· == 0)) = u
  have hu : (u != u) = false := by cases u <;> rfl
  go_wp2_with fail
  refine (known_any _).mono ?_
  rintro e w16 ⟨rfl, hb16⟩
  go_wp2_with fail
  go_ret
  exact ⟨rfl, bb4.trans (hb16.mono bb4.size)⟩

theorem xors_any (A : Option Addr) (a : List UInt8) (n ca : Nat) (hn : a.length = n) (B : Option Addr) (b : List UInt8) (m cb : Nat) (hm : b.length = m) (w : World)
    (hl : n ≤ 140737488351232) (h : Rd w w.heap.size A (vb a)) (hl' : m ≤ 140737488351232) (h' : Rd w w.heap.size B (vb b)) :
    Calls Try.prog 5 #[.slice A n ca, .slice B m cb] w fun e w' => e = .returned (.bool true) ∧ Below w.heap.size w w' := by
  by_cases hne : n = m
  · subst hne
    exact xors_like A B a b n ca cb hn hm w hl h h'
  · exact xors_unlike A B a b n m ca cb hn hm w hl hl' hne h h'

set_option maxRecDepth 100000 in
theorem xors_lifted (os : Os) (started : os.Started) (H : Type) (enc : TypeId × Value → H) :
    ReturnsInHanded {} Try.checked os 5 .any (Rows.octetXorsSpec.pre6 enc Try.prog Try.f5 Rows.octetXorsRow.domain false) (Rows.octetXorsSpec.post enc Try.prog Try.f5 false true false false) := by
  refine returnsInHanded_of_change_sized (C := Try.checked) Try.own started (by kernel_rfl) Try.func5
    (ChangeSpec.witness6 (enc := enc) (C := Try.checked) false ⟨#[], #[.slice none 0 0, .slice none 0 0], []⟩ 8 (by kernel_rfl) (by kernel_rfl) (by kernel_rfl) (by kernel_rfl)) ?_
  intro W base args ds gs before hval0 hW _ hsz0 _
  have hsz : (DataW.weightsEach Try.prog (Try.f5.params.toList ++ Rows.octetXorsSpec.plain.varTypes Try.prog) (ds ++ gs)).all (· ≤ reachBytes) = true := hsz0
  have hval : ∀ (j : Nat) t v, Try.f5.params[j]? = some t → args[j]? = some v → Value.okWide Try.prog W .any base t v := hval0
  have hW' := hW
  obtain ⟨p, q, hA0, hV, rfl, _, _⟩ := hW
  have hA : DataW.TrodAll enc Try.prog W 0 (fun _ => true) true Try.f5.params.toList args.toList ds p := hA0
  rw [Try.params5] at hA hval hsz
  have hlt := hW'.lt
  clear hA0 hval0 hsz0
  obtain ⟨v0, vs0, d0, ds0, p0, q0, hv0, rfl, rfl, h0, r0⟩ := trodAll_cons hA
  obtain ⟨v1, vs1, d1, ds1, p1, q1, hv1, rfl, rfl, h1, r1⟩ := trodAll_cons r0
  subst hv1
  obtain ⟨rfl, rfl, rfl⟩ := trodAll_nil r1
  obtain rfl : args = #[v0, v1] := by cases args; simp_all
  obtain ⟨rfl, rfl⟩ := trodVars_none hV
  obtain ⟨A0, l0, c0, rfl, rd0, le0⟩ := open_bytes Try.underlying23 Try.underlying5 Try.cellsU8 (hval 0 23 v0 rfl rfl) h0 (fun x hx => hlt x (by simp [hx])) (fun es sp he => by subst he; have := sized_slice hsz (j := 0) (t := 23) (e := 5) rfl rfl Try.underlying23; rw [Try.bytesU8, Nat.mul_one] at this; exact this)
  obtain ⟨A1, l1, c1, rfl, rd1, le1⟩ := open_bytes Try.underlying23 Try.underlying5 Try.cellsU8 (hval 1 23 v1 rfl rfl) h1 (fun x hx => hlt x (by simp [hx])) (fun es sp he => by subst he; have := sized_slice hsz (j := 1) (t := 23) (e := 5) rfl rfl Try.underlying23; rw [Try.bytesU8, Nat.mul_one] at this; exact this)
  refine (xors_any A0 l0 l0.length c0 rfl A1 l1 l1.length c1 rfl W le0 rd0 le1 rd1).mono fun e W' ⟨he, hb⟩ => ⟨_, he, ?_⟩
  exact law_post 4 Try.underlying4 (by kernel_rfl) rfl Try.laidOut (by kernel_rfl) hW' ⟨rfl, rfl, rfl⟩ hb

theorem xors_holds : Rows.OctetXorsSaid :=
  OpenClaim.holds_of_wide 5 Try.f5 rfl rfl rfl rfl rfl rfl rfl ⟨rfl, rfl, rfl, rfl, rfl⟩ rfl rfl rfl rfl rfl (by kernel_rfl) Try.func5 (by kernel_rfl)
    (of_decide_eq_true (by kernel_rfl)) (by unfold Func.isWrapper; first | (rw [if_pos (by decide +kernel)]; kernel_rfl) | (rw [if_neg (by decide +kernel)]; exact ⟨rfl, rfl⟩))
    (fun os started H enc _ => xors_lifted os started H enc)
end Go.Proofs.Ytlafndoidioomaa
