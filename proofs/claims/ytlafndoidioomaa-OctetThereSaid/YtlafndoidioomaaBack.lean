/-
  What octet.Put wrote octet.Get reads, and what was read is written as it was, for any number, count and bytes: OctetBack, for every input.
-/
import Derived.Test.YtlafndoidioomaaLaw
import Derived.Test.YtlafndoidioomaaOctA
import Derived.Test.YtlafndoidioomaaNumbers
import Derived.Test.YtlafndoidioomaaReads
import Derived.Test.YtlafndoidioomaaOctG
namespace Go.Proofs.Ytlafndoidioomaa
open Go Go.RowKit Go.ChangeShapes Go.WideShapes Go.ChangeAt
set_option linter.unusedVariables false

theorem num_be : ∀ (n m : Nat), num (be n m) = n % 256 ^ m := by
  have key : ∀ (m n a : Nat), (be n m).foldl (fun a b => a * 256 + b.toNat) a = a * 256 ^ m + n % 256 ^ m := by
    intro m
    induction m with
    | zero => intro n a; simp [be, Nat.mod_one]
    | succ m ih =>
      intro n a
      have e : 256 ^ (m + 1) = 256 ^ m * 256 := Nat.pow_succ 256 m
      rw [be, List.foldl_cons, ih, UInt8.toNat_ofNat', e]
      have h1 : n % (256 ^ m * 256) = n % 256 ^ m + 256 ^ m * (n / 256 ^ m % 256) := Nat.mod_mul
      rw [h1, show (2 : Nat) ^ 8 = 256 from rfl, Nat.add_mul, Nat.mul_comm (256 ^ m) (n / 256 ^ m % 256), Nat.mul_assoc, Nat.mul_comm 256 (256 ^ m)]
      omega
  intro n m
  have := key m n 0
  simpa [num] using this

theorem be_num : ∀ (l : List UInt8), be (num l) l.length = l := by
  have key : ∀ (l : List UInt8) (a : Nat), be (l.foldl (fun a b => a * 256 + b.toNat) a) l.length = l := by
    intro l
    induction l with
    | nil => intro a; rfl
    | cons b l ih =>
      intro a
      rw [List.foldl_cons, List.length_cons, be, ih]
      congr 1
      have h2 : ∀ (l : List UInt8) (a : Nat), l.foldl (fun a b => a * 256 + b.toNat) a = a * 256 ^ l.length + num l := by
        intro l
        induction l with
        | nil => intro a; simp [num]
        | cons c l ih2 =>
          intro a
          have e := ih2 (a * 256 + c.toNat)
          have e' := ih2 (0 * 256 + c.toNat)
          simp only [num, List.foldl_cons, List.length_cons, Nat.pow_succ] at e e' ⊢
          rw [e, e', Nat.add_mul]
          simp [Nat.mul_assoc, Nat.mul_comm 256, Nat.add_assoc]
      rw [h2, Nat.mul_comm, Nat.mul_add_div (Nat.pow_pos (by omega)), Nat.div_eq_of_lt (num_lt l), Nat.add_zero]
      apply UInt8.toNat_inj.mp
      rw [UInt8.toNat_ofNat']
      have := b.toNat_lt
      omega
  intro l
  exact key l 0

/-- What is put is got. -/
theorem getOut_put (n : Nat) (size : Int) (h : (putOut n size).2 = 0) : getOut (putOut n size).1 = ((n : Int), 0) ∧ ((putOut n size).1.length : Int) = size ∧ 1 ≤ (putOut n size).1.length ∧ (putOut n size).1.length ≤ 8 := by
  unfold putOut at *
  split at h
  · simp at h
  · split at h
    · simp at h
    · rename_i h1 h2
      rw [if_neg h1, if_neg h2]
      obtain ⟨s, rfl⟩ : ∃ s : Nat, size = s := ⟨size.toNat, by omega⟩
      simp only [Int.toNat_natCast, be_len, getOut] at h2 ⊢
      rw [if_neg (by omega), num_be, Nat.mod_eq_of_lt (by omega)]
      refine ⟨?_, ?_, by omega, by omega⟩ <;> simp
theorem putOut_codes (n : Nat) (size : Int) : (putOut n size).2 = 0 ∨ (putOut n size).2 = 2 ∨ (putOut n size).2 = 6 := by
  unfold putOut
  split
  · exact .inr (.inl rfl)
  · split
    · exact .inr (.inr rfl)
    · exact .inl rfl
/-- What is got is put. -/
theorem putOut_get (l : List UInt8) (h1 : 1 ≤ l.length) (h8 : l.length ≤ 8) : putOut (num l) l.length = (l, 0) := by
  unfold putOut
  rw [if_neg (by omega), if_neg (by have := num_lt l; simp; omega)]
  simp [be_num]

/-- 'string(a) == string(b)', the law's own. -/
theorem lsame_any (A B : Option Addr) (a b : List UInt8) (n m ca cb : Nat) (hn : a.length = n) (hm : b.length = m) (w : World) {BA BB : Nat} (h : Rd w BA A (vb a)) (h' : Rd w BB B (vb b)) :
    Calls Try.prog 27 #[.slice A n ca, .slice B m cb] w fun e w' => e = .returned (.bool (a == b)) ∧ w' = w := by
  have ra := run_str (P := Try.prog) 23 9 5 Try.underlying23 Try.underlying5 Try.underlying9 hn ca h
  have rb := run_str (P := Try.prog) 23 9 5 Try.underlying23 Try.underlying5 Try.underlying9 hm cb h'
  clear hn hm
  go_enter Try.func27, Try.ntmps27
  go_wp2
  go_ret
  exact ⟨rfl, rfl⟩

set_option maxHeartbeats 2000000 in
theorem back_oo (x : Nat) (size : Int) (A : Option Addr) (l : List UInt8) (n cap : Nat) (hn : l.length = n) (w : World) (h64 : x < 18446744073709551616) (hsize : -9223372036854775808 ≤ size ∧ size ≤ 9223372036854775807) (hl : n ≤ 140737488351232) (h : Rd w w.heap.size A (vb l))
    (hk : (putOut x size).2 = 0) (h1 : 1 ≤ n) (h8 : n ≤ 8) :
    Calls Try.prog 8 #[.int .u64 x, .int .i64 size, .slice A n cap] w fun e w' => e = .returned (.bool true) ∧ Below w.heap.size w w' := by
  have C1 := put_all x size w h64
  have G1 := getOut_put x size
  have HN := Lib.hid hn
  obtain ⟨g1, g2, g3, g4⟩ := G1 hk
  rw [hk] at C1
  clear G1 hk
  generalize (putOut x size).1 = l1 at C1 g1 g2 g3 g4
  obtain ⟨n1, hn1⟩ : ∃ n1, l1.length = n1 := ⟨_, rfl⟩
  rw [hn1] at g2 g3 g4
  obtain rfl : size = n1 := g2.symm
  have HN1 := Lib.hid hn1
  have HC1 := Lib.hid C1
  have HG1 := Lib.hid g1
  have g5 := putOut_get l (by omega) (by omega)
  have C2 := fun w => put_all (num l) n w (by have := num_lt l; rw [hn] at this; exact Nat.lt_of_lt_of_le this (Nat.le_trans (Nat.pow_le_pow_right (by omega) h8) (by decide)))
  rw [hn] at g5
  have g6 : getOut l = ((num l : Int), 0) := if_neg (by omega)
  have hnl : num l < 18446744073709551616 := (by have := num_lt l; rw [hn] at this; exact Nat.lt_of_lt_of_le this (Nat.le_trans (Nat.pow_le_pow_right (by omega) h8) (by decide)))
  rw [g5] at C2
  have HG6 := Lib.hid g6
  have HC2 := Lib.hid C2
  clear g5 g6 C2
  clear C1 g1 hn1 hn
  go_enter Try.func8, Try.ntmps8
  go_wp2_with fail
  refine HC1.out.mono ?_
  rintro e w1 ⟨B, b, cb, hbl, rfl, hr1, hb1⟩
  obtain rfl : b = n1 := hbl.trans HN1.out
  have HB := Lib.hid hbl; clear hbl
  go_wp2_with fail
  refine (get_all B l1 b cb HB.out.symm _ (by omega) hr1).mono ?_
  rintro e w2 ⟨rfl, rfl⟩
  rw [HG1.out]
  go_wp2_with fail
  refine (get_all A l n cap HN.out _ hl (h.go hb1)).mono ?_
  rintro e w3 ⟨rfl, rfl⟩
  rw [HG6.out]
  go_wp2_with fail
  refine (HC2.out _).mono ?_
  rintro e w4 ⟨D, d, cd, hdl, rfl, hr4, hb4⟩
  have HD := Lib.hid hdl; clear hdl
  have bb := hb1.trans (hb4.mono hb1.size)
  go_wp2_with fail
  refine (lsame_any D A l l d n cd cap HD.out.symm HN.out _ hr4 (h.below bb)).mono ?_
  rintro e w5 ⟨rfl, rfl⟩
  rw [beq_self_eq_true]
  go_wp2_with fail
  refine (known_any _).mono ?_
  rintro e w6 ⟨rfl, hb6⟩
  go_wp2_with fail
  go_ret
  exact ⟨rfl, bb.trans (hb6.mono bb.size)⟩

set_option maxHeartbeats 2000000 in
theorem back_oe (x : Nat) (size : Int) (A : Option Addr) (l : List UInt8) (n cap : Nat) (hn : l.length = n) (w : World) (h64 : x < 18446744073709551616) (hsize : -9223372036854775808 ≤ size ∧ size ≤ 9223372036854775807) (hl : n ≤ 140737488351232) (h : Rd w w.heap.size A (vb l))
    (hk : (putOut x size).2 = 0) (hr : n < 1 ∨ 8 < n) :
    Calls Try.prog 8 #[.int .u64 x, .int .i64 size, .slice A n cap] w fun e w' => e = .returned (.bool true) ∧ Below w.heap.size w w' := by
  have C1 := put_all x size w h64
  have G1 := getOut_put x size
  have HN := Lib.hid hn
  obtain ⟨g1, g2, g3, g4⟩ := G1 hk
  rw [hk] at C1
  clear G1 hk
  generalize (putOut x size).1 = l1 at C1 g1 g2 g3 g4
  obtain ⟨n1, hn1⟩ : ∃ n1, l1.length = n1 := ⟨_, rfl⟩
  rw [hn1] at g2 g3 g4
  obtain rfl : size = n1 := g2.symm
  have HN1 := Lib.hid hn1
  have HC1 := Lib.hid C1
  have HG1 := Lib.hid g1
  have g6 : getOut l = (0, 2) := if_pos (by omega)
  have HG6 := Lib.hid g6
  clear g6
  clear C1 g1 hn1 hn
  go_enter Try.func8, Try.ntmps8
  go_wp2_with fail
  refine HC1.out.mono ?_
  rintro e w1 ⟨B, b, cb, hbl, rfl, hr1, hb1⟩
  obtain rfl : b = n1 := hbl.trans HN1.out
  have HB := Lib.hid hbl; clear hbl
  go_wp2_with fail
  refine (get_all B l1 b cb HB.out.symm _ (by omega) hr1).mono ?_
  rintro e w2 ⟨rfl, rfl⟩
  rw [HG1.out]
  go_wp2_with fail
  refine (get_all A l n cap HN.out _ hl (h.go hb1)).mono ?_
  rintro e w3 ⟨rfl, rfl⟩
  rw [HG6.out]
  rcases hr with hr | hr <;>
  · go_wp2_with fail
    refine (known_any _).mono ?_
    rintro e w6 ⟨rfl, hb6⟩
    go_wp2_with fail
    go_ret
    exact ⟨ret_bool (by simp <;> omega), hb1.trans (hb6.mono hb1.size)⟩

set_option maxHeartbeats 2000000 in
theorem back_eo (x : Nat) (size : Int) (A : Option Addr) (l : List UInt8) (n cap : Nat) (hn : l.length = n) (w : World) (h64 : x < 18446744073709551616) (hsize : -9223372036854775808 ≤ size ∧ size ≤ 9223372036854775807) (hl : n ≤ 140737488351232) (h : Rd w w.heap.size A (vb l))
    (hk : ¬ (putOut x size).2 = 0) (h1 : 1 ≤ n) (h8 : n ≤ 8) :
    Calls Try.prog 8 #[.int .u64 x, .int .i64 size, .slice A n cap] w fun e w' => e = .returned (.bool true) ∧ Below w.heap.size w w' := by
  have C1 := put_all x size w h64
  have G1 := getOut_put x size
  have HN := Lib.hid hn
  have K1 := (putOut_codes x size).resolve_left hk
  clear G1 hk
  generalize (putOut x size).1 = l1 at C1
  generalize (putOut x size).2 = k1 at C1 K1
  have hk0 : (k1 == 0) = false := by rcases K1 with rfl | rfl <;> rfl
  have HC1 := Lib.hid C1
  have g5 := putOut_get l (by omega) (by omega)
  have C2 := fun w => put_all (num l) n w (by have := num_lt l; rw [hn] at this; exact Nat.lt_of_lt_of_le this (Nat.le_trans (Nat.pow_le_pow_right (by omega) h8) (by decide)))
  rw [hn] at g5
  have g6 : getOut l = ((num l : Int), 0) := if_neg (by omega)
  have hnl : num l < 18446744073709551616 := (by have := num_lt l; rw [hn] at this; exact Nat.lt_of_lt_of_le this (Nat.le_trans (Nat.pow_le_pow_right (by omega) h8) (by decide)))
  rw [g5] at C2
  have HG6 := Lib.hid g6
  have HC2 := Lib.hid C2
  clear g5 g6 C2
  clear C1 hn K1
  go_enter Try.func8, Try.ntmps8
  go_wp2_with fail
  refine HC1.out.mono ?_
  rintro e w2 ⟨B, b, cb, hbl, rfl, hr1, hb1⟩
  have HB := Lib.hid hbl; clear hbl
  go_wp2_with fail
  refine (get_all A l n cap HN.out _ hl (h.go hb1)).mono ?_
  rintro e w3 ⟨rfl, rfl⟩
  rw [HG6.out]
  go_wp2_with fail
  refine (HC2.out _).mono ?_
  rintro e w4 ⟨D, d, cd, hdl, rfl, hr4, hb4⟩
  have HD := Lib.hid hdl; clear hdl
  have bb := hb1.trans (hb4.mono hb1.size)
  go_wp2_with fail
  refine (lsame_any D A l l d n cd cap HD.out.symm HN.out _ hr4 (h.below bb)).mono ?_
  rintro e w5 ⟨rfl, rfl⟩
  rw [beq_self_eq_true]
  go_wp2_with fail
  refine (known_any _).mono ?_
  rintro e w6 ⟨rfl, hb6⟩
  go_wp2_with fail
  go_ret
  exact ⟨rfl, bb.trans (hb6.mono bb.size)⟩

set_option maxHeartbeats 2000000 in
theorem back_ee (x : Nat) (size : Int) (A : Option Addr) (l : List UInt8) (n cap : Nat) (hn : l.length = n) (w : World) (h64 : x < 18446744073709551616) (hsize : -9223372036854775808 ≤ size ∧ size ≤ 9223372036854775807) (hl : n ≤ 140737488351232) (h : Rd w w.heap.size A (vb l))
    (hk : ¬ (putOut x size).2 = 0) (hr : n < 1 ∨ 8 < n) :
    Calls Try.prog 8 #[.int .u64 x, .int .i64 size, .slice A n cap] w fun e w' => e = .returned (.bool true) ∧ Below w.heap.size w w' := by
  have C1 := put_all x size w h64
  have G1 := getOut_put x size
  have HN := Lib.hid hn
  have K1 := (putOut_codes x size).resolve_left hk
  clear G1 hk
  generalize (putOut x size).1 = l1 at C1
  generalize (putOut x size).2 = k1 at C1 K1
  have hk0 : (k1 == 0) = false := by rcases K1 with rfl | rfl <;> rfl
  have HC1 := Lib.hid C1
  have g6 : getOut l = (0, 2) := if_pos (by omega)
  have HG6 := Lib.hid g6
  clear g6
  clear C1 hn K1
  go_enter Try.func8, Try.ntmps8
  go_wp2_with fail
  refine HC1.out.mono ?_
  rintro e w2 ⟨B, b, cb, hbl, rfl, hr1, hb1⟩
  have HB := Lib.hid hbl; clear hbl
  go_wp2_with fail
  refine (get_all A l n cap HN.out _ hl (h.go hb1)).mono ?_
  rintro e w3 ⟨rfl, rfl⟩
  rw [HG6.out]
  rcases hr with hr | hr <;>
  · go_wp2_with fail
    refine (known_any _).mono ?_
    rintro e w6 ⟨rfl, hb6⟩
    go_wp2_with fail
    go_ret
    exact ⟨ret_bool (by simp <;> omega), hb1.trans (hb6.mono hb1.size)⟩

theorem back_any (x : Nat) (size : Int) (A : Option Addr) (l : List UInt8) (n cap : Nat) (hn : l.length = n) (w : World) (h64 : x < 18446744073709551616) (hsize : -9223372036854775808 ≤ size ∧ size ≤ 9223372036854775807) (hl : n ≤ 140737488351232) (h : Rd w w.heap.size A (vb l)) :
    Calls Try.prog 8 #[.int .u64 x, .int .i64 size, .slice A n cap] w fun e w' => e = .returned (.bool true) ∧ Below w.heap.size w w' := by
  by_cases hk : (putOut x size).2 = 0
  · by_cases hr : n < 1 ∨ 8 < n
    · exact back_oe x size A l n cap hn w h64 hsize hl h hk hr
    · exact back_oo x size A l n cap hn w h64 hsize hl h hk (by omega) (by omega)
  · by_cases hr : n < 1 ∨ 8 < n
    · exact back_ee x size A l n cap hn w h64 hsize hl h hk hr
    · exact back_eo x size A l n cap hn w h64 hsize hl h hk (by omega) (by omega)

set_option maxRecDepth 100000 in
theorem back_lifted (os : Os) (started : os.Started) (H : Type) (enc : TypeId × Value → H) :
    ReturnsInHanded {} Try.checked os 8 .any (Rows.octetBackSpec.pre6 enc Try.prog Try.f8 Rows.octetBackRow.domain false) (Rows.octetBackSpec.post enc Try.prog Try.f8 false true false false) := by
  refine returnsInHanded_of_change_sized (C := Try.checked) Try.own started (by kernel_rfl) Try.func8
    (ChangeSpec.witness6 (enc := enc) (C := Try.checked) false ⟨#[], #[.int .u64 0, .int .i64 0, .slice none 0 0], []⟩ 8 (by kernel_rfl) (by kernel_rfl) (by kernel_rfl) (by kernel_rfl)) ?_
  intro W base args ds gs before hval0 hW _ hsz0 _
  have hsz : (DataW.weightsEach Try.prog (Try.f8.params.toList ++ Rows.octetBackSpec.plain.varTypes Try.prog) (ds ++ gs)).all (· ≤ reachBytes) = true := hsz0
  have hval : ∀ (j : Nat) t v, Try.f8.params[j]? = some t → args[j]? = some v → Value.okWide Try.prog W .any base t v := hval0
  have hW' := hW
  obtain ⟨p, q, hA0, hV, rfl, _, _⟩ := hW
  have hA : DataW.TrodAll enc Try.prog W 0 (fun _ => true) true Try.f8.params.toList args.toList ds p := hA0
  rw [Try.params8] at hA hval hsz
  have hlt := hW'.lt
  clear hA0 hval0 hsz0
  obtain ⟨v0, vs0, d0, ds0, p0, q0, hv0, rfl, rfl, h0, r0⟩ := trodAll_cons hA
  obtain ⟨v1, vs1, d1, ds1, p1, q1, hv1, rfl, rfl, h1, r1⟩ := trodAll_cons r0
  subst hv1
  obtain ⟨v2, vs2, d2, ds2, p2, q2, hv2, rfl, rfl, h2, r2⟩ := trodAll_cons r1
  subst hv2
  obtain ⟨rfl, rfl, rfl⟩ := trodAll_nil r2
  obtain rfl : args = #[v0, v1, v2] := by cases args; simp_all
  obtain ⟨rfl, rfl⟩ := trodVars_none hV
  obtain ⟨a0, rfl, rfl, rfl, w0⟩ := open_int Try.underlying22 (hval 0 22 v0 rfl rfl) h0
  have b0 : 0 ≤ a0 ∧ a0 ≤ 18446744073709551615 := by simpa [Lit.wf, IntKind.min, IntKind.max, IntKind.signed, IntKind.bits] using w0
  obtain ⟨n0, rfl⟩ : ∃ n0 : Nat, a0 = n0 := ⟨a0.toNat, by omega⟩
  obtain ⟨a1, rfl, rfl, rfl, w1⟩ := open_int Try.underlying3 (hval 1 3 v1 rfl rfl) h1
  have b1 : -9223372036854775808 ≤ a1 ∧ a1 ≤ 9223372036854775807 := by simpa [Lit.wf, IntKind.min, IntKind.max, IntKind.signed, IntKind.bits] using w1
  obtain ⟨A2, l2, c2, rfl, rd2, le2⟩ := open_bytes Try.underlying23 Try.underlying5 Try.cellsU8 (hval 2 23 v2 rfl rfl) h2 (fun x hx => hlt x (by simp [hx])) (fun es sp he => by subst he; have := sized_slice hsz (j := 2) (t := 23) (e := 5) rfl rfl Try.underlying23; rw [Try.bytesU8, Nat.mul_one] at this; exact this)
  refine (back_any n0 a1 A2 l2 l2.length c2 rfl W (by omega) b1 le2 rd2).mono fun e W' ⟨he, hb⟩ => ⟨_, he, ?_⟩
  exact law_post 4 Try.underlying4 (by kernel_rfl) rfl Try.laidOut (by kernel_rfl) hW' ⟨rfl, rfl, rfl⟩ hb

theorem back_holds : Rows.OctetBackSaid :=
  OpenClaim.holds_of_wide 8 Try.f8 rfl rfl rfl rfl rfl rfl rfl ⟨rfl, rfl, rfl, rfl, rfl⟩ rfl rfl rfl rfl rfl (by kernel_rfl) Try.func8 (by kernel_rfl)
    (of_decide_eq_true (by kernel_rfl)) (by unfold Func.isWrapper; first | (rw [if_pos (by decide +kernel)]; kernel_rfl) | (rw [if_neg (by decide +kernel)]; exact ⟨rfl, rfl⟩))
    (fun os started H enc _ => back_lifted os started H enc)
end Go.Proofs.Ytlafndoidioomaa
