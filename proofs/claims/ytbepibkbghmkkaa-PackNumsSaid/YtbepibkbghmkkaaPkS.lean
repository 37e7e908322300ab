/-
  The code's reader (layer 7): Text. (Printed by wip/gen/packcode.py.)
-/
import Derived.Test.YtbepibkbghmkkaaPkR
import Derived.Test.YtbepibkbghmkkaaZq
import Derived.Deep.RegionHeld3
namespace Go.Proofs.Ytbepibkbghmkkaa
open Go Go.RowKit
set_option linter.unusedVariables false
set_option linter.unusedSimpArgs false

theorem RC.call {w w' : World} {p : Nat} {B : Option Addr} {n cap a f : Nat} (h : RC w p B n cap a f) (hb : Below w.heap.size w w') : RC w' p B n cap a f := (hb.block p h.lt).trans h
theorem own_grownR {w w' : World} {base e n p : Nat} {v : Value} {xs : List Value} (h : w.ownsRow base e 1 v n xs) (hg : w.grownBy w' (some p)) (hp : p < base) : w'.ownsRow base e 1 v n xs :=
  ⟨h.1, h.2.imp id fun ⟨g, cap, cur, hv, hb, hh, rest⟩ => ⟨g, cap, cur, hv, hb, (hg.block g (Array.getElem?_eq_some_iff.1 hh).1 (fun e => by cases e; omega)).trans hh, rest⟩⟩
set_option maxRecDepth 100000 in
theorem crtext_no (w : World) (p : Nat) (B : Option Addr) (n cap at_ f : Nat) (most : Int) (h : RC w p B n cap at_ f) (hf : f ≠ 0) :
    Calls Try.prog 21 #[.pointer (some ⟨p, 0, none⟩), .int .i64 most] w fun e w' => e = .returned (.slice none 0 0) ∧ w' = w := by
  have HS := Lib.hid (cstopped_yes w p B n cap at_ f h hf); clear h hf
  go_enter Try.func21, Try.ntmps21
  go_wp2_with fail
  refine HS.out.mono ?_
  rintro e w0 ⟨rfl, rfl⟩
  clear HS
  go_wp2_with fail
  go_ret
  exact ⟨rfl, rfl⟩
set_option maxRecDepth 100000 in
theorem crtext_nil (w : World) (most : Int) : Calls Try.prog 21 #[.pointer none, .int .i64 most] w fun e w' => e = .returned (.slice none 0 0) ∧ w' = w := by
  have HS := Lib.hid (cstopped_nil w)
  go_enter Try.func21, Try.ntmps21
  go_wp2_with fail
  refine HS.out.mono ?_
  rintro e w0 ⟨rfl, rfl⟩
  clear HS
  go_wp2_with fail
  go_ret
  exact ⟨rfl, rfl⟩

set_option maxRecDepth 100000 in
set_option maxHeartbeats 4000000 in
theorem crtext_err (w : World) (p : Nat) (B : Option Addr) (l : List Nat) (n cap at_ : Nat) (most : Int) (hm : -9223372036854775808 ≤ most ∧ most ≤ 9223372036854775807) (hn : l.length = n) (hl : ∀ x ∈ l, x < 256) (hle : n ≤ 1000000) (hc : n ≤ cap) (h : RC w p B n cap at_ 0) (hat : at_ ≤ n) (hr : Rd w w.heap.size B (vn l)) (v k e0 : Nat) (hk : tk (l.drop at_) = (v, k, e0)) (hkb : k ≤ 10) (hkn : at_ + k ≤ n) (hv : v < 18446744073709551616) (he : txE most v (n - at_ - k) e0 ≠ 0) :
    Calls Try.prog 21 #[.pointer (some ⟨p, 0, none⟩), .int .i64 most] w fun e w' => e = .returned (.slice none 0 0) ∧ RC w' p B n cap at_ (txE most v (n - at_ - k) e0) ∧ w.grownBy w' (some p) := by
  have d0 := h.c0
  have d1 := h.c1
  obtain ⟨j0, hi, hz0, hz1, hz2⟩ := info_parts info_b
  have q1 := run_tailQ (P := Try.prog) 24 5 j0 Try.underlying24 hi hz1 B n cap at_ hat hc
  have hrd : Rd w w.heap.size (tailA B cap at_) (vn (l.drop at_)) := by rw [vn_drop]; exact hr.tailQ (by rw [vn_len, hn]; exact hc)
  have ht := fun m : Nat => ctxt_err (tailA B cap at_) (l.drop at_) (n - at_) (cap - at_) most hm (by rw [List.length_drop, hn]) (fun x hx => hl x (List.mem_of_mem_drop hx)) (by omega) (by omega) (w.drewN m) (hrd.drewN m) v k e0 hk hkb (by omega) hv he
  obtain ⟨e1, he1⟩ : ∃ e1, e1 = txE most v (n - at_ - k) e0 := ⟨_, rfl⟩
  rw [← he1] at ht he ⊢
  obtain ⟨bt, hbt⟩ : ∃ bt, bt = tailA B cap at_ := ⟨_, rfl⟩
  obtain ⟨nt, hnt⟩ : ∃ nt, nt = n - at_ := ⟨_, rfl⟩
  obtain ⟨ct, hct⟩ : ∃ ct, ct = cap - at_ := ⟨_, rfl⟩
  rw [← hbt, ← hnt, ← hct] at q1
  rw [← hbt, ← hnt, ← hct] at ht
  clear hbt hnt hct hi hz0 hz1 hz2 hrd hk he1
  have HS := Lib.hid (cstopped_no w p B n cap at_ h)
  have HR := Lib.hid h; clear h
  have HT := Lib.hid ht; clear ht
  go_enter Try.func21, Try.ntmps21
  go_wp2_with fail
  refine HS.out.mono ?_
  rintro e w0 ⟨rfl, rfl⟩
  clear HS
  go_upto_region 3 with fail
  go_quiet (refine Calls.quiet_of_same (HT.out _))
  have HR1 : Hid (RC (w0.drewN nq) p B n cap at_ 0) := Lib.hid HR.out
  have hg1 := grown_drewN w0 nq (some p)
  generalize w0.drewN nq = w1 at *
  clear d0 d1 HT
  go_wp2_with fail
  refine (cmove_any w1 p B n cap at_ 0 0 e1 HR1.out (by omega)).mono ?_
  rintro e w2 ⟨rfl, hr2, hg2⟩
  have HR2 := Lib.hid hr2; clear hr2
  have HG := Lib.hid (grown_trans hg1 hg2); clear hg1 hg2
  go_wp2_with fail
  go_ret
  exact ⟨rfl, HR2.out, HG.out⟩

set_option maxRecDepth 100000 in
set_option maxHeartbeats 8000000 in
theorem crtext_any (w : World) (p : Nat) (B : Option Addr) (l : List Nat) (n cap at_ : Nat) (most : Int) (hm : -9223372036854775808 ≤ most ∧ most ≤ 9223372036854775807) (hn : l.length = n) (hl : ∀ x ∈ l, x < 256) (hle : n ≤ 1000000) (hc : n ≤ cap) (h : RC w p B n cap at_ 0) (hat : at_ ≤ n) (hr : Rd w w.heap.size B (vn l)) (v k e0 : Nat) (hk : tk (l.drop at_) = (v, k, e0)) (hkb : k ≤ 10) (hkn : at_ + k ≤ n) (hv : v < 18446744073709551616) (he : txE most v (n - at_ - k) e0 = 0) :
    Calls Try.prog 21 #[.pointer (some ⟨p, 0, none⟩), .int .i64 most] w fun e w' => ∃ u, e = .returned u ∧ w'.ownsRow w.heap.size 5 1 u v (vn ((l.drop (at_ + k)).take v)) ∧ RC w' p B n cap (at_ + k + v) 0 ∧ w.grownBy w' (some p) := by
  have d0 := h.c0
  have d1 := h.c1
  obtain ⟨j0, hi, hz0, hz1, hz2⟩ := info_parts info_b
  have q1 := run_tailQ (P := Try.prog) 24 5 j0 Try.underlying24 hi hz1 B n cap at_ hat hc
  have hrd : Rd w w.heap.size (tailA B cap at_) (vn (l.drop at_)) := by rw [vn_drop]; exact hr.tailQ (by rw [vn_len, hn]; exact hc)
  have hvn : at_ + k + v ≤ n := by have := (txE_ok he).2; omega
  have ht := fun (w1 : World) (hb : Below w.heap.size w w1) => ctxt_ok (tailA B cap at_) (l.drop at_) (n - at_) (cap - at_) most hm (by rw [List.length_drop, hn]) (fun x hx => hl x (List.mem_of_mem_drop hx)) (by omega) (by omega) w1 (hrd.go hb) v k e0 hk hkb (by omega) hv he
  obtain ⟨bt, hbt⟩ : ∃ bt, bt = tailA B cap at_ := ⟨_, rfl⟩
  obtain ⟨nt, hnt⟩ : ∃ nt, nt = n - at_ := ⟨_, rfl⟩
  obtain ⟨ct, hct⟩ : ∃ ct, ct = cap - at_ := ⟨_, rfl⟩
  rw [← hbt, ← hnt, ← hct] at q1
  rw [← hbt, ← hnt, ← hct] at ht
  obtain ⟨a2, ha2⟩ : ∃ a2, a2 = k + v := ⟨_, rfl⟩
  have ea : at_ + k + v = at_ + a2 := by omega
  rw [ea]
  rw [← ha2] at ht
  rw [List.drop_drop] at ht
  obtain ⟨T, hT⟩ : ∃ T, T = vn ((l.drop (at_ + k)).take v) := ⟨_, rfl⟩
  rw [← hT] at ht ⊢
  have hc2 : ∀ w1 : World, Below w.heap.size w w1 → Calls Try.prog 31 #[.slice bt nt ct, .int .i64 most] w1 fun e w' => ∃ u, e = .returned (.tuple #[u, .int .i64 (a2 : Int), .int .i64 0]) ∧ Hid (w'.ownsRow w.heap.size 5 1 u v T) ∧ Below w1.heap.size w1 w' :=
    fun w1 hb => (ht w1 hb).mono fun e w' ⟨u, h1, h2, h3⟩ => ⟨u, h1, Lib.hid (own_lowP h2 hb.size), h3⟩
  have HC := Lib.hid hc2
  have HS := Lib.hid (cstopped_no w p B n cap at_ h)
  have HR := Lib.hid h; clear h
  have HA := Lib.hid (show at_ + a2 ≤ 2000000 by omega)
  clear hbt hnt hct hi hz0 hz1 hz2 hrd hk ht hc2 hT ha2 ea hvn he hv hkn hkb d0 d1 hr hn hl
  go_enter Try.func21, Try.ntmps21
  go_wp2_with fail
  refine HS.out.mono ?_
  rintro e w1 ⟨rfl, rfl⟩
  clear HS
  go_upto_region 3 with fail
  refine wp_region_noPanic ?_
  refine wp_region_held_drew (S := (fun w' => Below w1.heap.size w1 w')) (by kernel_rfl) ?_ (fun hHeld => ?_)
  · exact (Below.refl w1.heap.size w1).drew
  have hs2 : Below w1.heap.size w1 w1.drew := (Below.refl w1.heap.size w1).drew
  generalize w1.drew = ws1 at *
  refine wpAnyH_take (i := 0) (v := ?_) rfl (by kernel_rfl) (by kernel_rfl) (by kernel_rfl) (fun _ _ _ h => h) (Or.inl ⟨by rfl, ?_⟩) hHeld ?_
  rotate_left
  · intro w' hSw
    (try dsimp only at hSw)
    go_simp
    try with_reducible rfl
  try simp only [Act.put, zq1, zq2, zq3, zq4, zq5, zq6]
  refine wpAnyH_take (i := 1) (v := ?_) rfl (by kernel_rfl) (by kernel_rfl) (by kernel_rfl) (fun _ _ _ h => h) (Or.inl ⟨by rfl, ?_⟩) hHeld ?_
  rotate_left
  · intro w' hSw
    (try dsimp only at hSw)
    go_simp
    try with_reducible rfl
  try simp only [Act.put, zq1, zq2, zq3, zq4, zq5, zq6]
  refine wpAnyH_take (i := 2) (v := ?_) rfl (by kernel_rfl) (by kernel_rfl) (by kernel_rfl) (fun _ _ _ h => h) (Or.inl ⟨by rfl, ?_⟩) hHeld ?_
  rotate_left
  · intro w' hSw
    (try dsimp only at hSw)
    go_simp
    try with_reducible rfl
  try simp only [Act.put, zq1, zq2, zq3, zq4, zq5, zq6]
  refine wpAnyH_take (i := 3) (v := ?_) rfl (by kernel_rfl) (by kernel_rfl) (by kernel_rfl) (fun _ _ _ h => h) (Or.inl ⟨by rfl, ?_⟩) hHeld ?_
  rotate_left
  · intro w' hSw
    (try dsimp only at hSw)
    have cf := (HR.out.call hSw).c0
    go_simp
    try with_reducible rfl
  try simp only [Act.put, zq1, zq2, zq3, zq4, zq5, zq6]
  refine wpAnyH_take (i := 4) (v := ?_) rfl (by kernel_rfl) (by kernel_rfl) (by kernel_rfl) (fun _ _ _ h => h) (Or.inl ⟨by rfl, ?_⟩) hHeld ?_
  rotate_left
  · intro w' hSw
    (try dsimp only at hSw)
    go_simp
    try with_reducible rfl
  try simp only [Act.put, zq1, zq2, zq3, zq4, zq5, zq6]
  refine wpAnyH_take (i := 5) (v := ?_) rfl (by kernel_rfl) (by kernel_rfl) (by kernel_rfl) (fun _ _ _ h => h) (Or.inl ⟨by rfl, ?_⟩) hHeld ?_
  rotate_left
  · intro w' hSw
    (try dsimp only at hSw)
    go_simp
    try with_reducible rfl
  try simp only [Act.put, zq1, zq2, zq3, zq4, zq5, zq6]
  refine wpAnyH_take (i := 6) (v := ?_) rfl (by kernel_rfl) (by kernel_rfl) (by kernel_rfl) (fun _ _ _ h => h) (Or.inl ⟨by rfl, ?_⟩) hHeld ?_
  rotate_left
  · intro w' hSw
    (try dsimp only at hSw)
    go_simp
    try with_reducible rfl
  try simp only [Act.put, zq1, zq2, zq3, zq4, zq5, zq6]
  refine wpAnyH_take (i := 7) (v := ?_) rfl (by kernel_rfl) (by kernel_rfl) (by kernel_rfl) (fun _ _ _ h => h) (Or.inl ⟨by rfl, ?_⟩) hHeld ?_
  rotate_left
  · intro w' hSw
    (try dsimp only at hSw)
    have cf := (HR.out.call hSw).c1
    go_simp
    try with_reducible rfl
  try simp only [Act.put, zq1, zq2, zq3, zq4, zq5, zq6]
  refine wpAnyH_take (i := 8) (v := ?_) rfl (by kernel_rfl) (by kernel_rfl) (by kernel_rfl) (fun _ _ _ h => h) (Or.inl ⟨by rfl, ?_⟩) hHeld ?_
  rotate_left
  · intro w' hSw
    (try dsimp only at hSw)
    go_simp
    try with_reducible rfl
  try simp only [Act.put, zq1, zq2, zq3, zq4, zq5, zq6]
  refine wpAnyH_take (i := 9) (v := ?_) rfl (by kernel_rfl) (by kernel_rfl) (by kernel_rfl) (fun _ _ _ h => h) (Or.inl ⟨by rfl, ?_⟩) hHeld ?_
  rotate_left
  · intro w' hSw
    (try dsimp only at hSw)
    go_simp
    try with_reducible rfl
  try simp only [Act.put, zq1, zq2, zq3, zq4, zq5, zq6]
  refine wpAnyH_ready (rs := [10]) (by kernel_rfl) (by simp) ?_
  refine AllReadyH.cons rfl (fun K hK => ?_) (AllReadyH.nil)
  try simp only [zq1, zq2, zq3]
  go_simp
  refine (HC.out ws1 (hs2)).mono ?_
  rintro e w3 ⟨u, rfl, HO, hb4⟩
  have hw5 : Below w1.heap.size w1 w3 := hs2.trans (hb4.mono hs2.size)
  refine hK.out _ _ ?_ (fun hHeld => ?_)
  · exact hw5
  clear hK K
  try simp only [Act.put, zq1, zq2, zq3, zq4, zq5, zq6]
  clear hb4
  refine wpAnyH_take (i := 11) (v := ?_) rfl (by kernel_rfl) (by kernel_rfl) (by kernel_rfl) (fun _ _ _ h => h) (Or.inl ⟨by rfl, ?_⟩) hHeld ?_
  rotate_left
  · intro w' hSw
    (try dsimp only at hSw)
    go_simp
    try with_reducible rfl
  try simp only [Act.put, zq1, zq2, zq3, zq4, zq5, zq6]
  refine wpAnyH_take (i := 12) (v := ?_) rfl (by kernel_rfl) (by kernel_rfl) (by kernel_rfl) (fun _ _ _ h => h) (Or.inl ⟨by rfl, ?_⟩) hHeld ?_
  rotate_left
  · intro w' hSw
    (try dsimp only at hSw)
    go_simp
    try with_reducible rfl
  try simp only [Act.put, zq1, zq2, zq3, zq4, zq5, zq6]
  refine wpAnyH_take (i := 13) (v := ?_) rfl (by kernel_rfl) (by kernel_rfl) (by kernel_rfl) (fun _ _ _ h => h) (Or.inl ⟨by rfl, ?_⟩) hHeld ?_
  rotate_left
  · intro w' hSw
    (try dsimp only at hSw)
    go_simp
    try with_reducible rfl
  try simp only [Act.put, zq1, zq2, zq3, zq4, zq5, zq6]
  refine wpAnyH_take (i := 14) (v := ?_) rfl (by kernel_rfl) (by kernel_rfl) (by kernel_rfl) (fun _ _ _ h => h) (Or.inl ⟨by rfl, ?_⟩) hHeld ?_
  rotate_left
  · intro w' hSw
    (try dsimp only at hSw)
    go_simp
    try with_reducible rfl
  try simp only [Act.put, zq1, zq2, zq3, zq4, zq5, zq6]
  refine wpAnyH_take (i := 15) (v := ?_) rfl (by kernel_rfl) (by kernel_rfl) (by kernel_rfl) (fun _ _ _ h => h) (Or.inl ⟨by rfl, ?_⟩) hHeld ?_
  rotate_left
  · intro w' hSw
    (try dsimp only at hSw)
    go_simp
    try with_reducible rfl
  try simp only [Act.put, zq1, zq2, zq3, zq4, zq5, zq6]
  refine wpAnyH_take (i := 16) (v := ?_) rfl (by kernel_rfl) (by kernel_rfl) (by kernel_rfl) (fun _ _ _ h => h) (Or.inl ⟨by rfl, ?_⟩) hHeld ?_
  rotate_left
  · intro w' hSw
    (try dsimp only at hSw)
    go_simp
    try with_reducible rfl
  try simp only [Act.put, zq1, zq2, zq3, zq4, zq5, zq6]
  refine wpAnyH_take (i := 17) (v := ?_) rfl (by kernel_rfl) (by kernel_rfl) (by kernel_rfl) (fun _ _ _ h => h) (Or.inl ⟨by rfl, ?_⟩) hHeld ?_
  rotate_left
  · intro w' hSw
    (try dsimp only at hSw)
    go_simp
    try with_reducible rfl
  try simp only [Act.put, zq1, zq2, zq3, zq4, zq5, zq6]
  refine wpAnyH_done (by kernel_rfl) ?_ _
  refine NoPanic.normal ?_
  have HB := Lib.hid hw5
  have HR1 := Lib.hid (HR.out.call HB.out)
  have HG1 := Lib.hid (grown_below HB.out (some p))
  have HP := Lib.hid HR.out.lt
  clear HC HR
  go_wp2_with fail
  refine (cmove_any _ p B n cap at_ 0 a2 0 HR1.out HA.out).mono ?_
  rintro e w3 ⟨rfl, hr3, hg3⟩
  have HR3 := Lib.hid hr3; clear hr3
  have HG := Lib.hid (grown_trans HG1.out hg3)
  have HO3 := Lib.hid (own_grownR HO.out hg3 HP.out)
  clear hg3
  go_wp2_with fail
  go_ret
  exact ⟨_, rfl, HO3.out, HR3.out, HG.out⟩
end Go.Proofs.Ytbepibkbghmkkaa
