/-
  The laws' pieces of layer 7: known. (Printed by wip/gen/packlaws.py.)
-/
import Derived.Test.YtbepibkbghmkkaaPkG
import Derived.Test.YtbepibkbghmkkaaRefA
import Derived.WalkLawsBesides
namespace Go.Proofs.Ytbepibkbghmkkaa
open Go Go.RowKit Go.ChangeShapes Go.WideShapes Go.ChangeAt
set_option linter.unusedVariables false
set_option linter.unusedSimpArgs false

theorem grown_low {w w' : World} {p b : Nat} (h : w.grownBy w' (some p)) (hb : b ≤ w.heap.size) (hp : b ≤ p) : Below b w w' := (Below.refl b w).grown h hb (fun k e => by cases e; exact hp)
/-- Numbers as bytes. -/
def u8p (l : List Nat) : List UInt8 := l.map UInt8.ofNat
theorem u8p_vb (l : List Nat) (h : ∀ x ∈ l, x < 256) : vb (u8p l) = vn l := by
  unfold vb u8p vn
  rw [List.map_map]
  apply List.map_congr_left
  intro x hx
  simp only [Function.comp, UInt8.toNat_ofNat']
  rw [Nat.mod_eq_of_lt (h x hx)]
theorem u8p_len (l : List Nat) : (u8p l).length = l.length := by simp [u8p]
theorem vb_vnP (l : List UInt8) : vb l = vn (l.map UInt8.toNat) := by simp [vb, vn]
theorem vb_ltP (l : List UInt8) : ∀ x ∈ l.map UInt8.toNat, x < 256 := fun x hx => by
  obtain ⟨c, _, rfl⟩ := List.mem_map.mp hx
  exact c.toNat_lt
theorem own_capP {w : World} {base e n c : Nat} {A : Option Addr} {xs : List Value} (h : w.ownsRow base e 1 (.slice A n c) n xs) : n ≤ c := by
  obtain ⟨_, hv⟩ := h
  rcases hv with ⟨_, h0⟩ | ⟨g, cap, cur, hv, _, _, hnc, _⟩
  · omega
  · injection hv with _ _ h3
    omega
theorem own_grownP {w w' : World} {base e n p : Nat} {v : Value} {xs : List Value} (h : w.ownsRow base e 1 v n xs) (hg : w.grownBy w' (some p)) (hp : p < base) : w'.ownsRow base e 1 v n xs :=
  h.kept hg (.inr (fun e => by have := h.lt p e; omega))
def knB : List Nat := [2, 97, 98, 128, 1]
theorem kn_text : rdText knB 0 0 2 = ([97, 98], 3, 0) := by decide +kernel
theorem kn_num : rdNum knB 3 0 = (128, 5, 0) := by decide +kernel
theorem kn_done : rdDone knB 5 0 = 0 := by decide +kernel
theorem kn_lt : ∀ x ∈ knB, x < 256 := by decide
theorem kn_len : knB.length ≤ 1000000 := by decide

set_option maxRecDepth 100000 in
set_option maxHeartbeats 20000000 in
theorem known07_any (w : World) :
    Calls Try.prog 12 #[] w fun e w' => e = .returned (.bool true) ∧ Below w.heap.size w w' := by
  have hrd : Rd (w.alloc (.cells #[.int .u8 2, .int .u8 97, .int .u8 98, .int .u8 128, .int .u8 1] 5)) (w.alloc (.cells #[.int .u8 2, .int .u8 97, .int .u8 98, .int .u8 128, .int .u8 1] 5)).heap.size (some ⟨w.heap.size, 0, none⟩) (vn knB) := fun _ => ⟨_, rfl, by simp, fun j u hj => by
    rw [head_add, cell_of_row _ _ _ _ _ _ (heap_alloc_new w _)]
    rw [← hj, ← List.getElem?_toArray]; rfl⟩
  have hb0 : Below w.heap.size w (w.alloc (.cells #[.int .u8 2, .int .u8 97, .int .u8 98, .int .u8 128, .int .u8 1] 5)) := (Below.refl _ _).alloc (Nat.le_refl _) _
  have HRD := Lib.hid hrd; clear hrd
  have HB := Lib.hid hb0; clear hb0
  go_enter Try.func12, Try.ntmps12
  go_wp2_with fail
  generalize w.alloc (.cells #[.int .u8 2, .int .u8 97, .int .u8 98, .int .u8 128, .int .u8 1] 5) = w1 at *
  refine (cpnew_any _ knB 5 5 rfl kn_lt (by omega) (by omega) w1 HRD.out).mono ?_
  rintro e w2 ⟨p, g, rfl, hp, hg, hcr, hb⟩
  have hs1 : w.heap.size ≤ w1.heap.size := HB.out.size
  have HC := Lib.hid hcr; clear hcr
  replace HB := Lib.hid (HB.out.trans (hb.mono HB.out.size)); clear hb HRD
  go_wp2_with fail
  refine (cprtext_any w2 p g knB 0 0 kn_lt kn_len HC.out 2 (by omega)).mono ?_
  rw [kn_text]
  rintro e w3 ⟨v, rfl, hown, hcr, hgr⟩
  have HO : Hid (w3.ownsRow w2.heap.size 5 1 v 2 (vb [97, 98])) := Lib.hid hown
  have hp2 := HC.out.lp
  have HC2 : Hid (CR w3 p g knB 3 0) := Lib.hid hcr
  clear HC hown hcr
  replace HB := Lib.hid (HB.out.trans (grown_low hgr HB.out.size (by omega))); clear hgr
  go_wp2_with fail
  refine (cprnum_any w3 p g knB 3 0 kn_lt kn_len HC2.out).mono ?_
  rw [kn_num]
  rintro e w4 ⟨rfl, hcr, hgr⟩
  replace HO := Lib.hid (own_grownP HO.out hgr hp2)
  replace HC2 : Hid (CR w4 p g knB 5 0) := Lib.hid hcr
  replace HB := Lib.hid (HB.out.trans (grown_low hgr HB.out.size (by omega))); clear hgr hcr
  go_wp2_with fail
  refine (cprdone_any w4 p g knB 5 0 kn_len HC2.out).mono ?_
  rw [kn_done]
  rintro e w5 ⟨rfl, hcr, hgr⟩
  replace HO := Lib.hid (own_grownP HO.out hgr hp2)
  replace HB := Lib.hid (HB.out.trans (grown_low hgr HB.out.size (by omega))); clear hgr hcr
  obtain ⟨A, c, rfl, _, hr⟩ := Rd.of_own HO.out
  have ra := run_str (P := Try.prog) 24 9 5 Try.underlying24 Try.underlying5 Try.underlying9 (n := 2) rfl c hr
  go_wp2_with fail
  go_ret
  exact ⟨rfl, HB.out⟩
end Go.Proofs.Ytbepibkbghmkkaa
