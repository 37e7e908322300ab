/-
  Several texts in one:
  The code's device (layer 8): its contracts, all in one place.
  Registers, plain: what is reserved, what counts, what is drawn (layer 9). No program.
  The document's registers in memory (layer 9): Reserve, Advance, Draw.
  The document's registers in memory (layer 9): Draw. (Printed by wip/gen/rgdraw.py.)
  The document's registers in memory (layer 9): New. (Printed by wip/gen/rgnew.py.)
  The landed code's registers in memory (layer 9): Reserve, Advance, and what they stand at.
  The landed code's registers in memory (layer 9): New.
  The landed code's registers in memory (layer 9): Draw.
  The code's registers (layer 9): its contracts, all in one place.
  What the laws of layer 8 stand on: full blocks, the write that comes through in part.
  The code's device and the document's beside each other (layer 8).
  What layer 9's laws fall back to: known.
  Scripts that are too heavy (layer 9).
-/
import Derived.Test.YtpepbffhhfgdpaaDkN
import Derived.Test.YtpepbffhhfgdpaaDkR
import Derived.Test.YtpepbffhhfgdpaaDkO
import Derived.Test.YtpepbffhhfgdpaaFoldC
import Derived.Test.YtpepbffhhfgdpaaDcJ
import Derived.Test.YtpepbffhhfgdpaaFoldA
import Derived.BigQuiet
import Derived.WalkLawsBesides
import Derived.Test.YtpepbffhhfgdpaaDkE
import Derived.Test.YtpepbffhhfgdpaaDcD

namespace Go.Proofs.Ytpepbffhhfgdpaa
open Go Go.RowKit
set_option linter.unusedVariables false
set_option linter.unusedSimpArgs false

structure Rg where
  limit : Nat
  res : Nat
  com : Nat
  draws : List (List UInt8)
structure Rg.Ok (G : Rg) : Prop where
  l : G.limit < 18446744073709551616
  r : G.res ≤ G.limit
  c : G.com ≤ G.res
def Rg.new (limit : Nat) (draws : List (List UInt8)) : Rg := ⟨limit, 0, 0, draws⟩
/-- Reserve: the error, the number, what is then. -/
def Rg.resE (G : Rg) (D : Dev) : Nat := if G.limit ≤ G.res then 90 else D.stepE
def Rg.resN (G : Rg) (D : Dev) : Nat := if G.resE D = 0 then G.res + 1 else 0
def Rg.resG (G : Rg) (D : Dev) : Rg := if G.resE D = 0 then { G with res := G.res + 1 } else G
def Rg.resD (G : Rg) (D : Dev) : Dev := if G.limit ≤ G.res then D else D.step
/-- Advance. -/
def Rg.advE (G : Rg) (D : Dev) (n : Nat) : Nat := if n ≤ G.com ∨ G.res < n then 2 else D.stepE
def Rg.advG (G : Rg) (D : Dev) (n : Nat) : Rg := if G.advE D n = 0 then { G with com := n } else G
def Rg.advD (G : Rg) (D : Dev) (n : Nat) : Dev := if n ≤ G.com ∨ G.res < n then D else D.step
/-- Draw. -/
def Rg.drwE (G : Rg) (s : Int) : Nat := if s < 1 ∨ 64 < s then 2 else if G.draws = [] ∨ ((G.draws.getD 0 []).length : Int) < s then 91 else 0
def Rg.drwB (G : Rg) (s : Int) : List UInt8 := if G.drwE s = 0 then (G.draws.getD 0 []).take s.toNat else []
def Rg.drwG (G : Rg) (s : Int) : Rg := if G.drwE s = 0 then { G with draws := G.draws.drop 1 } else G
theorem Rg.new_ok (l : Nat) (d : List (List UInt8)) (h : l < 18446744073709551616) : (Rg.new l d).Ok := ⟨h, Nat.zero_le _, Nat.le_refl _⟩
theorem Rg.Ok.res {G : Rg} (h : G.Ok) (D : Dev) : (G.resG D).Ok := by
  unfold Rg.resG
  split
  · rename_i h0
    have hl : ¬ G.limit ≤ G.res := fun h1 => by unfold Rg.resE at h0; rw [if_pos h1] at h0; cases h0
    exact ⟨h.l, by show G.res + 1 ≤ G.limit; omega, by show G.com ≤ G.res + 1; have := h.c; omega⟩
  · exact h
theorem Rg.Ok.adv {G : Rg} (h : G.Ok) (D : Dev) (n : Nat) : (G.advG D n).Ok := by
  unfold Rg.advG
  split
  · rename_i h0
    have hl : ¬ (n ≤ G.com ∨ G.res < n) := fun h1 => by unfold Rg.advE at h0; rw [if_pos h1] at h0; cases h0
    exact ⟨h.l, h.r, by show n ≤ G.res; omega⟩
  · exact h
theorem Rg.Ok.drw {G : Rg} (h : G.Ok) (s : Int) : (G.drwG s).Ok := by
  unfold Rg.drwG
  split
  · exact ⟨h.l, h.r, h.c⟩
  · exact h
theorem Rg.resN_lt {G : Rg} (h : G.Ok) (D : Dev) : G.resN D < 18446744073709551616 := by
  unfold Rg.resN
  split
  · rename_i h0
    have hl : ¬ G.limit ≤ G.res := fun h1 => by unfold Rg.resE at h0; rw [if_pos h1] at h0; cases h0
    have := h.l; omega
  · omega

/-- Behind the first of them. -/
theorem RdS.tail {w : World} {S : Nat → Prop} {A : Option Addr} {ls : List (List UInt8)} {cap : Nat} (h : RdS w S A ls) (hc : ls.length ≤ cap) : RdS w S (if cap = 1 then A else A.map (·.add 1)) (ls.drop 1) := fun i hi => by
  rw [List.length_drop] at hi
  have e : (ls.drop 1).getD i [] = ls.getD (1 + i) [] := by simp [List.getD_eq_getElem?_getD, List.getElem?_drop, Nat.add_comm]
  rw [e]
  obtain ⟨ad, B, c, h1, h2, h3, h4, h5⟩ := h (1 + i) (by omega)
  subst h1
  refine ⟨ad.add 1, B, c, by rw [if_neg (by omega)]; rfl, by rw [add_block]; exact h2, by rw [add_block]; exact h3, by rw [add_add]; exact h4, h5⟩
end Go.Proofs.Ytpepbffhhfgdpaa
namespace Go.Proofs.Ytpepbffhhfgdpaa
open Go Go.RowKit
set_option linter.unusedVariables false
set_option linter.unusedSimpArgs false

/-- Registers at block q beside the device at p; R: their blocks. -/
structure RG (w : World) (q p : Nat) (R : Nat → Prop) (G : Rg) : Prop where
  row : ∃ A cap, w.heap[q]? = some (.cells #[.pointer (some ⟨p, 0, none⟩), .int .u64 (G.limit : Int), .int .u64 (G.res : Int), .int .u64 (G.com : Int), .slice A G.draws.length cap] 54 (0, 0)) ∧ G.draws.length ≤ cap ∧ RdS w (fun b => R b ∧ b ≠ q) A G.draws
  rq : R q
  lt : ∀ b, R b → b < w.heap.size
  ok : G.Ok
  dl : G.draws.length ≤ 1000000
section
variable {w w' : World} {q p : Nat} {R : Nat → Prop} {G : Rg}
theorem RG.keepB (h : RG w q p R G) (hk : ∀ b, R b → w'.heap[b]? = w.heap[b]?) (hs : w.heap.size ≤ w'.heap.size) : RG w' q p R G := by
  obtain ⟨⟨A, cap, h1, h2, h3⟩, hq, hl, ho, hd⟩ := h
  exact ⟨⟨A, cap, (hk q hq).trans h1, h2, h3.keep (fun a ha _ => by simp only [World.cell?]; rw [hk a.block ha.1]) hs⟩, hq, fun b hb => Nat.lt_of_lt_of_le (hl b hb) hs, ho, hd⟩
theorem RG.call (h : RG w q p R G) (hb : Below w.heap.size w w') : RG w' q p R G := h.keepB (fun b hr => hb.block b (h.lt b hr)) hb.size
theorem RG.keep {M : Nat → Prop} (h : RG w q p R G) (hk : Keep M w w') (hd : ∀ b, R b → ¬ M b) : RG w' q p R G := h.keepB (fun b hr => hk.block b (h.lt b hr) (hd b hr)) hk.size
/-- A cell of its own is written. -/
theorem RG.setRow {A : Option Addr} {cap : Nat} (h : RG w q p R G) (G' : Rg) (hh : w'.heap[q]? = some (.cells #[.pointer (some ⟨p, 0, none⟩), .int .u64 (G'.limit : Int), .int .u64 (G'.res : Int), .int .u64 (G'.com : Int), .slice A G'.draws.length cap] 54 (0, 0)))
    (hc : G'.draws.length ≤ cap) (hr : RdS w (fun b => R b ∧ b ≠ q) A G'.draws) (hk : ∀ b, b ≠ q → w'.heap[b]? = w.heap[b]?) (hs : w'.heap.size = w.heap.size) (ho : G'.Ok) (hd : G'.draws.length ≤ 1000000) : RG w' q p R G' :=
  ⟨⟨A, cap, hh, hc, hr.keep (fun a ha _ => by simp only [World.cell?]; rw [hk a.block ha.2]) (by omega)⟩, h.rq, fun b hb => by rw [hs]; exact h.lt b hb, ho, hd⟩
end
theorem keep_set (w : World) (q k : Nat) (v : Value) : Keep (fun b => b = q) w (w.setCell ⟨q, k, none⟩ v) := (Keep.refl (fun b => b = q) w).setCell (a := ⟨q, k, none⟩) (fun _ => rfl) v
abbrev rgA (p : Nat) (G : Rg) (A : Option Addr) (cap : Nat) : Array Value := #[.pointer (some ⟨p, 0, none⟩), .int .u64 (G.limit : Int), .int .u64 (G.res : Int), .int .u64 (G.com : Int), .slice A G.draws.length cap]
theorem rg_cells {w : World} {q p : Nat} {G : Rg} {A : Option Addr} {cap : Nat} (h : w.heap[q]? = some (.cells (rgA p G A cap) 54 (0, 0))) :
    w.cell? ⟨q, 0, none⟩ = some (.pointer (some ⟨p, 0, none⟩)) ∧ w.cell? ⟨q, 1, none⟩ = some (.int .u64 (G.limit : Int)) ∧ w.cell? ⟨q, 2, none⟩ = some (.int .u64 (G.res : Int)) ∧ w.cell? ⟨q, 3, none⟩ = some (.int .u64 (G.com : Int)) ∧ w.cell? ⟨q, 4, none⟩ = some (.slice A G.draws.length cap) := by
  refine ⟨?_, ?_, ?_, ?_, ?_⟩ <;> (rw [cell_of_row _ _ _ _ _ _ h]; rfl)

set_option maxRecDepth 100000 in
set_option maxHeartbeats 8000000 in
theorem rgreserve_any (w : World) (q p n : Nat) (R L : Nat → Prop) (G : Rg) (D : Dev) (hG : RG w q p R G) (hD : RD w p L n D) (hdis : ∀ b, R b → ¬ L b) :
    Calls Try.prog 15 #[.pointer (some ⟨q, 0, none⟩)] w fun e w' => e = .returned (.tuple #[.int .u64 (G.resN D : Int), .int .i64 (G.resE D : Int)]) ∧ RG w' q p R (G.resG D) ∧ RD w' p L n (G.resD D) ∧ Keep (fun b => L b ∨ R b) w w' := by
  obtain ⟨A, cap, hrow, hcap, hrd⟩ := hG.row
  obtain ⟨d0, d1, d2, d3, d4⟩ := rg_cells hrow
  by_cases hlt : G.limit ≤ G.res
  · have e1 : G.resE D = 90 := by unfold Rg.resE; rw [if_pos hlt]
    have e2 : G.resN D = 0 := by unfold Rg.resN; rw [e1]; rfl
    have e3 : G.resG D = G := by unfold Rg.resG; rw [e1]; rfl
    have e4 : G.resD D = D := by unfold Rg.resD; rw [if_pos hlt]
    rw [e1, e2, e3, e4]
    have hi : (G.limit : Int) ≤ (G.res : Int) := by omega
    have H := Lib.hid (And.intro hG hD)
    clear hG hD hdis hrow hcap hrd e1 e2 e3 e4 hlt d0 d3 d4
    go_enter Try.func15, Try.ntmps15
    go_upto_region 1 with fail
    go_quiet (fail)
    go_wp2_with fail
    go_ret2
    exact ⟨rfl, H.out.1.keepB (fun _ _ => rfl) (Nat.le_refl _), H.out.2.keep ((Keep.refl (fun _ => False) w).drewN _) (fun _ _ h => h), (Keep.refl _ _).drewN _⟩
  · have e0 : G.resE D = D.stepE := by unfold Rg.resE; rw [if_neg hlt]
    have e4 : G.resD D = D.step := by unfold Rg.resD; rw [if_neg hlt]
    rw [e4]
    have hi : ¬ (G.limit : Int) ≤ (G.res : Int) := by omega
    by_cases hs : D.stepE = 0
    · have e1 : G.resE D = 0 := e0.trans hs
      have e2 : G.resN D = G.res + 1 := by unfold Rg.resN; rw [if_pos e1]
      have e3 : G.resG D = { G with res := G.res + 1 } := by unfold Rg.resG; rw [if_pos e1]
      have hok := hG.ok.res D
      rw [e1, e2]
      rw [e3] at hok ⊢
      have hwr : IntKind.u64.wrap ((G.res : Int) + 1) = ((G.res + 1 : Nat) : Int) := by rw [IntWalk.u64_in _ (by have := hok.l; have := hok.r; simp only at *; omega)]; omega
      obtain ⟨r1, hr1⟩ : ∃ r1, r1 = G.res + 1 := ⟨_, rfl⟩
      rw [← hr1] at hwr hok ⊢
      have HOK := Lib.hid hok
      have hsi : (D.stepE : Int) = 0 := by omega
      clear hr1 e0 e1 e2 e3 e4 hs hok hlt
      have hst := fun m : Nat => rdstep_any (w.drewN m) p n L D (hD.keep ((Keep.refl (fun _ => False) w).drewN m) (fun _ _ h => h))
      have HST := Lib.hid hst; clear hst
      have H := Lib.hid (And.intro hG hdis); clear hG hdis hD
      have HR := Lib.hid (And.intro hrow (And.intro hcap hrd)); clear hrow hcap hrd
      go_enter Try.func15, Try.ntmps15
      go_upto_region 1 with fail
      go_quiet (fail)
      have d0' : (w.drewN nq).cell? ⟨q, 0, none⟩ = some (.pointer (some ⟨p, 0, none⟩)) := d0
      clear d0 d1 d2 d3 d4
      go_wp2_with fail
      refine (HST.out nq).mono ?_
      rintro e w2 ⟨rfl, hd2, hk2⟩
      have hk2' : Keep L w w2 := ((Keep.refl L w).drewN nq).trans hk2 (fun _ _ h => h)
      have hg2 := H.out.1.keep hk2' H.out.2
      have hrow2 : w2.heap[q]? = some (.cells (rgA p G A cap) 54 (0, 0)) := (hk2'.block q (H.out.1.lt q H.out.1.rq) (H.out.2 q H.out.1.rq)).trans HR.out.1
      have hrd2 : RdS w2 (fun b => R b ∧ b ≠ q) A G.draws := HR.out.2.2.keep (fun a ha hl => by simp only [World.cell?]; rw [hk2'.block a.block hl (H.out.2 _ ha.1)]) hk2'.size
      clear hk2 HST
      clear d0'
      obtain ⟨d0, d1, d2, d3, d4⟩ := rg_cells hrow2
      have fz : w2.frozen? ⟨q, 2, none⟩ = false := frozen_of_row _ _ _ _ _ hrow2
      have hrow3 : (w2.setCell ⟨q, 2, none⟩ (.int .u64 (r1 : Int))).heap[q]? = some (.cells (rgA p { G with res := r1 } A cap) 54 (0, 0)) := heap_setCell_same w2 q 2 _ _ _ hrow2
      have hkq := keep_set w2 q 2 (.int .u64 (r1 : Int))
      have hg3 : RG (w2.setCell ⟨q, 2, none⟩ (.int .u64 (r1 : Int))) q p R { G with res := r1 } := hg2.setRow { G with res := r1 } hrow3 HR.out.2.1 hrd2 (fun b hb => heap_setCell_other _ _ _ _ hb) (World.size_setCell ..) HOK.out hg2.dl
      have hd3 := hd2.keep hkq (fun b hb e => H.out.2 q H.out.1.rq (e ▸ hb))
      have hk3 : Keep (fun b => L b ∨ R b) w (w2.setCell ⟨q, 2, none⟩ (.int .u64 (r1 : Int))) := (hk2'.mono fun _ _ h => .inl h).trans hkq fun b _ e => .inr (e ▸ H.out.1.rq)
      have HF := Lib.hid (And.intro hg3 (And.intro hd3 hk3)); clear hg3 hd3 hk3 hkq hrow3 hg2 hd2 hk2' hrow2 hrd2 HR H
      go_wp2_with fail
      go_ret2
      exact ⟨rfl, HF.out⟩
    · have e1 : G.resE D = D.stepE := e0
      have e2 : G.resN D = 0 := by unfold Rg.resN; rw [if_neg (by omega)]
      have e3 : G.resG D = G := by unfold Rg.resG; rw [if_neg (by omega)]
      rw [e1, e2, e3]
      have hsi : ¬ (D.stepE : Int) = 0 := by omega
      have hsb : ((D.stepE : Int) != 0) = true := by rw [bne_iff_ne]; exact hsi
      clear e0 e1 e2 e3 e4 hs hlt
      have hst := fun m : Nat => rdstep_any (w.drewN m) p n L D (hD.keep ((Keep.refl (fun _ => False) w).drewN m) (fun _ _ h => h))
      have HST := Lib.hid hst; clear hst
      have H := Lib.hid (And.intro hG hdis); clear hG hdis hD
      have HR := Lib.hid (And.intro hrow (And.intro hcap hrd)); clear hrow hcap hrd
      go_enter Try.func15, Try.ntmps15
      go_upto_region 1 with fail
      go_quiet (fail)
      have d0' : (w.drewN nq).cell? ⟨q, 0, none⟩ = some (.pointer (some ⟨p, 0, none⟩)) := d0
      clear d0 d1 d2 d3 d4
      go_wp2_with fail
      refine (HST.out nq).mono ?_
      rintro e w2 ⟨rfl, hd2, hk2⟩
      have hk2' : Keep L w w2 := ((Keep.refl L w).drewN nq).trans hk2 (fun _ _ h => h)
      have hg2 := H.out.1.keep hk2' H.out.2
      have hrow2 : w2.heap[q]? = some (.cells (rgA p G A cap) 54 (0, 0)) := (hk2'.block q (H.out.1.lt q H.out.1.rq) (H.out.2 q H.out.1.rq)).trans HR.out.1
      have hrd2 : RdS w2 (fun b => R b ∧ b ≠ q) A G.draws := HR.out.2.2.keep (fun a ha hl => by simp only [World.cell?]; rw [hk2'.block a.block hl (H.out.2 _ ha.1)]) hk2'.size
      clear hk2 HST
      clear d0'
      have HF := Lib.hid (And.intro hg2 (And.intro hd2 (hk2'.mono (M := fun b => L b ∨ R b) fun _ _ h => .inl h))); clear hg2 hd2 hk2' hrow2 hrd2 HR H
      go_wp2_with fail
      go_ret2
      exact ⟨rfl, HF.out⟩
set_option maxRecDepth 100000 in
set_option maxHeartbeats 8000000 in
theorem rgadvance_any (w : World) (q p n : Nat) (R L : Nat → Prop) (G : Rg) (D : Dev) (k : Nat) (hG : RG w q p R G) (hD : RD w p L n D) (hdis : ∀ b, R b → ¬ L b) :
    Calls Try.prog 17 #[.pointer (some ⟨q, 0, none⟩), .int .u64 (k : Int)] w fun e w' => e = .returned (.int .i64 (G.advE D k : Int)) ∧ RG w' q p R (G.advG D k) ∧ RD w' p L n (G.advD D k) ∧ Keep (fun b => L b ∨ R b) w w' := by
  obtain ⟨A, cap, hrow, hcap, hrd⟩ := hG.row
  obtain ⟨d0, d1, d2, d3, d4⟩ := rg_cells hrow
  by_cases hlt : k ≤ G.com ∨ G.res < k
  · have e1 : G.advE D k = 2 := by unfold Rg.advE; rw [if_pos hlt]
    have e3 : G.advG D k = G := by unfold Rg.advG; rw [e1]; rfl
    have e4 : G.advD D k = D := by unfold Rg.advD; rw [if_pos hlt]
    rw [e1, e3, e4]
    have H := Lib.hid (And.intro hG hD)
    clear hG hD hdis hrow hcap hrd e1 e3 e4 d0 d1 d4
    by_cases hkc : k ≤ G.com
    · have hi : (k : Int) ≤ (G.com : Int) := by omega
      clear hlt hkc
      go_enter Try.func17, Try.ntmps17
      go_wp2_with fail
      go_ret
      exact ⟨rfl, H.out.1, H.out.2, Keep.refl _ _⟩
    · have hi : ¬ (k : Int) ≤ (G.com : Int) := by omega
      have hi2 : (G.res : Int) < (k : Int) := by omega
      clear hlt hkc
      go_enter Try.func17, Try.ntmps17
      go_wp2_with fail
      go_ret
      exact ⟨rfl, H.out.1, H.out.2, Keep.refl _ _⟩
  · have e0 : G.advE D k = D.stepE := by unfold Rg.advE; rw [if_neg hlt]
    have e4 : G.advD D k = D.step := by unfold Rg.advD; rw [if_neg hlt]
    rw [e4]
    have hi : ¬ (k : Int) ≤ (G.com : Int) := by omega
    have hi2 : ¬ (G.res : Int) < (k : Int) := by omega
    by_cases hs : D.stepE = 0
    · have e1 : G.advE D k = 0 := e0.trans hs
      have e3 : G.advG D k = { G with com := k } := by unfold Rg.advG; rw [if_pos e1]
      have hok := hG.ok.adv D k
      rw [e1]
      rw [e3] at hok ⊢
      obtain ⟨r1, hr1⟩ : ∃ r1, r1 = k := ⟨_, rfl⟩
      rw [← hr1] at hok hi hi2 ⊢
      have HOK := Lib.hid hok
      have hsi : (D.stepE : Int) = 0 := by omega
      clear hr1 e0 e1 e3 e4 hs hok hlt
      have hst := fun m : Nat => rdstep_any (w.drewN m) p n L D (hD.keep ((Keep.refl (fun _ => False) w).drewN m) (fun _ _ h => h))
      have HST := Lib.hid hst; clear hst
      have H := Lib.hid (And.intro hG hdis); clear hG hdis hD
      have HR := Lib.hid (And.intro hrow (And.intro hcap hrd)); clear hrow hcap hrd
      go_enter Try.func17, Try.ntmps17
      go_wp2_with fail
      clear d0 d1 d2 d3 d4
      refine (HST.out 0).mono ?_
      rintro e w2 ⟨rfl, hd2, hk2⟩
      have hk2' : Keep L w w2 := ((Keep.refl L w).drewN 0).trans hk2 (fun _ _ h => h)
      have hg2 := H.out.1.keep hk2' H.out.2
      have hrow2 : w2.heap[q]? = some (.cells (rgA p G A cap) 54 (0, 0)) := (hk2'.block q (H.out.1.lt q H.out.1.rq) (H.out.2 q H.out.1.rq)).trans HR.out.1
      have hrd2 : RdS w2 (fun b => R b ∧ b ≠ q) A G.draws := HR.out.2.2.keep (fun a ha hl => by simp only [World.cell?]; rw [hk2'.block a.block hl (H.out.2 _ ha.1)]) hk2'.size
      clear hk2 HST
      obtain ⟨d0, d1, d2, d3, d4⟩ := rg_cells hrow2
      have fz : w2.frozen? ⟨q, 3, none⟩ = false := frozen_of_row _ _ _ _ _ hrow2
      have hrow3 : (w2.setCell ⟨q, 3, none⟩ (.int .u64 (r1 : Int))).heap[q]? = some (.cells (rgA p { G with com := r1 } A cap) 54 (0, 0)) := heap_setCell_same w2 q 3 _ _ _ hrow2
      have hkq := keep_set w2 q 3 (.int .u64 (r1 : Int))
      have hg3 : RG (w2.setCell ⟨q, 3, none⟩ (.int .u64 (r1 : Int))) q p R { G with com := r1 } := hg2.setRow { G with com := r1 } hrow3 HR.out.2.1 hrd2 (fun b hb => heap_setCell_other _ _ _ _ hb) (World.size_setCell ..) HOK.out hg2.dl
      have hd3 := hd2.keep hkq (fun b hb e => H.out.2 q H.out.1.rq (e ▸ hb))
      have hk3 : Keep (fun b => L b ∨ R b) w (w2.setCell ⟨q, 3, none⟩ (.int .u64 (r1 : Int))) := (hk2'.mono fun _ _ h => .inl h).trans hkq fun b _ e => .inr (e ▸ H.out.1.rq)
      have HF := Lib.hid (And.intro hg3 (And.intro hd3 hk3)); clear hg3 hd3 hk3 hkq hrow3 hg2 hd2 hk2' hrow2 hrd2 HR H
      go_wp2_with fail
      go_ret
      exact ⟨rfl, HF.out⟩
    · have e1 : G.advE D k = D.stepE := e0
      have e3 : G.advG D k = G := by unfold Rg.advG; rw [if_neg (by omega)]
      rw [e1, e3]
      have hsi : ¬ (D.stepE : Int) = 0 := by omega
      have hsb : ((D.stepE : Int) == 0) = false := by rw [beq_eq_false_iff_ne]; exact hsi
      clear e0 e1 e3 e4 hs hlt
      have hst := fun m : Nat => rdstep_any (w.drewN m) p n L D (hD.keep ((Keep.refl (fun _ => False) w).drewN m) (fun _ _ h => h))
      have HST := Lib.hid hst; clear hst
      have H := Lib.hid (And.intro hG hdis); clear hG hdis hD
      have HR := Lib.hid (And.intro hrow (And.intro hcap hrd)); clear hrow hcap hrd
      go_enter Try.func17, Try.ntmps17
      go_wp2_with fail
      clear d0 d1 d2 d3 d4
      refine (HST.out 0).mono ?_
      rintro e w2 ⟨rfl, hd2, hk2⟩
      have hk2' : Keep L w w2 := ((Keep.refl L w).drewN 0).trans hk2 (fun _ _ h => h)
      have hg2 := H.out.1.keep hk2' H.out.2
      have hrow2 : w2.heap[q]? = some (.cells (rgA p G A cap) 54 (0, 0)) := (hk2'.block q (H.out.1.lt q H.out.1.rq) (H.out.2 q H.out.1.rq)).trans HR.out.1
      have hrd2 : RdS w2 (fun b => R b ∧ b ≠ q) A G.draws := HR.out.2.2.keep (fun a ha hl => by simp only [World.cell?]; rw [hk2'.block a.block hl (H.out.2 _ ha.1)]) hk2'.size
      clear hk2 HST
      have HF := Lib.hid (And.intro hg2 (And.intro hd2 (hk2'.mono (M := fun b => L b ∨ R b) fun _ _ h => .inl h))); clear hg2 hd2 hk2' hrow2 hrd2 HR H
      go_wp2_with fail
      go_ret
      exact ⟨rfl, HF.out⟩
end Go.Proofs.Ytpepbffhhfgdpaa
namespace Go.Proofs.Ytpepbffhhfgdpaa
open Go Go.RowKit
set_option linter.unusedVariables false
set_option linter.unusedSimpArgs false

theorem info_sl : (Try.prog.info? 31).map (fun i => (i.zero, i.size, i.bytes)) = some (some (.slice none 0 0), 1, 24) := by kernel_rfl
theorem own_grownG {w w' : World} {base e n q : Nat} {v : Value} {xs : List Value} (h : w.ownsRow base e 1 v n xs) (hq : q < base) (hk : ∀ b, b ≠ q → w'.heap[b]? = w.heap[b]?) : w'.ownsRow base e 1 v n xs :=
  ⟨h.1, h.2.imp id fun ⟨g, cap, cur, hv, hb, hh, rest⟩ => ⟨g, cap, cur, hv, hb, (hk g (by omega)).trans hh, rest⟩⟩
set_option maxRecDepth 100000 in
set_option maxHeartbeats 8000000 in
theorem rgdraw_any (w : World) (q p : Nat) (R : Nat → Prop) (G : Rg) (s : Int) (hs : -9223372036854775808 ≤ s ∧ s ≤ 9223372036854775807) (hG : RG w q p R G) :
    Calls Try.prog 19 #[.pointer (some ⟨q, 0, none⟩), .int .i64 s] w fun e w' => ∃ v, e = .returned (.tuple #[v, .int .i64 (G.drwE s : Int)]) ∧ w'.ownsRow w.heap.size 5 1 v (G.drwB s).length (vb (G.drwB s)) ∧ RG w' q p R (G.drwG s) ∧ Keep R w w' := by
  have hD : True := trivial
  obtain ⟨A, cap, hrow, hcap, hrd⟩ := hG.row
  obtain ⟨d0, d1, d2, d3, d4⟩ := rg_cells hrow
  clear d0 d1 d2 d3
  by_cases h1 : s < 1
  · have e1 : G.drwE s = 2 := by unfold Rg.drwE; rw [if_pos (.inl h1)]
    have e2 : G.drwB s = [] := by unfold Rg.drwB; rw [if_neg (by omega)]
    have e3 : G.drwG s = G := by unfold Rg.drwG; rw [if_neg (by omega)]
    rw [e1, e2, e3]
    have H := Lib.hid (And.intro hG hD)
    clear hG hD e1 e2 e3
    clear hrow hcap hrd d4
    go_enter Try.func19, Try.ntmps19
    go_wp2_with fail
    go_ret2
    exact ⟨_, rfl, World.ownsRow_nil _ _ _ _, H.out.1, Keep.refl _ _⟩
  by_cases h2 : 64 < s
  · have e1 : G.drwE s = 2 := by unfold Rg.drwE; rw [if_pos (.inr h2)]
    have e2 : G.drwB s = [] := by unfold Rg.drwB; rw [if_neg (by omega)]
    have e3 : G.drwG s = G := by unfold Rg.drwG; rw [if_neg (by omega)]
    rw [e1, e2, e3]
    have H := Lib.hid (And.intro hG hD)
    clear hG hD e1 e2 e3
    clear hrow hcap hrd d4
    go_enter Try.func19, Try.ntmps19
    go_wp2_with fail
    go_ret2
    exact ⟨_, rfl, World.ownsRow_nil _ _ _ _, H.out.1, Keep.refl _ _⟩
  obtain ⟨dl, hdl⟩ : ∃ dl, dl = G.draws.length := ⟨_, rfl⟩
  have hdl2 := hG.dl
  rw [← hdl] at d4 hcap hdl2
  by_cases h3 : G.draws = []
  · have e1 : G.drwE s = 91 := by unfold Rg.drwE; rw [if_neg (by omega), if_pos (.inl h3)]
    have e2 : G.drwB s = [] := by unfold Rg.drwB; rw [if_neg (by omega)]
    have e3 : G.drwG s = G := by unfold Rg.drwG; rw [if_neg (by omega)]
    rw [e1, e2, e3]
    have H := Lib.hid (And.intro hG hD)
    clear hG hD e1 e2 e3
    have hd0 : dl = 0 := by rw [hdl, h3]; rfl
    rw [hd0] at d4
    clear hrow hcap hrd hdl hd0
    go_enter Try.func19, Try.ntmps19
    go_wp2_with fail
    go_ret2
    exact ⟨_, rfl, World.ownsRow_nil _ _ _ _, H.out.1, Keep.refl _ _⟩
  have hpos : 0 < G.draws.length := List.length_pos_iff.2 h3
  obtain ⟨ad, B, c, rfl, hS, hadl, hc0, hlc, hl2, hrB, hBS⟩ := hrd.at_ hpos
  obtain ⟨l, hl⟩ : ∃ l, l = G.draws.getD 0 [] := ⟨_, rfl⟩
  rw [← hl] at hc0 hlc hl2 hrB hBS
  have hc0' : w.cell? ad = some (.slice B l.length c) := by have := hc0; rwa [add_zero] at this
  have hdne : ¬ (dl : Int) = 0 := by omega
  have hdpos : (0 : Int) < (dl : Int) := by omega
  obtain ⟨ll, hll⟩ : ∃ ll, ll = l.length := ⟨_, rfl⟩
  rw [← hll] at hc0 hc0' hlc hl2
  by_cases h4 : (l.length : Int) < s
  · have e1 : G.drwE s = 91 := by unfold Rg.drwE; rw [if_neg (by omega), if_pos (.inr (by rw [← hl]; exact h4))]
    have e2 : G.drwB s = [] := by unfold Rg.drwB; rw [if_neg (by omega)]
    have e3 : G.drwG s = G := by unfold Rg.drwG; rw [if_neg (by omega)]
    rw [e1, e2, e3]
    have H := Lib.hid (And.intro hG hD)
    clear hG hD e1 e2 e3
    have h4i : (ll : Int) < s := by omega
    clear hrow hcap hrd hdl hl hll hlc hl2 hrB hBS hS h4 hpos h3
    go_enter Try.func19, Try.ntmps19
    go_wp2_with fail
    go_ret2
    exact ⟨_, rfl, World.ownsRow_nil _ _ _ _, H.out.1, Keep.refl _ _⟩
  obtain ⟨n, rfl⟩ : ∃ n : Nat, s = (n : Int) := ⟨s.toNat, by omega⟩
  have h4i : ¬ (ll : Int) < (n : Int) := by omega
  have e1 : G.drwE (n : Int) = 0 := by unfold Rg.drwE; rw [if_neg (by omega), if_neg (by rw [← hl]; intro h; exact h.elim h3 h4)]
  have e2 : G.drwB (n : Int) = l.take n := by unfold Rg.drwB; rw [if_pos e1, ← hl]; rfl
  have e3 : G.drwG (n : Int) = { G with draws := G.draws.drop 1 } := by unfold Rg.drwG; rw [if_pos e1]
  have hok := hG.ok.drw (n : Int)
  rw [e1, e2]
  rw [e3] at hok ⊢
  obtain ⟨j0, hi, hz0, hz1, hz2⟩ := info_parts info_b
  have q1 := run_head (P := Try.prog) 31 5 j0 Try.underlying31 hi B ll c n (by omega)
  have hcopy : ∀ w1 : World, Below w.heap.size w w1 → Calls Try.prog 10 #[.slice B n c] w1 fun e w' => ∃ v, e = .returned v ∧ w'.ownsRow w1.heap.size 5 1 v n (vb (l.take n)) ∧ Below w1.heap.size w1 w' := fun w1 hb =>
    copyv_any B (vb (l.take n)) n c (by simp [vb]; omega) (vb_onec _) w1 (by omega) ((show Rd w w.heap.size B (vb (l.take n)) by have := hrB.take n; simpa [vb, List.map_take] using this).go hb)
  have HC := Lib.hid hcopy; clear hcopy
  obtain ⟨j2, hi2, _, hs2, _⟩ := info_parts info_sl
  have q2 := run_tailQ (P := Try.prog) 23 31 j2 Try.underlying23 hi2 hs2 (some ad) dl cap 1 (by omega) hcap
  rw [show ((1 : Nat) : Int) = 1 from rfl] at q2
  have hrd1 := hrd.tail (cap := cap) (by omega)
  rw [show (if cap = 1 then some ad else (some ad).map (·.add 1)) = tailA (some ad) cap 1 from rfl] at hrd1
  obtain ⟨T, hT⟩ : ∃ T, T = tailA (some ad) cap 1 := ⟨_, rfl⟩
  rw [← hT] at q2 hrd1
  have HN := Lib.hid (show (l.take n).length = n by rw [List.length_take]; omega)
  have HG := Lib.hid (And.intro hG (And.intro hrow (And.intro hrd1 (And.intro hok (And.intro hdl (And.intro hcap hdl2))))))
  rw [HN.out]
  clear hG hrow hrd hrd1 hok hdl hcap hdl2 hT hi hz0 hz1 hz2 hrB hBS hS hl hll hl2 hlc h4 hpos h3 e1 e2 e3
  go_enter Try.func19, Try.ntmps19
  go_wp2_with fail
  refine (HC.out w (Below.refl _ _)).mono ?_
  rintro e w1 ⟨v, rfl, ho, hb⟩
  have HO := Lib.hid ho
  have HB := Lib.hid hb
  have hrow1 : w1.heap[q]? = some (.cells (rgA p G (some ad) cap) 54 (0, 0)) := (hb.block q (HG.out.1.lt q HG.out.1.rq)).trans HG.out.2.1
  have d4 := (rg_cells hrow1).2.2.2.2
  rw [← HG.out.2.2.2.2.1] at d4
  have fz : w1.frozen? ⟨q, 4, none⟩ = false := frozen_of_row _ _ _ _ _ hrow1
  have e5 : (G.draws.drop 1).length = dl - 1 := by rw [List.length_drop, ← HG.out.2.2.2.2.1]
  have hrow2 : (w1.setCell ⟨q, 4, none⟩ (.slice T (dl - 1) (cap - 1))).heap[q]? = some (.cells (rgA p { G with draws := G.draws.drop 1 } T (cap - 1)) 54 (0, 0)) := by
    have := heap_setCell_same w1 q 4 _ _ (.slice T (dl - 1) (cap - 1)) hrow1
    rw [← e5] at this ⊢
    exact this
  have hg2 : RG (w1.setCell ⟨q, 4, none⟩ (.slice T (dl - 1) (cap - 1))) q p R { G with draws := G.draws.drop 1 } := (HG.out.1.call hb).setRow { G with draws := G.draws.drop 1 } hrow2 (by have := HG.out.2.2.2.2.2.1; show (G.draws.drop 1).length ≤ _; omega) (HG.out.2.2.1.below hb) (fun b hb => heap_setCell_other _ _ _ _ hb) (World.size_setCell ..) HG.out.2.2.2.1 (by have := HG.out.2.2.2.2.2.2; show (G.draws.drop 1).length ≤ _; omega)
  have hk2 : Keep R w (w1.setCell ⟨q, 4, none⟩ (.slice T (dl - 1) (cap - 1))) := (Keep.of (L := R) hb).trans (keep_set w1 q 4 _) fun b _ e => e ▸ HG.out.1.rq
  have ho2 : (w1.setCell ⟨q, 4, none⟩ (.slice T (dl - 1) (cap - 1))).ownsRow w.heap.size 5 1 v n (vb (l.take n)) := own_grownG ho (HG.out.1.lt q HG.out.1.rq) fun b hb => heap_setCell_other _ _ _ _ hb
  have HF := Lib.hid (And.intro ho2 (And.intro hg2 hk2)); clear ho2 hg2 hk2 hrow2 hrow1 e5 ho hb HG
  go_wp2_with fail
  go_ret2
  exact ⟨_, rfl, HF.out⟩
end Go.Proofs.Ytpepbffhhfgdpaa
namespace Go.Proofs.Ytpepbffhhfgdpaa
open Go Go.RowKit
set_option linter.unusedVariables false
set_option linter.unusedSimpArgs false

/-- A slice of slices while it grows, in a world of its own: each of them has memory of its own. -/
structure NI (w : World) (B : Nat) (ls : List (List UInt8)) (j : Nat) (V : Value) (xs : List Value) : Prop where
  own : w.ownsRow B 31 1 V j xs
  el : ∀ i, i < j → ∃ v, xs[i]? = some v ∧ w.ownsRow B 5 1 v (ls.getD i []).length (vb (ls.getD i []))
theorem NI.start (w : World) (B : Nat) (ls : List (List UInt8)) : NI w B ls 0 (.slice none 0 0) [] := ⟨World.ownsRow_nil _ _ _ _, fun i hi => absurd hi (Nat.not_lt_zero _)⟩
theorem NI.keep {w w' : World} {B j : Nat} {ls : List (List UInt8)} {V : Value} {xs : List Value} (h : NI w B ls j V xs) (hk : ∀ b, B ≤ b → b < w.heap.size → w'.heap[b]? = w.heap[b]?) : NI w' B ls j V xs :=
  ⟨own_same h.own fun b hb => hk b (h.own.lt b hb).1 (h.own.lt b hb).2, fun i hi => let ⟨v, h1, h2⟩ := h.el i hi; ⟨v, h1, own_same h2 fun b hb => hk b (h2.lt b hb).1 (h2.lt b hb).2⟩⟩
/-- One more. -/
theorem NI.step {w w6 : World} {B j g2 cap : Nat} {ls : List (List UInt8)} {V v : Value} {xs : List Value} (h : NI w B ls j V xs) {l : List UInt8} {ln : Nat} (hl : l = ls.getD j []) (hln : ln = l.length) (hv : w.ownsRow B 5 1 v ln (vb l))
    (hg : w.grownBy w6 V.ownBlock) (ho : w6.ownsRow B 31 1 (.slice (some ⟨g2, 0, none⟩) (j + 1) cap) (j + 1) (xs ++ [v])) : NI w6 B ls (j + 1) (.slice (some ⟨g2, 0, none⟩) (j + 1) cap) (xs ++ [v]) := by
  subst hl
  subst hln
  have hxl : xs.length = j := by have := h.own.1; omega
  have hkeep : ∀ (u : Value) (l : List UInt8), w.ownsRow B 5 1 u l.length (vb l) → w6.ownsRow B 5 1 u l.length (vb l) := fun u l hu => by
    refine own_same hu fun b hb => hg.block b (hu.lt b hb).2 fun e => ?_
    rcases hu.2 with ⟨e1, _⟩ | ⟨g, c, cur, e1, _, h1, _⟩
    · subst e1; cases hb
    · subst e1
      have e2 : g = b := by simpa [Value.ownBlock] using hb
      subst e2
      rcases h.own.2 with ⟨e3, _⟩ | ⟨g', c', cur', e3, _, h2, _⟩
      · subst e3; cases e
      · subst e3
        have e4 : g' = g := by have := e.symm; simpa [Value.ownBlock] using this
        subst e4
        rw [h2] at h1
        simp at h1
  refine ⟨ho, fun i hi => ?_⟩
  by_cases e : i = j
  · subst e
    exact ⟨v, by rw [List.getElem?_append_right (by omega), hxl, Nat.sub_self]; rfl, hkeep v _ hv⟩
  · obtain ⟨u, h1, h2⟩ := h.el i (by omega)
    exact ⟨u, by rw [List.getElem?_append_left (by omega)]; exact h1, hkeep u _ h2⟩
/-- As slices that can be read. -/
theorem NI.rds {w : World} {B : Nat} {ls : List (List UInt8)} {A : Option Addr} {cap : Nat} {xs : List Value} (h : NI w B ls ls.length (.slice A ls.length cap) xs) (hb : ∀ i, i < ls.length → (ls.getD i []).length ≤ 140737488351232) : ls.length ≤ cap ∧ RdS w (fun b => B ≤ b) A ls := by
  have hown := h.own
  rcases hown.2 with ⟨e1, h0⟩ | ⟨g, c, cur, e1, hbg, hh, hnc, hcm, hcs, htk⟩
  · injection e1 with e2 e3 e4
    exact ⟨by omega, fun i hi => by omega⟩
  · injection e1 with e2 e3 e4
    subst e2
    refine ⟨by omega, fun i hi => ?_⟩
    obtain ⟨v, h1, h2⟩ := h.el i hi
    have hgl : g < w.heap.size := (Array.getElem?_eq_some_iff.1 hh).1
    have hce : w.cell? ((⟨g, 0, none⟩ : Addr).add i) = some v := by
      rw [head_add, cell_of_row _ _ _ _ _ _ hh]
      rw [Nat.mul_one] at htk
      rw [← htk, List.getElem?_take, if_pos hi] at h1
      simpa using h1
    rcases h2.2 with ⟨e5, h0⟩ | ⟨g', c', cur', e5, hb', hh', hn', hm', hs', ht'⟩
    · subst e5
      have hz : (ls.getD i []).length = 0 := h0
      refine ⟨⟨g, 0, none⟩, none, 0, rfl, hbg, hgl, by rw [hce, hz], by omega, by omega, fun hp => by omega⟩
    · subst e5
      refine ⟨⟨g, 0, none⟩, some ⟨g', 0, none⟩, c', rfl, hbg, hgl, hce, hn', hb i hi, fun hp => ⟨⟨g', 0, none⟩, rfl, hb', (Array.getElem?_eq_some_iff.1 hh').1, fun k u hk => ?_⟩⟩
      rw [head_add, cell_of_row _ _ _ _ _ _ hh']
      rw [Nat.mul_one] at ht'
      rw [← ht', List.getElem?_take] at hk
      split at hk
      · simpa using hk
      · cases hk

theorem own_lowG {w : World} {base base' e n : Nat} {v : Value} {xs : List Value} (h : w.ownsRow base e 1 v n xs) (hb : base' ≤ base) : w.ownsRow base' e 1 v n xs :=
  ⟨h.1, h.2.imp id fun ⟨g, cap, cur, hv, hg, rest⟩ => ⟨g, cap, cur, hv, Nat.le_trans hb hg, rest⟩⟩
theorem ni_cell {wr wA w6 : World} {q : Nat} {cur : Array Value} {V : Value} {j : Nat} {xs : List Value} (hq : wr.heap[q]? = some (.cells (cur.push V) 54 (0, 0))) (hb : Below wr.heap.size wr wA) (hg : wA.grownBy w6 V.ownBlock) (ho : wr.ownsRow (q + 1) 31 1 V j xs) :
    w6.heap[q]? = some (.cells (cur.push V) 54 (0, 0)) ∧ w6.cell? ⟨q, cur.size, none⟩ = some V ∧ w6.frozen? ⟨q, cur.size, none⟩ = false := by
  have hql : q < wr.heap.size := (Array.getElem?_eq_some_iff.1 hq).1
  have h6 : w6.heap[q]? = some (.cells (cur.push V) 54 (0, 0)) := (hg.block q (Nat.lt_of_lt_of_le hql hb.size) (fun e => by have := (ho.lt q e.symm).1; omega)).trans ((hb.block q hql).trans hq)
  exact ⟨h6, by rw [cell_of_row _ _ _ _ _ _ h6]; simp, frozen_of_row _ _ _ _ _ h6⟩
set_option maxRecDepth 100000 in
set_option maxHeartbeats 16000000 in
theorem rgnew_any (w : World) (p limit : Nat) (A : Option Addr) (ls : List (List UInt8)) (cap : Nat) (hlim : limit < 18446744073709551616) (hll : ls.length ≤ 1000000) (hrd : RdS w (fun b => b < w.heap.size) A ls) (hlb : ∀ i, i < ls.length → (ls.getD i []).length ≤ 140737488351232) :
    Calls Try.prog 13 #[.pointer (some ⟨p, 0, none⟩), .int .u64 (limit : Int), .slice A ls.length cap] w fun e w' => ∃ q, e = .returned (.pointer (some ⟨q, 0, none⟩)) ∧ RG w' q p (fun b => w.heap.size ≤ b ∧ b < w'.heap.size) (Rg.new limit ls) ∧ Below w.heap.size w w' := by
  obtain ⟨j0, hi, hz0, hz1, hz2⟩ := info_parts info_sl
  have HRD := Lib.hid hrd; clear hrd
  have HRDB := Lib.hid hlb; clear hlb
  obtain ⟨n, hn⟩ : ∃ n, n = ls.length := ⟨_, rfl⟩
  rw [← hn] at hll
  rw [← hn]
  have HN := Lib.hid hn; clear hn
  go_enter Try.func13, Try.ntmps13
  have hq0 : (w.alloc (.cells #[.pointer (some ⟨p, 0, none⟩), .int .u64 (limit : Int), .int .u64 0, .int .u64 0, .slice none 0 0] 54)).heap[w.heap.size]? = some (.cells #[.pointer (some ⟨p, 0, none⟩), .int .u64 (limit : Int), .int .u64 0, .int .u64 0, .slice none 0 0] 54 (0, 0)) := heap_alloc_new _ _
  have hb0 : Below w.heap.size w (w.alloc (.cells #[.pointer (some ⟨p, 0, none⟩), .int .u64 (limit : Int), .int .u64 0, .int .u64 0, .slice none 0 0] 54)) := (Below.refl _ _).alloc (Nat.le_refl _) _
  go_upto_region 2 with fail
  obtain ⟨w0, hw0⟩ : ∃ w0, w0 = w.alloc (.cells #[.pointer (some ⟨p, 0, none⟩), .int .u64 (limit : Int), .int .u64 0, .int .u64 0, .slice none 0 0] 54) := ⟨_, rfl⟩
  rw [← hw0] at hq0 hb0
  rw [← hw0]
  have H0 := Lib.hid (And.intro hq0 (And.intro (NI.start w0 (w.heap.size + 1) ls) hb0)); clear hq0 hb0 hw0
  obtain ⟨q, hqe⟩ : ∃ q, q = w.heap.size := ⟨_, rfl⟩
  rw [← hqe] at H0
  rw [← hqe]
  have HQE := Lib.hid hqe; clear hqe
  go_wp2_with fail
  go_loopw [8] (fun i wr => ∃ (j : Nat) (V : Value) (xs : List Value), j ≤ n ∧ i = .int .i64 (j : Int) ∧ wr.heap[q]? = some (.cells #[.pointer (some ⟨p, 0, none⟩), .int .u64 (limit : Int), .int .u64 0, .int .u64 0, V] 54 (0, 0)) ∧ NI wr (q + 1) ls j V xs ∧ Below q w wr) (fun i _ => n - (intOf i).toNat)
  case atStart => exact ⟨0, _, _, Nat.zero_le _, rfl, H0.out⟩
  case round =>
    rename World => wr
    obtain ⟨j, V, xs, hj, rfl, hq, hni, hb⟩ := hrel
    clear H0
    have hql : q < wr.heap.size := (Array.getElem?_eq_some_iff.1 hq).1
    have HQ : Hid (wr.heap[q]? = some (.cells ((#[.pointer (some ⟨p, 0, none⟩), .int .u64 (limit : Int), .int .u64 0, .int .u64 0] : Array Value).push V) 54 (0, 0)) ∧ q + 1 ≤ wr.heap.size) := Lib.hid ⟨hq, hql⟩
    have HB := Lib.hid hb; clear hb
    by_cases hlt : j < n
    · have hji : (j : Int) < (n : Int) := by omega
      have hjl : j < ls.length := by have := HN.out; omega
      obtain ⟨ad, B, c, rfl, hS, hadl, hc0, hlc, hl2, hrB, _⟩ := (HRD.out).at_ hjl
      obtain ⟨l, hl⟩ : ∃ l, l = ls.getD j [] := ⟨_, rfl⟩
      rw [← hl] at hc0 hlc hl2 hrB
      obtain ⟨ln, hln⟩ : ∃ ln, ln = l.length := ⟨_, rfl⟩
      rw [← hln] at hc0 hlc hl2
      have hcopy : ∀ w1 : World, Below wr.heap.size wr w1 → Calls Try.prog 10 #[.slice B ln c] w1 fun e w' => ∃ v, e = .returned v ∧ w'.ownsRow w1.heap.size 5 1 v ln (vb l) ∧ Below w1.heap.size w1 w' := fun w1 hb1 =>
        copyv_any B (vb l) ln c (by simp [vb]; omega) (vb_onec _) w1 (by omega) ((hrB.go (by rw [← HQE.out]; exact HB.out)).go hb1)
      have HC := Lib.hid hcopy; clear hcopy
      have hh : ∀ w1 : World, Below wr.heap.size wr w1 → w1.cell? ⟨q, 4, none⟩ = some V ∧ w1.frozen? ⟨q, 4, none⟩ = false ∧ w1.cell? (ad.add j) = some (.slice B ln c) ∧ NI w1 (q + 1) ls j V xs := fun w1 hb1 => by
        have h1 := (hb1.block q hql).trans hq
        refine ⟨by rw [cell_of_row _ _ _ _ _ _ h1]; rfl, frozen_of_row _ _ _ _ _ h1, ?_, hni.keep fun b _ hs => hb1.block b hs⟩
        exact (hb1.cell (by rw [add_block]; have := HQE.out; omega)).trans ((HB.out.cell (by rw [add_block]; have := HQE.out; omega)).trans hc0)
      have HH := Lib.hid hh; clear hh
      have HLS := Lib.hid (And.intro hl hln)
      clear hq hni hS hadl hc0 hlc hrB hl hln hjl
      go_upto_region 5 with fail
      refine wp_region_noPanic ?_
      refine wp_region_held_drew (S := (fun _ => True)) (by kernel_rfl) ?_ (fun hHeld => ?_)
      · trivial
      refine wpAnyH_take (i := 0) (v := ?_) rfl (by kernel_rfl) (by kernel_rfl) (by kernel_rfl) (fun _ _ _ h => h) (Or.inl ⟨by rfl, ?_⟩) hHeld ?_
      rotate_left
      · intro w' hSw
        (try dsimp only at hSw)
        go_simp
        try with_reducible rfl
      try simp only [Act.put, zq1, zq2, zq3, zq4, zq5, zq6]
      refine wpAnyH_take (i := 2) (v := ?_) rfl (by kernel_rfl) (by kernel_rfl) (by kernel_rfl) (fun _ _ _ h => h) (Or.inl ⟨by rfl, ?_⟩) hHeld ?_
      rotate_left
      · intro w' hSw
        (try dsimp only at hSw)
        go_simp
        try with_reducible rfl
      try simp only [Act.put, zq1, zq2, zq3, zq4, zq5, zq6]
      refine wpAnyH_take (i := 3) (v := ?_) rfl (by kernel_rfl) (by kernel_rfl) (by kernel_rfl) (fun _ _ _ h => h) (Or.inl ⟨by rfl, ?_⟩) hHeld ?_
      rotate_left
      · intro w' hSw
        (try dsimp only at hSw)
        go_simp
        try with_reducible rfl
      try simp only [Act.put, zq1, zq2, zq3, zq4, zq5, zq6]
      refine wpAnyH_take (i := 4) (v := ?_) rfl (by kernel_rfl) (by kernel_rfl) (by kernel_rfl) (fun _ _ _ h => h) (Or.inl ⟨by rfl, ?_⟩) hHeld ?_
      rotate_left
      · intro w' hSw
        (try dsimp only at hSw)
        go_simp
        try with_reducible rfl
      try simp only [Act.put, zq1, zq2, zq3, zq4, zq5, zq6]
      refine wpAnyH_ready (rs := [1, 5]) (by kernel_rfl) (by simp) ?_
      refine AllReadyH.cons rfl (fun K hK => ?_) (AllReadyH.cons rfl (fun K hK => ?_) (AllReadyH.nil))
      · try simp only [zq1, zq2, zq3]
        have hcl := (HH.out _ ((Below.refl _ _).drew)).1
        go_simp
        clear hcl
        refine hK.out _ _ ?_ (fun hHeld => ?_)
        · trivial
        clear hK K
        try simp only [Act.put, zq1, zq2, zq3, zq4, zq5, zq6]
        refine wpAnyH_ready (rs := [5]) (by kernel_rfl) (by simp) ?_
        refine AllReadyH.cons rfl (fun K hK => ?_) (AllReadyH.nil)
        try simp only [zq1, zq2, zq3]
        have hcl := (HH.out _ ((Below.refl _ _).drew)).2.2.1
        go_simp
        clear hcl
        refine hK.out _ _ ?_ (fun hHeld => ?_)
        · trivial
        clear hK K
        try simp only [Act.put, zq1, zq2, zq3, zq4, zq5, zq6]
        refine wpAnyH_ready (rs := [6]) (by kernel_rfl) (by simp) ?_
        refine AllReadyH.cons rfl (fun K hK => ?_) (AllReadyH.nil)
        try simp only [zq1, zq2, zq3]
        go_simp
        refine (HC.out _ ((Below.refl _ _).drew)).mono ?_
        rintro e w5 ⟨v5, rfl, ho5, hb5⟩
        have hbw5 : Below wr.heap.size wr w5 := ((Below.refl _ _).drew).trans (hb5.mono (Nat.le_refl _))
        obtain ⟨A5, c5, rfl, _, _⟩ := Rd.of_own ho5
        refine hK.out _ _ ?_ (fun hHeld => ?_)
        · trivial
        clear hK K
        try simp only [Act.put, zq1, zq2, zq3, zq4, zq5, zq6]
        refine wpAnyH_ready (rs := [7]) (by kernel_rfl) (by simp) ?_
        refine AllReadyH.cons rfl (fun K hK => ?_) (AllReadyH.nil)
        try simp only [zq1, zq2, zq3]
        go_simp
        refine hK.out _ _ ?_ (fun hHeld => ?_)
        · trivial
        clear hK K
        try simp only [Act.put, zq1, zq2, zq3, zq4, zq5, zq6]
        refine wpAnyH_ready (rs := [8]) (by kernel_rfl) (by simp) ?_
        refine AllReadyH.cons rfl (fun K hK => ?_) (AllReadyH.nil)
        refine step_append_lies _ (by rfl) _ _ _ (by rfl) (q + 1) 31 j0 _ 1 24 Try.underlying23 hi hz0 hz1 hz2 rfl (by omega) V j xs (by rfl) (by exact ((HH.out _ hbw5).2.2.2.own).alloc _) ⟨_, 0, none⟩ 1 1 [.slice A5 ln c5] (by rfl) (by rfl) (World.news_of_block (t := 31) (fr := (0, 0)) (heap_alloc_new _ _)) (by simp [Value.oneCell']) (by omega) (by unfold maxLen; omega) (by omega) (by rw [World.size_alloc]; have := hbw5.size; omega) _ (by rfl) ?_
        intro g2 cap2 w6 hown6 hgrow6 hat6 hlt6
        have hbA : Below wr.heap.size wr (w5.alloc (.cells #[.slice A5 ln c5] 31)) := hbw5.trans (((Below.refl _ _).alloc (Nat.le_refl _) (.cells #[.slice A5 ln c5] 31)).mono hbw5.size)
        obtain ⟨hq6, hc6, hf6⟩ := ni_cell (HQ.out.1) hbA hgrow6 (HH.out _ (Below.refl _ _)).2.2.2.own
        replace hc6 : w6.cell? ⟨q, 4, none⟩ = some V := hc6
        replace hf6 : w6.frozen? ⟨q, 4, none⟩ = false := hf6
        replace hq6 : w6.heap[q]? = some (.cells #[.pointer (some ⟨p, 0, none⟩), .int .u64 (limit : Int), .int .u64 0, .int .u64 0, V] 54 (0, 0)) := hq6
        refine hK.out _ _ ?_ (fun hHeld => ?_)
        · trivial
        clear hK K
        try simp only [Act.put, zq1, zq2, zq3, zq4, zq5, zq6]
        refine wpAnyH_take (i := 9) (v := ?_) rfl (by kernel_rfl) (by kernel_rfl) (by kernel_rfl) (fun _ _ _ h => h) (Or.inl ⟨by rfl, ?_⟩) hHeld ?_
        rotate_left
        · intro w' hSw
          (try dsimp only at hSw)
          go_simp
          try with_reducible rfl
        try simp only [Act.put, zq1, zq2, zq3, zq4, zq5, zq6]
        refine wpAnyH_ready (rs := [10]) (by kernel_rfl) (by simp) ?_
        refine AllReadyH.cons rfl (fun K hK => ?_) (AllReadyH.nil)
        try simp only [zq1, zq2, zq3]
        have hcl := hc6
        have hfl := hf6
        go_simp
        clear hcl hfl
        refine hK.out _ _ ?_ (fun hHeld => ?_)
        · trivial
        clear hK K
        try simp only [Act.put, zq1, zq2, zq3, zq4, zq5, zq6]
        refine wpAnyH_done (by kernel_rfl) ?_ _
        refine NoPanic.normal ?_
        have hZ : Below w5.heap.size w5 (w5.alloc (.cells #[.slice A5 ln c5] 31)) := (Below.refl _ _).alloc (Nat.le_refl _) (.cells #[.slice A5 ln c5] 31)
        have hni := ((HH.out _ (Below.refl _ _)).2.2.2.keep (w' := w5.alloc (.cells #[.slice A5 ln c5] 31)) (fun b _ hs => hbA.block b hs)).step HLS.out.1 HLS.out.2 (own_same (own_lowG ho5 HQ.out.2) (fun b hb => hZ.block b (ho5.lt b hb).2)) hgrow6 hown6
        have hni7 := hni.keep (w' := w6.setCell ⟨q, 4, none⟩ (.slice (some ⟨g2, 0, none⟩) (j + 1) cap2)) (fun b hb _ => heap_setCell_other _ _ _ _ (by show b ≠ q; omega))
        have hq7 := heap_setCell_same w6 q 4 _ _ (.slice (some ⟨g2, 0, none⟩) (j + 1) cap2) hq6
        have hB6 : Below q w w6 := (HB.out.trans (hbA.mono (by have := HQ.out.2; omega))).grown hgrow6 (by have := hbA.size; have := HQ.out.2; omega) (fun k hk => by have := ((HH.out _ (Below.refl _ _)).2.2.2.own.lt k hk).1; omega)
        have hB7 := hB6.setCell (p := ⟨q, 4, none⟩) (Nat.le_refl _) (.slice (some ⟨g2, 0, none⟩) (j + 1) cap2)
        have HF := Lib.hid (And.intro hq7 (And.intro hni7 hB7)); clear hq7 hni7 hB7 hB6 hni hZ hq6 hc6 hf6 hgrow6 hown6 hat6 hbA
        go_wp2_with fail
        go_roundw
        case rel => exact ⟨j + 1, _, _, by omega, by go_num, HF.out⟩
        case measure => simp [intOf]; omega
      · try simp only [zq1, zq2, zq3]
        have hcl := (HH.out _ ((Below.refl _ _).drew)).2.2.1
        go_simp
        clear hcl
        refine hK.out _ _ ?_ (fun hHeld => ?_)
        · trivial
        clear hK K
        try simp only [Act.put, zq1, zq2, zq3, zq4, zq5, zq6]
        refine wpAnyH_ready (rs := [1, 6]) (by kernel_rfl) (by simp) ?_
        refine AllReadyH.cons rfl (fun K hK => ?_) (AllReadyH.cons rfl (fun K hK => ?_) (AllReadyH.nil))
        · try simp only [zq1, zq2, zq3]
          have hcl := (HH.out _ ((Below.refl _ _).drew)).1
          go_simp
          clear hcl
          refine hK.out _ _ ?_ (fun hHeld => ?_)
          · trivial
          clear hK K
          try simp only [Act.put, zq1, zq2, zq3, zq4, zq5, zq6]
          refine wpAnyH_ready (rs := [6]) (by kernel_rfl) (by simp) ?_
          refine AllReadyH.cons rfl (fun K hK => ?_) (AllReadyH.nil)
          try simp only [zq1, zq2, zq3]
          go_simp
          refine (HC.out _ ((Below.refl _ _).drew)).mono ?_
          rintro e w5 ⟨v5, rfl, ho5, hb5⟩
          have hbw5 : Below wr.heap.size wr w5 := ((Below.refl _ _).drew).trans (hb5.mono (Nat.le_refl _))
          obtain ⟨A5, c5, rfl, _, _⟩ := Rd.of_own ho5
          refine hK.out _ _ ?_ (fun hHeld => ?_)
          · trivial
          clear hK K
          try simp only [Act.put, zq1, zq2, zq3, zq4, zq5, zq6]
          refine wpAnyH_ready (rs := [7]) (by kernel_rfl) (by simp) ?_
          refine AllReadyH.cons rfl (fun K hK => ?_) (AllReadyH.nil)
          try simp only [zq1, zq2, zq3]
          go_simp
          refine hK.out _ _ ?_ (fun hHeld => ?_)
          · trivial
          clear hK K
          try simp only [Act.put, zq1, zq2, zq3, zq4, zq5, zq6]
          refine wpAnyH_ready (rs := [8]) (by kernel_rfl) (by simp) ?_
          refine AllReadyH.cons rfl (fun K hK => ?_) (AllReadyH.nil)
          refine step_append_lies _ (by rfl) _ _ _ (by rfl) (q + 1) 31 j0 _ 1 24 Try.underlying23 hi hz0 hz1 hz2 rfl (by omega) V j xs (by rfl) (by exact ((HH.out _ hbw5).2.2.2.own).alloc _) ⟨_, 0, none⟩ 1 1 [.slice A5 ln c5] (by rfl) (by rfl) (World.news_of_block (t := 31) (fr := (0, 0)) (heap_alloc_new _ _)) (by simp [Value.oneCell']) (by omega) (by unfold maxLen; omega) (by omega) (by rw [World.size_alloc]; have := hbw5.size; omega) _ (by rfl) ?_
          intro g2 cap2 w6 hown6 hgrow6 hat6 hlt6
          have hbA : Below wr.heap.size wr (w5.alloc (.cells #[.slice A5 ln c5] 31)) := hbw5.trans (((Below.refl _ _).alloc (Nat.le_refl _) (.cells #[.slice A5 ln c5] 31)).mono hbw5.size)
          obtain ⟨hq6, hc6, hf6⟩ := ni_cell (HQ.out.1) hbA hgrow6 (HH.out _ (Below.refl _ _)).2.2.2.own
          replace hc6 : w6.cell? ⟨q, 4, none⟩ = some V := hc6
          replace hf6 : w6.frozen? ⟨q, 4, none⟩ = false := hf6
          replace hq6 : w6.heap[q]? = some (.cells #[.pointer (some ⟨p, 0, none⟩), .int .u64 (limit : Int), .int .u64 0, .int .u64 0, V] 54 (0, 0)) := hq6
          refine hK.out _ _ ?_ (fun hHeld => ?_)
          · trivial
          clear hK K
          try simp only [Act.put, zq1, zq2, zq3, zq4, zq5, zq6]
          refine wpAnyH_take (i := 9) (v := ?_) rfl (by kernel_rfl) (by kernel_rfl) (by kernel_rfl) (fun _ _ _ h => h) (Or.inl ⟨by rfl, ?_⟩) hHeld ?_
          rotate_left
          · intro w' hSw
            (try dsimp only at hSw)
            go_simp
            try with_reducible rfl
          try simp only [Act.put, zq1, zq2, zq3, zq4, zq5, zq6]
          refine wpAnyH_ready (rs := [10]) (by kernel_rfl) (by simp) ?_
          refine AllReadyH.cons rfl (fun K hK => ?_) (AllReadyH.nil)
          try simp only [zq1, zq2, zq3]
          have hcl := hc6
          have hfl := hf6
          go_simp
          clear hcl hfl
          refine hK.out _ _ ?_ (fun hHeld => ?_)
          · trivial
          clear hK K
          try simp only [Act.put, zq1, zq2, zq3, zq4, zq5, zq6]
          refine wpAnyH_done (by kernel_rfl) ?_ _
          refine NoPanic.normal ?_
          have hZ : Below w5.heap.size w5 (w5.alloc (.cells #[.slice A5 ln c5] 31)) := (Below.refl _ _).alloc (Nat.le_refl _) (.cells #[.slice A5 ln c5] 31)
          have hni := ((HH.out _ (Below.refl _ _)).2.2.2.keep (w' := w5.alloc (.cells #[.slice A5 ln c5] 31)) (fun b _ hs => hbA.block b hs)).step HLS.out.1 HLS.out.2 (own_same (own_lowG ho5 HQ.out.2) (fun b hb => hZ.block b (ho5.lt b hb).2)) hgrow6 hown6
          have hni7 := hni.keep (w' := w6.setCell ⟨q, 4, none⟩ (.slice (some ⟨g2, 0, none⟩) (j + 1) cap2)) (fun b hb _ => heap_setCell_other _ _ _ _ (by show b ≠ q; omega))
          have hq7 := heap_setCell_same w6 q 4 _ _ (.slice (some ⟨g2, 0, none⟩) (j + 1) cap2) hq6
          have hB6 : Below q w w6 := (HB.out.trans (hbA.mono (by have := HQ.out.2; omega))).grown hgrow6 (by have := hbA.size; have := HQ.out.2; omega) (fun k hk => by have := ((HH.out _ (Below.refl _ _)).2.2.2.own.lt k hk).1; omega)
          have hB7 := hB6.setCell (p := ⟨q, 4, none⟩) (Nat.le_refl _) (.slice (some ⟨g2, 0, none⟩) (j + 1) cap2)
          have HF := Lib.hid (And.intro hq7 (And.intro hni7 hB7)); clear hq7 hni7 hB7 hB6 hni hZ hq6 hc6 hf6 hgrow6 hown6 hat6 hbA
          go_wp2_with fail
          go_roundw
          case rel => exact ⟨j + 1, _, _, by omega, by go_num, HF.out⟩
          case measure => simp [intOf]; omega
        · try simp only [zq1, zq2, zq3]
          go_simp
          refine (HC.out _ ((Below.refl _ _).drew)).mono ?_
          rintro e w5 ⟨v5, rfl, ho5, hb5⟩
          have hbw5 : Below wr.heap.size wr w5 := ((Below.refl _ _).drew).trans (hb5.mono (Nat.le_refl _))
          obtain ⟨A5, c5, rfl, _, _⟩ := Rd.of_own ho5
          refine hK.out _ _ ?_ (fun hHeld => ?_)
          · trivial
          clear hK K
          try simp only [Act.put, zq1, zq2, zq3, zq4, zq5, zq6]
          refine wpAnyH_ready (rs := [1, 7]) (by kernel_rfl) (by simp) ?_
          refine AllReadyH.cons rfl (fun K hK => ?_) (AllReadyH.cons rfl (fun K hK => ?_) (AllReadyH.nil))
          · try simp only [zq1, zq2, zq3]
            have hcl := (HH.out _ (hbw5)).1
            go_simp
            clear hcl
            refine hK.out _ _ ?_ (fun hHeld => ?_)
            · trivial
            clear hK K
            try simp only [Act.put, zq1, zq2, zq3, zq4, zq5, zq6]
            refine wpAnyH_ready (rs := [7]) (by kernel_rfl) (by simp) ?_
            refine AllReadyH.cons rfl (fun K hK => ?_) (AllReadyH.nil)
            try simp only [zq1, zq2, zq3]
            go_simp
            refine hK.out _ _ ?_ (fun hHeld => ?_)
            · trivial
            clear hK K
            try simp only [Act.put, zq1, zq2, zq3, zq4, zq5, zq6]
            refine wpAnyH_ready (rs := [8]) (by kernel_rfl) (by simp) ?_
            refine AllReadyH.cons rfl (fun K hK => ?_) (AllReadyH.nil)
            refine step_append_lies _ (by rfl) _ _ _ (by rfl) (q + 1) 31 j0 _ 1 24 Try.underlying23 hi hz0 hz1 hz2 rfl (by omega) V j xs (by rfl) (by exact ((HH.out _ hbw5).2.2.2.own).alloc _) ⟨_, 0, none⟩ 1 1 [.slice A5 ln c5] (by rfl) (by rfl) (World.news_of_block (t := 31) (fr := (0, 0)) (heap_alloc_new _ _)) (by simp [Value.oneCell']) (by omega) (by unfold maxLen; omega) (by omega) (by rw [World.size_alloc]; have := hbw5.size; omega) _ (by rfl) ?_
            intro g2 cap2 w6 hown6 hgrow6 hat6 hlt6
            have hbA : Below wr.heap.size wr (w5.alloc (.cells #[.slice A5 ln c5] 31)) := hbw5.trans (((Below.refl _ _).alloc (Nat.le_refl _) (.cells #[.slice A5 ln c5] 31)).mono hbw5.size)
            obtain ⟨hq6, hc6, hf6⟩ := ni_cell (HQ.out.1) hbA hgrow6 (HH.out _ (Below.refl _ _)).2.2.2.own
            replace hc6 : w6.cell? ⟨q, 4, none⟩ = some V := hc6
            replace hf6 : w6.frozen? ⟨q, 4, none⟩ = false := hf6
            replace hq6 : w6.heap[q]? = some (.cells #[.pointer (some ⟨p, 0, none⟩), .int .u64 (limit : Int), .int .u64 0, .int .u64 0, V] 54 (0, 0)) := hq6
            refine hK.out _ _ ?_ (fun hHeld => ?_)
            · trivial
            clear hK K
            try simp only [Act.put, zq1, zq2, zq3, zq4, zq5, zq6]
            refine wpAnyH_take (i := 9) (v := ?_) rfl (by kernel_rfl) (by kernel_rfl) (by kernel_rfl) (fun _ _ _ h => h) (Or.inl ⟨by rfl, ?_⟩) hHeld ?_
            rotate_left
            · intro w' hSw
              (try dsimp only at hSw)
              go_simp
              try with_reducible rfl
            try simp only [Act.put, zq1, zq2, zq3, zq4, zq5, zq6]
            refine wpAnyH_ready (rs := [10]) (by kernel_rfl) (by simp) ?_
            refine AllReadyH.cons rfl (fun K hK => ?_) (AllReadyH.nil)
            try simp only [zq1, zq2, zq3]
            have hcl := hc6
            have hfl := hf6
            go_simp
            clear hcl hfl
            refine hK.out _ _ ?_ (fun hHeld => ?_)
            · trivial
            clear hK K
            try simp only [Act.put, zq1, zq2, zq3, zq4, zq5, zq6]
            refine wpAnyH_done (by kernel_rfl) ?_ _
            refine NoPanic.normal ?_
            have hZ : Below w5.heap.size w5 (w5.alloc (.cells #[.slice A5 ln c5] 31)) := (Below.refl _ _).alloc (Nat.le_refl _) (.cells #[.slice A5 ln c5] 31)
            have hni := ((HH.out _ (Below.refl _ _)).2.2.2.keep (w' := w5.alloc (.cells #[.slice A5 ln c5] 31)) (fun b _ hs => hbA.block b hs)).step HLS.out.1 HLS.out.2 (own_same (own_lowG ho5 HQ.out.2) (fun b hb => hZ.block b (ho5.lt b hb).2)) hgrow6 hown6
            have hni7 := hni.keep (w' := w6.setCell ⟨q, 4, none⟩ (.slice (some ⟨g2, 0, none⟩) (j + 1) cap2)) (fun b hb _ => heap_setCell_other _ _ _ _ (by show b ≠ q; omega))
            have hq7 := heap_setCell_same w6 q 4 _ _ (.slice (some ⟨g2, 0, none⟩) (j + 1) cap2) hq6
            have hB6 : Below q w w6 := (HB.out.trans (hbA.mono (by have := HQ.out.2; omega))).grown hgrow6 (by have := hbA.size; have := HQ.out.2; omega) (fun k hk => by have := ((HH.out _ (Below.refl _ _)).2.2.2.own.lt k hk).1; omega)
            have hB7 := hB6.setCell (p := ⟨q, 4, none⟩) (Nat.le_refl _) (.slice (some ⟨g2, 0, none⟩) (j + 1) cap2)
            have HF := Lib.hid (And.intro hq7 (And.intro hni7 hB7)); clear hq7 hni7 hB7 hB6 hni hZ hq6 hc6 hf6 hgrow6 hown6 hat6 hbA
            go_wp2_with fail
            go_roundw
            case rel => exact ⟨j + 1, _, _, by omega, by go_num, HF.out⟩
            case measure => simp [intOf]; omega
          · try simp only [zq1, zq2, zq3]
            go_simp
            refine hK.out _ _ ?_ (fun hHeld => ?_)
            · trivial
            clear hK K
            try simp only [Act.put, zq1, zq2, zq3, zq4, zq5, zq6]
            refine wpAnyH_ready (rs := [1]) (by kernel_rfl) (by simp) ?_
            refine AllReadyH.cons rfl (fun K hK => ?_) (AllReadyH.nil)
            try simp only [zq1, zq2, zq3]
            have hcl := (HH.out _ (hbw5.trans (((Below.refl _ _).alloc (Nat.le_refl _) (.cells #[.slice A5 ln c5] 31)).mono hbw5.size))).1
            go_simp
            clear hcl
            refine hK.out _ _ ?_ (fun hHeld => ?_)
            · trivial
            clear hK K
            try simp only [Act.put, zq1, zq2, zq3, zq4, zq5, zq6]
            refine wpAnyH_ready (rs := [8]) (by kernel_rfl) (by simp) ?_
            refine AllReadyH.cons rfl (fun K hK => ?_) (AllReadyH.nil)
            refine step_append_lies _ (by rfl) _ _ _ (by rfl) (q + 1) 31 j0 _ 1 24 Try.underlying23 hi hz0 hz1 hz2 rfl (by omega) V j xs (by rfl) (by exact ((HH.out _ hbw5).2.2.2.own).alloc _) ⟨_, 0, none⟩ 1 1 [.slice A5 ln c5] (by rfl) (by rfl) (World.news_of_block (t := 31) (fr := (0, 0)) (heap_alloc_new _ _)) (by simp [Value.oneCell']) (by omega) (by unfold maxLen; omega) (by omega) (by rw [World.size_alloc]; have := hbw5.size; omega) _ (by rfl) ?_
            intro g2 cap2 w6 hown6 hgrow6 hat6 hlt6
            have hbA : Below wr.heap.size wr (w5.alloc (.cells #[.slice A5 ln c5] 31)) := hbw5.trans (((Below.refl _ _).alloc (Nat.le_refl _) (.cells #[.slice A5 ln c5] 31)).mono hbw5.size)
            obtain ⟨hq6, hc6, hf6⟩ := ni_cell (HQ.out.1) hbA hgrow6 (HH.out _ (Below.refl _ _)).2.2.2.own
            replace hc6 : w6.cell? ⟨q, 4, none⟩ = some V := hc6
            replace hf6 : w6.frozen? ⟨q, 4, none⟩ = false := hf6
            replace hq6 : w6.heap[q]? = some (.cells #[.pointer (some ⟨p, 0, none⟩), .int .u64 (limit : Int), .int .u64 0, .int .u64 0, V] 54 (0, 0)) := hq6
            refine hK.out _ _ ?_ (fun hHeld => ?_)
            · trivial
            clear hK K
            try simp only [Act.put, zq1, zq2, zq3, zq4, zq5, zq6]
            refine wpAnyH_take (i := 9) (v := ?_) rfl (by kernel_rfl) (by kernel_rfl) (by kernel_rfl) (fun _ _ _ h => h) (Or.inl ⟨by rfl, ?_⟩) hHeld ?_
            rotate_left
            · intro w' hSw
              (try dsimp only at hSw)
              go_simp
              try with_reducible rfl
            try simp only [Act.put, zq1, zq2, zq3, zq4, zq5, zq6]
            refine wpAnyH_ready (rs := [10]) (by kernel_rfl) (by simp) ?_
            refine AllReadyH.cons rfl (fun K hK => ?_) (AllReadyH.nil)
            try simp only [zq1, zq2, zq3]
            have hcl := hc6
            have hfl := hf6
            go_simp
            clear hcl hfl
            refine hK.out _ _ ?_ (fun hHeld => ?_)
            · trivial
            clear hK K
            try simp only [Act.put, zq1, zq2, zq3, zq4, zq5, zq6]
            refine wpAnyH_done (by kernel_rfl) ?_ _
            refine NoPanic.normal ?_
            have hZ : Below w5.heap.size w5 (w5.alloc (.cells #[.slice A5 ln c5] 31)) := (Below.refl _ _).alloc (Nat.le_refl _) (.cells #[.slice A5 ln c5] 31)
            have hni := ((HH.out _ (Below.refl _ _)).2.2.2.keep (w' := w5.alloc (.cells #[.slice A5 ln c5] 31)) (fun b _ hs => hbA.block b hs)).step HLS.out.1 HLS.out.2 (own_same (own_lowG ho5 HQ.out.2) (fun b hb => hZ.block b (ho5.lt b hb).2)) hgrow6 hown6
            have hni7 := hni.keep (w' := w6.setCell ⟨q, 4, none⟩ (.slice (some ⟨g2, 0, none⟩) (j + 1) cap2)) (fun b hb _ => heap_setCell_other _ _ _ _ (by show b ≠ q; omega))
            have hq7 := heap_setCell_same w6 q 4 _ _ (.slice (some ⟨g2, 0, none⟩) (j + 1) cap2) hq6
            have hB6 : Below q w w6 := (HB.out.trans (hbA.mono (by have := HQ.out.2; omega))).grown hgrow6 (by have := hbA.size; have := HQ.out.2; omega) (fun k hk => by have := ((HH.out _ (Below.refl _ _)).2.2.2.own.lt k hk).1; omega)
            have hB7 := hB6.setCell (p := ⟨q, 4, none⟩) (Nat.le_refl _) (.slice (some ⟨g2, 0, none⟩) (j + 1) cap2)
            have HF := Lib.hid (And.intro hq7 (And.intro hni7 hB7)); clear hq7 hni7 hB7 hB6 hni hZ hq6 hc6 hf6 hgrow6 hown6 hat6 hbA
            go_wp2_with fail
            go_roundw
            case rel => exact ⟨j + 1, _, _, by omega, by go_num, HF.out⟩
            case measure => simp [intOf]; omega
    · have hji : ¬ (j : Int) < (n : Int) := by omega
      have hjn : j = n := by omega
      subst hjn
      obtain ⟨c1, hc1⟩ : ∃ A1 c1, V = .slice A1 j c1 := by
        rcases hni.own.2 with ⟨e1, h0⟩ | ⟨g, c, cur, e1, _⟩
        · exact ⟨none, 0, by rw [e1, h0]⟩
        · exact ⟨_, c, e1⟩
      obtain ⟨cp, rfl⟩ := hc1
      have e1 := HN.out
      rw [e1] at hni
      obtain ⟨hcc, hrs⟩ := hni.rds (fun i hi => HRDB.out i hi)
      have hrg : RG wr q p (fun b => w.heap.size ≤ b ∧ b < wr.heap.size) (Rg.new limit ls) := by
        refine ⟨⟨c1, cp, ?_, hcc, ?_⟩, ⟨by rw [← HQE.out]; exact Nat.le_refl _, hql⟩, fun b hb => hb.2, Rg.new_ok limit ls hlim, by show ls.length ≤ _; omega⟩
        · rw [e1] at hq; exact hq
        · exact hrs.moreL (fun b h1 h2 => ⟨⟨by have := HQE.out; omega, h2⟩, by omega⟩)
      have HF := Lib.hid (And.intro hrg (show Below w.heap.size w wr by rw [← HQE.out]; exact HB.out))
      clear hrg hrs hcc hq hni
      go_wp2_with fail
      go_ret
      exact ⟨q, rfl, HF.out.1, HF.out.2⟩
end Go.Proofs.Ytpepbffhhfgdpaa
namespace Go.Proofs.Ytpepbffhhfgdpaa
open Go Go.RowKit
set_option linter.unusedVariables false
set_option linter.unusedSimpArgs false

theorem load_resD (G : Rg) (D : Dev) : (G.resD D).load ≤ D.load + 1 := by unfold Rg.resD; split; exact Nat.le_succ _; exact load_step D
theorem load_advD (G : Rg) (D : Dev) (k : Nat) : (G.advD D k).load ≤ D.load + 1 := by unfold Rg.advD; split; exact Nat.le_succ _; exact load_step D
/-- A slice of bytes in a cell: it can be read, in a block of S. -/
def El (w : World) (S : Nat → Prop) (l : List UInt8) (v : Value) : Prop :=
  ∃ B c, v = .slice B l.length c ∧ l.length ≤ c ∧ l.length ≤ 140737488351232 ∧ (0 < l.length → ∃ bd : Addr, B = some bd ∧ S bd.block ∧ bd.block < w.heap.size ∧ ∀ j u, (vb l)[j]? = some u → w.cell? (bd.add j) = some u)
theorem El.keep {w w' : World} {S : Nat → Prop} {l : List UInt8} {v : Value} (h : El w S l v) (hk : ∀ b, S b → b < w.heap.size → w'.heap[b]? = w.heap[b]?) (hs : w.heap.size ≤ w'.heap.size) : El w' S l v := by
  obtain ⟨B, c, h1, h2, h3, h4⟩ := h
  refine ⟨B, c, h1, h2, h3, fun h0 => ?_⟩
  obtain ⟨bd, k1, k2, k3, k4⟩ := h4 h0
  exact ⟨bd, k1, k2, by omega, fun j u hj => (World.cell?_of_block (hk _ (by rw [add_block]; exact k2) (by rw [add_block]; exact k3))).trans (k4 j u hj)⟩
theorem El.more {w : World} {S T : Nat → Prop} {l : List UInt8} {v : Value} (h : El w S l v) (hT : ∀ b, S b → b < w.heap.size → T b) : El w T l v := by
  obtain ⟨B, c, h1, h2, h3, h4⟩ := h
  refine ⟨B, c, h1, h2, h3, fun h0 => ?_⟩
  obtain ⟨bd, k1, k2, k3, k4⟩ := h4 h0
  exact ⟨bd, k1, hT _ k2 k3, k3, k4⟩
abbrev cgA (d : Nat) (G : Rg) (A : Option Addr) (cap : Nat) : Array Value := #[.pointer (some ⟨d, 0, none⟩), .int .u64 (G.limit : Int), .int .u64 (G.res : Int), .int .u64 (G.com : Int), .slice A G.draws.length cap]
/-- The code's registers at block r beside the device at d; their draws lie in block g, from cell k on. -/
structure CGs (g k : Nat) (A : Option Addr) (cap : Nat) (f : Nat → Value) (w : World) (r d : Nat) (R : Nat → Prop) (G : Rg) : Prop where
  hp : w.heap[r]? = some (.cells (cgA d G A cap) 72 (0, 0))
  hc : G.draws.length ≤ cap
  hA : 0 < G.draws.length → A = some ⟨g, k, none⟩
  fr : Fr w g 31 (k + G.draws.length) f
  el : ∀ i, i < G.draws.length → El w (fun b => R b ∧ b ≠ r ∧ b ≠ g) (G.draws.getD i []) (f (k + i))
  rr : R r ∧ R g ∧ g ≠ r
  lt : ∀ b, R b → b < w.heap.size
  ok : G.Ok
  dl : G.draws.length ≤ 1000000
def CG (w : World) (r d : Nat) (R : Nat → Prop) (G : Rg) : Prop := ∃ g k A cap f, CGs g k A cap f w r d R G
section
variable {w w' : World} {g k cap r d : Nat} {A : Option Addr} {f : Nat → Value} {R M : Nat → Prop} {G : Rg}
theorem CGs.keepB (h : CGs g k A cap f w r d R G) (hk : ∀ b, R b → w'.heap[b]? = w.heap[b]?) (hs : w.heap.size ≤ w'.heap.size) : CGs g k A cap f w' r d R G :=
  ⟨(hk _ h.rr.1).trans h.hp, h.hc, h.hA, h.fr.keep (hk _ h.rr.2.1), fun i hi => (h.el i hi).keep (fun b hb _ => hk b hb.1) hs, h.rr, fun b hb => Nat.lt_of_lt_of_le (h.lt b hb) hs, h.ok, h.dl⟩
theorem CGs.keep (h : CGs g k A cap f w r d R G) (hk : Keep M w w') (hd : ∀ b, R b → ¬ M b) : CGs g k A cap f w' r d R G := h.keepB (fun b hr => hk.block b (h.lt b hr) (hd b hr)) hk.size
theorem CG.keepB (h : CG w r d R G) (hk : ∀ b, R b → w'.heap[b]? = w.heap[b]?) (hs : w.heap.size ≤ w'.heap.size) : CG w' r d R G := by obtain ⟨g, k, A, cap, f, h⟩ := h; exact ⟨g, k, A, cap, f, h.keepB hk hs⟩
theorem CG.lt (h : CG w r d R G) : ∀ b, R b → b < w.heap.size := by obtain ⟨g, k, A, cap, f, h⟩ := h; exact h.lt
theorem CG.ok (h : CG w r d R G) : G.Ok := by obtain ⟨g, k, A, cap, f, h⟩ := h; exact h.ok
theorem CG.dl (h : CG w r d R G) : G.draws.length ≤ 1000000 := by obtain ⟨g, k, A, cap, f, h⟩ := h; exact h.dl
theorem CG.rq (h : CG w r d R G) : R r := by obtain ⟨g, k, A, cap, f, h⟩ := h; exact h.rr.1
theorem CG.keep (h : CG w r d R G) (hk : Keep M w w') (hd : ∀ b, R b → ¬ M b) : CG w' r d R G := h.keepB (fun b hr => hk.block b (h.lt b hr) (hd b hr)) hk.size
theorem CG.call (h : CG w r d R G) (hb : Below w.heap.size w w') : CG w' r d R G := h.keep (Keep.of (L := fun _ => False) hb) (fun _ _ h => h)
/-- A number of its own is written. -/
theorem CGs.setRow (h : CGs g k A cap f w r d R G) (G' : Rg) (he : G'.draws = G.draws) (hh : w'.heap[r]? = some (.cells (cgA d G' A cap) 72 (0, 0)))
    (hk : ∀ b, b ≠ r → w'.heap[b]? = w.heap[b]?) (hs : w'.heap.size = w.heap.size) (ho : G'.Ok) : CGs g k A cap f w' r d R G' :=
  ⟨hh, by rw [he]; exact h.hc, by rw [he]; exact h.hA, by rw [he]; exact h.fr.keep (hk _ h.rr.2.2), by rw [he]; exact fun i hi => (h.el i hi).keep (fun b hb _ => hk b hb.2.1) (by omega), h.rr, fun b hb => by rw [hs]; exact h.lt b hb, ho, by rw [he]; exact h.dl⟩
end
theorem cg_cells {w : World} {r d : Nat} {G : Rg} {A : Option Addr} {cap : Nat} (h : w.heap[r]? = some (.cells (cgA d G A cap) 72 (0, 0))) :
    w.cell? ⟨r, 0, none⟩ = some (.pointer (some ⟨d, 0, none⟩)) ∧ w.cell? ⟨r, 1, none⟩ = some (.int .u64 (G.limit : Int)) ∧ w.cell? ⟨r, 2, none⟩ = some (.int .u64 (G.res : Int)) ∧ w.cell? ⟨r, 3, none⟩ = some (.int .u64 (G.com : Int)) ∧ w.cell? ⟨r, 4, none⟩ = some (.slice A G.draws.length cap) := by
  refine ⟨?_, ?_, ?_, ?_, ?_⟩ <;> (rw [cell_of_row _ _ _ _ _ _ h]; rfl)

set_option maxRecDepth 100000 in
set_option maxHeartbeats 8000000 in
theorem cgreserve_any (w : World) (r d n : Nat) (R L : Nat → Prop) (G : Rg) (D : Dev) (hG : CG w r d R G) (hD : CD w d L n D) (hdis : ∀ b, R b → ¬ L b) (hm : D.load ≤ 1000000) :
    Calls Try.prog 14 #[.pointer (some ⟨r, 0, none⟩)] w fun e w' => e = .returned (.tuple #[.int .u64 (G.resN D : Int), .int .i64 (G.resE D : Int)]) ∧ CG w' r d R (G.resG D) ∧ CD w' d (ext L w w') n (G.resD D) ∧ Keep (fun b => L b ∨ R b) w w' := by
  obtain ⟨g, k, A, cap, f, hG⟩ := hG
  have hrow := hG.hp
  obtain ⟨d0, d1, d2, d3, d4⟩ := cg_cells hrow
  have hrl := hG.ok.r
  by_cases hlt : G.limit ≤ G.res
  · have e1 : G.resE D = 90 := by unfold Rg.resE; rw [if_pos hlt]
    have e2 : G.resN D = 0 := by unfold Rg.resN; rw [e1]; rfl
    have e3 : G.resG D = G := by unfold Rg.resG; rw [e1]; rfl
    have e4 : G.resD D = D := by unfold Rg.resD; rw [if_pos hlt]
    rw [e1, e2, e3, e4]
    have hi : (G.res : Int) = (G.limit : Int) := by omega
    rw [← hi] at d1
    have H := Lib.hid (And.intro (show CG w r d R G from ⟨g, k, A, cap, f, hG⟩) hD)
    clear hG hD hdis hrow e1 e2 e3 e4 hlt d0 d3 d4 hi hrl
    go_enter Try.func14, Try.ntmps14
    go_upto_region 3 with fail
    go_quiet (fail)
    go_wp2_with fail
    go_ret2
    exact ⟨rfl, H.out.1.keepB (fun _ _ => rfl) (Nat.le_refl _), (H.out.2.keep ((Keep.refl (fun _ => False) w).drewN _) (fun _ _ h => h)).more (fun _ h => .inl h) (ext_lt H.out.2.lt (Nat.le_refl _)), (Keep.refl _ _).drewN _⟩
  · have e0 : G.resE D = D.stepE := by unfold Rg.resE; rw [if_neg hlt]
    have e4 : G.resD D = D.step := by unfold Rg.resD; rw [if_neg hlt]
    rw [e4]
    have hi : ¬ (G.res : Int) = (G.limit : Int) := by omega
    clear hrl
    by_cases hs : D.stepE = 0
    · have e1 : G.resE D = 0 := e0.trans hs
      have e2 : G.resN D = G.res + 1 := by unfold Rg.resN; rw [if_pos e1]
      have e3 : G.resG D = { G with res := G.res + 1 } := by unfold Rg.resG; rw [if_pos e1]
      have hok := hG.ok.res D
      rw [e1, e2]
      rw [e3] at hok ⊢
      have hwr : IntKind.u64.wrap ((G.res : Int) + 1) = ((G.res + 1 : Nat) : Int) := by rw [IntWalk.u64_in _ (by have := hok.l; have := hok.r; simp only at *; omega)]; omega
      obtain ⟨r1, hr1⟩ : ∃ r1, r1 = G.res + 1 := ⟨_, rfl⟩
      rw [← hr1] at hwr hok ⊢
      have HOK := Lib.hid hok
      have hsi : (D.stepE : Int) = 0 := by omega
      clear hr1 e0 e1 e2 e3 e4 hs hok hlt
      have hst := fun m : Nat => cdstep_any (w.drewN m) d n L D (hD.keep ((Keep.refl (fun _ => False) w).drewN m) (fun _ _ h => h)) hm
      have HST := Lib.hid hst; clear hst
      have H := Lib.hid (And.intro hG hdis); clear hG hdis hD hm
      have HR := Lib.hid hrow; clear hrow
      go_enter Try.func14, Try.ntmps14
      go_upto_region 3 with fail
      go_quiet (fail)
      have d0' : (w.drewN nq).cell? ⟨r, 0, none⟩ = some (.pointer (some ⟨d, 0, none⟩)) := d0
      clear d0 d1 d2 d3 d4
      go_wp2_with fail
      refine (HST.out nq).mono ?_
      rintro e w2 ⟨rfl, hd2, hk2⟩
      have hd2 : CD w2 d (ext L w w2) n D.step := hd2
      have hk2' : Keep L w w2 := ((Keep.refl L w).drewN nq).trans hk2 (fun _ _ h => h)
      have hg2 := H.out.1.keep hk2' H.out.2
      have hrow2 := hg2.hp
      clear hk2 HST d0'
      obtain ⟨d0, d1, d2, d3, d4⟩ := cg_cells hrow2
      have fz : w2.frozen? ⟨r, 2, none⟩ = false := frozen_of_row _ _ _ _ _ hrow2
      have hrow3 : (w2.setCell ⟨r, 2, none⟩ (.int .u64 (r1 : Int))).heap[r]? = some (.cells (cgA d { G with res := r1 } A cap) 72 (0, 0)) := heap_setCell_same w2 r 2 _ _ _ hrow2
      have hkq := keep_set w2 r 2 (.int .u64 (r1 : Int))
      have hg3 : CG (w2.setCell ⟨r, 2, none⟩ (.int .u64 (r1 : Int))) r d R { G with res := r1 } := ⟨g, k, A, cap, f, hg2.setRow { G with res := r1 } rfl hrow3 (fun b hb => heap_setCell_other _ _ _ _ hb) (World.size_setCell ..) HOK.out⟩
      have hne : ∀ b, ext L w w2 b → b ≠ r := fun b hb e => hb.elim (fun h => H.out.2 r H.out.1.rr.1 (e ▸ h)) (fun h => by have := H.out.1.lt r H.out.1.rr.1; omega)
      have hd3 : CD (w2.setCell ⟨r, 2, none⟩ (.int .u64 (r1 : Int))) d (ext L w (w2.setCell ⟨r, 2, none⟩ (.int .u64 (r1 : Int)))) n D.step := by
        have := hd2.keep hkq (fun b hb e => hne b hb e)
        unfold ext at this ⊢
        rw [World.size_setCell]
        exact this
      have hk3 : Keep (fun b => L b ∨ R b) w (w2.setCell ⟨r, 2, none⟩ (.int .u64 (r1 : Int))) := (hk2'.mono fun _ _ h => .inl h).trans hkq fun b _ e => .inr (e ▸ H.out.1.rr.1)
      have HF := Lib.hid (And.intro hg3 (And.intro hd3 hk3)); clear hg3 hd3 hk3 hkq hrow3 hg2 hd2 hk2' hrow2 HR H hne
      go_wp2_with fail
      go_ret2
      exact ⟨rfl, HF.out⟩
    · have e1 : G.resE D = D.stepE := e0
      have e2 : G.resN D = 0 := by unfold Rg.resN; rw [if_neg (by omega)]
      have e3 : G.resG D = G := by unfold Rg.resG; rw [if_neg (by omega)]
      rw [e1, e2, e3]
      have hsi : ¬ (D.stepE : Int) = 0 := by omega
      have hsb : ((D.stepE : Int) != 0) = true := by rw [bne_iff_ne]; exact hsi
      clear e0 e1 e2 e3 e4 hs hlt
      have hst := fun m : Nat => cdstep_any (w.drewN m) d n L D (hD.keep ((Keep.refl (fun _ => False) w).drewN m) (fun _ _ h => h)) hm
      have HST := Lib.hid hst; clear hst
      have H := Lib.hid (And.intro hG hdis); clear hG hdis hD hm
      have HR := Lib.hid hrow; clear hrow
      go_enter Try.func14, Try.ntmps14
      go_upto_region 3 with fail
      go_quiet (fail)
      have d0' : (w.drewN nq).cell? ⟨r, 0, none⟩ = some (.pointer (some ⟨d, 0, none⟩)) := d0
      clear d0 d1 d2 d3 d4
      go_wp2_with fail
      refine (HST.out nq).mono ?_
      rintro e w2 ⟨rfl, hd2, hk2⟩
      have hd2 : CD w2 d (ext L w w2) n D.step := hd2
      have hk2' : Keep L w w2 := ((Keep.refl L w).drewN nq).trans hk2 (fun _ _ h => h)
      have hg2 := H.out.1.keep hk2' H.out.2
      have hrow2 := hg2.hp
      clear hk2 HST d0'
      have HF := Lib.hid (And.intro (show CG w2 r d R G from ⟨g, k, A, cap, f, hg2⟩) (And.intro hd2 (hk2'.mono (M := fun b => L b ∨ R b) fun _ _ h => .inl h))); clear hg2 hd2 hk2' hrow2 HR H
      go_wp2_with fail
      go_ret2
      exact ⟨rfl, HF.out⟩
set_option maxRecDepth 100000 in
set_option maxHeartbeats 8000000 in
theorem cgadvance_any (w : World) (r d n : Nat) (R L : Nat → Prop) (G : Rg) (D : Dev) (kk : Nat) (hkk : kk < 18446744073709551616) (hG : CG w r d R G) (hD : CD w d L n D) (hdis : ∀ b, R b → ¬ L b) (hm : D.load ≤ 1000000) :
    Calls Try.prog 16 #[.pointer (some ⟨r, 0, none⟩), .int .u64 (kk : Int)] w fun e w' => e = .returned (.int .i64 (G.advE D kk : Int)) ∧ CG w' r d R (G.advG D kk) ∧ CD w' d (ext L w w') n (G.advD D kk) ∧ Keep (fun b => L b ∨ R b) w w' := by
  obtain ⟨g, k, A, cap, f, hG⟩ := hG
  have hrow := hG.hp
  obtain ⟨d0, d1, d2, d3, d4⟩ := cg_cells hrow
  clear hkk
  by_cases hlt : kk ≤ G.com ∨ G.res < kk
  · have e1 : G.advE D kk = 2 := by unfold Rg.advE; rw [if_pos hlt]
    have e3 : G.advG D kk = G := by unfold Rg.advG; rw [e1]; rfl
    have e4 : G.advD D kk = D := by unfold Rg.advD; rw [if_pos hlt]
    rw [e1, e3, e4]
    have H := Lib.hid (And.intro (show CG w r d R G from ⟨g, k, A, cap, f, hG⟩) hD)
    clear hG hD hdis hrow e1 e3 e4 d0 d1 d4
    by_cases hkc : kk ≤ G.com
    · have hi : (kk : Int) ≤ (G.com : Int) := by omega
      clear hlt hkc
      go_enter Try.func16, Try.ntmps16
      go_wp2_with fail
      go_ret
      exact ⟨rfl, H.out.1, H.out.2.more (fun _ h => .inl h) (ext_lt H.out.2.lt (Nat.le_refl _)), Keep.refl _ _⟩
    · have hi : ¬ (kk : Int) ≤ (G.com : Int) := by omega
      have hi2 : (G.res : Int) < (kk : Int) := by omega
      clear hlt hkc
      go_enter Try.func16, Try.ntmps16
      go_wp2_with fail
      go_ret
      exact ⟨rfl, H.out.1, H.out.2.more (fun _ h => .inl h) (ext_lt H.out.2.lt (Nat.le_refl _)), Keep.refl _ _⟩
  · have e0 : G.advE D kk = D.stepE := by unfold Rg.advE; rw [if_neg hlt]
    have e4 : G.advD D kk = D.step := by unfold Rg.advD; rw [if_neg hlt]
    rw [e4]
    have hi : ¬ (kk : Int) ≤ (G.com : Int) := by omega
    have hi2 : ¬ (G.res : Int) < (kk : Int) := by omega
    by_cases hs : D.stepE = 0
    · have e1 : G.advE D kk = 0 := e0.trans hs
      have e3 : G.advG D kk = { G with com := kk } := by unfold Rg.advG; rw [if_pos e1]
      have hok := hG.ok.adv D kk
      rw [e1]
      rw [e3] at hok ⊢
      obtain ⟨r1, hr1⟩ : ∃ r1, r1 = kk := ⟨_, rfl⟩
      rw [← hr1] at hok hi hi2 ⊢
      have HOK := Lib.hid hok
      have hsi : (D.stepE : Int) = 0 := by omega
      clear hr1 e0 e1 e3 e4 hs hok hlt
      have hst := cdstep_any w d n L D hD hm
      have HST := Lib.hid hst; clear hst
      have H := Lib.hid (And.intro hG hdis); clear hG hdis hD hm
      have HR := Lib.hid hrow; clear hrow
      go_enter Try.func16, Try.ntmps16
      go_wp2_with fail
      clear d0 d1 d2 d3 d4
      refine HST.out.mono ?_
      rintro e w2 ⟨rfl, hd2, hk2'⟩
      have hg2 := H.out.1.keep hk2' H.out.2
      have hrow2 := hg2.hp
      clear HST
      obtain ⟨d0, d1, d2, d3, d4⟩ := cg_cells hrow2
      have fz : w2.frozen? ⟨r, 3, none⟩ = false := frozen_of_row _ _ _ _ _ hrow2
      have hrow3 : (w2.setCell ⟨r, 3, none⟩ (.int .u64 (r1 : Int))).heap[r]? = some (.cells (cgA d { G with com := r1 } A cap) 72 (0, 0)) := heap_setCell_same w2 r 3 _ _ _ hrow2
      have hkq := keep_set w2 r 3 (.int .u64 (r1 : Int))
      have hg3 : CG (w2.setCell ⟨r, 3, none⟩ (.int .u64 (r1 : Int))) r d R { G with com := r1 } := ⟨g, k, A, cap, f, hg2.setRow { G with com := r1 } rfl hrow3 (fun b hb => heap_setCell_other _ _ _ _ hb) (World.size_setCell ..) HOK.out⟩
      have hne : ∀ b, ext L w w2 b → b ≠ r := fun b hb e => hb.elim (fun h => H.out.2 r H.out.1.rr.1 (e ▸ h)) (fun h => by have := H.out.1.lt r H.out.1.rr.1; omega)
      have hd3 : CD (w2.setCell ⟨r, 3, none⟩ (.int .u64 (r1 : Int))) d (ext L w (w2.setCell ⟨r, 3, none⟩ (.int .u64 (r1 : Int)))) n D.step := by
        have := hd2.keep hkq (fun b hb e => hne b hb e)
        unfold ext at this ⊢
        rw [World.size_setCell]
        exact this
      have hk3 : Keep (fun b => L b ∨ R b) w (w2.setCell ⟨r, 3, none⟩ (.int .u64 (r1 : Int))) := (hk2'.mono fun _ _ h => .inl h).trans hkq fun b _ e => .inr (e ▸ H.out.1.rr.1)
      have HF := Lib.hid (And.intro hg3 (And.intro hd3 hk3)); clear hg3 hd3 hk3 hkq hrow3 hg2 hd2 hk2' hrow2 HR H hne
      go_wp2_with fail
      go_ret
      exact ⟨rfl, HF.out⟩
    · have e1 : G.advE D kk = D.stepE := e0
      have e3 : G.advG D kk = G := by unfold Rg.advG; rw [if_neg (by omega)]
      rw [e1, e3]
      have hsi : ¬ (D.stepE : Int) = 0 := by omega
      have hsb : ((D.stepE : Int) != 0) = true := by rw [bne_iff_ne]; exact hsi
      clear e0 e1 e3 e4 hs hlt
      have hst := cdstep_any w d n L D hD hm
      have HST := Lib.hid hst; clear hst
      have H := Lib.hid (And.intro hG hdis); clear hG hdis hD hm
      have HR := Lib.hid hrow; clear hrow
      go_enter Try.func16, Try.ntmps16
      go_wp2_with fail
      clear d0 d1 d2 d3 d4
      refine HST.out.mono ?_
      rintro e w2 ⟨rfl, hd2, hk2'⟩
      have hg2 := H.out.1.keep hk2' H.out.2
      have hrow2 := hg2.hp
      clear HST
      have HF := Lib.hid (And.intro (show CG w2 r d R G from ⟨g, k, A, cap, f, hg2⟩) (And.intro hd2 (hk2'.mono (M := fun b => L b ∨ R b) fun _ _ h => .inl h))); clear hg2 hd2 hk2' hrow2 HR H
      go_wp2_with fail
      go_ret
      exact ⟨rfl, HF.out⟩
set_option maxRecDepth 100000 in
theorem cgreserved_any (w : World) (r d : Nat) (R : Nat → Prop) (G : Rg) (h : CG w r d R G) : Calls Try.prog 22 #[.pointer (some ⟨r, 0, none⟩)] w fun e w' => e = .returned (.int .u64 (G.res : Int)) ∧ Below w.heap.size w w' := by
  obtain ⟨g, k, A, cap, f, hG⟩ := h
  obtain ⟨d0, d1, d2, d3, d4⟩ := cg_cells hG.hp
  clear hG d0 d1 d3 d4
  go_enter Try.func22, Try.ntmps22
  go_wp2_with fail
  go_ret
  exact ⟨rfl, Below.refl _ _⟩
set_option maxRecDepth 100000 in
theorem cgcommitted_any (w : World) (r d : Nat) (R : Nat → Prop) (G : Rg) (h : CG w r d R G) : Calls Try.prog 23 #[.pointer (some ⟨r, 0, none⟩)] w fun e w' => e = .returned (.int .u64 (G.com : Int)) ∧ Below w.heap.size w w' := by
  obtain ⟨g, k, A, cap, f, hG⟩ := h
  obtain ⟨d0, d1, d2, d3, d4⟩ := cg_cells hG.hp
  clear hG d0 d1 d2 d4
  go_enter Try.func23, Try.ntmps23
  go_wp2_with fail
  go_ret
  exact ⟨rfl, Below.refl _ _⟩
set_option maxRecDepth 100000 in
theorem cgleft_any (w : World) (r d : Nat) (R : Nat → Prop) (G : Rg) (h : CG w r d R G) : Calls Try.prog 24 #[.pointer (some ⟨r, 0, none⟩)] w fun e w' => e = .returned (.int .i64 (G.draws.length : Int)) ∧ Below w.heap.size w w' := by
  obtain ⟨g, k, A, cap, f, hG⟩ := h
  obtain ⟨d0, d1, d2, d3, d4⟩ := cg_cells hG.hp
  clear hG d0 d1 d2 d3
  go_enter Try.func24, Try.ntmps24
  go_wp2_with fail
  go_ret
  exact ⟨rfl, Below.refl _ _⟩
set_option maxRecDepth 100000 in
theorem cgreserve_nil (w : World) : Calls Try.prog 14 #[.pointer none] w fun e w' => e = .returned (.tuple #[.int .u64 0, .int .i64 1]) ∧ Below w.heap.size w w' := by
  go_enter Try.func14, Try.ntmps14
  go_wp2_with fail
  go_ret2
  exact ⟨rfl, Below.refl _ _⟩
set_option maxRecDepth 100000 in
theorem cgadvance_nil (w : World) (k : Nat) : Calls Try.prog 16 #[.pointer none, .int .u64 (k : Int)] w fun e w' => e = .returned (.int .i64 1) ∧ Below w.heap.size w w' := by
  go_enter Try.func16, Try.ntmps16
  go_wp2_with fail
  go_ret
  exact ⟨rfl, Below.refl _ _⟩
set_option maxRecDepth 100000 in
theorem cgreserved_nil (w : World) : Calls Try.prog 22 #[.pointer none] w fun e w' => e = .returned (.int .u64 0) ∧ Below w.heap.size w w' := by
  go_enter Try.func22, Try.ntmps22
  go_wp2_with fail
  go_ret
  exact ⟨rfl, Below.refl _ _⟩
set_option maxRecDepth 100000 in
theorem cgcommitted_nil (w : World) : Calls Try.prog 23 #[.pointer none] w fun e w' => e = .returned (.int .u64 0) ∧ Below w.heap.size w w' := by
  go_enter Try.func23, Try.ntmps23
  go_wp2_with fail
  go_ret
  exact ⟨rfl, Below.refl _ _⟩
set_option maxRecDepth 100000 in
theorem cgleft_nil (w : World) : Calls Try.prog 24 #[.pointer none] w fun e w' => e = .returned (.int .i64 0) ∧ Below w.heap.size w w' := by
  go_enter Try.func24, Try.ntmps24
  go_wp2_with fail
  go_ret
  exact ⟨rfl, Below.refl _ _⟩
set_option maxRecDepth 100000 in
theorem cgdraw_nil (w : World) (s : Int) : Calls Try.prog 18 #[.pointer none, .int .i64 s] w fun e w' => ∃ A c, e = .returned (.tuple #[.slice A 0 c, .int .i64 1]) ∧ Below w.heap.size w w' := by
  go_enter Try.func18, Try.ntmps18
  go_wp2_with fail
  go_ret2
  exact ⟨_, _, rfl, Below.refl _ _⟩
end Go.Proofs.Ytpepbffhhfgdpaa
namespace Go.Proofs.Ytpepbffhhfgdpaa
open Go Go.RowKit
set_option linter.unusedVariables false
set_option linter.unusedSimpArgs false

theorem vb_vnR (l : List UInt8) : vb l = vn (l.map UInt8.toNat) := by simp [vb, vn]
theorem cclone_vb (A : Option Addr) (l : List UInt8) (n cap : Nat) (hn : l.length = n) (hle : n ≤ 140737488351232) (w : World) (h : Rd w w.heap.size A (vb l)) :
    Calls Try.prog 33 #[.slice A n cap] w fun e w' => ∃ v, e = .returned v ∧ w'.ownsRow w.heap.size 5 1 v n (vb l) ∧ Below w.heap.size w w' := by
  have := cclone_any A (l.map UInt8.toNat) n cap (by rw [List.length_map]; exact hn) hle w (by rw [← vb_vnR]; exact h)
  rw [← vb_vnR] at this
  exact this
/-- What a copy is, as a cell. -/
theorem El.of_own {w : World} {base n : Nat} {v : Value} {l : List UInt8} {S : Nat → Prop} (h : w.ownsRow base 5 1 v n (vb l)) (hn : n = l.length) (hl : n ≤ 140737488351232) (hS : ∀ b, base ≤ b → S b) : El w S l v := by
  subst hn
  rcases h.2 with ⟨e1, h0⟩ | ⟨g, c, cur, e1, hb, hh, hc, _, hs, ht⟩
  · subst e1
    have h0 : l.length = 0 := h0
    exact ⟨none, 0, by rw [h0], by omega, hl, fun hp => by omega⟩
  · subst e1
    refine ⟨some ⟨g, 0, none⟩, c, rfl, hc, hl, fun _ => ⟨⟨g, 0, none⟩, rfl, hS _ hb, (Array.getElem?_eq_some_iff.1 hh).1, fun j u hj => ?_⟩⟩
    rw [head_add, cell_of_row _ _ _ _ _ _ hh]
    rw [Nat.mul_one] at ht
    rw [← ht, List.getElem?_take] at hj
    split at hj
    · simpa using hj
    · cases hj
set_option maxRecDepth 100000 in
set_option maxHeartbeats 8000000 in
theorem ccopied_any (w : World) (A : Option Addr) (ls : List (List UInt8)) (n cap : Nat) (hn : ls.length = n) (hll : n ≤ 1000000) (hrd : RdS w (fun b => b < w.heap.size) A ls) :
    Calls Try.prog 30 #[.slice A n cap] w fun e w' => ∃ f, e = .returned (.slice (some ⟨w.heap.size, 0, none⟩) n n) ∧ Fr w' w.heap.size 31 n f ∧ (∀ i, i < n → El w' (fun b => w.heap.size < b) (ls.getD i []) (f i)) ∧ Below w.heap.size w w' := by
  obtain ⟨j0, hi, hz0, hz1, hz2⟩ := info_parts info_sl
  have HRD := Lib.hid hrd; clear hrd
  have HN := Lib.hid hn; clear hn
  obtain ⟨w0, hmk, hF0, hB0, hS0⟩ := run_make_fr w 23 31 j0 (.slice none 0 0) Try.underlying23 hi hz0 n (by rw [hz2]; omega) (by unfold maxLen; omega) (.slice none 0 0) (by simp [Value.cells]) (by rw [hz1]; rfl) (by rw [hz1]; decide)
  rw [hz1, Nat.mul_one] at hF0
  have H0 := Lib.hid (And.intro hF0 (And.intro hB0 hS0)); clear hF0 hB0 hS0
  clear hi hz0 hz1 hz2
  obtain ⟨g, hg⟩ : ∃ g, g = w.heap.size := ⟨_, rfl⟩
  rw [← hg] at hmk ⊢
  have HG := Lib.hid hg; clear hg
  go_enter Try.func30, Try.ntmps30
  go_wp2_with fail
  go_loopw [11] (fun i wr => ∃ (j : Nat) (f : Nat → Value), j ≤ n ∧ i = .int .i64 (j : Int) ∧ Fr wr g 31 n f ∧ (∀ i, i < j → El wr (fun b => g < b) (ls.getD i []) (f i)) ∧ Below g w wr) (fun i _ => n - (intOf i).toNat)
  case atStart => exact ⟨0, _, Nat.zero_le _, rfl, by have := H0.out.1; rw [HG.out]; exact this, fun i hi => absurd hi (Nat.not_lt_zero _), by rw [HG.out]; exact H0.out.2.1⟩
  case round =>
    rename World => wr
    obtain ⟨j, f, hj, rfl, hF, hE, hb⟩ := hrel
    clear H0 hmk
    have hgl : g < wr.heap.size := hF.lt
    by_cases hlt : j < n
    · have hji : (j : Int) < (n : Int) := by omega
      obtain ⟨ad, B, c, rfl, hS, hadl, hc0, hlc, hl2, hrB, _⟩ := (HRD.out).at_ (i := j) (by rw [HN.out]; exact hlt)
      obtain ⟨l, hl⟩ : ∃ l, l = ls.getD j [] := ⟨_, rfl⟩
      rw [← hl] at hc0 hlc hl2 hrB
      obtain ⟨ln, hln⟩ : ∃ ln, ln = l.length := ⟨_, rfl⟩
      rw [← hln] at hc0 hlc hl2
      have hbw : Below w.heap.size w wr := by rw [← HG.out]; exact hb
      have hc1 : wr.cell? (ad.add j) = some (.slice B ln c) := (hbw.cell (by rw [add_block]; exact hadl)).trans hc0
      have hcl := cclone_vb B l ln c hln.symm hl2 wr (hrB.go hbw)
      have HC := Lib.hid hcl; clear hcl
      have HH := Lib.hid (And.intro hF (And.intro hE (And.intro hb (And.intro hl (And.intro hln hl2))))); clear hF hE hb hl hln hl2 hbw hc0 hadl hS hlc hrB
      go_wp2_with fail
      refine HC.out.mono ?_
      rintro e w5 ⟨v5, rfl, ho5, hb5⟩
      obtain ⟨A5, c5, rfl, _, _⟩ := Rd.of_own ho5
      have hF5 := HH.out.1.call hb5
      have fc := hF5.cellAt j hlt
      have fz := hF5.free j
      have hF6 := hF5.setCell j hlt (.slice A5 ln c5)
      have hE6 : ∀ i, i < j + 1 → El (w5.setCell ⟨g, j, none⟩ (.slice A5 ln c5)) (fun b => g < b) (ls.getD i []) (if i = j then .slice A5 ln c5 else f i) := fun i hi => by
        by_cases e : i = j
        · subst e
          rw [if_pos rfl, ← HH.out.2.2.2.1]
          exact (El.of_own (S := fun b => g < b) ho5 HH.out.2.2.2.2.1 HH.out.2.2.2.2.2 (fun b hb => by omega)).keep (fun b hb _ => heap_setCell_other _ _ _ _ (by show b ≠ g; omega)) (by rw [World.size_setCell]; exact Nat.le_refl _)
        · rw [if_neg e]
          exact ((HH.out.2.1 i (by omega)).keep (fun b _ hs => hb5.block b hs) hb5.size).keep (fun b hb _ => heap_setCell_other _ _ _ _ (by show b ≠ g; omega)) (by rw [World.size_setCell]; exact Nat.le_refl _)
      have hB6 : Below g w (w5.setCell ⟨g, j, none⟩ (.slice A5 ln c5)) := (HH.out.2.2.1.trans (hb5.mono (by omega))).setCell (p := ⟨g, j, none⟩) (Nat.le_refl _) (.slice A5 ln c5)
      have HF := Lib.hid (And.intro hF6 (And.intro hE6 hB6)); clear hF6 hE6 hB6 hF5 ho5 hb5 HC HH
      go_wp2_with fail
      go_roundw
      case rel => exact ⟨j + 1, _, by omega, by go_num, HF.out⟩
      case measure => simp [intOf]; omega
    · obtain rfl : j = n := by omega
      have HH := Lib.hid (And.intro hF (And.intro hE hb)); clear hF hE hb
      go_wp2_with fail
      go_ret
      exact ⟨_, rfl, HH.out⟩
abbrev zRg (limit : Nat) : Rg := Rg.new limit []
set_option maxRecDepth 100000 in
set_option maxHeartbeats 8000000 in
theorem cgnew_any (w : World) (d n : Nat) (L : Nat → Prop) (D : Dev) (h : CD w d L n D) (limit : Nat) (hlim : limit < 18446744073709551616) (A : Option Addr) (ls : List (List UInt8)) (len cap : Nat) (hn : ls.length = len) (hc : len ≤ cap) (hll : len ≤ 1000000) (hrd : RdS w (fun b => b < w.heap.size) A ls) (hlb : ∀ i, i < ls.length → (ls.getD i []).length ≤ 140737488351232) :
    Calls Try.prog 11 #[.pointer (some ⟨d, 0, none⟩), .int .u64 (limit : Int), .slice A len cap] w fun e w' => ∃ r, e = .returned (.tuple #[.pointer (some ⟨r, 0, none⟩), .int .i64 0]) ∧ CG w' r d (fun b => w.heap.size ≤ b ∧ b < w'.heap.size) (Rg.new limit ls) ∧ Below w.heap.size w w' := by
  have hcp := ccopied_any w A ls len cap hn hll hrd
  have HC := Lib.hid hcp; clear hcp hrd h
  have HP := Lib.hid (And.intro hn (And.intro hll hlim)); clear hn hll hlb hlim hc
  go_enter Try.func11, Try.ntmps11
  go_wp2_with fail
  refine HC.out.mono ?_
  rintro e w1 ⟨f, rfl, hF, hE, hb⟩
  have hlt := hF.lt
  have hsz := hb.size
  have hbl : Below w1.heap.size w1 (w1.alloc (.cells #[.pointer (some ⟨d, 0, none⟩), .int .u64 (limit : Int), .int .u64 0, .int .u64 0, .slice (some ⟨w.heap.size, 0, none⟩) len len] 72)) := (Below.refl _ _).alloc (Nat.le_refl _) _
  have hs : (w1.alloc (.cells #[.pointer (some ⟨d, 0, none⟩), .int .u64 (limit : Int), .int .u64 0, .int .u64 0, .slice (some ⟨w.heap.size, 0, none⟩) len len] 72)).heap.size = w1.heap.size + 1 := World.size_alloc _ _
  have hp := heap_alloc_new w1 (.cells #[.pointer (some ⟨d, 0, none⟩), .int .u64 (limit : Int), .int .u64 0, .int .u64 0, .slice (some ⟨w.heap.size, 0, none⟩) len len] 72)
  have hcg : CG (w1.alloc (.cells #[.pointer (some ⟨d, 0, none⟩), .int .u64 (limit : Int), .int .u64 0, .int .u64 0, .slice (some ⟨w.heap.size, 0, none⟩) len len] 72)) w1.heap.size d (fun b => w.heap.size ≤ b ∧ b < (w1.alloc (.cells #[.pointer (some ⟨d, 0, none⟩), .int .u64 (limit : Int), .int .u64 0, .int .u64 0, .slice (some ⟨w.heap.size, 0, none⟩) len len] 72)).heap.size) (Rg.new limit ls) := by
    obtain ⟨e1, e2, e3⟩ := HP.out
    refine ⟨w.heap.size, 0, some ⟨w.heap.size, 0, none⟩, len, f, ⟨?_, by show ls.length ≤ len; omega, fun _ => rfl, ?_, fun i hi => ?_, ⟨⟨hsz, by omega⟩, ⟨Nat.le_refl _, by omega⟩, by omega⟩, fun b hb => hb.2, Rg.new_ok _ _ e3, by show ls.length ≤ _; omega⟩⟩
    · show _ = some (Obj.cells #[.pointer (some ⟨d, 0, none⟩), .int .u64 (limit : Int), .int .u64 ((0 : Nat) : Int), .int .u64 ((0 : Nat) : Int), .slice (some ⟨w.heap.size, 0, none⟩) ls.length len] 72 (0, 0))
      rw [e1]; exact hp
    · show Fr _ _ _ (0 + ls.length) f
      rw [Nat.zero_add, e1]; exact hF.call hbl
    · rw [Nat.zero_add]
      have hi : i < ls.length := hi
      exact ((hE i (by omega)).more (T := fun b => (w.heap.size ≤ b ∧ b < (w1.alloc (.cells #[.pointer (some ⟨d, 0, none⟩), .int .u64 (limit : Int), .int .u64 0, .int .u64 0, .slice (some ⟨w.heap.size, 0, none⟩) len len] 72)).heap.size) ∧ b ≠ w1.heap.size ∧ b ≠ w.heap.size) fun b hb hl => ⟨⟨by omega, by omega⟩, by omega, by omega⟩).keep (fun b _ h => hbl.block b h) hbl.size
  have HF := Lib.hid (And.intro hcg (hb.trans (hbl.mono hsz))); clear hcg hbl hp hF hE hb hs HC HP hlt hsz
  go_wp2_with fail
  go_ret2
  exact ⟨_, rfl, HF.out⟩
set_option maxRecDepth 100000 in
theorem cgnew_nil (w : World) (limit : Nat) (hlim : limit < 18446744073709551616) (A : Option Addr) (len cap : Nat) :
    Calls Try.prog 11 #[.pointer none, .int .u64 (limit : Int), .slice A len cap] w fun e w' => e = .returned (.tuple #[.pointer none, .int .i64 1]) ∧ Below w.heap.size w w' := by
  go_enter Try.func11, Try.ntmps11
  go_wp2_with fail
  go_ret2
  exact ⟨rfl, Below.refl _ _⟩
end Go.Proofs.Ytpepbffhhfgdpaa
namespace Go.Proofs.Ytpepbffhhfgdpaa
open Go Go.RowKit
set_option linter.unusedVariables false
set_option linter.unusedSimpArgs false

/-- The first draw is gone. -/
theorem CGs.drop {g k cap r d : Nat} {A : Option Addr} {f : Nat → Value} {w w2 : World} {R : Nat → Prop} {G : Rg} (h : CGs g k A cap f w r d R G) (hpos : 0 < G.draws.length) (v : Value)
    (hg : Fr w2 g 31 (k + G.draws.length) (fun j => if j = k then v else f j)) (hp : w2.heap[r]? = some (.cells (cgA d { G with draws := G.draws.drop 1 } (tailA A cap 1) (cap - 1)) 72 (0, 0)))
    (hk : ∀ b, b ≠ r → b ≠ g → w2.heap[b]? = w.heap[b]?) (hs : w2.heap.size = w.heap.size) (ho : Rg.Ok { G with draws := G.draws.drop 1 }) : CG w2 r d R { G with draws := G.draws.drop 1 } := by
  have hl : (G.draws.drop 1).length = G.draws.length - 1 := List.length_drop
  have hc := h.hc
  refine ⟨g, k + 1, tailA A cap 1, cap - 1, _, ⟨hp, by show (G.draws.drop 1).length ≤ _; omega, fun h0 => ?_, by show Fr _ _ _ (k + 1 + (G.draws.drop 1).length) _; rw [hl, show k + 1 + (G.draws.length - 1) = k + G.draws.length from by omega]; exact hg, fun i hi => ?_, h.rr, fun b hb => by rw [hs]; exact h.lt b hb, ho, by have := h.dl; show (G.draws.drop 1).length ≤ _; omega⟩⟩
  · have h0 : 0 < (G.draws.drop 1).length := h0
    rw [h.hA hpos]
    unfold tailA
    rw [if_neg (by omega)]; rfl
  · have hi : i < (G.draws.drop 1).length := hi
    have e : (G.draws.drop 1).getD i [] = G.draws.getD (1 + i) [] := by simp [List.getD_eq_getElem?_getD, List.getElem?_drop, Nat.add_comm]
    show El w2 _ ((G.draws.drop 1).getD i []) (if k + 1 + i = k then v else f (k + 1 + i))
    rw [e, if_neg (by omega), show k + 1 + i = k + (1 + i) from by omega]
    exact (h.el (1 + i) (by omega)).keep (fun b hb _ => hk b hb.2.1 hb.2.2) (by omega)
set_option maxRecDepth 100000 in
set_option maxHeartbeats 8000000 in
theorem cgdraw_any (w : World) (r d : Nat) (R : Nat → Prop) (G : Rg) (s : Int) (hs : -9223372036854775808 ≤ s ∧ s ≤ 9223372036854775807) (hG : CG w r d R G) :
    Calls Try.prog 18 #[.pointer (some ⟨r, 0, none⟩), .int .i64 s] w fun e w' => ∃ v, e = .returned (.tuple #[v, .int .i64 (G.drwE s : Int)]) ∧ Own8 w' w.heap.size v (G.drwB s).length (vb (G.drwB s)) ∧ CG w' r d R (G.drwG s) ∧ Keep R w w' := by
  obtain ⟨g, k, A, cap, f, hG⟩ := hG
  have hrow := hG.hp
  have hcap := hG.hc
  obtain ⟨d0, d1, d2, d3, d4⟩ := cg_cells hrow
  clear d0 d1 d2 d3
  by_cases h1 : s < 1
  · have e1 : G.drwE s = 2 := by unfold Rg.drwE; rw [if_pos (.inl h1)]
    have e2 : G.drwB s = [] := by unfold Rg.drwB; rw [if_neg (by omega)]
    have e3 : G.drwG s = G := by unfold Rg.drwG; rw [if_neg (by omega)]
    rw [e1, e2, e3]
    have H := Lib.hid (show CG w r d R G from ⟨g, k, A, cap, f, hG⟩)
    clear hG e1 e2 e3 hrow hcap d4
    go_enter Try.func18, Try.ntmps18
    go_wp2_with fail
    go_ret2
    exact ⟨_, rfl, own8_nil _ _, H.out, Keep.refl _ _⟩
  by_cases h2 : 64 < s
  · have e1 : G.drwE s = 2 := by unfold Rg.drwE; rw [if_pos (.inr h2)]
    have e2 : G.drwB s = [] := by unfold Rg.drwB; rw [if_neg (by omega)]
    have e3 : G.drwG s = G := by unfold Rg.drwG; rw [if_neg (by omega)]
    rw [e1, e2, e3]
    have H := Lib.hid (show CG w r d R G from ⟨g, k, A, cap, f, hG⟩)
    clear hG e1 e2 e3 hrow hcap d4
    go_enter Try.func18, Try.ntmps18
    go_wp2_with fail
    go_ret2
    exact ⟨_, rfl, own8_nil _ _, H.out, Keep.refl _ _⟩
  obtain ⟨dl, hdl⟩ : ∃ dl, dl = G.draws.length := ⟨_, rfl⟩
  have hdl2 := hG.dl
  rw [← hdl] at d4 hcap hdl2
  by_cases h3 : G.draws = []
  · have e1 : G.drwE s = 91 := by unfold Rg.drwE; rw [if_neg (by omega), if_pos (.inl h3)]
    have e2 : G.drwB s = [] := by unfold Rg.drwB; rw [if_neg (by omega)]
    have e3 : G.drwG s = G := by unfold Rg.drwG; rw [if_neg (by omega)]
    rw [e1, e2, e3]
    have H := Lib.hid (show CG w r d R G from ⟨g, k, A, cap, f, hG⟩)
    have hd0 : dl = 0 := by rw [hdl, h3]; rfl
    rw [hd0] at d4
    clear hG e1 e2 e3 hrow hcap hdl hd0
    go_enter Try.func18, Try.ntmps18
    go_wp2_with fail
    go_ret2
    exact ⟨_, rfl, own8_nil _ _, H.out, Keep.refl _ _⟩
  have hpos : 0 < G.draws.length := List.length_pos_iff.2 h3
  obtain ⟨B, c, ef, hlc, hl2, hB⟩ := hG.el 0 hpos
  have hA := hG.hA hpos
  subst hA
  have hc0 := hG.fr.cellAt k (by omega)
  rw [Nat.add_zero] at ef
  rw [ef] at hc0
  obtain ⟨l, hl⟩ : ∃ l, l = G.draws.getD 0 [] := ⟨_, rfl⟩
  rw [← hl] at hc0 hlc hl2 hB
  have hrB : Rd w w.heap.size B (vb l) := fun h0 => by
    have e0 : (vb l).length = l.length := List.length_map _
    obtain ⟨bd, k1, k2, k3, k4⟩ := hB (by omega)
    exact ⟨bd, k1, k3, k4⟩
  have hdne : ¬ (dl : Int) = 0 := by omega
  have hdpos : (0 : Int) < (dl : Int) := by omega
  obtain ⟨ll, hll⟩ : ∃ ll, ll = l.length := ⟨_, rfl⟩
  rw [← hll] at hc0 hlc hl2
  clear hB
  by_cases h4 : (l.length : Int) < s
  · have e1 : G.drwE s = 91 := by unfold Rg.drwE; rw [if_neg (by omega), if_pos (.inr (by rw [← hl]; exact h4))]
    have e2 : G.drwB s = [] := by unfold Rg.drwB; rw [if_neg (by omega)]
    have e3 : G.drwG s = G := by unfold Rg.drwG; rw [if_neg (by omega)]
    rw [e1, e2, e3]
    have H := Lib.hid (show CG w r d R G from ⟨g, k, _, cap, f, hG⟩)
    have h4i : (ll : Int) < s := by omega
    clear hG e1 e2 e3 hrow hcap hdl hl hll hlc hl2 hrB h4 hpos h3 ef
    go_enter Try.func18, Try.ntmps18
    go_wp2_with fail
    go_ret2
    exact ⟨_, rfl, own8_nil _ _, H.out, Keep.refl _ _⟩
  obtain ⟨n, rfl⟩ : ∃ n : Nat, s = (n : Int) := ⟨s.toNat, by omega⟩
  have h4i : ¬ (ll : Int) < (n : Int) := by omega
  have e1 : G.drwE (n : Int) = 0 := by unfold Rg.drwE; rw [if_neg (by omega), if_neg (by rw [← hl]; intro h; exact h.elim h3 h4)]
  have e2 : G.drwB (n : Int) = l.take n := by unfold Rg.drwB; rw [if_pos e1, ← hl]; rfl
  have e3 : G.drwG (n : Int) = { G with draws := G.draws.drop 1 } := by unfold Rg.drwG; rw [if_pos e1]
  have hok := hG.ok.drw (n : Int)
  rw [e1, e2]
  rw [e3] at hok ⊢
  obtain ⟨j0, hi, hz0, hz1, hz2⟩ := info_parts info_b
  have q1 := run_head (P := Try.prog) 31 5 j0 Try.underlying31 hi B ll c n (by omega)
  have hcopy := cclone_vb B (l.take n) n c (by rw [List.length_take]; omega) (by omega) w (by have := hrB.take n; simpa [vb, List.map_take] using this)
  have HC := Lib.hid hcopy; clear hcopy
  obtain ⟨j2, hi2, _, hs2, _⟩ := info_parts info_sl
  have q2 := run_tailQ (P := Try.prog) 23 31 j2 Try.underlying23 hi2 hs2 (some ⟨g, k, none⟩) dl cap 1 (by omega) hcap
  rw [show ((1 : Nat) : Int) = 1 from rfl] at q2
  obtain ⟨T, hT⟩ : ∃ T, T = tailA (some ⟨g, k, none⟩) cap 1 := ⟨_, rfl⟩
  rw [← hT] at q2
  have HN := Lib.hid (show (l.take n).length = n by rw [List.length_take]; omega)
  have HG := Lib.hid (And.intro hG (And.intro hok (And.intro hdl (And.intro hT hpos))))
  rw [HN.out]
  clear hG hrow hok hdl hcap hdl2 hT hi hz0 hz1 hz2 hrB hl hll hl2 hlc h4 hpos h3 e1 e2 e3 ef
  go_enter Try.func18, Try.ntmps18
  go_wp2_with fail
  refine HC.out.mono ?_
  rintro e w1 ⟨v, rfl, ho, hb⟩
  obtain ⟨A5, c5, rfl, _, _⟩ := Rd.of_own ho
  have hg1 := HG.out.1.keep (Keep.of (L := fun _ => False) hb) (fun _ _ h => h)
  have hrow1 := hg1.hp
  have d4 := (cg_cells hrow1).2.2.2.2
  rw [← HG.out.2.2.1] at d4
  have fz4 : w1.frozen? ⟨r, 4, none⟩ = false := frozen_of_row _ _ _ _ _ hrow1
  have hc1 := hg1.fr.cellAt k (by have := HG.out.2.2.2.2; omega)
  have fz1 := hg1.fr.free k
  have hne : g ≠ r := hg1.rr.2.2
  obtain ⟨w2, hw2⟩ : ∃ w2, w2 = w1.setCell ⟨g, k, none⟩ (.slice none 0 0) := ⟨_, rfl⟩
  have hF2 := hg1.fr.setCell k (by have := HG.out.2.2.2.2; omega) (.slice none 0 0)
  have ho2 := own_grownG (w' := w1.setCell ⟨g, k, none⟩ (.slice none 0 0)) ho (HG.out.1.lt g HG.out.1.rr.2.1) fun b hb => heap_setCell_other _ _ _ _ hb
  have hk2 : Keep R w w2 := by rw [hw2]; exact (Keep.of (L := R) hb).setCell (a := ⟨g, k, none⟩) (fun _ => HG.out.1.rr.2.1) _
  have hrow2 : w2.heap[r]? = some (.cells (cgA d G (some ⟨g, k, none⟩) cap) 72 (0, 0)) := by rw [hw2]; exact (show (w1.setCell ⟨g, k, none⟩ (.slice none 0 0)).heap[r]? = w1.heap[r]? from heap_setCell_other _ _ _ _ (fun e => hne e.symm)).trans hrow1
  have hb2 : ∀ b, b ≠ g → w2.heap[b]? = w1.heap[b]? := fun b hb => by rw [hw2]; exact heap_setCell_other _ _ _ _ hb
  have hs2 : w2.heap.size = w1.heap.size := by rw [hw2]; exact World.size_setCell ..
  rw [← hw2] at hF2 ho2
  have HX := Lib.hid (And.intro hg1 (And.intro hF2 (And.intro ho2 (And.intro hk2 (And.intro hrow2 (And.intro hb2 hs2)))))); clear hg1 hF2 ho2 hk2 hrow2 hb2 hs2 hrow1 ho hb hne
  go_upto_region 9 with fail
  rw [← hw2]
  clear hw2 d4 fz4 hc1 fz1
  have d4 := (cg_cells HX.out.2.2.2.2.1).2.2.2.2
  rw [← HG.out.2.2.1] at d4
  have fz4 : w2.frozen? ⟨r, 4, none⟩ = false := frozen_of_row _ _ _ _ _ HX.out.2.2.2.2.1
  have e5 : (G.draws.drop 1).length = dl - 1 := by rw [List.length_drop, ← HG.out.2.2.1]
  obtain ⟨w3, hw3⟩ : ∃ w3, w3 = w2.setCell ⟨r, 4, none⟩ (.slice T (dl - 1) (cap - 1)) := ⟨_, rfl⟩
  have hs3 : w3.heap.size = w2.heap.size := by rw [hw3]; exact World.size_setCell ..
  have hb3 : ∀ b, b ≠ r → w3.heap[b]? = w2.heap[b]? := fun b hb => by rw [hw3]; exact heap_setCell_other _ _ _ _ hb
  have hrow3 : w3.heap[r]? = some (.cells (cgA d { G with draws := G.draws.drop 1 } (tailA (some ⟨g, k, none⟩) cap 1) (cap - 1)) 72 (0, 0)) := by
    have := heap_setCell_same w2 r 4 _ _ (.slice T (dl - 1) (cap - 1)) HX.out.2.2.2.2.1
    rw [hw3, ← HG.out.2.2.2.1]
    show _ = some (Obj.cells #[.pointer (some ⟨d, 0, none⟩), .int .u64 (G.limit : Int), .int .u64 (G.res : Int), .int .u64 (G.com : Int), .slice T (G.draws.drop 1).length (cap - 1)] 72 (0, 0))
    rw [e5]
    exact this
  have hg3 : CG w3 r d R { G with draws := G.draws.drop 1 } := HX.out.1.drop HG.out.2.2.2.2 (.slice none 0 0) (HX.out.2.1.keep (hb3 _ HX.out.1.rr.2.2)) hrow3 (fun b h1 h2 => (hb3 b h1).trans (HX.out.2.2.2.2.2.1 b h2)) (by rw [hs3]; exact HX.out.2.2.2.2.2.2) HG.out.2.1
  have ho3 : w3.ownsRow w.heap.size 5 1 (.slice A5 n c5) n (vb (l.take n)) := own_grownG HX.out.2.2.1 (HG.out.1.lt r HG.out.1.rr.1) hb3
  have hk3 : Keep R w w3 := by rw [hw3]; exact HX.out.2.2.2.1.setCell (a := ⟨r, 4, none⟩) (fun _ => HG.out.1.rr.1) _
  have HF := Lib.hid (And.intro hg3 (And.intro ho3 hk3)); clear hg3 ho3 hk3 hrow3 hb3 hs3 e5 HX HG
  go_wp2_with fail
  rw [← hw3]
  go_ret2
  exact ⟨_, rfl, ⟨_, HF.out.2.1⟩, HF.out.1, HF.out.2.2⟩
end Go.Proofs.Ytpepbffhhfgdpaa

namespace Go.Proofs.Ytpepbffhhfgdpaa
open Go Go.RowKit
set_option linter.unusedVariables false
set_option linter.unusedSimpArgs false

theorem own_cap8 {w : World} {base e n c : Nat} {A : Option Addr} {xs : List Value} (h : w.ownsRow base e 1 (.slice A n c) n xs) : n ≤ c := by
  obtain ⟨A', c', e, hc, _⟩ := Rd.of_own1 h
  injection e with _ _ e3
  omega
def fullB (x : UInt8) : List UInt8 := List.replicate 256 x
theorem fullB_len (x : UInt8) : (fullB x).length = 256 := List.length_replicate
theorem fullB_at (x : UInt8) (k : Nat) (hk : k < 256) : (fullB x).getD k 0 = x := getD_rep _ _ _ _ hk
/-- The first j are x. -/
def fuJ (x : UInt8) (j : Nat) : List UInt8 := List.replicate j x ++ List.replicate (256 - j) 0
theorem fuJ_len (x : UInt8) (j : Nat) (hj : j ≤ 256) : (fuJ x j).length = 256 := by simp [fuJ]; omega
theorem fuJ_set (x : UInt8) (j : Nat) (hj : j < 256) : (fuJ x j).set j x = fuJ x (j + 1) := by
  unfold fuJ
  rw [List.set_append_right _ _ (by simp), List.length_replicate, Nat.sub_self, show 256 - j = (256 - (j + 1)) + 1 from by omega, List.replicate_succ, List.set_cons_zero, List.replicate_succ', List.append_assoc]
  rfl
set_option maxRecDepth 100000 in
set_option maxHeartbeats 4000000 in
theorem full_any (x : UInt8) (w : World) :
    Calls Try.prog 36 #[.int .u8 (x.toNat : Int)] w fun e w' => ∃ v, e = .returned v ∧ w'.ownsRow w.heap.size 5 1 v 256 (vb (fullB x)) ∧ Below w.heap.size w w' := by
  obtain ⟨i0, hi, hz0, hz1, hz2⟩ := info_parts info_b
  go_enter Try.func36, Try.ntmps36
  go_wp2_with (at_make; refine wpList_make_full _ rfl _ _ 31 rfl w.heap.size 5 i0 (.int .u8 0) 1 Try.underlying31 hi hz0 hz1 .i64 .i64 _ _ 256 rfl rfl rfl rfl (by rw [hz2]; omega) (by unfold maxLen; omega) (Nat.le_refl _) ?_; intro w0 hown0 hgrow0)
  have hown1 : w0.ownsRow w.heap.size 5 1 (.slice (some ⟨w.heap.size, 0, none⟩) 256 256) 256 (vb (fuJ x 0)) := by
    have e : (madeCells (Value.int .u8 0).cells (256 * 1)).toList = vb (fuJ x 0) := by
      rw [show (Value.int .u8 0).cells = #[Value.int .u8 0] from rfl, toList_madeCells_one]
      unfold fuJ vb
      rw [List.replicate_zero, List.nil_append, List.map_replicate]
      rfl
    rw [← e]; exact hown0
  have hb0 : Below w.heap.size w w0 := (Below.refl _ _).grown hgrow0 (Nat.le_refl _) (by simp)
  clear hown0 hgrow0
  have H0 := Lib.hid (And.intro hown1 hb0); clear hown1 hb0
  go_loopw [8] (fun i wr => ∃ m : Nat, m ≤ 256 ∧ i = .int .i64 m ∧
      wr.ownsRow w.heap.size 5 1 (.slice (some ⟨w.heap.size, 0, none⟩) 256 256) 256 (vb (fuJ x m)) ∧ Below w.heap.size w wr) (fun i _ => 256 - (intOf i).toNat)
  case atStart => exact ⟨0, Nat.zero_le _, rfl, H0.out⟩
  case round =>
    rename World => wr
    obtain ⟨m, hm, rfl, hown, hb⟩ := hrel
    clear H0
    by_cases hlt : m < 256
    · have hfz := hown.frozenAt m
      have hce := (hown.cellAt m (by omega)).trans (List.getElem?_eq_getElem (by rw [List.length_map, fuJ_len x m (by omega)]; exact hlt))
      have hst := hown.stored m (.int .u8 (x.toNat : Int))
      have hse : (vb (fuJ x m)).set m (.int .u8 (x.toNat : Int)) = vb (fuJ x (m + 1)) := by rw [← fuJ_set x m hlt]; simp [vb, List.map_set]
      rw [hse] at hst
      have HST := Lib.hid hst; clear hst hse
      have hmi : (m : Int) < 256 := by omega
      go_wp2_with fail
      go_roundw
      case rel => exact ⟨m + 1, by omega, by go_num, HST.out.1, hb.grown HST.out.2 hb.size (by simp)⟩
      case measure => simp [intOf]; omega
    · have hmi : ¬ (m : Int) < 256 := by omega
      have hme : m = 256 := by omega
      have hf : wr.ownsRow w.heap.size 5 1 (.slice (some ⟨w.heap.size, 0, none⟩) 256 256) 256 (vb (fullB x)) := by
        rw [hme] at hown
        have e : fuJ x 256 = fullB x := by simp [fuJ, fullB]
        rwa [e] at hown
      have HF := Lib.hid hf; clear hf hown hme
      go_wp2_with fail
      go_ret
      exact ⟨_, rfl, HF.out, hb⟩

theorem crL8_at (m : Nat) (old new : List UInt8) (k : Nat) (hk : k < 256) : (crL8 m old new).getD k 0 = if m / 2 ^ (k / 64) % 2 = 1 then new.getD k 0 else old.getD k 0 := by
  simp [crL8, List.getD_eq_getElem?_getD, hk]
theorem zeroB_at (k : Nat) (hk : k < 256) : zeroB.getD k 0 = 0 := getD_rep _ _ _ _ hk
theorem kn_has : hasB 8 1 = true := rfl
theorem kn_E : (Dev.new 8).stepE = 0 := rfl
theorem kn_wE : (Dev.new 8).writeE 8 1 (fullB 7) = 0 := by unfold Dev.writeE; rw [if_pos ⟨kn_has, fullB_len 7⟩]; rfl
theorem kn_w : (Dev.new 8).write 8 1 (fullB 7) = (Dev.new 8).step.put 1 (fullB 7) := by unfold Dev.write; rw [if_pos ⟨kn_has, fullB_len 7⟩, if_pos kn_E]; rfl
theorem kn_wl : ((Dev.new 8).write 8 1 (fullB 7)).waits.length = 1 := by rw [kn_w]; rfl
theorem kn_now : (((Dev.new 8).write 8 1 (fullB 7)).crash [2]).readB 8 1 = crL8 2 zeroB (fullB 7) := by
  rw [kn_w]
  have e : (((Dev.new 8).step.put 1 (fullB 7)).crash [2]).readE 8 1 = 0 := rfl
  unfold Dev.readB
  rw [if_pos e]
  show (((List.replicate 8 zeroB).set 1 (crL8 2 ((List.replicate 8 zeroB).getD 1 []) (fullB 7))).getD 1 []) = _
  rw [getD_set, if_pos ⟨rfl, by simp⟩, getD_rep _ _ _ _ (by decide)]
theorem kn_E2 : (((Dev.new 8).write 8 1 (fullB 7)).crash [2]).readE 8 1 = 0 := by rw [kn_w]; rfl
theorem Keep.toBelow {L : Nat → Prop} {B : Nat} {w0 w w' : World} (h : Below B w0 w) (hk : Keep L w w') (hL : ∀ b, L b → B ≤ b) (hB : B ≤ w.heap.size) : Below B w0 w' := h.trans (hk.below hL hB)
end Go.Proofs.Ytpepbffhhfgdpaa
namespace Go.Proofs.Ytpepbffhhfgdpaa
open Go Go.RowKit
set_option linter.unusedVariables false
set_option linter.unusedSimpArgs false

structure Pair (w : World) (d p : Nat) (Lc L : Nat → Prop) (n : Nat) (D : Dev) : Prop where
  c : CD w d Lc n D
  r : RD w p L n D
  dis : ∀ b, Lc b → ¬ L b
theorem Pair.call {w w' : World} {d p n : Nat} {Lc L : Nat → Prop} {D : Dev} (h : Pair w d p Lc L n D) (hb : Below w.heap.size w w') : Pair w' d p Lc L n D := ⟨h.c.call hb, h.r.call hb, h.dis⟩
theorem Pair.keep {w w' : World} {d p n : Nat} {Lc L M : Nat → Prop} {D : Dev} (h : Pair w d p Lc L n D) (hk : Keep M w w') (h1 : ∀ b, Lc b → ¬ M b) (h2 : ∀ b, L b → ¬ M b) : Pair w' d p Lc L n D := ⟨h.c.keep hk h1, h.r.keep hk h2, h.dis⟩
/-- What is theirs: old, or new since w. -/
def Ours (w : World) (Lc L Lc' L' : Nat → Prop) : Prop := ∀ b, Lc' b ∨ L' b → Lc b ∨ L b ∨ w.heap.size ≤ b
theorem Pair.code {w w1 : World} {d p n : Nat} {Lc L : Nat → Prop} {D D1 : Dev} (h : Pair w d p Lc L n D) (hc : CD w1 d (ext Lc w w1) n D1) (hk : Keep Lc w w1) : RD w1 p L n D ∧ ∀ b, ext Lc w w1 b → ¬ L b :=
  ⟨h.r.keep hk (fun b hb hc => h.dis b hc hb), fun b hb hl => hb.elim (fun hc => h.dis b hc hl) (fun hb => by have := h.r.lt b hl; omega)⟩
theorem Pair.both {w w1 w2 : World} {d p n : Nat} {Lc L : Nat → Prop} {D D1 : Dev} (h : Pair w d p Lc L n D) (hc : CD w1 d (ext Lc w w1) n D1) (hk : Keep Lc w w1) (hr : RD w2 p (ext L w1 w2) n D1) (hk2 : Keep L w1 w2) :
    Pair w2 d p (ext Lc w w1) (ext L w1 w2) n D1 ∧ Ours w Lc L (ext Lc w w1) (ext L w1 w2) ∧ Keep (fun b => Lc b ∨ L b) w w2 := by
  obtain ⟨hr1, hdis⟩ := h.code hc hk
  refine ⟨⟨hc.keep hk2 hdis, hr, fun b hb hl => hl.elim (hdis b hb) (fun hl => by have := hc.lt b hb; omega)⟩, fun b hb => ?_, (hk.mono fun _ _ h => .inl h).trans hk2 fun b _ h => .inr h⟩
  rcases hb with (hb | hb) | (hb | hb)
  · exact .inl hb
  · exact .inr (.inr hb.1)
  · exact .inr (.inl hb)
  · exact .inr (.inr (Nat.le_trans hk.size hb.1))
/-- What Does answers. -/
def DoesR (w : World) (p n : Nat) (Lc L : Nat → Prop) (m : Nat) (F : Nat → Prop) (e : Ending) (w' : World) : Prop :=
  ∃ d' Lc' L' D', e = .returned (.tuple #[.pointer (some ⟨d', 0, none⟩), .bool true]) ∧ Pair w' d' p Lc' L' n D' ∧ Ours w Lc L Lc' L' ∧ Keep (fun b => Lc b ∨ L b) w w' ∧ D'.load ≤ m + 1 ∧ F d'
/-- Bytes that lie elsewhere. -/
def Aside (Lc L : Nat → Prop) (A : Option Addr) (l : List UInt8) : Prop := l.length ≠ 0 → ∀ ad, A = some ad → ¬ (Lc ad.block ∨ L ad.block)
theorem waits_step (D : Dev) : D.step.waits = D.waits := by unfold Dev.step; split <;> rfl
theorem waits_step2 (D : Dev) : D.step.waits.length ≤ D.waits.length + 1 := by rw [waits_step]; exact Nat.le_succ _
theorem waits_foreign2 (D : Dev) (n : Nat) (i a : Int) (b : List UInt8) : (D.foreign n i a b).waits.length ≤ D.waits.length + 1 := by unfold Dev.foreign; split <;> exact Nat.le_succ _
theorem waits_write (D : Dev) (n : Nat) (i : Int) (l : List UInt8) : (D.write n i l).waits.length ≤ D.waits.length + 1 := by
  unfold Dev.write
  split
  · split
    · show (D.step.waits ++ [(i.toNat, l)]).length ≤ _
      rw [waits_step]; simp
    · rw [waits_step]; omega
  · omega
theorem waits_sync (D : Dev) : D.sync.waits.length ≤ D.waits.length + 1 := by
  unfold Dev.sync
  split
  · exact Nat.zero_le _
  · rw [waits_step]; omega
theorem waits_foreign (D : Dev) (n : Nat) (i a : Int) (b : List UInt8) : (D.foreign n i a b).waits = D.waits := by unfold Dev.foreign; split <;> rfl
/-- An op by value. -/
abbrev opA (o : OpV) : Array Value := #[.int .i64 o.k, .int .i64 o.i, .int .i64 o.a, .slice o.B o.bl.length o.bc, .slice o.M o.ml.length o.mc]
/-- An op in a box. -/
def Ob (w : World) (b : Nat) (o : OpV) : Prop := w.heap[b]? = some (.cells (opA o) 41 (0, 0))
section
variable {w w' : World} {b : Nat} {o : OpV}
theorem Ob.c0 (h : Ob w b o) : w.cell? ⟨b, 0, none⟩ = some (.int .i64 o.k) := by rw [cell_of_row _ _ _ _ _ _ h]; rfl
theorem Ob.c1 (h : Ob w b o) : w.cell? ⟨b, 1, none⟩ = some (.int .i64 o.i) := by rw [cell_of_row _ _ _ _ _ _ h]; rfl
theorem Ob.c2 (h : Ob w b o) : w.cell? ⟨b, 2, none⟩ = some (.int .i64 o.a) := by rw [cell_of_row _ _ _ _ _ _ h]; rfl
theorem Ob.c3 (h : Ob w b o) : w.cell? ⟨b, 3, none⟩ = some (.slice o.B o.bl.length o.bc) := by rw [cell_of_row _ _ _ _ _ _ h]; rfl
theorem Ob.c4 (h : Ob w b o) : w.cell? ⟨b, 4, none⟩ = some (.slice o.M o.ml.length o.mc) := by rw [cell_of_row _ _ _ _ _ _ h]; rfl
theorem Ob.lt (h : Ob w b o) : b < w.heap.size := (Array.getElem?_eq_some_iff.1 h).1
theorem Ob.call (h : Ob w b o) (hb : Below w.heap.size w w') : Ob w' b o := (hb.block b h.lt).trans h
theorem Ob.keep {L : Nat → Prop} (h : Ob w b o) (hk : Keep L w w') (hn : ¬ L b) : Ob w' b o := (hk.block b h.lt hn).trans h
end
theorem Ob.cells {w : World} {b : Nat} {o : OpV} (h : Ob w b o) : w.cell? ⟨b, 1, none⟩ = some (.int .i64 o.i) ∧ w.cell? ⟨b, 2, none⟩ = some (.int .i64 o.a) ∧ w.cell? ⟨b, 3, none⟩ = some (.slice o.B o.bl.length o.bc) := ⟨h.c1, h.c2, h.c3⟩
/-- The byte of a number. -/
def u8of (a : Int) : UInt8 := UInt8.ofNat (a % 256).toNat
theorem u8of_wrap (a : Int) : IntKind.u8.wrap a = ((u8of a).toNat : Int) := by
  rw [IntKind.wrap_u8]
  unfold u8of
  rw [UInt8.toNat_ofNat']
  omega
theorem fullw_any (a : Int) (w : World) : Calls Try.prog 36 #[.int .u8 (IntKind.u8.wrap a)] w fun e w' => ∃ v, e = .returned v ∧ w'.ownsRow w.heap.size 5 1 v 256 (vb (fullB (u8of a))) ∧ Below w.heap.size w w' := by
  rw [u8of_wrap]; exact full_any (u8of a) w
theorem own_rd8 {w : World} {base e n c : Nat} {A : Option Addr} {xs : List Value} (h : w.ownsRow base e 1 (.slice A n c) n xs) : Rd w w.heap.size A xs := by
  obtain ⟨A', c', e', _, hr⟩ := Rd.of_own h
  injection e' with e1 _ _
  rw [e1]; exact hr
theorem full_aside {w w1 : World} {L : Nat → Prop} {e n sz : Nat} {v : Value} {xs : List Value} (hlt : ∀ b, L b → b < w.heap.size) (h : w1.ownsRow w.heap.size e sz v n xs) : ∀ A ln c, v = .slice A ln c → ∀ ad, A = some ad → ¬ L ad.block := fun A ln c ev ad ea hl => by
  have := (h.lt ad.block (by rw [ev, ea]; rfl)).1
  have := hlt _ hl
  omega
theorem rdstep_ext (w : World) (p n : Nat) (L : Nat → Prop) (D : Dev) (h : RD w p L n D) :
    Calls Try.prog 32 #[.pointer (some ⟨p, 0, none⟩)] w fun e w' => e = .returned (.int .i64 (D.stepE : Int)) ∧ RD w' p (ext L w w') n D.step ∧ Keep L w w' :=
  (rdstep_any w p n L D h).mono fun e w' ⟨he, hr, hk⟩ => ⟨he, hr.more (fun _ h => .inl h) (fun b hb => hb.elim (hr.lt b) fun h => h.2), hk⟩
theorem rdforeign_ext (w : World) (p n : Nat) (L : Nat → Prop) (D : Dev) (i at_ : Int) (A : Option Addr) (b : List UInt8) (len cap : Nat) (h : RD w p L n D) (hn : b.length = len) (hr : Rd w w.heap.size A (vb b)) (hA : b.length ≠ 0 → ∀ ad, A = some ad → ¬ L ad.block) (hl : len ≤ 140737488351360) :
    Calls Try.prog 43 #[.pointer (some ⟨p, 0, none⟩), .int .i64 i, .int .i64 at_, .slice A len cap] w fun e w' => e = .returned (.int .i64 (forE n i at_ b.length : Int)) ∧ RD w' p (ext L w w') n (D.foreign n i at_ b) ∧ Keep L w w' :=
  (rdforeign_any w p n L D i at_ A b len cap h hn hr hA hl).mono fun e w' ⟨he, hr, hk⟩ => ⟨he, hr.more (fun _ h => .inl h) (fun b hb => hb.elim (hr.lt b) fun h => h.2), hk⟩
/-- The document first. -/
theorem Pair.both2 {w w1 w2 : World} {d p n : Nat} {Lc L : Nat → Prop} {D D1 : Dev} (h : Pair w d p Lc L n D) (hr : RD w1 p (ext L w w1) n D1) (hk : Keep L w w1) (hc : CD w2 d (ext Lc w1 w2) n D1) (hk2 : Keep Lc w1 w2) :
    Pair w2 d p (ext Lc w1 w2) (ext L w w1) n D1 ∧ Ours w Lc L (ext Lc w1 w2) (ext L w w1) ∧ Keep (fun b => Lc b ∨ L b) w w2 := by
  have hd : ∀ b, ext L w w1 b → ¬ Lc b := fun b hb hc => hb.elim (fun hl => h.dis b hc hl) (fun hb => by have := h.c.lt b hc; omega)
  refine ⟨⟨hc, hr.keep hk2 hd, fun b hb hl => hb.elim (fun hc => hd b hl hc) (fun hb => by have := hr.lt b hl; omega)⟩, fun b hb => ?_, (hk.mono fun _ _ h => .inr h).trans hk2 fun b _ h => .inl h⟩
  rcases hb with (hb | hb) | (hb | hb)
  · exact .inl hb
  · exact .inr (.inr (Nat.le_trans hk.size hb.1))
  · exact .inr (.inl hb)
  · exact .inr (.inr hb.1)
theorem Pair.refFirst {w w1 : World} {d p n : Nat} {Lc L : Nat → Prop} {D : Dev} (h : Pair w d p Lc L n D) (hk : Keep L w w1) : CD w1 d Lc n D := h.c.keep hk h.dis
/-- Behind an allocation: what Does answers. -/
theorem doesR_of {w w0 w' : World} {p n d' m : Nat} {Lc L Lc' L' : Nat → Prop} {D' : Dev} (hb : Below w.heap.size w w0) (hP : Pair w' d' p Lc' L' n D') (ho : Ours w0 Lc L Lc' L') (hk : Keep (fun b => Lc b ∨ L b) w0 w') (hm : D'.load ≤ m + 1) {F : Nat → Prop} (hF : F d') :
    DoesR w p n Lc L m F (.returned (.tuple #[.pointer (some ⟨d', 0, none⟩), .bool true])) w' :=
  ⟨d', Lc', L', D', rfl, hP, fun b h => (ho b h).imp id (fun h => h.imp id fun h => Nat.le_trans hb.size h), (Keep.of hb).trans hk fun b _ h => h, hm, hF⟩
end Go.Proofs.Ytpepbffhhfgdpaa
namespace Go.Proofs.Ytpepbffhhfgdpaa
open Go Go.RowKit
set_option linter.unusedVariables false
set_option linter.unusedSimpArgs false

def k9G0 : Rg := Rg.new 9 [[1, 2, 3]]
def k9D0 : Dev := Dev.new 8
def k9G1 : Rg := k9G0.resG k9D0
def k9D1 : Dev := k9G0.resD k9D0
def k9G2 : Rg := k9G1.resG k9D1
def k9D2 : Dev := k9G1.resD k9D1
def k9G3 : Rg := k9G2.advG k9D2 2
def k9G4 : Rg := k9G3.drwG 2
theorem k9_a : k9G0.resE k9D0 = 0 ∧ k9G0.resN k9D0 = 1 ∧ k9G1.resE k9D1 = 0 ∧ k9G1.resN k9D1 = 2 ∧ k9G2.advE k9D2 2 = 0 ∧ k9G3.drwE 2 = 0 ∧ k9G3.drwB 2 = [1, 2] ∧ k9G4.com = 2 ∧ k9G4.draws.length = 0 := by decide +kernel
abbrev k9W (w1 : World) : World := (w1.alloc (.cells #[.int .u8 1, .int .u8 2, .int .u8 3] 5)).alloc (.cells #[.slice (some ⟨w1.heap.size, 0, none⟩) 3 3] 31)
theorem k9_lb : ∀ i, i < ([[1, 2, 3]] : List (List UInt8)).length → (([[1, 2, 3]] : List (List UInt8)).getD i []).length ≤ 140737488351232 := by decide
theorem k9_rds (w1 : World) : RdS (k9W w1) (fun b => b < (k9W w1).heap.size) (some ⟨w1.heap.size + 1, 0, none⟩) [[1, 2, 3]] ∧ Below w1.heap.size w1 (k9W w1) := by
  have hs1 : (w1.alloc (.cells #[.int .u8 1, .int .u8 2, .int .u8 3] 5)).heap.size = w1.heap.size + 1 := World.size_alloc _ _
  have hs2 : (k9W w1).heap.size = w1.heap.size + 1 + 1 := by rw [k9W, World.size_alloc, hs1]
  have h1 : (k9W w1).heap[w1.heap.size]? = some (.cells #[.int .u8 1, .int .u8 2, .int .u8 3] 5 (0, 0)) := (heap_alloc_old _ _ (by rw [hs1]; omega)).trans (heap_alloc_new _ _)
  have h2 : (k9W w1).heap[w1.heap.size + 1]? = some (.cells #[.slice (some ⟨w1.heap.size, 0, none⟩) 3 3] 31 (0, 0)) := by rw [← hs1]; exact heap_alloc_new _ _
  refine ⟨fun i hi => ?_, ((Below.refl _ _).alloc (Nat.le_refl _) _).alloc (by omega) _⟩
  have hi0 : i = 0 := by simp at hi; exact hi
  subst hi0
  refine ⟨_, some ⟨w1.heap.size, 0, none⟩, 3, rfl, by show w1.heap.size + 1 < _; omega, by show w1.heap.size + 1 < _; omega, ?_, Nat.le_refl _, by decide, fun _ => ⟨_, rfl, by show w1.heap.size < _; omega, by show w1.heap.size < _; omega, fun j u hj => ?_⟩⟩
  · rw [head_add, cell_of_row _ _ _ _ _ _ h2]; rfl
  · rw [head_add, cell_of_row _ _ _ _ _ _ h1]
    rcases j with _ | _ | _ | j
    · exact hj
    · exact hj
    · exact hj
    · exact absurd (List.getElem?_eq_some_iff.1 hj).1 (by simp [vb])

set_option maxRecDepth 100000 in
set_option maxHeartbeats 8000000 in
theorem known09_any (w : World) : Calls Try.prog 8 #[] w fun e w' => e = .returned (.bool true) ∧ Below w.heap.size w w' := by
  have hnew := cdnew_any w 8 (by decide) (by decide)
  rw [show ((8 : Nat) : Int) = 8 from rfl] at hnew
  have HN := Lib.hid hnew; clear hnew
  go_enter Try.func8, Try.ntmps8
  go_wp2_with fail
  refine HN.out.mono ?_
  rintro e w1 ⟨d, rfl, hcd, hb1⟩
  have HC := Lib.hid hcd; clear hcd
  have HB1 := Lib.hid hb1; clear hb1 HN
  go_wp2_with fail
  obtain ⟨hrd, hb2⟩ := k9_rds w1
  rw [show (w1.alloc (.cells #[.int .u8 1, .int .u8 2, .int .u8 3] 5)).alloc (.cells #[.slice (some ⟨w1.heap.size, 0, none⟩) 3 3] 31) = k9W w1 from rfl]
  generalize k9W w1 = w2 at *
  have hnew := cgnew_any w2 d 8 _ _ (HC.out.call hb2) 9 (by decide) (some ⟨w1.heap.size + 1, 0, none⟩) [[1, 2, 3]] 1 1 rfl (Nat.le_refl _) (by decide) hrd k9_lb
  rw [show ((9 : Nat) : Int) = 9 from rfl] at hnew
  have HN := Lib.hid hnew; clear hnew
  have HC2 := Lib.hid (HC.out.call hb2)
  have HB2 := Lib.hid (HB1.out.trans (hb2.mono HB1.out.size))
  have hL : ∀ b, (w.heap.size ≤ b ∧ b < w1.heap.size) → b < w2.heap.size := fun b h => HC2.out.lt b h
  clear hrd hb2 HC
  refine HN.out.mono ?_
  rintro e w3 ⟨r, rfl, hcg, hb3⟩
  have hdis : ∀ b, (w2.heap.size ≤ b ∧ b < w3.heap.size) → ¬ (w.heap.size ≤ b ∧ b < w1.heap.size) := fun b h hl => by have := hL b hl; omega
  have hRw : ∀ b, (w2.heap.size ≤ b ∧ b < w3.heap.size) → w.heap.size ≤ b := fun b h => Nat.le_trans HB2.out.size h.1
  obtain ⟨R, hR⟩ : ∃ R : Nat → Prop, R = fun b => w2.heap.size ≤ b ∧ b < w3.heap.size := ⟨_, rfl⟩
  obtain ⟨L, hLe⟩ : ∃ L : Nat → Prop, L = fun b => w.heap.size ≤ b ∧ b < w1.heap.size := ⟨_, rfl⟩
  have hLw : ∀ b, L b → w.heap.size ≤ b := fun b h => by rw [hLe] at h; exact h.1
  have hdis : ∀ b, R b → ¬ L b := by rw [hR, hLe]; exact hdis
  have hRw : ∀ b, R b → w.heap.size ≤ b := by rw [hR]; exact hRw
  have hcg' : CG w3 r d R k9G0 := by rw [hR]; exact hcg
  have hcd' : CD w3 d L 8 k9D0 := by rw [hLe]; exact HC2.out.call hb3
  have HX := Lib.hid (And.intro hcg' (And.intro hcd' (And.intro (HB2.out.trans (hb3.mono HB2.out.size)) (And.intro hdis (And.intro hRw hLw))))); clear hcg hcg' hcd' hb3 hdis hRw hLw hR hLe hL HN HC2 HB2 HB1
  go_wp2_with fail
  have hq := cgreserve_any w3 r d 8 R L k9G0 k9D0 HX.out.1 HX.out.2.1 HX.out.2.2.2.1 (by decide)
  rw [k9_a.1, k9_a.2.1] at hq
  refine hq.mono ?_
  clear hq
  rintro e w4 ⟨rfl, hg4, hd4, hk4⟩
  have hB4 := Keep.toBelow HX.out.2.2.1 hk4 (fun b h => h.elim (HX.out.2.2.2.2.2 b) (HX.out.2.2.2.2.1 b)) HX.out.2.2.1.size
  have hdis4 : ∀ b, R b → ¬ ext L w3 w4 b := fun b hr h => h.elim (HX.out.2.2.2.1 b hr) (fun h => by have := HX.out.1.lt b hr; omega)
  have hL4 : ∀ b, ext L w3 w4 b → w.heap.size ≤ b := fun b h => h.elim (HX.out.2.2.2.2.2 b) (fun h => Nat.le_trans HX.out.2.2.1.size h.1)
  have HX4 := Lib.hid (And.intro (show CG w4 r d R k9G1 from hg4) (And.intro (show CD w4 d _ 8 k9D1 from hd4) (And.intro hB4 (And.intro hdis4 (And.intro HX.out.2.2.2.2.1 hL4))))); clear hg4 hd4 hk4 hB4 hdis4 hL4 HX
  generalize ext L w3 w4 = L4 at *
  go_wp2_with fail
  have hq := cgreserve_any w4 r d 8 R L4 k9G1 k9D1 HX4.out.1 HX4.out.2.1 HX4.out.2.2.2.1 (by decide)
  rw [k9_a.2.2.1, k9_a.2.2.2.1] at hq
  refine hq.mono ?_
  clear hq
  rintro e w5 ⟨rfl, hg5, hd5, hk5⟩
  have hB5 := Keep.toBelow HX4.out.2.2.1 hk5 (fun b h => h.elim (HX4.out.2.2.2.2.2 b) (HX4.out.2.2.2.2.1 b)) HX4.out.2.2.1.size
  have hdis5 : ∀ b, R b → ¬ ext L4 w4 w5 b := fun b hr h => h.elim (HX4.out.2.2.2.1 b hr) (fun h => by have := HX4.out.1.lt b hr; omega)
  have hL5 : ∀ b, ext L4 w4 w5 b → w.heap.size ≤ b := fun b h => h.elim (HX4.out.2.2.2.2.2 b) (fun h => Nat.le_trans HX4.out.2.2.1.size h.1)
  have HX5 := Lib.hid (And.intro (show CG w5 r d R k9G2 from hg5) (And.intro (show CD w5 d _ 8 k9D2 from hd5) (And.intro hB5 (And.intro hdis5 (And.intro HX4.out.2.2.2.2.1 hL5))))); clear hg5 hd5 hk5 hB5 hdis5 hL5 HX4
  generalize ext L4 w4 w5 = L5 at *
  go_wp2_with fail
  have hq := cgadvance_any w5 r d 8 R L5 k9G2 k9D2 2 (by decide) HX5.out.1 HX5.out.2.1 HX5.out.2.2.2.1 (by decide)
  rw [k9_a.2.2.2.2.1, show ((2 : Nat) : Int) = 2 from rfl] at hq
  refine hq.mono ?_
  clear hq
  rintro e w6 ⟨rfl, hg6, hd6, hk6⟩
  have hB6 := Keep.toBelow HX5.out.2.2.1 hk6 (fun b h => h.elim (HX5.out.2.2.2.2.2 b) (HX5.out.2.2.2.2.1 b)) HX5.out.2.2.1.size
  have HX6 := Lib.hid (And.intro (show CG w6 r d R k9G3 from hg6) (And.intro hB6 HX5.out.2.2.2.2.1)); clear hg6 hd6 hk6 hB6 HX5
  go_wp2_with fail
  have hq := cgdraw_any w6 r d R k9G3 2 (by decide) HX6.out.1
  rw [k9_a.2.2.2.2.2.1, k9_a.2.2.2.2.2.2.1] at hq
  refine hq.mono ?_
  clear hq
  rintro e w7 ⟨v, rfl, ho, hg7, hk7⟩
  have hB7 := Keep.toBelow HX6.out.2.1 hk7 (fun b h => HX6.out.2.2 b h) HX6.out.2.1.size
  have hcm := cgcommitted_any w7 r d R k9G4 hg7
  rw [k9_a.2.2.2.2.2.2.2.1] at hcm
  have HX7 := Lib.hid (And.intro (show CG w7 r d R k9G4 from hg7) hB7)
  have HCM := Lib.hid hcm
  obtain ⟨A7, c7, rfl, _, hr7⟩ := Rd.of_own8 ho
  have s7 := run_str (P := Try.prog) 31 9 5 Try.underlying31 Try.underlying5 Try.underlying9 (n := 2) rfl c7 hr7
  clear hg7 hk7 hB7 hcm ho hr7 HX6

  go_wp2_with fail
  refine HCM.out.mono ?_
  rintro e w8 ⟨rfl, hb8⟩
  have hlf := cgleft_any w8 r d R k9G4 (HX7.out.1.call hb8)
  rw [k9_a.2.2.2.2.2.2.2.2] at hlf
  have HL := Lib.hid hlf
  have HB8 := Lib.hid (HX7.out.2.trans (hb8.mono HX7.out.2.size))
  clear hlf hb8 HCM HX7
  go_wp2_with fail
  refine HL.out.mono ?_
  rintro e w9 ⟨rfl, hb9⟩
  have HB9 := Lib.hid (HB8.out.trans (hb9.mono HB8.out.size))
  clear HL hb9
  go_wp2_with fail
  go_ret
  exact ⟨rfl, HB9.out⟩
end Go.Proofs.Ytpepbffhhfgdpaa
namespace Go.Proofs.Ytpepbffhhfgdpaa
open Go Go.RowKit
set_option linter.unusedVariables false
set_option linter.unusedSimpArgs false

def Heavy9R (n len : Nat) (w : World) (e : Ending) (w' : World) : Prop := ∃ b : Bool, e = .returned (.bool b) ∧ (b = false → n ≤ 1000 ∧ len ≤ 4000) ∧ Below w.heap.size w w'
set_option maxRecDepth 100000 in
set_option maxHeartbeats 8000000 in
theorem heavy9_any (A0 : Option Addr) (ls : List (List UInt8)) (n cap0 : Nat) (A : Option Addr) (len cap : Nat) (O : Nat → OpR) (w : World) (hn : ls.length = n) (hnl : n ≤ 140737488351360) (hrd : RdS w (fun b => b < w.heap.size) A0 ls) (hlen : len ≤ 140737488351360) (hO : ∀ i, i < len → (O i).Ok w ∧ ∃ ad, A = some ad ∧ (O i).At w ad i) :
    Calls Try.prog 7 #[.slice A0 n cap0, .slice A len cap] w (Heavy9R n len w) := by
  have HO := Lib.hid hO; clear hO
  have HRD := Lib.hid hrd; clear hrd
  have HN := Lib.hid hn; clear hn
  go_enter Try.func7, Try.ntmps7
  go_wp2_with fail
  go_loopw [5, 10] (fun s i wr => ∃ j m : Nat, j ≤ n ∧ i = .int .i64 (j : Int) ∧ s = .int .i64 (m : Int) ∧ j ≤ m ∧ m ≤ 1000 ∧ w = wr) (fun _ i _ => n - (intOf i).toNat)
  case atStart => exact ⟨0, 0, Nat.zero_le _, rfl, rfl, Nat.le_refl _, Nat.zero_le _, rfl⟩
  case round =>
    obtain ⟨j, m, hj, rfl, rfl, hjm, hm, rfl⟩ := hrel
    by_cases hlt : j < n
    · have hji : (j : Int) < (n : Int) := by omega
      obtain ⟨ad, B, c, hA, _, hadl, hc0, _, hl2, _, _⟩ := HRD.out.at_ (show j < ls.length by have := HN.out; omega)
      obtain ⟨b0, hb0⟩ : ∃ b0, b0 = (ls.getD j []).length := ⟨_, rfl⟩
      rw [← hb0] at hc0 hl2
      clear hb0
      have HA := Lib.hid hA
      obtain ⟨q, hq⟩ : ∃ q, q = b0 / 64 := ⟨_, rfl⟩
      obtain ⟨a1, ha1⟩ : ∃ a1, a1 = 1 + q := ⟨_, rfl⟩
      obtain ⟨a3, ha3⟩ : ∃ a3, a3 = m + a1 := ⟨_, rfl⟩
      have e0 : (b0 : Int) / 64 = (q : Int) := by omega
      have e0t : (b0 : Int).tdiv 64 = (q : Int) := by rw [Int.tdiv_eq_ediv_of_nonneg (by omega)]; omega
      have e0w : IntKind.i64.wrap (q : Int) = (q : Int) := IntWalk.i64_in _ (by omega)
      have e1 : IntKind.i64.wrap (1 + (q : Int)) = (a1 : Int) := by rw [IntWalk.i64_in _ (by omega)]; omega
      have e3 : IntKind.i64.wrap ((m : Int) + (a1 : Int)) = (a3 : Int) := by rw [IntWalk.i64_in _ (by omega)]; omega
      have HQ := Lib.hid (And.intro ha1 ha3); clear hq ha1 ha3
      by_cases hbig : 1000 < a3
      · have hbi : (1000 : Int) < (a3 : Int) := by omega
        go_wp2_with fail
        go_ret
        exact ⟨true, rfl, (fun h => by cases h), Below.refl _ _⟩
      · have hbi : ¬ (1000 : Int) < (a3 : Int) := by omega
        go_wp2_with fail
        clear hA
        (try rw [← HA.out])
        go_roundw
        case rel => exact ⟨j + 1, a3, by omega, by go_num, rfl, by have := HQ.out; omega, by omega, trivial⟩
        case measure => simp [intOf]; omega
    · have hji : ¬ (j : Int) < (n : Int) := by omega
      have hn1 : n ≤ 1000 := by omega
      have HM0 := Lib.hid hm; clear hm hjm
      go_wp2_with fail
      go_loopw [5, 27] (fun s i wr => ∃ j m : Nat, j ≤ len ∧ i = .int .i64 (j : Int) ∧ s = .int .i64 (m : Int) ∧ j ≤ m ∧ m ≤ 4000 ∧ Below w.heap.size w wr) (fun _ i _ => len - (intOf i).toNat)
      case atStart => exact ⟨0, m, Nat.zero_le _, rfl, rfl, Nat.zero_le _, by have := HM0.out; omega, Below.refl _ _⟩
      case round =>
        rename World => wr
        obtain ⟨j, m, hj, rfl, rfl, hjm, hm, hb⟩ := hrel
        have HB := Lib.hid hb; clear hb
        by_cases hlt : j < len
        · have hji : (j : Int) < (len : Int) := by omega
          obtain ⟨hok, ad, hA, hat⟩ := HO.out j hlt
          obtain ⟨_, hcs⟩ := (hat.keepW HB.out).cells
          have c6 := hcs 6 _ (by decide) (hat.keepW HB.out).c6
          have c7 := hcs 7 _ (by decide) (hat.keepW HB.out).c7
          have hb1 := hok.ho.hb.2.2
          have hb2 := hok.ho.hm.2.2
          generalize (O j).o.bl.length = b0 at *
          generalize (O j).o.ml.length = b1 at *
          generalize (O j).o.B = B0 at *
          generalize (O j).o.bc = B1 at *
          generalize (O j).o.M = B2 at *
          generalize (O j).o.mc = B3 at *
          clear hok hat hcs
          have HA := Lib.hid hA
          obtain ⟨q, hq⟩ : ∃ q, q = b0 / 64 := ⟨_, rfl⟩
          obtain ⟨a1, ha1⟩ : ∃ a1, a1 = 1 + q := ⟨_, rfl⟩
          obtain ⟨a2, ha2⟩ : ∃ a2, a2 = a1 + b1 := ⟨_, rfl⟩
          obtain ⟨a3, ha3⟩ : ∃ a3, a3 = m + a2 := ⟨_, rfl⟩
          have e0 : (b0 : Int) / 64 = (q : Int) := by omega
          have e0w : IntKind.i64.wrap (q : Int) = (q : Int) := IntWalk.i64_in _ (by omega)
          have e1 : IntKind.i64.wrap (1 + (q : Int)) = (a1 : Int) := by rw [IntWalk.i64_in _ (by omega)]; omega
          have e2 : IntKind.i64.wrap ((a1 : Int) + (b1 : Int)) = (a2 : Int) := by rw [IntWalk.i64_in _ (by omega)]; omega
          have e3 : IntKind.i64.wrap ((m : Int) + (a2 : Int)) = (a3 : Int) := by rw [IntWalk.i64_in _ (by omega)]; omega
          have HQ := Lib.hid (And.intro ha1 (And.intro ha2 ha3)); clear hq ha1 ha2 ha3
          go_upto_region 12 with fail
          go_quiet (fail)
          have HBz := Lib.hid (bdrewN HB.out nq)
          clear c6 c7 e0 e0w e1 e2 e3
          generalize wr.drewN nq = wz at *
          by_cases hbig : 4000 < a3
          · have hbi : (4000 : Int) < (a3 : Int) := by omega
            go_wp2_with fail
            go_ret
            exact ⟨true, rfl, (fun h => by cases h), HBz.out⟩
          · have hbi : ¬ (4000 : Int) < (a3 : Int) := by omega
            go_wp2_with fail
            clear hA
            (try rw [← HA.out])
            go_roundw
            case rel => exact ⟨j + 1, a3, by omega, by go_num, rfl, by have := HQ.out; omega, by omega, HBz.out⟩
            case measure => simp [intOf]; omega
        · have hji : ¬ (j : Int) < (len : Int) := by omega
          go_wp2_with fail
          go_ret
          exact ⟨false, rfl, fun _ => ⟨hn1, by omega⟩, HB.out⟩
end Go.Proofs.Ytpepbffhhfgdpaa
