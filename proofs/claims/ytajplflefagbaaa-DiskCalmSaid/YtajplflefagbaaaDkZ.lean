/-
  Calm crashes, plain: what waits, laid over what is firm, is what the device tells (layer 8).
-/
import Derived.Test.YtajplflefagbaaaDkY
namespace Go.Proofs.Ytajplflefagbaaa
open Go Go.RowKit
set_option linter.unusedVariables false
set_option linter.unusedSimpArgs false

theorem crN_app (ws : List (Nat × List UInt8)) (x : Nat × List UInt8) (F : List (List UInt8)) (ms ms' : List Nat) : ∀ k, k ≤ ws.length → (∀ j, j < k → ms.getD j 0 = ms'.getD j 0) → crN (ws ++ [x]) ms F k = crN ws ms' F k
  | 0, _, _ => rfl
  | k + 1, hk, hm => by
    rw [crN, crN, crN_app ws x F ms ms' k (by omega) (fun j hj => hm j (by omega)), hm k (by omega), getD_app, if_neg (by omega)]
theorem crN_ms (ws : List (Nat × List UInt8)) (F : List (List UInt8)) (ms ms' : List Nat) : ∀ k, (∀ j, j < k → ms.getD j 0 = ms'.getD j 0) → crN ws ms F k = crN ws ms' F k
  | 0, _ => rfl
  | k + 1, hm => by rw [crN, crN, crN_ms ws F ms ms' k (fun j hj => hm j (by omega)), hm k (by omega)]
/-- All sectors come through. -/
theorem crL8_15 (old new : List UInt8) (h : new.length = 256) : crL8 15 old new = new := by
  apply List.ext_getElem?
  intro i
  by_cases hi : i < 256
  · have h15 : 15 / 2 ^ (i / 64) % 2 = 1 := by
      have : i / 64 = 0 ∨ i / 64 = 1 ∨ i / 64 = 2 ∨ i / 64 = 3 := by omega
      rcases this with h | h | h | h <;> rw [h] <;> decide
    have hl : i < new.length := by omega
    simp [crL8, hi, h15, List.getD_eq_getElem?_getD, hl]
  · rw [List.getElem?_eq_none (by rw [crL8_len]; omega), List.getElem?_eq_none (by omega)]
/-- The crash in which all comes through, of so many or more. -/
theorem crF_15 (ws : List (Nat × List UInt8)) (F : List (List UInt8)) (n : Nat) (hn : ws.length ≤ n) : crF ws (List.replicate n 15) F = crN ws (List.replicate ws.length 15) F ws.length := by
  rw [crF_N, List.length_replicate, Nat.min_eq_left hn]
  exact crN_ms _ _ _ _ _ fun j hj => by rw [getD_rep _ _ _ _ (by omega), getD_rep _ _ _ _ hj]
structure CI (b j : Nat) (D : Dev) : Prop where
  f : D.fail = 0
  c : D.cut = -1
  d : D.down = false
  w : D.waits.length ≤ j
  e : crN D.waits (List.replicate D.waits.length 15) D.firm D.waits.length = D.now
  ok : D.Ok 8
  s : D.steps ≤ b + 2 * j
theorem CI.load {b j : Nat} {D : Dev} (h : CI b j D) : D.load ≤ b + 2 * j := load_le (by have := h.w; omega) h.s
theorem CI.start : CI 0 0 (Dev.new 8) := ⟨rfl, rfl, rfl, Nat.le_refl _, rfl, Dev.new_ok 8, Nat.le_refl _⟩
theorem CI.stepE {b j : Nat} {D : Dev} (h : CI b j D) : D.stepE = 0 := by
  unfold Dev.stepE
  rw [if_neg (by rw [h.c, h.d]; decide), if_neg (by rw [h.f]; decide)]
theorem CI.step {b j : Nat} {D : Dev} (h : CI b j D) : D.step = { D with steps := (D.steps + 1) % 18446744073709551616 } := by
  unfold Dev.step
  rw [if_neg (by rw [h.c, h.d]; decide), h.c, h.f]
  have := h.d
  simp
theorem CI.write {b j : Nat} {D : Dev} (h : CI b j D) (k : Nat) (hk : hasB 8 (k : Int) = true) (l : List UInt8) (hl : l.length = 256) : CI b (j + 1) (D.write 8 (k : Int) l) ∧ D.writeE 8 (k : Int) l = 0 := by
  have hk8 : k < 8 := by have := (hasB_iff 8 (k : Int)).1 hk; omega
  refine ⟨?_, by unfold Dev.writeE; rw [if_pos ⟨hk, hl⟩, h.stepE]⟩
  have e1 : D.write 8 (k : Int) l = { D with steps := (D.steps + 1) % 18446744073709551616, now := D.now.set k l, waits := D.waits ++ [(k, l)] } := by
    unfold Dev.write
    rw [if_pos ⟨hk, hl⟩, if_pos h.stepE, h.step]
    rfl
  have hok := h.ok.write (k : Int) l
  rw [e1] at hok ⊢
  refine ⟨h.f, h.c, h.d, by simp; exact h.w, ?_, hok, by show (D.steps + 1) % 18446744073709551616 ≤ _; have := h.s; have := Nat.mod_le (D.steps + 1) 18446744073709551616; omega⟩
  show crN (D.waits ++ [(k, l)]) (List.replicate (D.waits ++ [(k, l)]).length 15) D.firm (D.waits ++ [(k, l)]).length = D.now.set k l
  rw [List.length_append, List.length_singleton, crN, crN_app D.waits (k, l) D.firm _ (List.replicate D.waits.length 15) D.waits.length (Nat.le_refl _) (fun j hj => by rw [getD_rep _ _ _ _ (by omega), getD_rep _ _ _ _ hj]), h.e, getD_app, if_pos rfl, getD_rep _ _ _ _ (by omega), crL8_15 _ _ hl]
theorem CI.syncAt {b j c k : Nat} {D : Dev} (h : CI b j D) (hs : D.steps + 1 ≤ c + 2 * k) : CI c k D.sync := by
  have e1 : D.sync = { D with steps := (D.steps + 1) % 18446744073709551616, firm := D.now, waits := [] } := by
    unfold Dev.sync
    rw [if_pos h.stepE, h.step]
  have hok := h.ok.sync
  rw [e1] at hok ⊢
  exact ⟨h.f, h.c, h.d, Nat.zero_le _, rfl, hok, by show (D.steps + 1) % 18446744073709551616 ≤ _; have := Nat.mod_le (D.steps + 1) 18446744073709551616; omega⟩
theorem CI.writeSync {b j : Nat} {D : Dev} (h : CI b j D) (k : Nat) (hk : hasB 8 (k : Int) = true) (l : List UInt8) (hl : l.length = 256) : CI b (j + 1) (D.write 8 (k : Int) l).sync := by
  refine (h.write k hk l hl).1.syncAt ?_
  have e1 : (D.write 8 (k : Int) l).steps = (D.steps + 1) % 18446744073709551616 := by
    unfold Dev.write
    rw [if_pos ⟨hk, hl⟩, if_pos h.stepE, h.step]
    rfl
  have := h.s
  have := Nat.mod_le (D.steps + 1) 18446744073709551616
  omega
theorem CI.more {b j k : Nat} {D : Dev} (h : CI b j D) (hk : j ≤ k) : CI b k D := ⟨h.f, h.c, h.d, Nat.le_trans h.w hk, h.e, h.ok, by have := h.s; omega⟩
/-- What is read behind: of the device, of the one whose crash took nothing, of the one whose crash took all. -/
theorem CI.reads {b j : Nat} {D : Dev} (h : CI b j D) (m : Nat) (hm : j ≤ m) (i : Nat) (hi : hasB 8 (i : Int) = true) :
    D.readE 8 (i : Int) = 0 ∧ (D.crash (List.replicate m 15)).readE 8 (i : Int) = 0 ∧ (D.crash []).readE 8 (i : Int) = 0 ∧
      (D.crash (List.replicate m 15)).readB 8 (i : Int) = D.readB 8 (i : Int) ∧ (D.crash []).readB 8 (i : Int) = D.firmB 8 (i : Int) ∧ (D.crash (List.replicate m 15)).firmB 8 (i : Int) = D.readB 8 (i : Int) := by
  have r1 : D.readE 8 (i : Int) = 0 := by unfold Dev.readE; rw [if_pos hi, if_neg (by rw [h.d]; decide)]
  have r2 : (D.crash (List.replicate m 15)).readE 8 (i : Int) = 0 := by unfold Dev.readE; rw [if_pos hi]; rfl
  have r3 : (D.crash []).readE 8 (i : Int) = 0 := by unfold Dev.readE; rw [if_pos hi]; rfl
  have c1 : crF D.waits (List.replicate m 15) D.firm = D.now := by rw [crF_15 _ _ _ (Nat.le_trans h.w hm), h.e]
  have c2 : crF D.waits [] D.firm = D.firm := by rw [crF_N]; simp [crN]
  refine ⟨r1, r2, r3, ?_, ?_, ?_⟩
  · unfold Dev.readB; rw [if_pos r1, if_pos r2]; show (crF D.waits (List.replicate m 15) D.firm).getD _ _ = _; rw [c1]
  · unfold Dev.readB Dev.firmB; rw [if_pos r3, if_pos hi]; show (crF D.waits [] D.firm).getD _ _ = _; rw [c2]
  · unfold Dev.readB Dev.firmB; rw [if_pos r1, if_pos hi]; show (crF D.waits (List.replicate m 15) D.firm).getD _ _ = _; rw [c1]
end Go.Proofs.Ytajplflefagbaaa
