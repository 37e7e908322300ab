/-
  Crashes and foreign bytes, plain, step by step; a byte more in a row of a device (layer 8).
-/
import Derived.Test.YtajplflefagbaaaDkF
namespace Go.Proofs.Ytajplflefagbaaa
open Go Go.RowKit
set_option linter.unusedVariables false
set_option linter.unusedSimpArgs false

/-- The first k writes that wait have come through. -/
def crN (ws : List (Nat × List UInt8)) (ms : List Nat) (F : List (List UInt8)) : Nat → List (List UInt8)
  | 0 => F
  | k + 1 => (crN ws ms F k).set (ws.getD k (0, [])).1 (crL8 (ms.getD k 0) ((crN ws ms F k).getD (ws.getD k (0, [])).1 []) (ws.getD k (0, [])).2)
theorem crN_cons (i : Nat) (l : List UInt8) (ws : List (Nat × List UInt8)) (m : Nat) (ms : List Nat) (F : List (List UInt8)) : ∀ k, crN ((i, l) :: ws) (m :: ms) F (k + 1) = crN ws ms (F.set i (crL8 m (F.getD i []) l)) k
  | 0 => rfl
  | k + 1 => by rw [crN, crN_cons i l ws m ms F k]; rfl
theorem crF_N : ∀ (ws : List (Nat × List UInt8)) (ms : List Nat) (F : List (List UInt8)), crF ws ms F = crN ws ms F (min ws.length ms.length)
  | [], _, F => by simp [crF, crN]
  | (_, _) :: _, [], F => by simp [crF, crN]
  | (i, l) :: ws, m :: ms, F => by
    rw [crF, crF_N ws ms, List.length_cons, List.length_cons, Nat.succ_min_succ, crN_cons]
theorem crN_len (ws : List (Nat × List UInt8)) (ms : List Nat) (F : List (List UInt8)) : ∀ k, (crN ws ms F k).length = F.length
  | 0 => rfl
  | k + 1 => by rw [crN, List.length_set, crN_len ws ms F k]
theorem crN_row (ws : List (Nat × List UInt8)) (ms : List Nat) (F : List (List UInt8)) (n : Nat) (h : ∀ i, i < n → (F.getD i []).length = 256) : ∀ k i, i < n → ((crN ws ms F k).getD i []).length = 256
  | 0, i, hi => h i hi
  | k + 1, i, hi => by
    rw [crN, getD_set]
    split
    · exact crL8_len _ _ _
    · exact crN_row ws ms F n h k i hi
/-- The first j bytes of a block have come through. -/
def crJ (m : Nat) (old new : List UInt8) (j : Nat) : List UInt8 := (List.range 256).map fun k => if k < j ∧ m / 2 ^ (k / 64) % 2 = 1 then new.getD k 0 else old.getD k 0
theorem crJ_len (m : Nat) (old new : List UInt8) (j : Nat) : (crJ m old new j).length = 256 := by simp [crJ]
theorem crJ_zero (m : Nat) (old new : List UInt8) (h : old.length = 256) : crJ m old new 0 = old := by
  apply List.ext_getElem?
  intro i
  by_cases hi : i < 256
  · simp [crJ, hi, List.getD_eq_getElem?_getD, h]
  · rw [List.getElem?_eq_none (by rw [crJ_len]; omega), List.getElem?_eq_none (by omega)]
theorem crJ_all (m : Nat) (old new : List UInt8) : crJ m old new 256 = crL8 m old new := by
  unfold crJ crL8
  apply List.map_congr_left
  intro k hk
  have := List.mem_range.1 hk
  simp [this]
theorem crJ_get (m : Nat) (old new : List UInt8) (j k : Nat) (hk : k < 256) : (crJ m old new j)[k]? = some (if k < j ∧ m / 2 ^ (k / 64) % 2 = 1 then new.getD k 0 else old.getD k 0) := by simp [crJ, hk]
theorem crJ_no (m : Nat) (old new : List UInt8) (j : Nat) (h : ¬ m / 2 ^ (j / 64) % 2 = 1) : crJ m old new (j + 1) = crJ m old new j := by
  unfold crJ
  apply List.map_congr_left
  intro k hk
  by_cases e : k = j
  · subst e; rw [if_neg (fun hh => h hh.2), if_neg (fun hh => h hh.2)]
  · have : (k < j + 1 ∧ m / 2 ^ (k / 64) % 2 = 1) ↔ (k < j ∧ m / 2 ^ (k / 64) % 2 = 1) := by constructor <;> (rintro ⟨a, b⟩; exact ⟨by omega, b⟩)
    simp only [this]
theorem crJ_yes (m : Nat) (old new : List UInt8) (j : Nat) (hj : j < 256) (h : m / 2 ^ (j / 64) % 2 = 1) : (crJ m old new j).set j (new.getD j 0) = crJ m old new (j + 1) := by
  apply List.ext_getElem?
  intro k
  by_cases hk : k < 256
  · rw [List.getElem?_set, crJ_get m old new (j + 1) k hk]
    by_cases e : j = k
    · subst e; rw [if_pos rfl, if_pos (by rw [crJ_len]; exact hk), if_pos ⟨by omega, h⟩]
    · rw [if_neg e, crJ_get m old new j k hk]
      have : (k < j + 1 ∧ m / 2 ^ (k / 64) % 2 = 1) ↔ (k < j ∧ m / 2 ^ (k / 64) % 2 = 1) := by constructor <;> (rintro ⟨a, b⟩; exact ⟨by omega, b⟩)
      simp only [this]
  · rw [List.getElem?_eq_none (by rw [List.length_set, crJ_len]; omega), List.getElem?_eq_none (by rw [crJ_len]; omega)]
/-- The first j of the foreign bytes. -/
def ovJ (old : List UInt8) (a : Nat) (b : List UInt8) (j : Nat) : List UInt8 := (List.range old.length).map fun k => if a ≤ k ∧ k < a + j then b.getD (k - a) 0 else old.getD k 0
theorem ovJ_len (old : List UInt8) (a : Nat) (b : List UInt8) (j : Nat) : (ovJ old a b j).length = old.length := by simp [ovJ]
theorem ovJ_zero (old : List UInt8) (a : Nat) (b : List UInt8) : ovJ old a b 0 = old := by
  apply List.ext_getElem?
  intro i
  by_cases hi : i < old.length
  · have : ¬ (a ≤ i ∧ i < a + 0) := by omega
    simp only [ovJ, List.getElem?_map, List.getElem?_range hi, Option.map_some, if_neg this]
    rw [List.getD_eq_getElem?_getD, List.getElem?_eq_getElem hi]; rfl
  · rw [List.getElem?_eq_none (by rw [ovJ_len]; omega), List.getElem?_eq_none (by omega)]
theorem ovJ_all (old : List UInt8) (a : Nat) (b : List UInt8) : ovJ old a b b.length = over8 old a b := rfl
theorem ovJ_get (old : List UInt8) (a : Nat) (b : List UInt8) (j k : Nat) (hk : k < old.length) : (ovJ old a b j)[k]? = some (if a ≤ k ∧ k < a + j then b.getD (k - a) 0 else old.getD k 0) := by simp [ovJ, hk]
theorem ovJ_succ (old : List UInt8) (a : Nat) (b : List UInt8) (j : Nat) (hj : a + j < old.length) : (ovJ old a b j).set (a + j) (b.getD j 0) = ovJ old a b (j + 1) := by
  apply List.ext_getElem?
  intro k
  by_cases hk : k < old.length
  · rw [List.getElem?_set, ovJ_get old a b (j + 1) k hk]
    by_cases e : a + j = k
    · subst e; rw [if_pos rfl, if_pos (by rw [ovJ_len]; exact hk), if_pos ⟨by omega, by omega⟩, Nat.add_sub_cancel_left]
    · rw [if_neg e, ovJ_get old a b j k hk]
      have : (a ≤ k ∧ k < a + (j + 1)) ↔ (a ≤ k ∧ k < a + j) := by constructor <;> (rintro ⟨x, y⟩; exact ⟨x, by omega⟩)
      simp only [this]
  · rw [List.getElem?_eq_none (by rw [List.length_set, ovJ_len]; omega), List.getElem?_eq_none (by rw [ovJ_len]; omega)]

section
variable {S : Sh} {w w' : World} {p n : Nat} {L : Nat → Prop} {D : Dev}
/-- A byte of a block's firm row. -/
theorem RDs.setFirm (h : RDs S w p L n D) {i k : Nat} (hi : i < n) (hk : k < 256) (x : UInt8) :
    RDs S (w.setCell ⟨S.h i, k, none⟩ (.int .u8 (x.toNat : Int))) p L n { D with firm := D.firm.set i ((D.firm.getD i []).set k x) } := by
  have nb : ∀ y, S.K y ≠ 10 * i + 14 → y ≠ S.h i := fun y hy e => hy (by rw [e]; exact (h.lh i hi).2)
  have hk' : ∀ y, y ≠ S.h i → (w.setCell ⟨S.h i, k, none⟩ (.int .u8 (x.toNat : Int))).heap[y]? = w.heap[y]? := fun y hy => heap_setCell_other _ _ _ _ hy
  refine ⟨⟨h.ok.nl, by simp [h.ok.fl], h.ok.nr, ?_, h.ok.wl, h.ok.fs, h.ok.cs, h.ok.ss⟩, (hk' _ (nb _ (by rw [h.lp.2]; omega))).trans h.hp, h.lp, h.lbn, h.lbf, h.lg, h.lh, h.lq, h.lw, h.sn.keep (hk' _ (nb _ (by rw [h.lbn.2]; omega))), h.sf.keep (hk' _ (nb _ (by rw [h.lbf.2]; omega))),
    fun j hj => (h.rn j hj).keep (hk' _ (nb _ (by rw [(h.lg j hj).2]; omega))), ?_, fun j hj => (h.rq j hj).keep (hk' _ (nb _ (by rw [(h.lq j hj).2]; omega))), own_same h.ww fun b hb => hk' _ (nb _ (by rw [(h.lw b hb).2]; omega)), fun b hb => by rw [World.size_setCell]; exact h.lt b hb⟩
  · intro j hj
    show ((D.firm.set i _).getD j []).length = 256
    rw [getD_set]
    split
    · rw [List.length_set]; exact h.ok.fr i hi
    · exact h.ok.fr j hj
  · intro j hj
    show Row _ (S.h j) ((D.firm.set i _).getD j [])
    rw [getD_set, h.ok.fl]
    by_cases e : j = i
    · subst e; rw [if_pos ⟨rfl, hj⟩]; exact (h.rf j hj).set k (by rw [h.ok.fr j hj]; exact hk) x
    · rw [if_neg (fun hh => e hh.1)]; exact (h.rf j hj).keep (hk' _ (nb _ (by rw [(h.lh j hj).2]; omega)))
/-- A byte of what a block tells. -/
theorem RDs.setNow (h : RDs S w p L n D) {i k : Nat} (hi : i < n) (hk : k < 256) (x : UInt8) :
    RDs S (w.setCell ⟨S.g i, k, none⟩ (.int .u8 (x.toNat : Int))) p L n { D with now := D.now.set i ((D.now.getD i []).set k x) } := by
  have nb : ∀ y, S.K y ≠ 10 * i + 13 → y ≠ S.g i := fun y hy e => hy (by rw [e]; exact (h.lg i hi).2)
  have hk' : ∀ y, y ≠ S.g i → (w.setCell ⟨S.g i, k, none⟩ (.int .u8 (x.toNat : Int))).heap[y]? = w.heap[y]? := fun y hy => heap_setCell_other _ _ _ _ hy
  refine ⟨⟨by simp [h.ok.nl], h.ok.fl, ?_, h.ok.fr, h.ok.wl, h.ok.fs, h.ok.cs, h.ok.ss⟩, (hk' _ (nb _ (by rw [h.lp.2]; omega))).trans h.hp, h.lp, h.lbn, h.lbf, h.lg, h.lh, h.lq, h.lw, h.sn.keep (hk' _ (nb _ (by rw [h.lbn.2]; omega))), h.sf.keep (hk' _ (nb _ (by rw [h.lbf.2]; omega))),
    ?_, fun j hj => (h.rf j hj).keep (hk' _ (nb _ (by rw [(h.lh j hj).2]; omega))), fun j hj => (h.rq j hj).keep (hk' _ (nb _ (by rw [(h.lq j hj).2]; omega))), own_same h.ww fun b hb => hk' _ (nb _ (by rw [(h.lw b hb).2]; omega)), fun b hb => by rw [World.size_setCell]; exact h.lt b hb⟩
  · intro j hj
    show ((D.now.set i _).getD j []).length = 256
    rw [getD_set]
    split
    · rw [List.length_set]; exact h.ok.nr i hi
    · exact h.ok.nr j hj
  · intro j hj
    show Row _ (S.g j) ((D.now.set i _).getD j [])
    rw [getD_set, h.ok.nl]
    by_cases e : j = i
    · subst e; rw [if_pos ⟨rfl, hj⟩]; exact (h.rn j hj).set k (by rw [h.ok.nr j hj]; exact hk) x
    · rw [if_neg (fun hh => e hh.1)]; exact (h.rn j hj).keep (hk' _ (nb _ (by rw [(h.lg j hj).2]; omega)))
end
/-- A slice that is owned, of elements of any size. -/
theorem Rd.of_own1 {w : World} {base e sz n : Nat} {v : Value} {xs : List Value} (h : w.ownsRow base e sz v n xs) : ∃ A c, v = .slice A n c ∧ n ≤ c ∧ (0 < n → ∃ g, A = some ⟨g, 0, none⟩) := by
  obtain ⟨_, hv⟩ := h
  rcases hv with ⟨rfl, rfl⟩ | ⟨g, cap, cur, rfl, _, _, hc, _⟩
  · exact ⟨none, 0, rfl, Nat.le_refl _, fun h => absurd h (Nat.lt_irrefl 0)⟩
  · exact ⟨_, cap, rfl, hc, fun _ => ⟨g, rfl⟩⟩
theorem set_set {α : Type} (l : List α) (i : Nat) (a b : α) : (l.set i a).set i b = l.set i b := by simp
theorem set_get {α : Type} (l : List α) (i : Nat) (d : α) (h : i < l.length) : l.set i (l.getD i d) = l := by
  rw [List.getD_eq_getElem?_getD, List.getElem?_eq_getElem h]; simp
end Go.Proofs.Ytajplflefagbaaa
