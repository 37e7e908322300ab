/-
  The document's device (layer 8): New. (Printed by wip/gen/dknew.py.)
-/
import Derived.Test.YtpepbffhhfgdpaaDkE
namespace Go.Proofs.Ytpepbffhhfgdpaa
open Go Go.RowKit
set_option linter.unusedVariables false
set_option linter.unusedSimpArgs false

/-- 256 noughts, as make lays them. -/
def zrow8 : Array Value := (List.replicate 256 (.int .u8 0)).toArray
theorem zrow8_make (w : World) : (Instr.makeSlice 31 (.int .i64 256) (.int .i64 256)).run Try.prog w = .ok (.slice (some ⟨w.heap.size, 0, none⟩) 256 256) (w.alloc (.cells zrow8 5)) := by
  obtain ⟨i, hi, hz0, hz1, hz2⟩ := info_parts info_b
  have := run_make (P := Try.prog) w 31 5 i _ Try.underlying31 hi hz0 .i64 .i64 256 256 (by omega) (by omega) (by rw [hz2]; decide) (by decide)
  rw [this]
  have e : madeCells (Value.int .u8 0).cells 256 = zrow8 := by
    have := toList_madeCells_one (.int .u8 0) 256
    unfold zrow8
    rw [← this]
    simp [Value.cells]
  simp only [show (256 : Int).toNat = 256 from rfl, hz1, Nat.mul_one]
  rw [e]
theorem info_slb : (Try.prog.info? 31).map (fun i => (i.zero, i.size, i.bytes)) = some (some (.slice none 0 0), 1, 24) := by kernel_rfl
theorem dk_size : (Try.prog.info? 58).map (·.size) = some 7 := by kernel_rfl
def sls (n : Nat) (g cg : Nat → Nat) : List Value := (List.range n).map fun i => .slice (some ⟨g i, 0, none⟩) 256 (cg i)
/-- A device that has a blocks, and b firm ones, so far. -/
structure Pt (B : Nat) (wr : World) (p a b : Nat) (VN VF : Value) (g cg h ch K : Nat → Nat) : Prop where
  hp : wr.heap[p]? = some (.cells #[VN, VF, .slice none 0 0, .int .u64 0, .int .i64 0, .int .i64 (-1), .bool false] 58 (0, 0))
  kp : B ≤ p ∧ K p = 7
  on : wr.ownsRow B 31 1 VN a (sls a g cg)
  of : wr.ownsRow B 31 1 VF b (sls b h ch)
  kn : ∀ x, VN.ownBlock = some x → K x = 1
  kf : ∀ x, VF.ownBlock = some x → K x = 2
  kg : ∀ i, i < a → B ≤ g i ∧ K (g i) = 10 * i + 13
  kh : ∀ i, i < b → B ≤ h i ∧ K (h i) = 10 * i + 14
  rn : ∀ i, i < a → Row wr (g i) zeroB
  rf : ∀ i, i < b → Row wr (h i) zeroB
def PtE (B : Nat) (wr : World) (p a b : Nat) : Prop := ∃ VN VF g cg h ch K, Pt B wr p a b VN VF g cg h ch K
section
variable {B : Nat} {wr w6 : World} {p a b : Nat} {VN VF : Value} {g cg h ch K : Nat → Nat}
theorem Pt.lt (h' : Pt B wr p a b VN VF g cg h ch K) : p < wr.heap.size := (Array.getElem?_eq_some_iff.1 h'.hp).1
theorem Pt.cell (h' : Pt B wr p a b VN VF g cg h ch K) : wr.cell? ⟨p, 0, none⟩ = some VN ∧ wr.cell? ⟨p, 1, none⟩ = some VF := ⟨by rw [cell_of_row _ _ _ _ _ _ h'.hp]; rfl, by rw [cell_of_row _ _ _ _ _ _ h'.hp]; rfl⟩
theorem Pt.two (h' : Pt B wr p a b VN VF g cg h ch K) (w' : World) (hw : w'.heap = wr.heap) (Z Y : Obj) : (w'.alloc Z).heap[p]? = wr.heap[p]? ∧ ((w'.alloc Z).alloc Y).heap[p]? = wr.heap[p]? := by
  have h1 : (w'.alloc Z).heap[p]? = wr.heap[p]? := (heap_alloc_old _ _ (by rw [hw]; exact h'.lt)).trans (by rw [hw])
  exact ⟨h1, (heap_alloc_old _ _ (by rw [World.size_alloc, hw]; exact Nat.lt_succ_of_lt h'.lt)).trans h1⟩
theorem Pt.call_c0 (h' : Pt B wr p a b VN VF g cg h ch K) (w' : World) (Z Y : Obj) (hw : w'.heap = wr.heap := by rfl) : (w'.alloc Z).cell? ⟨p, 0, none⟩ = some VN ∧ ((w'.alloc Z).alloc Y).cell? ⟨p, 0, none⟩ = some VN :=
  ⟨(World.cell?_of_block (w := wr) (h'.two w' hw Z Y).1).trans h'.cell.1, (World.cell?_of_block (w := wr) (h'.two w' hw Z Y).2).trans h'.cell.1⟩
theorem Pt.call_c1 (h' : Pt B wr p a b VN VF g cg h ch K) (w' : World) (Z Y : Obj) (hw : w'.heap = wr.heap := by rfl) : (w'.alloc Z).cell? ⟨p, 1, none⟩ = some VF ∧ ((w'.alloc Z).alloc Y).cell? ⟨p, 1, none⟩ = some VF :=
  ⟨(World.cell?_of_block (w := wr) (h'.two w' hw Z Y).1).trans h'.cell.2, (World.cell?_of_block (w := wr) (h'.two w' hw Z Y).2).trans h'.cell.2⟩
theorem Pt.grown_c0 (h' : Pt B wr p a b VN VF g cg h ch K) (Z Y : Obj) (hg : ((wr.drew.alloc Z).alloc Y).grownBy w6 VN.ownBlock) : w6.cell? ⟨p, 0, none⟩ = some VN ∧ w6.frozen? ⟨p, 0, none⟩ = false := by
  have hp : w6.heap[p]? = wr.heap[p]? := (hg.block p (by rw [World.size_alloc, World.size_alloc]; exact Nat.lt_succ_of_lt (Nat.lt_succ_of_lt h'.lt)) (fun e => by have := h'.kn p e.symm; rw [h'.kp.2] at this; cases this)).trans (h'.two wr.drew rfl Z Y).2
  exact ⟨(World.cell?_of_block (w := wr) hp).trans h'.cell.1, (World.frozen?_of_block (w := wr) hp).trans (frozen_of_row _ _ _ _ _ h'.hp)⟩
theorem Pt.grown_c1 (h' : Pt B wr p a b VN VF g cg h ch K) (Z Y : Obj) (hg : ((wr.drew.alloc Z).alloc Y).grownBy w6 VF.ownBlock) : w6.cell? ⟨p, 1, none⟩ = some VF ∧ w6.frozen? ⟨p, 1, none⟩ = false := by
  have hp : w6.heap[p]? = wr.heap[p]? := (hg.block p (by rw [World.size_alloc, World.size_alloc]; exact Nat.lt_succ_of_lt (Nat.lt_succ_of_lt h'.lt)) (fun e => by have := h'.kf p e.symm; rw [h'.kp.2] at this; cases this)).trans (h'.two wr.drew rfl Z Y).2
  exact ⟨(World.cell?_of_block (w := wr) hp).trans h'.cell.2, (World.frozen?_of_block (w := wr) hp).trans (frozen_of_row _ _ _ _ _ h'.hp)⟩
end
theorem Pt.stepN {B : Nat} {wr w6 : World} {p a b g2 cap : Nat} {VN VF : Value} {g cg h ch K : Nat → Nat} {Y : Obj} (h' : Pt B wr p a b VN VF g cg h ch K) (hBw : B ≤ wr.heap.size)
    (hg : ((wr.drew.alloc (.cells zrow8 5)).alloc Y).grownBy w6 VN.ownBlock) (hw : w6.ownsRow B 31 1 (.slice (some ⟨g2, 0, none⟩) (a + 1) cap) (a + 1) (sls a g cg ++ [.slice (some ⟨wr.heap.size, 0, none⟩) 256 256])) (hat : VN.ownBlock = some g2 ∨ g2 = ((wr.drew.alloc (.cells zrow8 5)).alloc Y).heap.size) :
    Pt B (w6.setCell ⟨p, 0, none⟩ (.slice (some ⟨g2, 0, none⟩) (a + 1) cap)) p (a + 1) b (.slice (some ⟨g2, 0, none⟩) (a + 1) cap) VF (upd g a wr.heap.size) (upd cg a 256) h ch (upd (upd K g2 1) wr.heap.size (10 * a + 13)) := by
  have hs2 : ((wr.drew.alloc (.cells zrow8 5)).alloc Y).heap.size = wr.heap.size + 1 + 1 := by rw [World.size_alloc, World.size_alloc]; rfl
  have hold : ∀ x, x < wr.heap.size → ((wr.drew.alloc (.cells zrow8 5)).alloc Y).heap[x]? = wr.heap[x]? := fun x hx => (heap_alloc_old _ _ (by rw [World.size_alloc]; show x < wr.heap.size + 1; omega)).trans (heap_alloc_old _ _ hx)
  have hrow : Row ((wr.drew.alloc (.cells zrow8 5)).alloc Y) wr.heap.size zeroB := by
    refine ⟨zrow8, (heap_alloc_old _ _ (by rw [World.size_alloc]; exact Nat.lt_succ_self _)).trans (heap_alloc_new wr.drew _), fun j x hj => ?_⟩
    have hl : j < 256 := by have := (List.getElem?_eq_some_iff.1 hj).1; rwa [zeroB_len] at this
    have hx : x = 0 := by unfold zeroB at hj; rw [List.getElem?_replicate, if_pos hl] at hj; exact (Option.some.inj hj).symm
    subst hx
    unfold zrow8
    rw [List.getElem?_toArray, List.getElem?_replicate, if_pos hl]; rfl
  have hpl : p < wr.heap.size := (Array.getElem?_eq_some_iff.1 h'.hp).1
  have hgK : ∀ x, x < wr.heap.size → K x ≠ 1 → x ≠ g2 := fun x hx hk e => by
    rcases hat with ha | ha
    · exact hk (by rw [e]; exact h'.kn _ ha)
    · omega
  have kK : ∀ x, x < wr.heap.size → K x ≠ 1 → upd (upd K g2 1) wr.heap.size (10 * a + 13) x = K x := fun x hx hk => by rw [upd_ne _ _ _ _ (by omega), upd_ne _ _ _ _ (hgK x hx hk)]
  have hgs : g2 ≠ wr.heap.size := fun e => by
    rcases hat with ha | ha
    · have := (h'.on).lt _ ha; omega
    · omega
  have hgp : g2 ≠ p := fun e => hgK p hpl (by rw [h'.kp.2]; decide) e.symm
  have hsp : wr.heap.size ≠ p := by omega
  have hk' : ∀ x, x < wr.heap.size → K x ≠ 7 → K x ≠ 1 → (w6.setCell ⟨p, 0, none⟩ (.slice (some ⟨g2, 0, none⟩) (a + 1) cap)).heap[x]? = wr.heap[x]? := fun x hx h7 h1 =>
    (heap_setCell_other _ _ _ _ (fun e => h7 (by rw [e]; exact h'.kp.2))).trans ((hg.block x (by omega) (fun e => h1 (h'.kn x e.symm))).trans (hold x hx))
  refine ⟨?_, ⟨h'.kp.1, (kK p hpl (by rw [h'.kp.2]; decide)).trans h'.kp.2⟩, ?_, own_same h'.of fun x hx => hk' x ((h'.of).lt x hx).2 (by rw [h'.kf x hx]; decide) (by rw [h'.kf x hx]; decide), ?_, fun x hx => (kK _ ((h'.of).lt x hx).2 (by rw [h'.kf x hx]; decide)).trans (h'.kf x hx), ?_, ?_, ?_, ?_⟩
  · have hp' : w6.heap[p]? = some (.cells #[VN, VF, .slice none 0 0, .int .u64 0, .int .i64 0, .int .i64 (-1), .bool false] 58 (0, 0)) := (hg.block p (by omega) (fun e => by have := h'.kn p e.symm; rw [h'.kp.2] at this; cases this)).trans ((hold p hpl).trans h'.hp)
    exact heap_setCell_same _ _ _ _ _ _ hp'
  · have e2 : sls (a + 1) (upd g a wr.heap.size) (upd cg a 256) = sls a g cg ++ [.slice (some ⟨wr.heap.size, 0, none⟩) 256 256] := by
      unfold sls
      rw [List.range_succ, List.map_append]
      congr 1
      · apply List.map_congr_left
        intro i hi
        have := List.mem_range.1 hi
        rw [upd_ne _ _ _ _ (by omega), upd_ne _ _ _ _ (by omega)]
      · simp [upd_at]
    rw [e2]
    exact own_same hw fun x hx => heap_setCell_other _ _ _ _ (fun e => by
      have hx2 : g2 = x := by simpa [Value.ownBlock] using hx
      exact hgp (hx2.trans e))
  · intro x hx
    have hx2 : g2 = x := by simpa [Value.ownBlock] using hx
    subst hx2
    rw [upd_ne _ _ _ _ hgs, upd_at]
  · intro i hi
    by_cases e : i = a
    · subst e; rw [upd_at, upd_at]; exact ⟨hBw, rfl⟩
    · rw [upd_ne _ _ _ _ e]; exact ⟨(h'.kg i (by omega)).1, (kK _ (h'.rn i (by omega)).lt (by rw [(h'.kg i (by omega)).2]; omega)).trans (h'.kg i (by omega)).2⟩
  · exact fun i hi => ⟨(h'.kh i hi).1, (kK _ (h'.rf i hi).lt (by rw [(h'.kh i hi).2]; omega)).trans (h'.kh i hi).2⟩
  · intro i hi
    by_cases e : i = a
    · subst e; rw [upd_at]; exact hrow.keep ((heap_setCell_other _ _ _ _ hsp).trans (hg.block _ (by rw [hs2]; omega) (fun e => by have := (h'.on).lt _ e.symm; omega)))
    · rw [upd_ne _ _ _ _ e]; exact (h'.rn i (by omega)).keep (hk' _ (h'.rn i (by omega)).lt (by rw [(h'.kg i (by omega)).2]; omega) (by rw [(h'.kg i (by omega)).2]; omega))
  · exact fun i hi => (h'.rf i hi).keep (hk' _ (h'.rf i hi).lt (by rw [(h'.kh i hi).2]; omega) (by rw [(h'.kh i hi).2]; omega))
theorem Pt.stepF {B : Nat} {wr w6 : World} {p a b g2 cap : Nat} {VN VF : Value} {g cg h ch K : Nat → Nat} {Y : Obj} (h' : Pt B wr p a b VN VF g cg h ch K) (hBw : B ≤ wr.heap.size)
    (hg : ((wr.drew.alloc (.cells zrow8 5)).alloc Y).grownBy w6 VF.ownBlock) (hw : w6.ownsRow B 31 1 (.slice (some ⟨g2, 0, none⟩) (b + 1) cap) (b + 1) (sls b h ch ++ [.slice (some ⟨wr.heap.size, 0, none⟩) 256 256])) (hat : VF.ownBlock = some g2 ∨ g2 = ((wr.drew.alloc (.cells zrow8 5)).alloc Y).heap.size) :
    Pt B (w6.setCell ⟨p, 1, none⟩ (.slice (some ⟨g2, 0, none⟩) (b + 1) cap)) p a (b + 1) VN (.slice (some ⟨g2, 0, none⟩) (b + 1) cap) g cg (upd h b wr.heap.size) (upd ch b 256) (upd (upd K g2 2) wr.heap.size (10 * b + 14)) := by
  have hs2 : ((wr.drew.alloc (.cells zrow8 5)).alloc Y).heap.size = wr.heap.size + 1 + 1 := by rw [World.size_alloc, World.size_alloc]; rfl
  have hold : ∀ x, x < wr.heap.size → ((wr.drew.alloc (.cells zrow8 5)).alloc Y).heap[x]? = wr.heap[x]? := fun x hx => (heap_alloc_old _ _ (by rw [World.size_alloc]; show x < wr.heap.size + 1; omega)).trans (heap_alloc_old _ _ hx)
  have hrow : Row ((wr.drew.alloc (.cells zrow8 5)).alloc Y) wr.heap.size zeroB := by
    refine ⟨zrow8, (heap_alloc_old _ _ (by rw [World.size_alloc]; exact Nat.lt_succ_self _)).trans (heap_alloc_new wr.drew _), fun j x hj => ?_⟩
    have hl : j < 256 := by have := (List.getElem?_eq_some_iff.1 hj).1; rwa [zeroB_len] at this
    have hx : x = 0 := by unfold zeroB at hj; rw [List.getElem?_replicate, if_pos hl] at hj; exact (Option.some.inj hj).symm
    subst hx
    unfold zrow8
    rw [List.getElem?_toArray, List.getElem?_replicate, if_pos hl]; rfl
  have hpl : p < wr.heap.size := (Array.getElem?_eq_some_iff.1 h'.hp).1
  have hgK : ∀ x, x < wr.heap.size → K x ≠ 2 → x ≠ g2 := fun x hx hk e => by
    rcases hat with ha | ha
    · exact hk (by rw [e]; exact h'.kf _ ha)
    · omega
  have kK : ∀ x, x < wr.heap.size → K x ≠ 2 → upd (upd K g2 2) wr.heap.size (10 * b + 14) x = K x := fun x hx hk => by rw [upd_ne _ _ _ _ (by omega), upd_ne _ _ _ _ (hgK x hx hk)]
  have hgs : g2 ≠ wr.heap.size := fun e => by
    rcases hat with ha | ha
    · have := (h'.of).lt _ ha; omega
    · omega
  have hgp : g2 ≠ p := fun e => hgK p hpl (by rw [h'.kp.2]; decide) e.symm
  have hsp : wr.heap.size ≠ p := by omega
  have hk' : ∀ x, x < wr.heap.size → K x ≠ 7 → K x ≠ 2 → (w6.setCell ⟨p, 1, none⟩ (.slice (some ⟨g2, 0, none⟩) (b + 1) cap)).heap[x]? = wr.heap[x]? := fun x hx h7 h1 =>
    (heap_setCell_other _ _ _ _ (fun e => h7 (by rw [e]; exact h'.kp.2))).trans ((hg.block x (by omega) (fun e => h1 (h'.kf x e.symm))).trans (hold x hx))
  refine ⟨?_, ⟨h'.kp.1, (kK p hpl (by rw [h'.kp.2]; decide)).trans h'.kp.2⟩, own_same h'.on fun x hx => hk' x ((h'.on).lt x hx).2 (by rw [h'.kn x hx]; decide) (by rw [h'.kn x hx]; decide), ?_, fun x hx => (kK _ ((h'.on).lt x hx).2 (by rw [h'.kn x hx]; decide)).trans (h'.kn x hx), ?_, ?_, ?_, ?_, ?_⟩
  · have hp' : w6.heap[p]? = some (.cells #[VN, VF, .slice none 0 0, .int .u64 0, .int .i64 0, .int .i64 (-1), .bool false] 58 (0, 0)) := (hg.block p (by omega) (fun e => by have := h'.kf p e.symm; rw [h'.kp.2] at this; cases this)).trans ((hold p hpl).trans h'.hp)
    exact heap_setCell_same _ _ _ _ _ _ hp'
  · have e2 : sls (b + 1) (upd h b wr.heap.size) (upd ch b 256) = sls b h ch ++ [.slice (some ⟨wr.heap.size, 0, none⟩) 256 256] := by
      unfold sls
      rw [List.range_succ, List.map_append]
      congr 1
      · apply List.map_congr_left
        intro i hi
        have := List.mem_range.1 hi
        rw [upd_ne _ _ _ _ (by omega), upd_ne _ _ _ _ (by omega)]
      · simp [upd_at]
    rw [e2]
    exact own_same hw fun x hx => heap_setCell_other _ _ _ _ (fun e => by
      have hx2 : g2 = x := by simpa [Value.ownBlock] using hx
      exact hgp (hx2.trans e))
  · intro x hx
    have hx2 : g2 = x := by simpa [Value.ownBlock] using hx
    subst hx2
    rw [upd_ne _ _ _ _ hgs, upd_at]
  · exact fun i hi => ⟨(h'.kg i hi).1, (kK _ (h'.rn i hi).lt (by rw [(h'.kg i hi).2]; omega)).trans (h'.kg i hi).2⟩
  · intro i hi
    by_cases e : i = b
    · subst e; rw [upd_at, upd_at]; exact ⟨hBw, rfl⟩
    · rw [upd_ne _ _ _ _ e]; exact ⟨(h'.kh i (by omega)).1, (kK _ (h'.rf i (by omega)).lt (by rw [(h'.kh i (by omega)).2]; omega)).trans (h'.kh i (by omega)).2⟩
  · exact fun i hi => (h'.rn i hi).keep (hk' _ (h'.rn i hi).lt (by rw [(h'.kg i hi).2]; omega) (by rw [(h'.kg i hi).2]; omega))
  · intro i hi
    by_cases e : i = b
    · subst e; rw [upd_at]; exact hrow.keep ((heap_setCell_other _ _ _ _ hsp).trans (hg.block _ (by rw [hs2]; omega) (fun e => by have := (h'.of).lt _ e.symm; omega)))
    · rw [upd_ne _ _ _ _ e]; exact (h'.rf i (by omega)).keep (hk' _ (h'.rf i (by omega)).lt (by rw [(h'.kh i (by omega)).2]; omega) (by rw [(h'.kh i (by omega)).2]; omega))
theorem sls_at (n : Nat) (g cg : Nat → Nat) (i : Nat) (hi : i < n) : (sls n g cg)[i]? = some (.slice (some ⟨g i, 0, none⟩) 256 (cg i)) := by simp [sls, hi]
/-- All blocks are there: a device. -/
theorem Pt.done {B : Nat} {wr : World} {p n : Nat} {VN VF : Value} {g cg h ch K : Nat → Nat} (h' : Pt B wr p n n VN VF g cg h ch K) (hn : 0 < n) : RD wr p (fun b => B ≤ b ∧ b < wr.heap.size) n (Dev.new n) := by
  have sl : ∀ (V : Value) (g cg : Nat → Nat), wr.ownsRow B 31 1 V n (sls n g cg) → ∃ b c, V = .slice (some ⟨b, 0, none⟩) n c ∧ B ≤ b ∧ b < wr.heap.size ∧ Sl wr b n g cg := by
    intro V g cg ho
    obtain ⟨_, hv⟩ := ho
    rcases hv with ⟨_, h0⟩ | ⟨b, cap, cur, rfl, hb, hh, _, _, _, ht⟩
    · omega
    · refine ⟨b, cap, rfl, hb, (Array.getElem?_eq_some_iff.1 hh).1, cur, hh, fun i hi => ?_⟩
      have h1 := sls_at n g cg i hi
      rw [← ht, List.getElem?_take, if_pos (by omega), Array.getElem?_toList] at h1
      exact h1
  obtain ⟨bn, cn, rfl, b1, b2, s1⟩ := sl VN g cg h'.on
  obtain ⟨bf, cf, rfl, b3, b4, s2⟩ := sl VF h ch h'.of
  refine ⟨⟨bn, cn, bf, cf, .slice none 0 0, g, cg, h, ch, fun _ => 0, fun _ => 0, K⟩, Dev.new_ok n, h'.hp, ⟨⟨h'.kp.1, h'.lt⟩, h'.kp.2⟩, ⟨⟨b1, b2⟩, h'.kn bn rfl⟩, ⟨⟨b3, b4⟩, h'.kf bf rfl⟩, fun i hi => ⟨⟨(h'.kg i hi).1, (h'.rn i hi).lt⟩, (h'.kg i hi).2⟩, fun i hi => ⟨⟨(h'.kh i hi).1, (h'.rf i hi).lt⟩, (h'.kh i hi).2⟩,
    fun k hk => absurd hk (Nat.not_lt_zero _), fun b hb => by simp [Value.ownBlock] at hb, s1, s2, ?_, ?_, fun k hk => absurd hk (Nat.not_lt_zero _), ⟨rfl, .inl ⟨rfl, rfl⟩⟩, fun b hb => hb.2⟩
  · intro i hi; show Row wr (g i) ((List.replicate n zeroB).getD i []); rw [getD_rep _ _ _ _ hi]; exact h'.rn i hi
  · intro i hi; show Row wr (h i) ((List.replicate n zeroB).getD i []); rw [getD_rep _ _ _ _ hi]; exact h'.rf i hi
set_option maxRecDepth 100000 in
set_option maxHeartbeats 16000000 in
theorem rdnew_any (w : World) (n : Nat) (h8 : 0 < n) (hn : n ≤ 100000) :
    Calls Try.prog 12 #[.int .i64 (n : Int)] w fun e w' => ∃ p, e = .returned (.pointer (some ⟨p, 0, none⟩)) ∧ RD w' p (fun b => w.heap.size ≤ b ∧ b < w'.heap.size) n (Dev.new n) ∧ Below w.heap.size w w' := by
  obtain ⟨j0, hi, hz0, hz1, hz2⟩ := info_parts info_slb
  go_enter Try.func12, Try.ntmps12
  go_upto_region 2 with fail
  have hP0 : PtE w.heap.size (w.alloc (.cells #[.slice none 0 0, .slice none 0 0, .slice none 0 0, .int .u64 0, .int .i64 0, .int .i64 (-1), .bool false] 58)) w.heap.size 0 0 :=
    ⟨.slice none 0 0, .slice none 0 0, fun _ => 0, fun _ => 0, fun _ => 0, fun _ => 0, fun _ => 7, heap_alloc_new w _, ⟨Nat.le_refl _, rfl⟩, ⟨rfl, .inl ⟨rfl, rfl⟩⟩, ⟨rfl, .inl ⟨rfl, rfl⟩⟩, fun x hx => by simp [Value.ownBlock] at hx, fun x hx => by simp [Value.ownBlock] at hx, fun i hi => absurd hi (Nat.not_lt_zero _), fun i hi => absurd hi (Nat.not_lt_zero _), fun i hi => absurd hi (Nat.not_lt_zero _), fun i hi => absurd hi (Nat.not_lt_zero _)⟩
  have hb0 : Below w.heap.size w (w.alloc (.cells #[.slice none 0 0, .slice none 0 0, .slice none 0 0, .int .u64 0, .int .i64 0, .int .i64 (-1), .bool false] 58)) := (Below.refl _ _).alloc (Nat.le_refl _) _
  generalize w.alloc (.cells #[.slice none 0 0, .slice none 0 0, .slice none 0 0, .int .u64 0, .int .i64 0, .int .i64 (-1), .bool false] 58) = w0 at *
  obtain ⟨p, hpp⟩ : ∃ p, p = w.heap.size := ⟨_, rfl⟩
  have hP0 : PtE w.heap.size w0 p 0 0 := by rw [hpp]; exact hP0
  rw [← hpp]
  have HPP := Lib.hid hpp; clear hpp
  have H0 := Lib.hid (And.intro hP0 hb0); clear hP0 hb0
  go_wp2_with fail
  go_loopw [4] (fun i wr => ∃ j : Nat, j ≤ n ∧ i = .int .i64 j ∧ PtE w.heap.size wr p j j ∧ Below w.heap.size w wr) (fun i _ => n - (intOf i).toNat)
  case atStart => exact ⟨0, Nat.zero_le _, rfl, H0.out⟩
  case round =>
    rename World => wr
    obtain ⟨j, hj, rfl, hpt, hb⟩ := hrel
    clear H0
    try clear w0
    have HB := Lib.hid hb
    have hsz := hb.size; clear hb
    by_cases hlt : j < n
    · have hji : (j : Int) < (n : Int) := by omega
      obtain ⟨VN, VF, g, cg, hh, ch, K, hpt⟩ := hpt
      have HP := Lib.hid hpt; clear hpt
      have hc0 := HP.out.cell.1
      go_upto_region 5 with fail
      go_cut [3] (fun s3 wx => s3 = .pointer (some ⟨p, 0, none⟩) ∧ PtE w.heap.size wx p (j + 1) j ∧ Below w.heap.size w wx)
      case first =>
        refine wp_region_noPanic ?_
        refine wp_region_held_drew (S := (fun _ => True)) (by kernel_rfl) ?_ (fun hHeld => ?_)
        · trivial
        refine wpAnyH_take (i := 0) (v := ?_) rfl (by kernel_rfl) (by kernel_rfl) (by kernel_rfl) (fun _ _ _ h => h) (Or.inl ⟨by rfl, ?_⟩) hHeld ?_
        rotate_left
        · intro w' hSw
          (try dsimp only at hSw)
          go_simp
          try with_reducible rfl
        try simp only [Act.put, zq1, zq2, zq3, zq4, zq5, zq6]
        refine wpAnyH_ready (rs := [1, 2]) (by kernel_rfl) (by simp) ?_
        refine AllReadyH.cons rfl (fun K hK => ?_) (AllReadyH.cons rfl (fun K hK => ?_) (AllReadyH.nil))
        · try simp only [zq1, zq2, zq3]
          have hcl := hc0
          go_simp
          clear hcl
          refine hK.out _ _ ?_ (fun hHeld => ?_)
          · trivial
          clear hK K
          try simp only [Act.put, zq1, zq2, zq3, zq4, zq5, zq6]
          refine wpAnyH_ready (rs := [2]) (by kernel_rfl) (by simp) ?_
          refine AllReadyH.cons rfl (fun K hK => ?_) (AllReadyH.nil)
          try simp only [zq1, zq2, zq3]
          have qm := fun W : World => zrow8_make W
          go_simp
          clear qm
          have hc1 := (HP.out.call_c0 wr (.cells zrow8 5) (.cells #[.slice (some ⟨wr.heap.size, 0, none⟩) 256 256] 31)).1
          refine hK.out _ _ ?_ (fun hHeld => ?_)
          · trivial
          clear hK K
          try simp only [Act.put, zq1, zq2, zq3, zq4, zq5, zq6]
          refine wpAnyH_ready (rs := [3]) (by kernel_rfl) (by simp) ?_
          refine AllReadyH.cons rfl (fun K hK => ?_) (AllReadyH.nil)
          try simp only [zq1, zq2, zq3]
          go_simp
          have hc2 := (HP.out.call_c0 wr (.cells zrow8 5) (.cells #[.slice (some ⟨wr.heap.size, 0, none⟩) 256 256] 31)).2
          refine hK.out _ _ ?_ (fun hHeld => ?_)
          · trivial
          clear hK K
          try simp only [Act.put, zq1, zq2, zq3, zq4, zq5, zq6]
          refine wpAnyH_ready (rs := [4]) (by kernel_rfl) (by simp) ?_
          refine AllReadyH.cons rfl (fun K hK => ?_) (AllReadyH.nil)
          refine step_append_lies _ (by rfl) _ _ _ (by rfl) w.heap.size 31 j0 _ 1 24 Try.underlying23 hi hz0 hz1 hz2 rfl (by omega) VN j (sls j g cg) (by rfl) (by exact ((HP.out.on).alloc (w := wr.drew) (.cells zrow8 5)).alloc (.cells #[.slice (some ⟨wr.heap.size, 0, none⟩) 256 256] 31)) ⟨wr.heap.size + 1, 0, none⟩ 1 1 [.slice (some ⟨wr.heap.size, 0, none⟩) 256 256] (by rfl) (by rfl) (World.news_of_block (t := 31) (fr := (0, 0)) (by have h := heap_alloc_new (wr.drew.alloc (.cells zrow8 5)) (.cells #[.slice (some ⟨wr.heap.size, 0, none⟩) 256 256] 31); rw [World.size_alloc] at h; exact h)) (by simp [Value.oneCell']) (by omega) (by unfold maxLen; omega) (by omega) (by simp; omega) _ (by rfl) ?_
          intro g2 cap2 w6 hown6 hgrow6 hat6 hlt6
          obtain ⟨hc6, hf6⟩ := HP.out.grown_c0 (.cells zrow8 5) (.cells #[.slice (some ⟨wr.heap.size, 0, none⟩) 256 256] 31) hgrow6
          refine hK.out _ _ ?_ (fun hHeld => ?_)
          · trivial
          clear hK K
          try simp only [Act.put, zq1, zq2, zq3, zq4, zq5, zq6]
          refine wpAnyH_take (i := 5) (v := ?_) rfl (by kernel_rfl) (by kernel_rfl) (by kernel_rfl) (fun _ _ _ h => h) (Or.inl ⟨by rfl, ?_⟩) hHeld ?_
          rotate_left
          · intro w' hSw
            (try dsimp only at hSw)
            go_simp
            try with_reducible rfl
          try simp only [Act.put, zq1, zq2, zq3, zq4, zq5, zq6]
          refine wpAnyH_ready (rs := [6]) (by kernel_rfl) (by simp) ?_
          refine AllReadyH.cons rfl (fun K hK => ?_) (AllReadyH.nil)
          try simp only [zq1, zq2, zq3]
          have hcl := hc6
          have hfl := hf6
          go_simp
          clear hcl hfl
          refine hK.out _ _ ?_ (fun hHeld => ?_)
          · trivial
          clear hK K
          try simp only [Act.put, zq1, zq2, zq3, zq4, zq5, zq6]
          refine wpAnyH_done (by kernel_rfl) ?_ _
          refine NoPanic.normal ?_
          have h5' := HP.out.stepN hsz hgrow6 hown6 hat6
          have hb5 : Below w.heap.size w (w6.setCell ⟨p, 0, none⟩ (.slice (some ⟨g2, 0, none⟩) (j + 1) cap2)) := (((HB.out.drew.alloc hsz (.cells zrow8 5)).alloc (by rw [World.size_alloc]; exact Nat.le_succ_of_le hsz) _).grown hgrow6 (by simp only [World.size_alloc]; exact Nat.le_trans hsz (by show wr.heap.size ≤ wr.heap.size + 1 + 1; omega)) (fun k hk => ((HP.out.on).lt k hk).1)).setCell (p := ⟨p, 0, none⟩) HP.out.kp.1 _
          clear hown6 hgrow6 hat6 hc6 hf6
          generalize w6.setCell ⟨p, 0, none⟩ (.slice (some ⟨g2, 0, none⟩) (j + 1) cap2) = w5 at *
          go_wp2_with fail
          go_meet
          exact ⟨rfl, ⟨_, _, _, _, _, _, _, h5'⟩, hb5⟩
        · try simp only [zq1, zq2, zq3]
          have qm := fun W : World => zrow8_make W
          go_simp
          clear qm
          have hc1 := (HP.out.call_c0 wr (.cells zrow8 5) (.cells #[.slice (some ⟨wr.heap.size, 0, none⟩) 256 256] 31)).1
          refine hK.out _ _ ?_ (fun hHeld => ?_)
          · trivial
          clear hK K
          try simp only [Act.put, zq1, zq2, zq3, zq4, zq5, zq6]
          refine wpAnyH_ready (rs := [1, 3]) (by kernel_rfl) (by simp) ?_
          refine AllReadyH.cons rfl (fun K hK => ?_) (AllReadyH.cons rfl (fun K hK => ?_) (AllReadyH.nil))
          · try simp only [zq1, zq2, zq3]
            have hcl := hc1
            go_simp
            clear hcl
            refine hK.out _ _ ?_ (fun hHeld => ?_)
            · trivial
            clear hK K
            try simp only [Act.put, zq1, zq2, zq3, zq4, zq5, zq6]
            refine wpAnyH_ready (rs := [3]) (by kernel_rfl) (by simp) ?_
            refine AllReadyH.cons rfl (fun K hK => ?_) (AllReadyH.nil)
            try simp only [zq1, zq2, zq3]
            go_simp
            have hc2 := (HP.out.call_c0 wr (.cells zrow8 5) (.cells #[.slice (some ⟨wr.heap.size, 0, none⟩) 256 256] 31)).2
            refine hK.out _ _ ?_ (fun hHeld => ?_)
            · trivial
            clear hK K
            try simp only [Act.put, zq1, zq2, zq3, zq4, zq5, zq6]
            refine wpAnyH_ready (rs := [4]) (by kernel_rfl) (by simp) ?_
            refine AllReadyH.cons rfl (fun K hK => ?_) (AllReadyH.nil)
            refine step_append_lies _ (by rfl) _ _ _ (by rfl) w.heap.size 31 j0 _ 1 24 Try.underlying23 hi hz0 hz1 hz2 rfl (by omega) VN j (sls j g cg) (by rfl) (by exact ((HP.out.on).alloc (w := wr.drew) (.cells zrow8 5)).alloc (.cells #[.slice (some ⟨wr.heap.size, 0, none⟩) 256 256] 31)) ⟨wr.heap.size + 1, 0, none⟩ 1 1 [.slice (some ⟨wr.heap.size, 0, none⟩) 256 256] (by rfl) (by rfl) (World.news_of_block (t := 31) (fr := (0, 0)) (by have h := heap_alloc_new (wr.drew.alloc (.cells zrow8 5)) (.cells #[.slice (some ⟨wr.heap.size, 0, none⟩) 256 256] 31); rw [World.size_alloc] at h; exact h)) (by simp [Value.oneCell']) (by omega) (by unfold maxLen; omega) (by omega) (by simp; omega) _ (by rfl) ?_
            intro g2 cap2 w6 hown6 hgrow6 hat6 hlt6
            obtain ⟨hc6, hf6⟩ := HP.out.grown_c0 (.cells zrow8 5) (.cells #[.slice (some ⟨wr.heap.size, 0, none⟩) 256 256] 31) hgrow6
            refine hK.out _ _ ?_ (fun hHeld => ?_)
            · trivial
            clear hK K
            try simp only [Act.put, zq1, zq2, zq3, zq4, zq5, zq6]
            refine wpAnyH_take (i := 5) (v := ?_) rfl (by kernel_rfl) (by kernel_rfl) (by kernel_rfl) (fun _ _ _ h => h) (Or.inl ⟨by rfl, ?_⟩) hHeld ?_
            rotate_left
            · intro w' hSw
              (try dsimp only at hSw)
              go_simp
              try with_reducible rfl
            try simp only [Act.put, zq1, zq2, zq3, zq4, zq5, zq6]
            refine wpAnyH_ready (rs := [6]) (by kernel_rfl) (by simp) ?_
            refine AllReadyH.cons rfl (fun K hK => ?_) (AllReadyH.nil)
            try simp only [zq1, zq2, zq3]
            have hcl := hc6
            have hfl := hf6
            go_simp
            clear hcl hfl
            refine hK.out _ _ ?_ (fun hHeld => ?_)
            · trivial
            clear hK K
            try simp only [Act.put, zq1, zq2, zq3, zq4, zq5, zq6]
            refine wpAnyH_done (by kernel_rfl) ?_ _
            refine NoPanic.normal ?_
            have h5' := HP.out.stepN hsz hgrow6 hown6 hat6
            have hb5 : Below w.heap.size w (w6.setCell ⟨p, 0, none⟩ (.slice (some ⟨g2, 0, none⟩) (j + 1) cap2)) := (((HB.out.drew.alloc hsz (.cells zrow8 5)).alloc (by rw [World.size_alloc]; exact Nat.le_succ_of_le hsz) _).grown hgrow6 (by simp only [World.size_alloc]; exact Nat.le_trans hsz (by show wr.heap.size ≤ wr.heap.size + 1 + 1; omega)) (fun k hk => ((HP.out.on).lt k hk).1)).setCell (p := ⟨p, 0, none⟩) HP.out.kp.1 _
            clear hown6 hgrow6 hat6 hc6 hf6
            generalize w6.setCell ⟨p, 0, none⟩ (.slice (some ⟨g2, 0, none⟩) (j + 1) cap2) = w5 at *
            go_wp2_with fail
            go_meet
            exact ⟨rfl, ⟨_, _, _, _, _, _, _, h5'⟩, hb5⟩
          · try simp only [zq1, zq2, zq3]
            go_simp
            have hc2 := (HP.out.call_c0 wr (.cells zrow8 5) (.cells #[.slice (some ⟨wr.heap.size, 0, none⟩) 256 256] 31)).2
            refine hK.out _ _ ?_ (fun hHeld => ?_)
            · trivial
            clear hK K
            try simp only [Act.put, zq1, zq2, zq3, zq4, zq5, zq6]
            refine wpAnyH_ready (rs := [1]) (by kernel_rfl) (by simp) ?_
            refine AllReadyH.cons rfl (fun K hK => ?_) (AllReadyH.nil)
            try simp only [zq1, zq2, zq3]
            have hcl := hc2
            go_simp
            clear hcl
            refine hK.out _ _ ?_ (fun hHeld => ?_)
            · trivial
            clear hK K
            try simp only [Act.put, zq1, zq2, zq3, zq4, zq5, zq6]
            refine wpAnyH_ready (rs := [4]) (by kernel_rfl) (by simp) ?_
            refine AllReadyH.cons rfl (fun K hK => ?_) (AllReadyH.nil)
            refine step_append_lies _ (by rfl) _ _ _ (by rfl) w.heap.size 31 j0 _ 1 24 Try.underlying23 hi hz0 hz1 hz2 rfl (by omega) VN j (sls j g cg) (by rfl) (by exact ((HP.out.on).alloc (w := wr.drew) (.cells zrow8 5)).alloc (.cells #[.slice (some ⟨wr.heap.size, 0, none⟩) 256 256] 31)) ⟨wr.heap.size + 1, 0, none⟩ 1 1 [.slice (some ⟨wr.heap.size, 0, none⟩) 256 256] (by rfl) (by rfl) (World.news_of_block (t := 31) (fr := (0, 0)) (by have h := heap_alloc_new (wr.drew.alloc (.cells zrow8 5)) (.cells #[.slice (some ⟨wr.heap.size, 0, none⟩) 256 256] 31); rw [World.size_alloc] at h; exact h)) (by simp [Value.oneCell']) (by omega) (by unfold maxLen; omega) (by omega) (by simp; omega) _ (by rfl) ?_
            intro g2 cap2 w6 hown6 hgrow6 hat6 hlt6
            obtain ⟨hc6, hf6⟩ := HP.out.grown_c0 (.cells zrow8 5) (.cells #[.slice (some ⟨wr.heap.size, 0, none⟩) 256 256] 31) hgrow6
            refine hK.out _ _ ?_ (fun hHeld => ?_)
            · trivial
            clear hK K
            try simp only [Act.put, zq1, zq2, zq3, zq4, zq5, zq6]
            refine wpAnyH_take (i := 5) (v := ?_) rfl (by kernel_rfl) (by kernel_rfl) (by kernel_rfl) (fun _ _ _ h => h) (Or.inl ⟨by rfl, ?_⟩) hHeld ?_
            rotate_left
            · intro w' hSw
              (try dsimp only at hSw)
              go_simp
              try with_reducible rfl
            try simp only [Act.put, zq1, zq2, zq3, zq4, zq5, zq6]
            refine wpAnyH_ready (rs := [6]) (by kernel_rfl) (by simp) ?_
            refine AllReadyH.cons rfl (fun K hK => ?_) (AllReadyH.nil)
            try simp only [zq1, zq2, zq3]
            have hcl := hc6
            have hfl := hf6
            go_simp
            clear hcl hfl
            refine hK.out _ _ ?_ (fun hHeld => ?_)
            · trivial
            clear hK K
            try simp only [Act.put, zq1, zq2, zq3, zq4, zq5, zq6]
            refine wpAnyH_done (by kernel_rfl) ?_ _
            refine NoPanic.normal ?_
            have h5' := HP.out.stepN hsz hgrow6 hown6 hat6
            have hb5 : Below w.heap.size w (w6.setCell ⟨p, 0, none⟩ (.slice (some ⟨g2, 0, none⟩) (j + 1) cap2)) := (((HB.out.drew.alloc hsz (.cells zrow8 5)).alloc (by rw [World.size_alloc]; exact Nat.le_succ_of_le hsz) _).grown hgrow6 (by simp only [World.size_alloc]; exact Nat.le_trans hsz (by show wr.heap.size ≤ wr.heap.size + 1 + 1; omega)) (fun k hk => ((HP.out.on).lt k hk).1)).setCell (p := ⟨p, 0, none⟩) HP.out.kp.1 _
            clear hown6 hgrow6 hat6 hc6 hf6
            generalize w6.setCell ⟨p, 0, none⟩ (.slice (some ⟨g2, 0, none⟩) (j + 1) cap2) = w5 at *
            go_wp2_with fail
            go_meet
            exact ⟨rfl, ⟨_, _, _, _, _, _, _, h5'⟩, hb5⟩
      case rest =>
        obtain ⟨rfl, hpt5, hb5⟩ := hcut
        clear HP hc0 HB hsz
        try clear wr
        obtain ⟨VN5, VF5, g5, cg5, hh5, ch5, K5, hpt5⟩ := hpt5
        obtain ⟨w5, hw5⟩ : ∃ w5 : World, w5 = wc := ⟨_, rfl⟩
        rw [← hw5] at hpt5 hb5
        rw [← hw5]
        clear hw5
        have HP5 := Lib.hid hpt5; clear hpt5
        have HB5 := Lib.hid hb5
        have hsz := hb5.size; clear hb5
        have hc0 := HP5.out.cell.2
        go_upto_region 6 with fail
        refine wp_region_noPanic ?_
        refine wp_region_held_drew (S := (fun _ => True)) (by kernel_rfl) ?_ (fun hHeld => ?_)
        · trivial
        refine wpAnyH_take (i := 0) (v := ?_) rfl (by kernel_rfl) (by kernel_rfl) (by kernel_rfl) (fun _ _ _ h => h) (Or.inl ⟨by rfl, ?_⟩) hHeld ?_
        rotate_left
        · intro w' hSw
          (try dsimp only at hSw)
          go_simp
          try with_reducible rfl
        try simp only [Act.put, zq1, zq2, zq3, zq4, zq5, zq6]
        refine wpAnyH_ready (rs := [1, 2]) (by kernel_rfl) (by simp) ?_
        refine AllReadyH.cons rfl (fun K hK => ?_) (AllReadyH.cons rfl (fun K hK => ?_) (AllReadyH.nil))
        · try simp only [zq1, zq2, zq3]
          have hcl := hc0
          go_simp
          clear hcl
          refine hK.out _ _ ?_ (fun hHeld => ?_)
          · trivial
          clear hK K
          try simp only [Act.put, zq1, zq2, zq3, zq4, zq5, zq6]
          refine wpAnyH_ready (rs := [2]) (by kernel_rfl) (by simp) ?_
          refine AllReadyH.cons rfl (fun K hK => ?_) (AllReadyH.nil)
          try simp only [zq1, zq2, zq3]
          have qm := fun W : World => zrow8_make W
          go_simp
          clear qm
          have hc1 := (HP5.out.call_c1 w5 (.cells zrow8 5) (.cells #[.slice (some ⟨w5.heap.size, 0, none⟩) 256 256] 31)).1
          refine hK.out _ _ ?_ (fun hHeld => ?_)
          · trivial
          clear hK K
          try simp only [Act.put, zq1, zq2, zq3, zq4, zq5, zq6]
          refine wpAnyH_ready (rs := [3]) (by kernel_rfl) (by simp) ?_
          refine AllReadyH.cons rfl (fun K hK => ?_) (AllReadyH.nil)
          try simp only [zq1, zq2, zq3]
          go_simp
          have hc2 := (HP5.out.call_c1 w5 (.cells zrow8 5) (.cells #[.slice (some ⟨w5.heap.size, 0, none⟩) 256 256] 31)).2
          refine hK.out _ _ ?_ (fun hHeld => ?_)
          · trivial
          clear hK K
          try simp only [Act.put, zq1, zq2, zq3, zq4, zq5, zq6]
          refine wpAnyH_ready (rs := [4]) (by kernel_rfl) (by simp) ?_
          refine AllReadyH.cons rfl (fun K hK => ?_) (AllReadyH.nil)
          refine step_append_lies _ (by rfl) _ _ _ (by rfl) w.heap.size 31 j0 _ 1 24 Try.underlying23 hi hz0 hz1 hz2 rfl (by omega) VF5 j (sls j hh5 ch5) (by rfl) (by exact ((HP5.out.of).alloc (w := w5.drew) (.cells zrow8 5)).alloc (.cells #[.slice (some ⟨w5.heap.size, 0, none⟩) 256 256] 31)) ⟨w5.heap.size + 1, 0, none⟩ 1 1 [.slice (some ⟨w5.heap.size, 0, none⟩) 256 256] (by rfl) (by rfl) (World.news_of_block (t := 31) (fr := (0, 0)) (by have h := heap_alloc_new (w5.drew.alloc (.cells zrow8 5)) (.cells #[.slice (some ⟨w5.heap.size, 0, none⟩) 256 256] 31); rw [World.size_alloc] at h; exact h)) (by simp [Value.oneCell']) (by omega) (by unfold maxLen; omega) (by omega) (by simp; omega) _ (by rfl) ?_
          intro g2 cap2 w6 hown6 hgrow6 hat6 hlt6
          obtain ⟨hc6, hf6⟩ := HP5.out.grown_c1 (.cells zrow8 5) (.cells #[.slice (some ⟨w5.heap.size, 0, none⟩) 256 256] 31) hgrow6
          refine hK.out _ _ ?_ (fun hHeld => ?_)
          · trivial
          clear hK K
          try simp only [Act.put, zq1, zq2, zq3, zq4, zq5, zq6]
          refine wpAnyH_take (i := 5) (v := ?_) rfl (by kernel_rfl) (by kernel_rfl) (by kernel_rfl) (fun _ _ _ h => h) (Or.inl ⟨by rfl, ?_⟩) hHeld ?_
          rotate_left
          · intro w' hSw
            (try dsimp only at hSw)
            go_simp
            try with_reducible rfl
          try simp only [Act.put, zq1, zq2, zq3, zq4, zq5, zq6]
          refine wpAnyH_ready (rs := [6]) (by kernel_rfl) (by simp) ?_
          refine AllReadyH.cons rfl (fun K hK => ?_) (AllReadyH.nil)
          try simp only [zq1, zq2, zq3]
          have hcl := hc6
          have hfl := hf6
          go_simp
          clear hcl hfl
          refine hK.out _ _ ?_ (fun hHeld => ?_)
          · trivial
          clear hK K
          try simp only [Act.put, zq1, zq2, zq3, zq4, zq5, zq6]
          refine wpAnyH_done (by kernel_rfl) ?_ _
          refine NoPanic.normal ?_
          have h6' := HP5.out.stepF (K := K5) hsz hgrow6 hown6 hat6
          have hb6 : Below w.heap.size w (w6.setCell ⟨p, 1, none⟩ (.slice (some ⟨g2, 0, none⟩) (j + 1) cap2)) := (((HB5.out.drew.alloc hsz (.cells zrow8 5)).alloc (by rw [World.size_alloc]; exact Nat.le_succ_of_le hsz) _).grown hgrow6 (by simp only [World.size_alloc]; exact Nat.le_trans hsz (by show w5.heap.size ≤ w5.heap.size + 1 + 1; omega)) (fun k hk => ((HP5.out.of).lt k hk).1)).setCell (p := ⟨p, 1, none⟩) HP5.out.kp.1 _
          have HF := Lib.hid (And.intro h6' hb6); clear h6' hb6 hown6 hgrow6 hat6 hc6 hf6
          generalize w6.setCell ⟨p, 1, none⟩ (.slice (some ⟨g2, 0, none⟩) (j + 1) cap2) = w7 at *
          go_wp2_with fail
          go_roundw
          case rel => exact ⟨j + 1, by omega, by go_num, ⟨_, _, _, _, _, _, _, HF.out.1⟩, HF.out.2⟩
          case measure => simp [intOf]; omega
        · try simp only [zq1, zq2, zq3]
          have qm := fun W : World => zrow8_make W
          go_simp
          clear qm
          have hc1 := (HP5.out.call_c1 w5 (.cells zrow8 5) (.cells #[.slice (some ⟨w5.heap.size, 0, none⟩) 256 256] 31)).1
          refine hK.out _ _ ?_ (fun hHeld => ?_)
          · trivial
          clear hK K
          try simp only [Act.put, zq1, zq2, zq3, zq4, zq5, zq6]
          refine wpAnyH_ready (rs := [1, 3]) (by kernel_rfl) (by simp) ?_
          refine AllReadyH.cons rfl (fun K hK => ?_) (AllReadyH.cons rfl (fun K hK => ?_) (AllReadyH.nil))
          · try simp only [zq1, zq2, zq3]
            have hcl := hc1
            go_simp
            clear hcl
            refine hK.out _ _ ?_ (fun hHeld => ?_)
            · trivial
            clear hK K
            try simp only [Act.put, zq1, zq2, zq3, zq4, zq5, zq6]
            refine wpAnyH_ready (rs := [3]) (by kernel_rfl) (by simp) ?_
            refine AllReadyH.cons rfl (fun K hK => ?_) (AllReadyH.nil)
            try simp only [zq1, zq2, zq3]
            go_simp
            have hc2 := (HP5.out.call_c1 w5 (.cells zrow8 5) (.cells #[.slice (some ⟨w5.heap.size, 0, none⟩) 256 256] 31)).2
            refine hK.out _ _ ?_ (fun hHeld => ?_)
            · trivial
            clear hK K
            try simp only [Act.put, zq1, zq2, zq3, zq4, zq5, zq6]
            refine wpAnyH_ready (rs := [4]) (by kernel_rfl) (by simp) ?_
            refine AllReadyH.cons rfl (fun K hK => ?_) (AllReadyH.nil)
            refine step_append_lies _ (by rfl) _ _ _ (by rfl) w.heap.size 31 j0 _ 1 24 Try.underlying23 hi hz0 hz1 hz2 rfl (by omega) VF5 j (sls j hh5 ch5) (by rfl) (by exact ((HP5.out.of).alloc (w := w5.drew) (.cells zrow8 5)).alloc (.cells #[.slice (some ⟨w5.heap.size, 0, none⟩) 256 256] 31)) ⟨w5.heap.size + 1, 0, none⟩ 1 1 [.slice (some ⟨w5.heap.size, 0, none⟩) 256 256] (by rfl) (by rfl) (World.news_of_block (t := 31) (fr := (0, 0)) (by have h := heap_alloc_new (w5.drew.alloc (.cells zrow8 5)) (.cells #[.slice (some ⟨w5.heap.size, 0, none⟩) 256 256] 31); rw [World.size_alloc] at h; exact h)) (by simp [Value.oneCell']) (by omega) (by unfold maxLen; omega) (by omega) (by simp; omega) _ (by rfl) ?_
            intro g2 cap2 w6 hown6 hgrow6 hat6 hlt6
            obtain ⟨hc6, hf6⟩ := HP5.out.grown_c1 (.cells zrow8 5) (.cells #[.slice (some ⟨w5.heap.size, 0, none⟩) 256 256] 31) hgrow6
            refine hK.out _ _ ?_ (fun hHeld => ?_)
            · trivial
            clear hK K
            try simp only [Act.put, zq1, zq2, zq3, zq4, zq5, zq6]
            refine wpAnyH_take (i := 5) (v := ?_) rfl (by kernel_rfl) (by kernel_rfl) (by kernel_rfl) (fun _ _ _ h => h) (Or.inl ⟨by rfl, ?_⟩) hHeld ?_
            rotate_left
            · intro w' hSw
              (try dsimp only at hSw)
              go_simp
              try with_reducible rfl
            try simp only [Act.put, zq1, zq2, zq3, zq4, zq5, zq6]
            refine wpAnyH_ready (rs := [6]) (by kernel_rfl) (by simp) ?_
            refine AllReadyH.cons rfl (fun K hK => ?_) (AllReadyH.nil)
            try simp only [zq1, zq2, zq3]
            have hcl := hc6
            have hfl := hf6
            go_simp
            clear hcl hfl
            refine hK.out _ _ ?_ (fun hHeld => ?_)
            · trivial
            clear hK K
            try simp only [Act.put, zq1, zq2, zq3, zq4, zq5, zq6]
            refine wpAnyH_done (by kernel_rfl) ?_ _
            refine NoPanic.normal ?_
            have h6' := HP5.out.stepF (K := K5) hsz hgrow6 hown6 hat6
            have hb6 : Below w.heap.size w (w6.setCell ⟨p, 1, none⟩ (.slice (some ⟨g2, 0, none⟩) (j + 1) cap2)) := (((HB5.out.drew.alloc hsz (.cells zrow8 5)).alloc (by rw [World.size_alloc]; exact Nat.le_succ_of_le hsz) _).grown hgrow6 (by simp only [World.size_alloc]; exact Nat.le_trans hsz (by show w5.heap.size ≤ w5.heap.size + 1 + 1; omega)) (fun k hk => ((HP5.out.of).lt k hk).1)).setCell (p := ⟨p, 1, none⟩) HP5.out.kp.1 _
            have HF := Lib.hid (And.intro h6' hb6); clear h6' hb6 hown6 hgrow6 hat6 hc6 hf6
            generalize w6.setCell ⟨p, 1, none⟩ (.slice (some ⟨g2, 0, none⟩) (j + 1) cap2) = w7 at *
            go_wp2_with fail
            go_roundw
            case rel => exact ⟨j + 1, by omega, by go_num, ⟨_, _, _, _, _, _, _, HF.out.1⟩, HF.out.2⟩
            case measure => simp [intOf]; omega
          · try simp only [zq1, zq2, zq3]
            go_simp
            have hc2 := (HP5.out.call_c1 w5 (.cells zrow8 5) (.cells #[.slice (some ⟨w5.heap.size, 0, none⟩) 256 256] 31)).2
            refine hK.out _ _ ?_ (fun hHeld => ?_)
            · trivial
            clear hK K
            try simp only [Act.put, zq1, zq2, zq3, zq4, zq5, zq6]
            refine wpAnyH_ready (rs := [1]) (by kernel_rfl) (by simp) ?_
            refine AllReadyH.cons rfl (fun K hK => ?_) (AllReadyH.nil)
            try simp only [zq1, zq2, zq3]
            have hcl := hc2
            go_simp
            clear hcl
            refine hK.out _ _ ?_ (fun hHeld => ?_)
            · trivial
            clear hK K
            try simp only [Act.put, zq1, zq2, zq3, zq4, zq5, zq6]
            refine wpAnyH_ready (rs := [4]) (by kernel_rfl) (by simp) ?_
            refine AllReadyH.cons rfl (fun K hK => ?_) (AllReadyH.nil)
            refine step_append_lies _ (by rfl) _ _ _ (by rfl) w.heap.size 31 j0 _ 1 24 Try.underlying23 hi hz0 hz1 hz2 rfl (by omega) VF5 j (sls j hh5 ch5) (by rfl) (by exact ((HP5.out.of).alloc (w := w5.drew) (.cells zrow8 5)).alloc (.cells #[.slice (some ⟨w5.heap.size, 0, none⟩) 256 256] 31)) ⟨w5.heap.size + 1, 0, none⟩ 1 1 [.slice (some ⟨w5.heap.size, 0, none⟩) 256 256] (by rfl) (by rfl) (World.news_of_block (t := 31) (fr := (0, 0)) (by have h := heap_alloc_new (w5.drew.alloc (.cells zrow8 5)) (.cells #[.slice (some ⟨w5.heap.size, 0, none⟩) 256 256] 31); rw [World.size_alloc] at h; exact h)) (by simp [Value.oneCell']) (by omega) (by unfold maxLen; omega) (by omega) (by simp; omega) _ (by rfl) ?_
            intro g2 cap2 w6 hown6 hgrow6 hat6 hlt6
            obtain ⟨hc6, hf6⟩ := HP5.out.grown_c1 (.cells zrow8 5) (.cells #[.slice (some ⟨w5.heap.size, 0, none⟩) 256 256] 31) hgrow6
            refine hK.out _ _ ?_ (fun hHeld => ?_)
            · trivial
            clear hK K
            try simp only [Act.put, zq1, zq2, zq3, zq4, zq5, zq6]
            refine wpAnyH_take (i := 5) (v := ?_) rfl (by kernel_rfl) (by kernel_rfl) (by kernel_rfl) (fun _ _ _ h => h) (Or.inl ⟨by rfl, ?_⟩) hHeld ?_
            rotate_left
            · intro w' hSw
              (try dsimp only at hSw)
              go_simp
              try with_reducible rfl
            try simp only [Act.put, zq1, zq2, zq3, zq4, zq5, zq6]
            refine wpAnyH_ready (rs := [6]) (by kernel_rfl) (by simp) ?_
            refine AllReadyH.cons rfl (fun K hK => ?_) (AllReadyH.nil)
            try simp only [zq1, zq2, zq3]
            have hcl := hc6
            have hfl := hf6
            go_simp
            clear hcl hfl
            refine hK.out _ _ ?_ (fun hHeld => ?_)
            · trivial
            clear hK K
            try simp only [Act.put, zq1, zq2, zq3, zq4, zq5, zq6]
            refine wpAnyH_done (by kernel_rfl) ?_ _
            refine NoPanic.normal ?_
            have h6' := HP5.out.stepF (K := K5) hsz hgrow6 hown6 hat6
            have hb6 : Below w.heap.size w (w6.setCell ⟨p, 1, none⟩ (.slice (some ⟨g2, 0, none⟩) (j + 1) cap2)) := (((HB5.out.drew.alloc hsz (.cells zrow8 5)).alloc (by rw [World.size_alloc]; exact Nat.le_succ_of_le hsz) _).grown hgrow6 (by simp only [World.size_alloc]; exact Nat.le_trans hsz (by show w5.heap.size ≤ w5.heap.size + 1 + 1; omega)) (fun k hk => ((HP5.out.of).lt k hk).1)).setCell (p := ⟨p, 1, none⟩) HP5.out.kp.1 _
            have HF := Lib.hid (And.intro h6' hb6); clear h6' hb6 hown6 hgrow6 hat6 hc6 hf6
            generalize w6.setCell ⟨p, 1, none⟩ (.slice (some ⟨g2, 0, none⟩) (j + 1) cap2) = w7 at *
            go_wp2_with fail
            go_roundw
            case rel => exact ⟨j + 1, by omega, by go_num, ⟨_, _, _, _, _, _, _, HF.out.1⟩, HF.out.2⟩
            case measure => simp [intOf]; omega
    · have hji : ¬ (j : Int) < (n : Int) := by omega
      have hjn : j = n := by omega
      obtain ⟨VN, VF, g, cg, hh, ch, K, hpt⟩ := hpt
      rw [hjn] at hpt
      have HF := Lib.hid (And.intro (hpt.done h8) HB.out); clear hpt
      clear hjn
      go_wp2_with fail
      go_ret
      exact ⟨p, rfl, HF.out⟩
end Go.Proofs.Ytpepbffhhfgdpaa
