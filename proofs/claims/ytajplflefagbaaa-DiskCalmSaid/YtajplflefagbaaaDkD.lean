/-
  The document's device (layer 8): a block's row is another one; a write more waits; Write.
-/
import Derived.Test.YtajplflefagbaaaDkC
import Derived.Deep.AppendLies
namespace Go.Proofs.Ytajplflefagbaaa
open Go Go.RowKit
set_option linter.unusedVariables false
set_option linter.unusedSimpArgs false

section
variable {S : Sh} {w w' : World} {p n : Nat} {L : Nat → Prop} {D : Dev}
theorem upd_at (f : Nat → Nat) (i x : Nat) : upd f i x i = x := by simp [upd]
theorem upd_ne (f : Nat → Nat) (i x j : Nat) (h : j ≠ i) : upd f i x j = f j := by simp [upd, h]
/-- A block tells a new row. -/
theorem RDs.newNow {M : Nat → Prop} (h : RDs S w p L n D) {k b c : Nat} {l : List UInt8} (hk : k < n) (hb : ¬ L b) (hr : Row w b l) (hl : l.length = 256) (hM : ∀ x, L x → M x) (hMb : M b) (hlt : ∀ x, M x → x < w.heap.size) :
    RDs { S with g := upd S.g k b, cg := upd S.cg k c, K := upd S.K b (10 * k + 13) } (w.setCell ⟨S.bn, k, none⟩ (.slice (some ⟨b, 0, none⟩) 256 c)) p M n { D with now := D.now.set k l } := by
  have nL : ∀ x, L x → x ≠ b := fun x hx e => hb (e ▸ hx)
  have kK : ∀ x, L x → upd S.K b (10 * k + 13) x = S.K x := fun x hx => upd_ne _ _ _ _ (nL x hx)
  have nb : ∀ x, S.K x ≠ 1 → x ≠ S.bn := fun x hx e => hx (by rw [e]; exact h.lbn.2)
  have hk' : ∀ x, x ≠ S.bn → (w.setCell ⟨S.bn, k, none⟩ (.slice (some ⟨b, 0, none⟩) 256 c)).heap[x]? = w.heap[x]? := fun x hx => heap_setCell_other _ _ _ _ hx
  have hbn : b ≠ S.bn := fun e => hb (e ▸ h.lbn.1)
  refine ⟨⟨by simp [h.ok.nl], h.ok.fl, ?_, h.ok.fr, h.ok.wl, h.ok.fs, h.ok.cs, h.ok.ss⟩, ?_, ⟨hM _ h.lp.1, (kK _ h.lp.1).trans h.lp.2⟩, ⟨hM _ h.lbn.1, (kK _ h.lbn.1).trans h.lbn.2⟩, ⟨hM _ h.lbf.1, (kK _ h.lbf.1).trans h.lbf.2⟩, ?_,
    fun i hi => ⟨hM _ (h.lh i hi).1, (kK _ (h.lh i hi).1).trans (h.lh i hi).2⟩, fun i hi => ⟨hM _ (h.lq i hi).1, (kK _ (h.lq i hi).1).trans (h.lq i hi).2⟩,
    fun i hi => ⟨hM _ (h.lw i hi).1, (kK _ (h.lw i hi).1).trans (h.lw i hi).2⟩, h.sn.set k hk b c, h.sf.keep (hk' _ (nb _ (by rw [h.lbf.2]; decide))), ?_, ?_, ?_, ?_, fun x hx => by rw [World.size_setCell]; exact hlt x hx⟩
  · intro j hj
    show ((D.now.set k l).getD j []).length = 256
    rw [getD_set]
    split
    · exact hl
    · exact h.ok.nr j hj
  · rw [hk' _ (nb _ (by rw [h.lp.2]; decide))]; exact h.hp
  · intro i hi
    show M (upd S.g k b i) ∧ upd S.K b (10 * k + 13) (upd S.g k b i) = 10 * i + 13
    by_cases e : i = k
    · subst e; rw [upd_at, upd_at]; exact ⟨hMb, rfl⟩
    · rw [upd_ne _ _ _ _ e, kK _ (h.lg i hi).1]; exact ⟨hM _ (h.lg i hi).1, (h.lg i hi).2⟩
  · intro i hi
    show Row _ (upd S.g k b i) ((D.now.set k l).getD i [])
    rw [getD_set, h.ok.nl]
    by_cases e : i = k
    · subst e; rw [upd_at, if_pos ⟨rfl, hk⟩]; exact hr.keep (hk' _ hbn)
    · rw [upd_ne _ _ _ _ e, if_neg (fun h => e h.1)]; exact (h.rn i hi).keep (hk' _ (nb _ (by rw [(h.lg i hi).2]; omega)))
  · intro i hi; exact (h.rf i hi).keep (hk' _ (nb _ (by rw [(h.lh i hi).2]; omega)))
  · intro i hi; exact (h.rq i hi).keep (hk' _ (nb _ (by rw [(h.lq i hi).2]; decide)))
  · exact own_same h.ww fun x hx => hk' _ (nb _ (by rw [(h.lw x hx).2]; decide))
/-- A block's firm row is a new one. -/
theorem RDs.newFirm {M : Nat → Prop} (h : RDs S w p L n D) {k b c : Nat} {l : List UInt8} (hk : k < n) (hb : ¬ L b) (hr : Row w b l) (hl : l.length = 256) (hM : ∀ x, L x → M x) (hMb : M b) (hlt : ∀ x, M x → x < w.heap.size) :
    RDs { S with h := upd S.h k b, ch := upd S.ch k c, K := upd S.K b (10 * k + 14) } (w.setCell ⟨S.bf, k, none⟩ (.slice (some ⟨b, 0, none⟩) 256 c)) p M n { D with firm := D.firm.set k l } := by
  have nL : ∀ x, L x → x ≠ b := fun x hx e => hb (e ▸ hx)
  have kK : ∀ x, L x → upd S.K b (10 * k + 14) x = S.K x := fun x hx => upd_ne _ _ _ _ (nL x hx)
  have nb : ∀ x, S.K x ≠ 2 → x ≠ S.bf := fun x hx e => hx (by rw [e]; exact h.lbf.2)
  have hk' : ∀ x, x ≠ S.bf → (w.setCell ⟨S.bf, k, none⟩ (.slice (some ⟨b, 0, none⟩) 256 c)).heap[x]? = w.heap[x]? := fun x hx => heap_setCell_other _ _ _ _ hx
  have hbn : b ≠ S.bf := fun e => hb (e ▸ h.lbf.1)
  refine ⟨⟨h.ok.nl, by simp [h.ok.fl], h.ok.nr, ?_, h.ok.wl, h.ok.fs, h.ok.cs, h.ok.ss⟩, ?_, ⟨hM _ h.lp.1, (kK _ h.lp.1).trans h.lp.2⟩, ⟨hM _ h.lbn.1, (kK _ h.lbn.1).trans h.lbn.2⟩, ⟨hM _ h.lbf.1, (kK _ h.lbf.1).trans h.lbf.2⟩,
    fun i hi => ⟨hM _ (h.lg i hi).1, (kK _ (h.lg i hi).1).trans (h.lg i hi).2⟩, ?_, fun i hi => ⟨hM _ (h.lq i hi).1, (kK _ (h.lq i hi).1).trans (h.lq i hi).2⟩,
    fun i hi => ⟨hM _ (h.lw i hi).1, (kK _ (h.lw i hi).1).trans (h.lw i hi).2⟩, h.sn.keep (hk' _ (nb _ (by rw [h.lbn.2]; decide))), h.sf.set k hk b c, ?_, ?_, ?_, ?_, fun x hx => by rw [World.size_setCell]; exact hlt x hx⟩
  · intro j hj
    show ((D.firm.set k l).getD j []).length = 256
    rw [getD_set]
    split
    · exact hl
    · exact h.ok.fr j hj
  · rw [hk' _ (nb _ (by rw [h.lp.2]; decide))]; exact h.hp
  · intro i hi
    show M (upd S.h k b i) ∧ upd S.K b (10 * k + 14) (upd S.h k b i) = 10 * i + 14
    by_cases e : i = k
    · subst e; rw [upd_at, upd_at]; exact ⟨hMb, rfl⟩
    · rw [upd_ne _ _ _ _ e, kK _ (h.lh i hi).1]; exact ⟨hM _ (h.lh i hi).1, (h.lh i hi).2⟩
  · intro i hi; exact (h.rn i hi).keep (hk' _ (nb _ (by rw [(h.lg i hi).2]; omega)))
  · intro i hi
    show Row _ (upd S.h k b i) ((D.firm.set k l).getD i [])
    rw [getD_set, h.ok.fl]
    by_cases e : i = k
    · subst e; rw [upd_at, if_pos ⟨rfl, hk⟩]; exact hr.keep (hk' _ hbn)
    · rw [upd_ne _ _ _ _ e, if_neg (fun h => e h.1)]; exact (h.rf i hi).keep (hk' _ (nb _ (by rw [(h.lh i hi).2]; omega)))
  · intro i hi; exact (h.rq i hi).keep (hk' _ (nb _ (by rw [(h.lq i hi).2]; decide)))
  · exact own_same h.ww fun x hx => hk' _ (nb _ (by rw [(h.lw x hx).2]; decide))
/-- A write more waits: its row's block is b, the list's g2. -/
theorem RDs.newWait {M : Nat → Prop} (h : RDs S w p L n D) {k b c g2 cap : Nat} {l : List UInt8} (hk : k < n) (hb : ¬ L b) (hr : Row w b l) (hl : l.length = 256) (hM : ∀ x, L x → M x) (hMb : M b) (hMg : M g2)
    (hw : w'.ownsRow 0 74 2 (.slice (some ⟨g2, 0, none⟩) (D.waits.length + 1) cap) (D.waits.length + 1) (prs D.waits.length (wA D.waits) (wB S.q S.cq) ++ [.int .i64 (k : Int), .slice (some ⟨b, 0, none⟩) 256 c])) (hg : w.grownBy w' S.wv.ownBlock) (hat : S.wv.ownBlock = some g2 ∨ w.heap.size ≤ g2)
    (hlt : ∀ x, M x → x < w'.heap.size) :
    RDs { S with wv := .slice (some ⟨g2, 0, none⟩) (D.waits.length + 1) cap, q := upd S.q D.waits.length b, cq := upd S.cq D.waits.length c, K := upd (upd S.K g2 6) b 5 } (w'.setCell ⟨p, 2, none⟩ (.slice (some ⟨g2, 0, none⟩) (D.waits.length + 1) cap)) p M n { D with waits := D.waits ++ [(k, l)] } := by
  have nL : ∀ x, L x → x ≠ b := fun x hx e => hb (e ▸ hx)
  have kg : ∀ x, L x → S.K x ≠ 6 → x ≠ g2 := fun x hx h6 e => by
    rcases hat with ha | ha
    · exact h6 (by rw [e]; exact (h.lw _ ha).2)
    · have := h.lt x hx; omega
  have kK : ∀ x, L x → S.K x ≠ 6 → upd (upd S.K g2 6) b 5 x = S.K x := fun x hx h6 => by rw [upd_ne _ _ _ _ (nL x hx), upd_ne _ _ _ _ (kg x hx h6)]
  have ne : ∀ b, S.K b ≠ 7 → b ≠ p := fun b hb e => hb (by rw [e]; exact h.lp.2)
  have nw : ∀ x, S.K x ≠ 6 → some x ≠ S.wv.ownBlock := fun x hx e => hx (h.lw x e.symm).2
  have hk' : ∀ x, x < w.heap.size → S.K x ≠ 7 → S.K x ≠ 6 → (w'.setCell ⟨p, 2, none⟩ (.slice (some ⟨g2, 0, none⟩) (D.waits.length + 1) cap)).heap[x]? = w.heap[x]? := fun x hx h7 h6 =>
    (heap_setCell_other _ _ _ _ (ne x h7)).trans (hg.block x hx (nw x h6))
  have hgb : g2 ≠ b := fun e => by
    rcases hat with ha | ha
    · exact hb (e ▸ (h.lw _ ha).1)
    · have := hr.lt; omega
  have hgp : g2 ≠ p := fun e => by
    rcases hat with ha | ha
    · have := (h.lw _ ha).2; rw [e, h.lp.2] at this; cases this
    · have := h.lt p h.lp.1; omega
  refine ⟨⟨h.ok.nl, h.ok.fl, h.ok.nr, h.ok.fr, ?_, h.ok.fs, h.ok.cs, h.ok.ss⟩, ?_, ⟨hM _ h.lp.1, (kK _ h.lp.1 (by rw [h.lp.2]; decide)).trans h.lp.2⟩, ⟨hM _ h.lbn.1, (kK _ h.lbn.1 (by rw [h.lbn.2]; decide)).trans h.lbn.2⟩,
    ⟨hM _ h.lbf.1, (kK _ h.lbf.1 (by rw [h.lbf.2]; decide)).trans h.lbf.2⟩,
    fun i hi => ⟨hM _ (h.lg i hi).1, (kK _ (h.lg i hi).1 (by rw [(h.lg i hi).2]; omega)).trans (h.lg i hi).2⟩, fun i hi => ⟨hM _ (h.lh i hi).1, (kK _ (h.lh i hi).1 (by rw [(h.lh i hi).2]; omega)).trans (h.lh i hi).2⟩, ?_, ?_,
    h.sn.keep (hk' _ (h.lt _ h.lbn.1) (by rw [h.lbn.2]; decide) (by rw [h.lbn.2]; decide)), h.sf.keep (hk' _ (h.lt _ h.lbf.1) (by rw [h.lbf.2]; decide) (by rw [h.lbf.2]; decide)),
    fun i hi => (h.rn i hi).keep (hk' _ (h.lt _ (h.lg i hi).1) (by rw [(h.lg i hi).2]; omega) (by rw [(h.lg i hi).2]; omega)), fun i hi => (h.rf i hi).keep (hk' _ (h.lt _ (h.lh i hi).1) (by rw [(h.lh i hi).2]; omega) (by rw [(h.lh i hi).2]; omega)), ?_, ?_, fun x hx => by rw [World.size_setCell]; exact hlt x hx⟩
  · intro j hj
    have hj2 : j < D.waits.length + 1 := by simpa using hj
    show ((D.waits ++ [(k, l)]).getD j (0, [])).1 < n ∧ ((D.waits ++ [(k, l)]).getD j (0, [])).2.length = 256
    rw [getD_app]
    split
    · exact ⟨hk, hl⟩
    · exact h.ok.wl j (by omega)
  · have hp' : w'.heap[p]? = some (.cells (dCells S n D) 42 (0, 0)) := (hg.block p (h.lt p h.lp.1) (nw p (by rw [h.lp.2]; decide))).trans h.hp
    exact heap_setCell_same _ _ _ _ _ _ hp'
  · intro j hj
    have hj2 : j < D.waits.length + 1 := by simpa using hj
    show M (upd S.q D.waits.length b j) ∧ upd (upd S.K g2 6) b 5 (upd S.q D.waits.length b j) = 5
    by_cases e : j = D.waits.length
    · subst e; rw [upd_at, upd_at]; exact ⟨hMb, rfl⟩
    · rw [upd_ne _ _ _ _ e, kK _ (h.lq j (by omega)).1 (by rw [(h.lq j (by omega)).2]; decide)]; exact ⟨hM _ (h.lq j (by omega)).1, (h.lq j (by omega)).2⟩
  · intro x hx
    have hx2 : g2 = x := by simpa [Value.ownBlock] using hx
    subst hx2
    exact ⟨hMg, by show upd (upd S.K g2 6) b 5 g2 = 6; rw [upd_ne _ _ _ _ hgb, upd_at]⟩
  · intro j hj
    have hj2 : j < D.waits.length + 1 := by simpa using hj
    show Row _ (upd S.q D.waits.length b j) ((D.waits ++ [(k, l)]).getD j (0, [])).2
    rw [getD_app]
    by_cases e : j = D.waits.length
    · subst e
      rw [upd_at, if_pos rfl]
      exact hr.keep ((heap_setCell_other _ _ _ _ (fun e => hb (by rw [e]; exact h.lp.1))).trans (hg.block b hr.lt fun e => hb (h.lw b e.symm).1))
    · rw [upd_ne _ _ _ _ e, if_neg e]
      exact (h.rq j (by omega)).keep (hk' _ (h.lt _ (h.lq j (by omega)).1) (by rw [(h.lq j (by omega)).2]; decide) (by rw [(h.lq j (by omega)).2]; decide))
  · show (w'.setCell ⟨p, 2, none⟩ _).ownsRow 0 74 2 _ (D.waits ++ [(k, l)]).length (prs (D.waits ++ [(k, l)]).length (wA (D.waits ++ [(k, l)])) (wB (upd S.q D.waits.length b) (upd S.cq D.waits.length c)))
    have e1 : (D.waits ++ [(k, l)]).length = D.waits.length + 1 := by simp
    have e2 : prs (D.waits.length + 1) (wA (D.waits ++ [(k, l)])) (wB (upd S.q D.waits.length b) (upd S.cq D.waits.length c)) = prs D.waits.length (wA D.waits) (wB S.q S.cq) ++ [.int .i64 (k : Int), .slice (some ⟨b, 0, none⟩) 256 c] := by
      rw [prs_succ]
      congr 1
      · apply prs_congr
        · intro j hj; unfold wA; rw [getD_app, if_neg (by omega)]
        · intro j hj; unfold wB; rw [upd_ne _ _ _ _ (by omega), upd_ne _ _ _ _ (by omega)]
      · unfold wA wB; rw [getD_app, if_pos rfl, upd_at, upd_at]
    rw [e1, e2]
    exact own_same hw fun x hx => heap_setCell_other _ _ _ _ (fun e => by
      have hx2 : g2 = x := by simpa [Value.ownBlock] using hx
      exact hgp (hx2.trans e))
end
end Go.Proofs.Ytajplflefagbaaa
