/-
  The code's pack: contracts (layer 7). CR: the code's reader at block p, its copy of the bytes in block g.
-/
import Derived.Test.YtbepibkbghmkkaaPkS
namespace Go.Proofs.Ytbepibkbghmkkaa
open Go Go.RowKit
set_option linter.unusedVariables false
set_option linter.unusedSimpArgs false

def CR (w : World) (p g : Nat) (l : List Nat) (a f : Nat) : Prop :=
  p < w.heap.size ∧ g < w.heap.size ∧ a ≤ l.length ∧ ∃ A cap, RC w p A l.length cap a f ∧ l.length ≤ cap ∧
    (0 < l.length → A = some ⟨g, 0, none⟩ ∧ ∃ cur, w.heap[g]? = some (.cells cur 5 (0, 0)) ∧ cur.toList.take l.length = vn l)
theorem CR.keep {w w' : World} {p g a f : Nat} {l : List Nat} (h : CR w p g l a f) (hs : w.heap.size ≤ w'.heap.size) (hp : w'.heap[p]? = w.heap[p]?) (hg : w'.heap[g]? = w.heap[g]?) : CR w' p g l a f := by
  obtain ⟨h1, h2, h3, A, cap, h4, hc, h5⟩ := h
  refine ⟨by omega, by omega, h3, A, cap, hp.trans h4, hc, fun h0 => ?_⟩
  obtain ⟨e, cur, h6, h7⟩ := h5 h0
  exact ⟨e, cur, hg.trans h6, h7⟩
theorem CR.lp {w : World} {p g a f : Nat} {l : List Nat} (h : CR w p g l a f) : p < w.heap.size := h.1
theorem CR.lg {w : World} {p g a f : Nat} {l : List Nat} (h : CR w p g l a f) : g < w.heap.size := h.2.1
theorem CR.call {w w' : World} {p g a f : Nat} {l : List Nat} (h : CR w p g l a f) (hb : Below w.heap.size w w') : CR w' p g l a f := h.keep hb.size (hb.block _ h.lp) (hb.block _ h.lg)
/-- The reader's bytes can be read. -/
theorem rd_of_blkC {w : World} {g n : Nat} {A : Option Addr} {l : List Nat} (hl : l.length = n) (hlt : g < w.heap.size) (h : 0 < n → A = some ⟨g, 0, none⟩ ∧ ∃ cur, w.heap[g]? = some (.cells cur 5 (0, 0)) ∧ cur.toList.take n = vn l) : Rd w w.heap.size A (vn l) := fun h0 => by
  rw [vn_len, hl] at h0
  obtain ⟨rfl, cur, h1, h2⟩ := h h0
  refine ⟨_, rfl, hlt, fun j u hu => ?_⟩
  rw [head_add, cell_of_row _ _ _ _ _ _ h1]
  rw [← h2, List.getElem?_take] at hu
  split at hu
  · simpa using hu
  · cases hu
/-- What a call that writes to the reader alone leaves. -/
theorem CR.step {w w' : World} {p g a f a' f' : Nat} {l : List Nat} {A : Option Addr} {cap : Nat} (hg : g < w.heap.size) (h0 : RC w p A l.length cap a f) (hc : l.length ≤ cap)
    (hb : 0 < l.length → A = some ⟨g, 0, none⟩ ∧ ∃ cur, w.heap[g]? = some (.cells cur 5 (0, 0)) ∧ cur.toList.take l.length = vn l) (hw : w.grownBy w' (some p)) (h1 : RC w' p A l.length cap a' f') (ha : a' ≤ l.length) : CR w' p g l a' f' := by
  refine ⟨Nat.lt_of_lt_of_le h0.lt hw.size, Nat.lt_of_lt_of_le hg hw.size, ha, A, cap, h1, hc, fun hp => ?_⟩
  obtain ⟨e, cur, h2, h3⟩ := hb hp
  refine ⟨e, cur, (hw.block g hg (fun e2 => ?_)).trans h2, h3⟩
  have e3 : g = p := by cases e2; rfl
  rw [e3] at h2
  rw [show w.heap[p]? = _ from h0] at h2
  simp at h2

set_option maxRecDepth 100000 in
set_option maxHeartbeats 4000000 in
theorem cpnew_any (A : Option Addr) (l : List Nat) (n cap : Nat) (hn : l.length = n) (hl : ∀ x ∈ l, x < 256) (hle : n ≤ 1000000) (hc : n ≤ cap) (w : World) (h : Rd w w.heap.size A (vn l)) :
    Calls Try.prog 16 #[.slice A n cap] w fun e w' => ∃ p g, e = .returned (.pointer (some ⟨p, 0, none⟩)) ∧ w.heap.size ≤ p ∧ w.heap.size ≤ g ∧ CR w' p g l 0 0 ∧ Below w.heap.size w w' := by
  have hcl := cclone_any A l n cap hn (by omega) w h
  have HN := Lib.hid hn
  have HC := Lib.hid hcl; clear hcl hn hl h
  go_enter Try.func16, Try.ntmps16
  go_wp2_with fail
  refine HC.out.mono ?_
  rintro e w1 ⟨v, rfl, hown, hb⟩
  have hn := HN.out
  have HB := Lib.hid hb; clear hb HC
  rcases hown.2 with ⟨hv, h0⟩ | ⟨g, c, cur, hv, hbg, hh, hnc, hcm, hcs, htk⟩
  · subst hv
    clear hown
    have hb2 : Below w.heap.size w (w1.alloc (.cells #[.slice none 0 0, .int .i64 0, .int .i64 0] 53)) := HB.out.alloc HB.out.size _
    have hp : (w1.alloc (.cells #[.slice none 0 0, .int .i64 0, .int .i64 0] 53)).heap[w1.heap.size]? = some (.cells #[.slice none 0 0, .int .i64 0, .int .i64 0] 53 (0, 0)) := heap_alloc_new _ _
    have hsz : (w1.alloc (.cells #[.slice none 0 0, .int .i64 0, .int .i64 0] 53)).heap.size = w1.heap.size + 1 := by simp
    have H2 := Lib.hid (And.intro hb2 (And.intro hp hsz)); clear hb2 hp hsz
    go_wp2_with fail
    go_ret
    have hsz := H2.out.2.2
    refine ⟨w1.heap.size, w1.heap.size, rfl, HB.out.size, HB.out.size, ⟨by omega, by omega, Nat.zero_le _, none, 0, ?_, by omega, fun h1 => by omega⟩, H2.out.1⟩
    have e0 : l.length = 0 := by omega
    rw [e0]
    exact H2.out.2.1
  · subst hv
    clear hown
    have hgl : g < w1.heap.size := (Array.getElem?_eq_some_iff.1 hh).1
    have hb2 : Below w.heap.size w (w1.alloc (.cells #[.slice (some ⟨g, 0, none⟩) n c, .int .i64 0, .int .i64 0] 53)) := HB.out.alloc HB.out.size _
    have hp : (w1.alloc (.cells #[.slice (some ⟨g, 0, none⟩) n c, .int .i64 0, .int .i64 0] 53)).heap[w1.heap.size]? = some (.cells #[.slice (some ⟨g, 0, none⟩) n c, .int .i64 0, .int .i64 0] 53 (0, 0)) := heap_alloc_new _ _
    have hsz : (w1.alloc (.cells #[.slice (some ⟨g, 0, none⟩) n c, .int .i64 0, .int .i64 0] 53)).heap.size = w1.heap.size + 1 := by simp
    have hg2 : (w1.alloc (.cells #[.slice (some ⟨g, 0, none⟩) n c, .int .i64 0, .int .i64 0] 53)).heap[g]? = some (.cells cur 5 (0, 0)) := (((Below.refl w1.heap.size w1).alloc (Nat.le_refl _) _).block g hgl).trans hh
    have H2 := Lib.hid (And.intro hb2 (And.intro hp (And.intro hsz hg2))); clear hb2 hp hsz hg2
    have HT := Lib.hid htk
    clear hh hcs htk
    go_wp2_with fail
    go_ret
    have hsz := H2.out.2.2.1
    have htk := HT.out
    refine ⟨w1.heap.size, g, rfl, HB.out.size, hbg, ⟨by omega, by omega, Nat.zero_le _, some ⟨g, 0, none⟩, c, ?_, by omega, fun h1 => ⟨rfl, cur, H2.out.2.2.2, ?_⟩⟩, H2.out.1⟩
    · rw [hn]; exact H2.out.2.1
    · rw [hn]; rw [Nat.mul_one] at htk; exact htk
theorem cprnum_any (w : World) (p g : Nat) (l : List Nat) (a f : Nat) (hl : ∀ x ∈ l, x < 256) (hle : l.length ≤ 1000000) (h : CR w p g l a f) :
    Calls Try.prog 17 #[.pointer (some ⟨p, 0, none⟩)] w fun e w' => e = .returned (.int .u64 ((rdNum l a f).1 : Int)) ∧ CR w' p g l (rdNum l a f).2.1 (rdNum l a f).2.2 ∧ w.grownBy w' (some p) := by
  obtain ⟨h1, h2, h3, A, cap, h4, hc, h5⟩ := h
  have hrd := rd_of_blkC rfl h2 h5
  unfold rdNum
  by_cases hf : f = 0
  · subst hf
    rw [if_neg (by omega)]
    have hb := tk_bounds (l.drop a) (mem_dropP hl a)
    rw [List.length_drop] at hb
    refine (crnum_any w p A l l.length cap a rfl hl hle hc h4 h3 hrd (tk (l.drop a)).1 (tk (l.drop a)).2.1 (tk (l.drop a)).2.2 rfl hb.2.1).mono ?_
    rintro e w' ⟨rfl, hr, hg⟩
    exact ⟨rfl, CR.step h2 h4 hc h5 hg hr (by show a + _ ≤ _; omega), hg⟩
  · rw [if_pos hf]
    refine (crnum_no w p A l.length cap a f h4 hf).mono ?_
    rintro e w' ⟨rfl, rfl⟩
    exact ⟨rfl, ⟨h1, h2, h3, A, cap, h4, hc, h5⟩, grown_drewN _ 0 _⟩
theorem cprbyte_any (w : World) (p g : Nat) (l : List Nat) (a f : Nat) (hl : ∀ x ∈ l, x < 256) (hle : l.length ≤ 1000000) (h : CR w p g l a f) :
    Calls Try.prog 19 #[.pointer (some ⟨p, 0, none⟩)] w fun e w' => e = .returned (.int .u8 ((rdByte l a f).1 : Int)) ∧ CR w' p g l (rdByte l a f).2.1 (rdByte l a f).2.2 ∧ w.grownBy w' (some p) := by
  obtain ⟨h1, h2, h3, A, cap, h4, hc, h5⟩ := h
  have hrd := rd_of_blkC rfl h2 h5
  unfold rdByte
  by_cases hf : f = 0
  · subst hf
    rw [if_neg (by omega)]
    by_cases ha : a = l.length
    · rw [if_pos ha]
      subst ha
      refine (crbyte_end w p A l.length cap hle h4).mono ?_
      rintro e w' ⟨rfl, hr, hg⟩
      exact ⟨rfl, CR.step h2 h4 hc h5 hg hr (Nat.le_refl _), hg⟩
    · rw [if_neg ha]
      refine (crbyte_any w p A l l.length cap a rfl hle h4 (by omega) hrd).mono ?_
      rintro e w' ⟨rfl, hr, hg⟩
      exact ⟨rfl, CR.step h2 h4 hc h5 hg hr (by show a + 1 ≤ _; omega), hg⟩
  · rw [if_pos hf]
    refine (crbyte_no w p A l.length cap a f h4 hf).mono ?_
    rintro e w' ⟨rfl, rfl⟩
    exact ⟨rfl, ⟨h1, h2, h3, A, cap, h4, hc, h5⟩, grown_drewN _ 0 _⟩
theorem cprtext_any (w : World) (p g : Nat) (l : List Nat) (a f : Nat) (hl : ∀ x ∈ l, x < 256) (hle : l.length ≤ 1000000) (h : CR w p g l a f) (most : Int) (hm : -9223372036854775808 ≤ most ∧ most ≤ 9223372036854775807) :
    Calls Try.prog 21 #[.pointer (some ⟨p, 0, none⟩), .int .i64 most] w fun e w' => ∃ v, e = .returned v ∧ w'.ownsRow w.heap.size 5 1 v (rdText l a f most).1.length (vn (rdText l a f most).1) ∧ CR w' p g l (rdText l a f most).2.1 (rdText l a f most).2.2 ∧ w.grownBy w' (some p) := by
  have hle2 := rdText_le l hl a f most h.2.2.1
  obtain ⟨h1, h2, h3, A, cap, h4, hc, h5⟩ := h
  have hrd := rd_of_blkC rfl h2 h5
  unfold rdText at hle2 ⊢
  by_cases hf : f = 0
  · subst hf
    rw [if_neg (by omega)] at hle2 ⊢
    have hb := tk_bounds (l.drop a) (mem_dropP hl a)
    rw [List.length_drop] at hb
    by_cases hE : rdE l a most = 0
    · rw [if_neg (by omega)] at hle2 ⊢
      have h6 : (tk (l.drop a)).1 ≤ l.length - a - (tk (l.drop a)).2.1 := (txE_ok hE).2
      have hle3 : ((l.drop (a + (tk (l.drop a)).2.1)).take (tk (l.drop a)).1).length = (tk (l.drop a)).1 := by
        rw [List.length_take, List.length_drop]
        omega
      rw [hle3]
      unfold rdE at hE
      refine (crtext_any w p A l l.length cap a most hm rfl hl hle hc h4 h3 hrd (tk (l.drop a)).1 (tk (l.drop a)).2.1 (tk (l.drop a)).2.2 rfl hb.2.1 (by omega) hb.1 hE).mono ?_
      rintro e w' ⟨u, rfl, ho, hr, hg⟩
      exact ⟨u, rfl, ho, CR.step h2 h4 hc h5 hg hr hle2, hg⟩
    · rw [if_pos hE] at hle2 ⊢
      unfold rdE at hE ⊢
      refine (crtext_err w p A l l.length cap a most hm rfl hl hle hc h4 h3 hrd (tk (l.drop a)).1 (tk (l.drop a)).2.1 (tk (l.drop a)).2.2 rfl hb.2.1 (by omega) hb.1 hE).mono ?_
      rintro e w' ⟨rfl, hr, hg⟩
      exact ⟨_, rfl, World.ownsRow_nil _ _ _ _, CR.step h2 h4 hc h5 hg hr h3, hg⟩
  · rw [if_pos hf]
    refine (crtext_no w p A l.length cap a f most h4 hf).mono ?_
    rintro e w' ⟨rfl, rfl⟩
    exact ⟨_, rfl, World.ownsRow_nil _ _ _ _, ⟨h1, h2, h3, A, cap, h4, hc, h5⟩, grown_drewN _ 0 _⟩
theorem cprleft_bel (w : World) (p g : Nat) (l : List Nat) (a f : Nat) (hle : l.length ≤ 1000000) (h : CR w p g l a f) :
    Calls Try.prog 23 #[.pointer (some ⟨p, 0, none⟩)] w fun e w' => e = .returned (.int .i64 ((l.length - a : Nat) : Int)) ∧ Below w.heap.size w w' := by
  obtain ⟨h1, h2, h3, A, cap, h4, hc, h5⟩ := h
  refine (cleft_any w p A l.length cap a f h4 h3 hle).mono ?_
  rintro e w' ⟨rfl, m, rfl⟩
  exact ⟨rfl, bdrewN (Below.refl _ _) m⟩
theorem cprdone_bel (w : World) (p g : Nat) (l : List Nat) (a f : Nat) (hle : l.length ≤ 1000000) (h : CR w p g l a f) :
    Calls Try.prog 24 #[.pointer (some ⟨p, 0, none⟩)] w fun e w' => e = .returned (.tuple #[.int .i64 (rdDone l a f : Int), .int .i64 (a : Int)]) ∧ Below w.heap.size w w' := by
  obtain ⟨h1, h2, h3, A, cap, h4, hc, h5⟩ := h
  refine (crdone_any w p A l.length cap a f h4 h3 hle).mono ?_
  rintro e w' ⟨rfl, m, rfl⟩
  exact ⟨rfl, bdrewN (Below.refl _ _) m⟩
theorem cprleft_any (w : World) (p g : Nat) (l : List Nat) (a f : Nat) (hle : l.length ≤ 1000000) (h : CR w p g l a f) :
    Calls Try.prog 23 #[.pointer (some ⟨p, 0, none⟩)] w fun e w' => e = .returned (.int .i64 ((l.length - a : Nat) : Int)) ∧ CR w' p g l a f ∧ w.grownBy w' (some p) :=
  (cprleft_bel w p g l a f hle h).mono fun e w' ⟨he, hb⟩ => ⟨he, h.call hb, grown_below hb _⟩
theorem cprdone_any (w : World) (p g : Nat) (l : List Nat) (a f : Nat) (hle : l.length ≤ 1000000) (h : CR w p g l a f) :
    Calls Try.prog 24 #[.pointer (some ⟨p, 0, none⟩)] w fun e w' => e = .returned (.tuple #[.int .i64 (rdDone l a f : Int), .int .i64 (a : Int)]) ∧ CR w' p g l a f ∧ w.grownBy w' (some p) :=
  (cprdone_bel w p g l a f hle h).mono fun e w' ⟨he, hb⟩ => ⟨he, h.call hb, grown_below hb _⟩
/- Of a reader that is not there. -/
theorem cpnil_num (w : World) : Calls Try.prog 17 #[.pointer none] w fun e w' => e = .returned (.int .u64 0) ∧ Below w.heap.size w w' := (crnum_nil w).mono fun e w' ⟨h1, h2⟩ => ⟨h1, h2 ▸ Below.refl _ _⟩
theorem cpnil_byte (w : World) : Calls Try.prog 19 #[.pointer none] w fun e w' => e = .returned (.int .u8 0) ∧ Below w.heap.size w w' := (crbyte_nil w).mono fun e w' ⟨h1, h2⟩ => ⟨h1, h2 ▸ Below.refl _ _⟩
theorem cpnil_left (w : World) : Calls Try.prog 23 #[.pointer none] w fun e w' => e = .returned (.int .i64 0) ∧ Below w.heap.size w w' := (cleft_nil w).mono fun e w' ⟨h1, h2⟩ => ⟨h1, h2 ▸ Below.refl _ _⟩
theorem cpnil_done (w : World) : Calls Try.prog 24 #[.pointer none] w fun e w' => e = .returned (.tuple #[.int .i64 1, .int .i64 0]) ∧ Below w.heap.size w w' := (crdone_nil w).mono fun e w' ⟨h1, h2⟩ => ⟨h1, h2 ▸ Below.refl _ _⟩
theorem cpnil_text (w : World) (most : Int) (hm : -9223372036854775808 ≤ most ∧ most ≤ 9223372036854775807) : Calls Try.prog 21 #[.pointer none, .int .i64 most] w fun e w' => (∃ A c, e = .returned (.slice A 0 c)) ∧ Below w.heap.size w w' := (crtext_nil w most).mono fun e w' ⟨h1, h2⟩ => ⟨⟨none, 0, h1⟩, h2 ▸ Below.refl _ _⟩
end Go.Proofs.Ytbepibkbghmkkaa
