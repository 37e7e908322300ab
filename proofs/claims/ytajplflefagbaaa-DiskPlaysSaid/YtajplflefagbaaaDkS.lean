/-
  The code's device and the document's beside each other (layer 8).
-/
import Derived.Test.YtajplflefagbaaaDkL
import Derived.Test.YtajplflefagbaaaArgO
namespace Go.Proofs.Ytajplflefagbaaa
open Go Go.RowKit
set_option linter.unusedVariables false
set_option linter.unusedSimpArgs false

structure Pair (w : World) (d p : Nat) (Lc L : Nat → Prop) (n : Nat) (D : Dev) : Prop where
  c : CD w d Lc n D
  r : RD w p L n D
  dis : ∀ b, Lc b → ¬ L b
theorem Pair.call {w w' : World} {d p n : Nat} {Lc L : Nat → Prop} {D : Dev} (h : Pair w d p Lc L n D) (hb : Below w.heap.size w w') : Pair w' d p Lc L n D := ⟨h.c.call hb, h.r.call hb, h.dis⟩
theorem Pair.keep {w w' : World} {d p n : Nat} {Lc L M : Nat → Prop} {D : Dev} (h : Pair w d p Lc L n D) (hk : Keep M w w') (h1 : ∀ b, Lc b → ¬ M b) (h2 : ∀ b, L b → ¬ M b) : Pair w' d p Lc L n D := ⟨h.c.keep hk h1, h.r.keep hk h2, h.dis⟩
/-- What is theirs: old, or new since w. -/
def Ours (w : World) (Lc L Lc' L' : Nat → Prop) : Prop := ∀ b, Lc' b ∨ L' b → Lc b ∨ L b ∨ w.heap.size ≤ b
theorem Pair.code {w w1 : World} {d p n : Nat} {Lc L : Nat → Prop} {D D1 : Dev} (h : Pair w d p Lc L n D) (hc : CD w1 d (ext Lc w w1) n D1) (hk : Keep Lc w w1) : RD w1 p L n D ∧ ∀ b, ext Lc w w1 b → ¬ L b :=
  ⟨h.r.keep hk (fun b hb hc => h.dis b hc hb), fun b hb hl => hb.elim (fun hc => h.dis b hc hl) (fun hb => by have := h.r.lt b hl; omega)⟩
theorem Pair.both {w w1 w2 : World} {d p n : Nat} {Lc L : Nat → Prop} {D D1 : Dev} (h : Pair w d p Lc L n D) (hc : CD w1 d (ext Lc w w1) n D1) (hk : Keep Lc w w1) (hr : RD w2 p (ext L w1 w2) n D1) (hk2 : Keep L w1 w2) :
    Pair w2 d p (ext Lc w w1) (ext L w1 w2) n D1 ∧ Ours w Lc L (ext Lc w w1) (ext L w1 w2) ∧ Keep (fun b => Lc b ∨ L b) w w2 := by
  obtain ⟨hr1, hdis⟩ := h.code hc hk
  refine ⟨⟨hc.keep hk2 hdis, hr, fun b hb hl => hl.elim (hdis b hb) (fun hl => by have := hc.lt b hb; omega)⟩, fun b hb => ?_, (hk.mono fun _ _ h => .inl h).trans hk2 fun b _ h => .inr h⟩
  rcases hb with (hb | hb) | (hb | hb)
  · exact .inl hb
  · exact .inr (.inr hb.1)
  · exact .inr (.inl hb)
  · exact .inr (.inr (Nat.le_trans hk.size hb.1))
/-- What Does answers. -/
def DoesR (w : World) (p n : Nat) (Lc L : Nat → Prop) (m : Nat) (F : Nat → Prop) (e : Ending) (w' : World) : Prop :=
  ∃ d' Lc' L' D', e = .returned (.tuple #[.pointer (some ⟨d', 0, none⟩), .bool true]) ∧ Pair w' d' p Lc' L' n D' ∧ Ours w Lc L Lc' L' ∧ Keep (fun b => Lc b ∨ L b) w w' ∧ D'.load ≤ m + 1 ∧ F d'
/-- Bytes that lie elsewhere. -/
def Aside (Lc L : Nat → Prop) (A : Option Addr) (l : List UInt8) : Prop := l.length ≠ 0 → ∀ ad, A = some ad → ¬ (Lc ad.block ∨ L ad.block)
theorem waits_step (D : Dev) : D.step.waits = D.waits := by unfold Dev.step; split <;> rfl
theorem waits_step2 (D : Dev) : D.step.waits.length ≤ D.waits.length + 1 := by rw [waits_step]; exact Nat.le_succ _
theorem waits_foreign2 (D : Dev) (n : Nat) (i a : Int) (b : List UInt8) : (D.foreign n i a b).waits.length ≤ D.waits.length + 1 := by unfold Dev.foreign; split <;> exact Nat.le_succ _
theorem waits_write (D : Dev) (n : Nat) (i : Int) (l : List UInt8) : (D.write n i l).waits.length ≤ D.waits.length + 1 := by
  unfold Dev.write
  split
  · split
    · show (D.step.waits ++ [(i.toNat, l)]).length ≤ _
      rw [waits_step]; simp
    · rw [waits_step]; omega
  · omega
theorem waits_sync (D : Dev) : D.sync.waits.length ≤ D.waits.length + 1 := by
  unfold Dev.sync
  split
  · exact Nat.zero_le _
  · rw [waits_step]; omega
theorem waits_foreign (D : Dev) (n : Nat) (i a : Int) (b : List UInt8) : (D.foreign n i a b).waits = D.waits := by unfold Dev.foreign; split <;> rfl
/-- An op by value. -/
abbrev opA (o : OpV) : Array Value := #[.int .i64 o.k, .int .i64 o.i, .int .i64 o.a, .slice o.B o.bl.length o.bc, .slice o.M o.ml.length o.mc]
/-- An op in a box. -/
def Ob (w : World) (b : Nat) (o : OpV) : Prop := w.heap[b]? = some (.cells (opA o) 36 (0, 0))
section
variable {w w' : World} {b : Nat} {o : OpV}
theorem Ob.c0 (h : Ob w b o) : w.cell? ⟨b, 0, none⟩ = some (.int .i64 o.k) := by rw [cell_of_row _ _ _ _ _ _ h]; rfl
theorem Ob.c1 (h : Ob w b o) : w.cell? ⟨b, 1, none⟩ = some (.int .i64 o.i) := by rw [cell_of_row _ _ _ _ _ _ h]; rfl
theorem Ob.c2 (h : Ob w b o) : w.cell? ⟨b, 2, none⟩ = some (.int .i64 o.a) := by rw [cell_of_row _ _ _ _ _ _ h]; rfl
theorem Ob.c3 (h : Ob w b o) : w.cell? ⟨b, 3, none⟩ = some (.slice o.B o.bl.length o.bc) := by rw [cell_of_row _ _ _ _ _ _ h]; rfl
theorem Ob.c4 (h : Ob w b o) : w.cell? ⟨b, 4, none⟩ = some (.slice o.M o.ml.length o.mc) := by rw [cell_of_row _ _ _ _ _ _ h]; rfl
theorem Ob.lt (h : Ob w b o) : b < w.heap.size := (Array.getElem?_eq_some_iff.1 h).1
theorem Ob.call (h : Ob w b o) (hb : Below w.heap.size w w') : Ob w' b o := (hb.block b h.lt).trans h
theorem Ob.keep {L : Nat → Prop} (h : Ob w b o) (hk : Keep L w w') (hn : ¬ L b) : Ob w' b o := (hk.block b h.lt hn).trans h
end
theorem Ob.cells {w : World} {b : Nat} {o : OpV} (h : Ob w b o) : w.cell? ⟨b, 1, none⟩ = some (.int .i64 o.i) ∧ w.cell? ⟨b, 2, none⟩ = some (.int .i64 o.a) ∧ w.cell? ⟨b, 3, none⟩ = some (.slice o.B o.bl.length o.bc) := ⟨h.c1, h.c2, h.c3⟩
/-- The byte of a number. -/
def u8of (a : Int) : UInt8 := UInt8.ofNat (a % 256).toNat
theorem u8of_wrap (a : Int) : IntKind.u8.wrap a = ((u8of a).toNat : Int) := by
  rw [IntKind.wrap_u8]
  unfold u8of
  rw [UInt8.toNat_ofNat']
  omega
theorem fullw_any (a : Int) (w : World) : Calls Try.prog 29 #[.int .u8 (IntKind.u8.wrap a)] w fun e w' => ∃ v, e = .returned v ∧ w'.ownsRow w.heap.size 5 1 v 256 (vb (fullB (u8of a))) ∧ Below w.heap.size w w' := by
  rw [u8of_wrap]; exact full_any (u8of a) w
theorem own_rd8 {w : World} {base e n c : Nat} {A : Option Addr} {xs : List Value} (h : w.ownsRow base e 1 (.slice A n c) n xs) : Rd w w.heap.size A xs := by
  obtain ⟨A', c', e', _, hr⟩ := Rd.of_own h
  injection e' with e1 _ _
  rw [e1]; exact hr
theorem full_aside {w w1 : World} {L : Nat → Prop} {e n sz : Nat} {v : Value} {xs : List Value} (hlt : ∀ b, L b → b < w.heap.size) (h : w1.ownsRow w.heap.size e sz v n xs) : ∀ A ln c, v = .slice A ln c → ∀ ad, A = some ad → ¬ L ad.block := fun A ln c ev ad ea hl => by
  have := (h.lt ad.block (by rw [ev, ea]; rfl)).1
  have := hlt _ hl
  omega
theorem rdstep_ext (w : World) (p n : Nat) (L : Nat → Prop) (D : Dev) (h : RD w p L n D) :
    Calls Try.prog 34 #[.pointer (some ⟨p, 0, none⟩)] w fun e w' => e = .returned (.int .i64 (D.stepE : Int)) ∧ RD w' p (ext L w w') n D.step ∧ Keep L w w' :=
  (rdstep_any w p n L D h).mono fun e w' ⟨he, hr, hk⟩ => ⟨he, hr.more (fun _ h => .inl h) (fun b hb => hb.elim (hr.lt b) fun h => h.2), hk⟩
theorem rdforeign_ext (w : World) (p n : Nat) (L : Nat → Prop) (D : Dev) (i at_ : Int) (A : Option Addr) (b : List UInt8) (len cap : Nat) (h : RD w p L n D) (hn : b.length = len) (hr : Rd w w.heap.size A (vb b)) (hA : b.length ≠ 0 → ∀ ad, A = some ad → ¬ L ad.block) (hl : len ≤ 140737488351360) :
    Calls Try.prog 36 #[.pointer (some ⟨p, 0, none⟩), .int .i64 i, .int .i64 at_, .slice A len cap] w fun e w' => e = .returned (.int .i64 (forE n i at_ b.length : Int)) ∧ RD w' p (ext L w w') n (D.foreign n i at_ b) ∧ Keep L w w' :=
  (rdforeign_any w p n L D i at_ A b len cap h hn hr hA hl).mono fun e w' ⟨he, hr, hk⟩ => ⟨he, hr.more (fun _ h => .inl h) (fun b hb => hb.elim (hr.lt b) fun h => h.2), hk⟩
/-- The document first. -/
theorem Pair.both2 {w w1 w2 : World} {d p n : Nat} {Lc L : Nat → Prop} {D D1 : Dev} (h : Pair w d p Lc L n D) (hr : RD w1 p (ext L w w1) n D1) (hk : Keep L w w1) (hc : CD w2 d (ext Lc w1 w2) n D1) (hk2 : Keep Lc w1 w2) :
    Pair w2 d p (ext Lc w1 w2) (ext L w w1) n D1 ∧ Ours w Lc L (ext Lc w1 w2) (ext L w w1) ∧ Keep (fun b => Lc b ∨ L b) w w2 := by
  have hd : ∀ b, ext L w w1 b → ¬ Lc b := fun b hb hc => hb.elim (fun hl => h.dis b hc hl) (fun hb => by have := h.c.lt b hc; omega)
  refine ⟨⟨hc, hr.keep hk2 hd, fun b hb hl => hb.elim (fun hc => hd b hl hc) (fun hb => by have := hr.lt b hl; omega)⟩, fun b hb => ?_, (hk.mono fun _ _ h => .inr h).trans hk2 fun b _ h => .inl h⟩
  rcases hb with (hb | hb) | (hb | hb)
  · exact .inl hb
  · exact .inr (.inr (Nat.le_trans hk.size hb.1))
  · exact .inr (.inl hb)
  · exact .inr (.inr hb.1)
theorem Pair.refFirst {w w1 : World} {d p n : Nat} {Lc L : Nat → Prop} {D : Dev} (h : Pair w d p Lc L n D) (hk : Keep L w w1) : CD w1 d Lc n D := h.c.keep hk h.dis
/-- Behind an allocation: what Does answers. -/
theorem doesR_of {w w0 w' : World} {p n d' m : Nat} {Lc L Lc' L' : Nat → Prop} {D' : Dev} (hb : Below w.heap.size w w0) (hP : Pair w' d' p Lc' L' n D') (ho : Ours w0 Lc L Lc' L') (hk : Keep (fun b => Lc b ∨ L b) w0 w') (hm : D'.load ≤ m + 1) {F : Nat → Prop} (hF : F d') :
    DoesR w p n Lc L m F (.returned (.tuple #[.pointer (some ⟨d', 0, none⟩), .bool true])) w' :=
  ⟨d', Lc', L', D', rfl, hP, fun b h => (ho b h).imp id (fun h => h.imp id fun h => Nat.le_trans hb.size h), (Keep.of hb).trans hk fun b _ h => h, hm, hF⟩
end Go.Proofs.Ytajplflefagbaaa
