/-
  The document's Copy and Same of layer 1, for later layers (no code of octet is wanted).
-/
import Derived.Test.YtajplflefagbaaaProg
import Derived.Test.YtajplflefagbaaaBase
import Derived.Laws.CopyOwn
namespace Go.Proofs.Ytajplflefagbaaa
open Go Go.RowKit
set_option linter.unusedVariables false
set_option linter.unusedSimpArgs false

theorem info_b : (Try.prog.info? 5).map (fun i => (i.zero, i.size, i.bytes)) = some (some (.int .u8 0), 1, 1) := by kernel_rfl
theorem vb_onec (l : List UInt8) : ∀ v ∈ vb l, v.oneCell' = true := by
  intro v hv
  simp only [vb, List.mem_map] at hv
  obtain ⟨b, _, rfl⟩ := hv
  rfl

set_option maxRecDepth 100000 in
set_option maxHeartbeats 400000 in
theorem copyx_any (A : Option Addr) (cs : List Value) (n cap : Nat) (hlen : cs.length = n) (hone : ∀ v ∈ cs, v.oneCell' = true) (w : World) (hl : n ≤ 140737488351232) (h : Rd w w.heap.size A cs) :
    Calls Try.prog 30 #[.slice A n cap] w fun e w' => e = .returned (.slice (some ⟨w.heap.size, 0, none⟩) n (n + 3)) ∧ w'.ownsRow w.heap.size 5 1 (.slice (some ⟨w.heap.size, 0, none⟩) n (n + 3)) n cs ∧ Below w.heap.size w w' := by
  obtain ⟨i0, hi, hz0, hz1, hz2⟩ := info_parts info_b
  have hsz : (Try.prog.info? 5).map (·.size) = some 1 := by rw [hi]; simp [hz1]
  have HL := Lib.hid hlen
  have HONE := Lib.hid hone
  clear hlen hone
  go_enter Try.func30, Try.ntmps30
  go_wp2_with (first
    | (at_make; refine wpList_make_blk _ rfl _ _ 34 rfl 5 i0 (.int .u8 0) Try.underlying34 hi hz0 hz1 rfl .i64 .i64 _ _ n (n + 3) rfl rfl rfl (by omega) (by omega) (by rw [hz2]; omega) (by unfold maxLen; omega) ?_; intro w0 hblk0 hb0 hsize0)
    | ((with_reducible show wpList _ _ _ _ _ _); refine wpList_copy_splice (o := ⟨some 12, _, _, _, _, _⟩) rfl (.tmp 10) (.tmp 11) 34 34 rfl 5 Try.underlying34 hsz (some ⟨w.heap.size, 0, none⟩) A n (n + 3) n cap rfl rfl w.heap.size 0 (List.replicate (n + 3) (.int .u8 0)) 5 hblk0.out cs (by have := HL.out; simp [this]) ?_ (by have := HL.out; simp; omega) HONE.out w.heap.size w hb0 (Nat.le_refl _) ?_))
  · intro h0
    obtain ⟨ad, rfl, hb, hc⟩ := h h0
    exact ⟨ad, rfl, fun j v hv => (hb0.cell (by rw [add_block]; exact hb)).trans (hc j v hv)⟩
  · intro w1 hblk1 hb1
    go_wp2
    go_ret
    refine ⟨rfl, ?_, hb1⟩
    have := own_of_blk (n := n) (cap := n + 3) hblk1.out (Nat.le_refl _) (by omega) (by unfold maxLen; omega) (by have := HL.out; simp [splice]; omega)
    have hsp : (List.take n (splice (List.replicate (n + 3) (Value.int .u8 0)) 0 cs)) = cs := by
      simp only [splice, List.take_zero, List.nil_append]
      rw [List.take_append_of_le_length (by have := HL.out; omega), List.take_of_length_le (by have := HL.out; omega)]
    simp only [hsp] at this
    exact this
theorem copyv_any (A : Option Addr) (cs : List Value) (n cap : Nat) (hlen : cs.length = n) (hone : ∀ v ∈ cs, v.oneCell' = true) (w : World) (hl : n ≤ 140737488351232) (h : Rd w w.heap.size A cs) :
    Calls Try.prog 30 #[.slice A n cap] w fun e w' => ∃ v, e = .returned v ∧ w'.ownsRow w.heap.size 5 1 v n cs ∧ Below w.heap.size w w' :=
  (copyx_any A cs n cap hlen hone w hl h).mono fun e w' ⟨he, ho, hb⟩ => ⟨_, he, ho, hb⟩

set_option maxRecDepth 100000 in
/-- 'string(a) == string(b)'. -/
theorem rsamev_any (A B : Option Addr) (a b : List UInt8) (n m ca cb : Nat) (hn : a.length = n) (hm : b.length = m) (w : World) {BA BB : Nat} (h : Rd w BA A (vb a)) (h' : Rd w BB B (vb b)) :
    Calls Try.prog 19 #[.slice A n ca, .slice B m cb] w fun e w' => e = .returned (.bool (a == b)) ∧ w' = w := by
  have ra := run_str (P := Try.prog) 34 9 5 Try.underlying34 Try.underlying5 Try.underlying9 hn ca h
  have rb := run_str (P := Try.prog) 34 9 5 Try.underlying34 Try.underlying5 Try.underlying9 hm cb h'
  clear hn hm
  go_enter Try.func19, Try.ntmps19
  go_wp2
  go_ret
  exact ⟨rfl, rfl⟩
end Go.Proofs.Ytajplflefagbaaa
