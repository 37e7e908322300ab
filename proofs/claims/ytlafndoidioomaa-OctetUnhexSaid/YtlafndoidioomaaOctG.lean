/-
  The law's own look at something known.
-/
import Derived.Test.YtlafndoidioomaaProg
import Derived.Test.YtlafndoidioomaaOctA
import Derived.Test.YtlafndoidioomaaOctB
import Derived.Test.YtlafndoidioomaaOctC
import Derived.Test.YtlafndoidioomaaOctF
namespace Go.Proofs.Ytlafndoidioomaa
open Go Go.RowKit
set_option linter.unusedVariables false

/-- A block that was just made can be read. -/
theorem Rd.new (w : World) (l : List UInt8) (e : TypeId) : Rd (w.alloc (.cells (vb l).toArray e)) (w.heap.size + 1) (some ⟨w.heap.size, 0, none⟩) (vb l) :=
  fun _ => ⟨_, rfl, by simp, fun j u hu => World.news_of_block (heap_alloc_new w _) j u (by simpa using hu)⟩

set_option maxHeartbeats 1000000 in
theorem known_any (w : World) : Calls Try.prog 14 #[] w fun e w' => e = .returned (.bool true) ∧ Below w.heap.size w w' := by
  have CP := put_any 258 2 w (by omega) (by decide) (by omega) (by omega)
  have e1 : be 258 2 = [1, 2] := by decide
  rw [e1] at CP
  have HP := Lib.hid CP; clear CP e1
  have e2 : num [1, 2] = 258 := by decide
  have HE2 := Lib.hid e2; clear e2
  have e3 : hx [0, 175] = [48, 48, 97, 102] := by decide
  have HE3 := Lib.hid e3; clear e3
  go_enter Try.func14, Try.ntmps14
  go_wp2_with fail
  refine HP.out.mono ?_
  rintro e w1 ⟨v, rfl, hown, hb1⟩
  obtain ⟨A, c, rfl, hlen, hrd⟩ := Rd.of_own hown
  obtain ⟨ad, rfl, hbd, hc0⟩ := hrd.at_ (k := 0) (by simp)
  obtain ⟨ad', h', _, hc1⟩ := hrd.at_ (k := 1) (by simp)
  obtain rfl : ad = ad' := by injection h'
  have hc0 : w1.cell? ad = some (.int .u8 1) := by simpa [Addr.add] using hc0
  have hc1 : w1.cell? (ad.add 1) = some (.int .u8 2) := by simpa using hc1
  clear h' hlen hown
  go_wp2_with fail
  refine (get_any _ [1, 2] 2 2 rfl _ (by omega) (by omega) (by simpa using Rd.new w1 [1, 2] 5)).mono ?_
  rintro e w2 ⟨rfl, rfl⟩
  rw [HE2.out]
  have hd0 : (w1.alloc (.cells #[.int .u8 1, .int .u8 2] 5)).cell? ad = some (.int .u8 1) := (World.cell?_alloc_lt w1 _ _ hbd).trans hc0
  have hd1 : (w1.alloc (.cells #[.int .u8 1, .int .u8 2] 5)).cell? ⟨ad.block, ad.off + 1, none⟩ = some (.int .u8 2) := (World.cell?_alloc_lt w1 _ _ (by exact hbd)).trans hc1
  have hb2 : Below w.heap.size w (w1.alloc (.cells #[.int .u8 1, .int .u8 2] 5)) := hb1.alloc hb1.size _
  generalize w1.alloc (.cells #[.int .u8 1, .int .u8 2] 5) = w3 at *
  clear hc0 hc1 hrd hbd hb1
  go_wp2_with fail
  refine (hex_any _ [0, 175] 2 2 rfl _ (by omega) (by simpa using Rd.new w3 [0, 175] 5)).mono ?_
  rintro e w4 ⟨rfl, hb4⟩
  rw [HE3.out]
  have hb5 : Below w.heap.size w w4 := (hb2.alloc hb2.size _).trans (hb4.mono (by have := hb2.size; simp; omega))
  clear hb4 hd0 hd1
  go_wp2_with fail
  go_ret
  exact ⟨rfl, hb5⟩
end Go.Proofs.Ytlafndoidioomaa
