/-
  The law's pieces: ciphers that are not there; a row that is made and stored; rows in a region that draws.
-/
import Derived.Test.YtljmkleppoacaaaAesO
import Derived.Test.YtljmkleppoacaaaAesM
namespace Go.Proofs.Ytljmkleppoacaaa
open Go Go.RowKit
set_option linter.unusedVariables false
set_option linter.unusedSimpArgs false

/-- A new row that is stored at once. -/
theorem new_row (w : World) (f : Nat → Nat) : H16 ((w.alloc (.cells #[.int .u8 0, .int .u8 0, .int .u8 0, .int .u8 0, .int .u8 0, .int .u8 0, .int .u8 0, .int .u8 0, .int .u8 0, .int .u8 0, .int .u8 0, .int .u8 0, .int .u8 0, .int .u8 0, .int .u8 0, .int .u8 0] 35)).setRow w.heap.size (aN 16 f)) w.heap.size f ∧ Below w.heap.size w ((w.alloc (.cells #[.int .u8 0, .int .u8 0, .int .u8 0, .int .u8 0, .int .u8 0, .int .u8 0, .int .u8 0, .int .u8 0, .int .u8 0, .int .u8 0, .int .u8 0, .int .u8 0, .int .u8 0, .int .u8 0, .int .u8 0, .int .u8 0] 35)).setRow w.heap.size (aN 16 f)) :=
  ⟨setRow_heap _ _ _ _ _ _ (H16.newAt (f := fun _ => 0) rfl), below_setRow ((Below.refl _ _).alloc (Nat.le_refl _) _) _ (Nat.le_refl _) _⟩
theorem new_dS (w : World) : (w.alloc (.cells #[.int .u8 0, .int .u8 0, .int .u8 0, .int .u8 0, .int .u8 0, .int .u8 0, .int .u8 0, .int .u8 0, .int .u8 0, .int .u8 0, .int .u8 0, .int .u8 0, .int .u8 0, .int .u8 0, .int .u8 0, .int .u8 0] 35)).heap[w.heap.size]? = some (.cells (aN 16 fun _ => 0) 35 (0, 0)) := H16.newAt (f := fun _ => 0) rfl
/-- Two arrays, as a region's loads leave them. -/
theorem eqv (f g : Nat → Nat) (s : Bool) (h : sameB f g = s) (w : World) : (Op.equalIn 10000 35 (.agg (vl 16 f).toArray) (.agg (vl 16 g).toArray)).run Try.prog w = .ok s w := by
  rw [← h]; exact eqin16 f g w
theorem eq_zeros (w : World) : (Op.equalIn 10000 35 (.agg (aN 16 fun _ => 0)) (.agg #[.int .u8 0, .int .u8 0, .int .u8 0, .int .u8 0, .int .u8 0, .int .u8 0, .int .u8 0, .int .u8 0, .int .u8 0, .int .u8 0, .int .u8 0, .int .u8 0, .int .u8 0, .int .u8 0, .int .u8 0, .int .u8 0])).run Try.prog w = .ok true w := by
  rw [zero16, eqin16, sameB_true (E16.refl _)]
theorem H16.range {w : World} {b : Nat} {f : Nat → Nat} (h : H16 w b f) : w.rangeAt b 0 (vl 16 f) := HT.range (t := 35) h

set_option maxRecDepth 100000 in
theorem encrypt_nil (b : Nat → Nat) (w : World) :
    Calls Try.prog 16 #[.pointer none, .agg (aN 16 b)] w fun e w' => e = .returned (.tuple #[.agg (aN 16 fun _ => 0), .int .i64 1]) ∧ Below w.heap.size w w' := by
  have h4 : H16 ((w.alloc (.cells (aN 16 b) 35)).alloc (.cells (aN 16 fun _ => 0) 35)) (w.heap.size + 1) fun _ => 0 := H16.newAt (w := w.alloc (.cells (aN 16 b) 35)) (by rw [World.size_alloc])
  have hB : Below w.heap.size w ((w.alloc (.cells (aN 16 b) 35)).alloc (.cells (aN 16 fun _ => 0) 35)) := ((Below.refl _ _).alloc (Nat.le_refl _) _).alloc (by simp) _
  have H4 := Lib.hid h4; clear h4
  have HB := Lib.hid hB; clear hB
  go_enter Try.func16, Try.ntmps16
  go_wp2_with fail
  rw [zero16]
  generalize (w.alloc (.cells (aN 16 b) 35)).alloc (.cells (aN 16 fun _ => 0) 35) = w0 at *
  refine (missing_yes _).mono ?_
  rintro e w1 ⟨rfl, rfl⟩
  have d4 : w1.heap[w.heap.size + 1]? = some (.cells (aN 16 fun _ => 0) 35 (0, 0)) := H4.out
  go_wp2_with (refine wpList_store_row rfl 35 (.tmp 4) (.tmp 11) rfl (w.heap.size + 1) #[.int .u8 0, .int .u8 0, .int .u8 0, .int .u8 0, .int .u8 0, .int .u8 0, .int .u8 0, .int .u8 0, .int .u8 0, .int .u8 0, .int .u8 0, .int .u8 0, .int .u8 0, .int .u8 0, .int .u8 0, .int .u8 0] rfl rfl 35 _ d4 (by kernel_rfl) (by rw [aN_size]; rfl) (by kernel_rfl) ?_)
  rw [zero16]
  refine bodyPost_ret (v := .tuple #[.agg (aN 16 fun _ => 0), .int .i64 1]) (results_two_row (p := 4) (u := 5) (ty := 35) (by kernel_rfl) _ _ (w.heap.size + 1) 35 (aN 16 fun _ => 0) (0, 0) 16 5 (.int .i64 1) rfl rfl ?_ Try.underlying35 (by rw [aN_size]; kernel_rfl)) rfl ⟨rfl, ?_⟩
  · exact setRow_heap _ _ _ _ _ _ d4
  · exact below_setRow HB.out _ (by omega) _

set_option maxRecDepth 100000 in
theorem decrypt_nil (b : Nat → Nat) (w : World) :
    Calls Try.prog 18 #[.pointer none, .agg (aN 16 b)] w fun e w' => e = .returned (.tuple #[.agg (aN 16 fun _ => 0), .int .i64 1]) ∧ Below w.heap.size w w' := by
  have h4 : H16 ((w.alloc (.cells (aN 16 b) 35)).alloc (.cells (aN 16 fun _ => 0) 35)) (w.heap.size + 1) fun _ => 0 := H16.newAt (w := w.alloc (.cells (aN 16 b) 35)) (by rw [World.size_alloc])
  have hB : Below w.heap.size w ((w.alloc (.cells (aN 16 b) 35)).alloc (.cells (aN 16 fun _ => 0) 35)) := ((Below.refl _ _).alloc (Nat.le_refl _) _).alloc (by simp) _
  have H4 := Lib.hid h4; clear h4
  have HB := Lib.hid hB; clear hB
  go_enter Try.func18, Try.ntmps18
  go_wp2_with fail
  rw [zero16]
  generalize (w.alloc (.cells (aN 16 b) 35)).alloc (.cells (aN 16 fun _ => 0) 35) = w0 at *
  refine (missing_yes _).mono ?_
  rintro e w1 ⟨rfl, rfl⟩
  have d4 : w1.heap[w.heap.size + 1]? = some (.cells (aN 16 fun _ => 0) 35 (0, 0)) := H4.out
  go_wp2_with (refine wpList_store_row rfl 35 (.tmp 4) (.tmp 11) rfl (w.heap.size + 1) #[.int .u8 0, .int .u8 0, .int .u8 0, .int .u8 0, .int .u8 0, .int .u8 0, .int .u8 0, .int .u8 0, .int .u8 0, .int .u8 0, .int .u8 0, .int .u8 0, .int .u8 0, .int .u8 0, .int .u8 0, .int .u8 0] rfl rfl 35 _ d4 (by kernel_rfl) (by rw [aN_size]; rfl) (by kernel_rfl) ?_)
  rw [zero16]
  refine bodyPost_ret (v := .tuple #[.agg (aN 16 fun _ => 0), .int .i64 1]) (results_two_row (p := 4) (u := 5) (ty := 35) (by kernel_rfl) _ _ (w.heap.size + 1) 35 (aN 16 fun _ => 0) (0, 0) 16 5 (.int .i64 1) rfl rfl ?_ Try.underlying35 (by rw [aN_size]; kernel_rfl)) rfl ⟨rfl, ?_⟩
  · exact setRow_heap _ _ _ _ _ _ d4
  · exact below_setRow HB.out _ (by omega) _

theorem vb_vn (l : List UInt8) : vb l = vn (l.map UInt8.toNat) := by simp [vb, vn]
theorem vb_lt (l : List UInt8) : ∀ x ∈ l.map UInt8.toNat, x < 256 := fun x hx => by
  obtain ⟨c, _, rfl⟩ := List.mem_map.mp hx
  exact c.toNat_lt
set_option maxRecDepth 100000 in
theorem may16 (A : Option Addr) (cap : Nat) (w : World) : Calls Try.prog 13 #[.slice A 16 cap] w fun e w' => e = .returned (.bool true) ∧ w' = w := by
  go_enter Try.func13, Try.ntmps13
  go_wp2_with fail
  go_ret
  exact ⟨rfl, rfl⟩
set_option maxRecDepth 100000 in
theorem may32 (A : Option Addr) (cap : Nat) (w : World) : Calls Try.prog 13 #[.slice A 32 cap] w fun e w' => e = .returned (.bool true) ∧ w' = w := by
  go_enter Try.func13, Try.ntmps13
  go_wp2_with fail
  go_ret
  exact ⟨rfl, rfl⟩
set_option maxRecDepth 100000 in
theorem may_no (A : Option Addr) (N cap : Nat) (h1 : N ≠ 16) (h2 : N ≠ 32) (w : World) : Calls Try.prog 13 #[.slice A N cap] w fun e w' => e = .returned (.bool false) ∧ w' = w := by
  have e1 : ((N : Int) == 16) = false := by rw [beq_eq_false_iff_ne]; omega
  have e2 : ((N : Int) == 32) = false := by rw [beq_eq_false_iff_ne]; omega
  clear h1 h2
  go_enter Try.func13, Try.ntmps13
  go_wp2_with fail
  go_ret
  exact ⟨rfl, rfl⟩
theorem dec_enc_any (r : Nat) (F b : Nat → Nat) (c : Nat) (w : World) (hr : 1 ≤ r) (hr' : r ≤ 14) (hb : B16 b) (hk : BK F r) (h : Ci r w c F) :
    Calls Try.prog 18 #[.pointer (some ⟨c, 0, none⟩), .agg (aN 16 (enc F r b))] w fun e w' => e = .returned (.tuple #[.agg (aN 16 b), .int .i64 0]) ∧ Below w.heap.size w w' := by
  have := decrypt_any r F (enc F r b) c w hr hr' (enc_lt F r b hb hk) hk h
  rwa [aN_congr (dec_enc F r b hb hk)] at this
theorem enc_dec_any (r : Nat) (F b : Nat → Nat) (c : Nat) (w : World) (hr : 1 ≤ r) (hr' : r ≤ 14) (hb : B16 b) (hk : BK F r) (h : Ci r w c F) :
    Calls Try.prog 16 #[.pointer (some ⟨c, 0, none⟩), .agg (aN 16 (dec F r b))] w fun e w' => e = .returned (.tuple #[.agg (aN 16 b), .int .i64 0]) ∧ Below w.heap.size w w' := by
  have := encrypt_any r F (dec F r b) c w hr hr' (dec_lt F r b hb hk) hk h
  rwa [aN_congr (enc_dec F r b hb hk)] at this
/-- Unlike blocks stay unlike. -/
theorem same_enc (F : Nat → Nat) (r : Nat) (a b : Nat → Nat) (ha : B16 a) (hb : B16 b) (hk : BK F r) : sameB (enc F r a) (enc F r b) = sameB a b := by
  rw [Bool.eq_iff_iff, sameB_iff, sameB_iff]
  exact ⟨fun h => (dec_enc F r a ha hk).symm.trans ((dec_eq F r h).trans (dec_enc F r b hb hk)), fun h => enc_eq F r h⟩
/-- A store into a row of bytes leaves a cipher alone. -/
theorem Ci.far {r : Nat} {w : World} {c gi k : Nat} {F : Nat → Nat} {cur : Array Value} (h : Ci r w c F) (hg : w.heap[gi]? = some (.cells cur 5 (0, 0))) (v : Value) : Ci r (w.setCell ⟨gi, k, none⟩ v) c F := by
  obtain ⟨g, h1, h2⟩ := h
  have hc : c ≠ gi := by
    intro e
    subst e
    rw [hg] at h1
    simp at h1
  have hgg : g ≠ gi := by
    intro e
    subst e
    have h3 : w.heap[g]? = some (.cells (aN (16 * (r + 1)) F) 47 (0, 0)) := h2
    rw [hg] at h3
    simp at h3
  exact ⟨g, (heap_setCell_other _ _ _ _ hc).trans h1, (heap_setCell_other _ _ _ _ hgg).trans h2⟩
theorem own_row {w : World} {base e n g c : Nat} {xs : List Value} (h : w.ownsRow base e 1 (.slice (some ⟨g, 0, none⟩) n c) n xs) (hn : 0 < n) : ∃ cur, w.heap[g]? = some (.cells cur e (0, 0)) := by
  obtain ⟨_, hv⟩ := h
  rcases hv with ⟨_, h0⟩ | ⟨g', cap, cur, hv, _, hh, _⟩
  · omega
  · injection hv with h1 _ _
    injection h1 with h1
    injection h1 with h1
    subst h1
    exact ⟨cur, hh⟩
theorem own_rd {w : World} {base e n g c : Nat} {xs : List Value} (h : w.ownsRow base e 1 (.slice (some ⟨g, 0, none⟩) n c) n xs) : Rd w w.heap.size (some ⟨g, 0, none⟩) xs := by
  obtain ⟨A, c', e', _, hr⟩ := Rd.of_own h
  injection e' with h1 _ _
  subst h1
  exact hr
end Go.Proofs.Ytljmkleppoacaaa
