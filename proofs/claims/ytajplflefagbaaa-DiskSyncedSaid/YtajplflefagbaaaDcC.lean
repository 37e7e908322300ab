/-
  The landed code's device (layer 8): whether there is a block, how many, what is counted, waits; what is read.
-/
import Derived.Test.YtajplflefagbaaaDcB
namespace Go.Proofs.Ytajplflefagbaaa
open Go Go.RowKit
set_option linter.unusedVariables false
set_option linter.unusedSimpArgs false

set_option maxRecDepth 100000 in
set_option maxHeartbeats 4000000 in
theorem cdhas_any (S : Cs) (w : World) (d n : Nat) (L : Nat → Prop) (D : Dev) (i : Int) (h : CDs S w d L n D) :
    Calls Try.prog 38 #[.pointer (some ⟨d, 0, none⟩), .int .i64 i] w fun e w' => e = .returned (.bool (hasB n i)) ∧ w' = w := by
  have d0 := h.c0
  have hn4 := h.n4.2
  clear h
  by_cases h0 : 0 ≤ i
  · by_cases h1 : i < (n : Int)
    · rw [show hasB n i = true from by simp [hasB, h0, h1]]
      go_enter Try.func38, Try.ntmps38
      go_wp2_with fail
      go_ret
      exact ⟨rfl, rfl⟩
    · rw [show hasB n i = false from by simp [hasB, h1]]
      go_enter Try.func38, Try.ntmps38
      go_wp2_with fail
      go_ret
      exact ⟨rfl, rfl⟩
  · rw [show hasB n i = false from by simp [hasB, h0]]
    go_enter Try.func38, Try.ntmps38
    go_wp2_with fail
    go_ret
    exact ⟨rfl, rfl⟩
section
variable (w : World) (d n : Nat) (L : Nat → Prop) (D : Dev)
set_option maxRecDepth 100000 in
theorem cdblocks_any (h : CD w d L n D) : Calls Try.prog 17 #[.pointer (some ⟨d, 0, none⟩)] w fun e w' => e = .returned (.int .i64 (n : Int)) ∧ Below w.heap.size w w' := by
  obtain ⟨S, h⟩ := h
  have d0 := h.c0
  clear h
  go_enter Try.func17, Try.ntmps17
  go_wp2_with fail
  go_ret
  exact ⟨rfl, Below.refl _ _⟩
set_option maxRecDepth 100000 in
theorem cdsteps_any (h : CD w d L n D) : Calls Try.prog 14 #[.pointer (some ⟨d, 0, none⟩)] w fun e w' => e = .returned (.int .u64 (D.steps : Int)) ∧ Below w.heap.size w w' := by
  obtain ⟨S, h⟩ := h
  have d0 := h.c3
  clear h
  go_enter Try.func14, Try.ntmps14
  go_wp2_with fail
  go_ret
  exact ⟨rfl, Below.refl _ _⟩
theorem wv_form {S : Cs} {w : World} {d n : Nat} {L : Nat → Prop} {D : Dev} (h : CDs S w d L n D) : ∃ A c, S.wv = .slice A D.waits.length c ∧ D.waits.length ≤ c ∧ Rd w w.heap.size A (fl (D.waits.length * 257) (wF D.waits)) := by
  have hww := h.ww
  obtain ⟨hn, hv⟩ := id hww
  rcases hv with ⟨e, h0⟩ | ⟨g, cap, cur, e, hg, hh, hc, hcm, hs, ht⟩
  · exact ⟨none, 0, by rw [e, h0], by omega, fun h1 => by rw [fl_len, h0] at h1; omega⟩
  · refine ⟨some ⟨g, 0, none⟩, cap, e, hc, fun _ => ⟨_, rfl, (Array.getElem?_eq_some_iff.1 hh).1, fun j u hj => ?_⟩⟩
    exact World.ownsRow.cells hww (g := g) (by rw [e]; rfl) j u hj
set_option maxRecDepth 100000 in
theorem cdwaiting_any (h : CD w d L n D) (hm : D.waits.length ≤ 1000000) : Calls Try.prog 15 #[.pointer (some ⟨d, 0, none⟩)] w fun e w' => e = .returned (.int .i64 (D.waits.length : Int)) ∧ Below w.heap.size w w' := by
  obtain ⟨S, h⟩ := h
  have d0 := h.c2
  obtain ⟨A, c, ew, _, _⟩ := wv_form h
  rw [ew] at d0
  clear h ew
  generalize D.waits.length = m at *
  go_enter Try.func15, Try.ntmps15
  go_wp2_with fail
  go_ret
  exact ⟨rfl, Below.refl _ _⟩
set_option maxRecDepth 100000 in
theorem cddown_any (h : CD w d L n D) : Calls Try.prog 16 #[.pointer (some ⟨d, 0, none⟩)] w fun e w' => e = .returned (.bool D.down) ∧ Below w.heap.size w w' := by
  obtain ⟨S, h⟩ := h
  have d0 := h.c7
  clear h
  go_enter Try.func16, Try.ntmps16
  go_wp2_with fail
  go_ret
  exact ⟨rfl, Below.refl _ _⟩
end
abbrev z256 : Array Value := (fl 256 fun _ => .int .u8 0).toArray
theorem zeroBlock (w : World) : (zeroValue 67).run Try.prog w = .ok (.agg z256) w := by kernel_rfl
theorem block_size : (Try.prog.info? 67).map (·.size) = some 256 := by kernel_rfl
/-- A slice that the call made, whatever its block's type; it can be read and written to. -/
def Own8 (w : World) (base : Nat) (v : Value) (n : Nat) (xs : List Value) : Prop := ∃ e : TypeId, w.ownsRow base e 1 v n xs
theorem Rd.of_own8 {w : World} {base n : Nat} {v : Value} {xs : List Value} (h : Own8 w base v n xs) : ∃ A c, v = .slice A n c ∧ xs.length = n ∧ Rd w w.heap.size A xs := by
  obtain ⟨e, h⟩ := h
  exact Rd.of_own h
theorem Own8.below {w w' : World} {base n : Nat} {v : Value} {xs : List Value} (h : Own8 w base v n xs) (hb : Below w.heap.size w w') : Own8 w' base v n xs := by
  obtain ⟨e, h⟩ := h
  exact ⟨e, own_below h hb⟩
theorem own8_nil (w : World) (base : Nat) : Own8 w base (.slice none 0 0) 0 (vb []) := ⟨0, World.ownsRow_nil _ _ _ _⟩
theorem new_there (w : World) : (w.alloc (.cells z256 67)).there w.heap.size 0 256 := (Fr.new w (fl 256 fun _ => .int .u8 0) 67 256 (by rw [fl_len]; exact Nat.le_refl _)).there 0 256 (Nat.le_refl _)
theorem new_thereV (w : World) (l : List UInt8) (hl : l.length = 256) : (w.alloc (.cells z256 67)).there w.heap.size 0 (vb l).toArray.size := by
  have e : (vb l).toArray.size = 256 := by simp [hl]
  rw [e]; exact new_there w
theorem new_own8 (w : World) (l : List UInt8) (hl : l.length = 256) : Own8 ((w.alloc (.cells z256 67)).setCells w.heap.size 0 (vb l)) w.heap.size (.slice (some ⟨w.heap.size, 0, none⟩) 256 256) 256 (vb l) ∧ Below w.heap.size w ((w.alloc (.cells z256 67)).setCells w.heap.size 0 (vb l)) := by
  have hF := Fr.setCells (vb l) 0 _ _ (Fr.new w (fl 256 fun _ => .int .u8 0) 67 256 (by rw [fl_len]; exact Nat.le_refl _)) (by rw [List.length_map, hl]; exact Nat.le_refl _)
  have hs := Fr.size_setCells (vb l) 0 (w.alloc (.cells z256 67)) z256 67 w.heap.size (heap_alloc_new w _)
  refine ⟨⟨67, by rw [List.length_map, hl], .inr ?_⟩, Turn.below ((Below.refl _ _).alloc (Nat.le_refl _) _) (turn_setCells _ _ _ _) (Nat.le_refl _)⟩
  obtain ⟨cur, h1, h2⟩ := hs
  have hz : cur.size = 256 := by rw [h2]; show (fl 256 fun _ => Value.int .u8 0).toArray.size = 256; simp [fl_len]
  refine ⟨w.heap.size, 256, cur, rfl, Nat.le_refl _, h1, Nat.le_refl _, by unfold maxLen; omega, by omega, ?_⟩
  obtain ⟨cur', h1', _, h3⟩ := hF
  rw [h1] at h1'
  injection h1' with h1'
  injection h1' with e
  subst e
  rw [fl_vb l 256 hl]
  apply List.ext_getElem?
  intro k
  rw [List.getElem?_take]
  by_cases hk : k < 256
  · rw [if_pos (by omega), fl_get _ _ _ hk, Array.getElem?_toList, h3 k hk]
    unfold layF
    rw [List.length_map, hl, if_pos (by omega), List.getElem?_map, Nat.sub_zero, List.getElem?_eq_getElem (by omega), List.getD_eq_getElem?_getD, List.getElem?_eq_getElem (by omega)]; rfl
  · rw [if_neg (by omega), List.getElem?_eq_none (by rw [fl_len]; omega)]
theorem vb_all (l : List UInt8) : (vb l).toArray.all (·.oneCell') = true := all_oneCell_toArray fun v hv => by obtain ⟨b, _, rfl⟩ := List.mem_map.1 hv; rfl
theorem vb_size (l : List UInt8) (hl : l.length = 256) : (Try.prog.info? 67).map (·.size) = some (vb l).toArray.size := by rw [List.size_toArray, List.length_map, hl]; exact block_size
theorem vb_len (l : List UInt8) (hl : l.length = 256) : (Try.prog.info? 67).map (·.size) = some (vb l).length := by rw [List.length_map, hl]; exact block_size
set_option maxRecDepth 100000 in
set_option maxHeartbeats 4000000 in
theorem cdfirm_any (w : World) (d n : Nat) (L : Nat → Prop) (D : Dev) (h : CD w d L n D) (i : Int) : Calls Try.prog 18 #[.pointer (some ⟨d, 0, none⟩), .int .i64 i] w fun e w' => ∃ v, e = .returned (.tuple #[v, .int .i64 (Dev.firmE n i : Int)]) ∧ Own8 w' w.heap.size v (D.firmB n i).length (vb (D.firmB n i)) ∧ Below w.heap.size w w' := by
  obtain ⟨S, h⟩ := h
  have hh := cdhas_any S w d n L D i h
  have d0 := h.c1
  have d7 := h.c7
  have hn4 := h.n4.2
  by_cases h1 : hasB n i = true
  · rw [h1] at hh
    have HH := Lib.hid hh; clear hh
    obtain ⟨i0, i1⟩ := (hasB_iff n i).1 h1
    have eE : Dev.firmE n i = 0 := by unfold Dev.firmE; rw [if_pos h1]
    obtain ⟨k, rfl⟩ : ∃ k : Nat, i = (k : Int) := ⟨i.toNat, by omega⟩
    have hk : k < n := by omega
    have eB : D.firmB n (k : Int) = D.firm.getD k [] := by unfold Dev.firmB; rw [if_pos h1]; rfl
    rw [eE, eB]
    have hlen := h.ok.fr k hk
    have hr := h.rr.range (k * 256) 256 (by omega)
    rw [bF_block _ _ hlen] at hr
    generalize D.firm.getD k [] = l at *
    rw [hlen]
    have HR := Lib.hid hr; clear hr
    have HL := Lib.hid hlen; clear hlen
    have hz := zeroBlock
    clear h eE eB h1 i0
    generalize S.bf = bn at *
    generalize S.cf = cn at *
    go_enter Try.func18, Try.ntmps18
    go_wp2_with fail
    refine HH.out.mono ?_
    rintro e w1 ⟨rfl, rfl⟩
    go_wp2_with (first
      | (refine wpList_load_mid rfl 67 (.tmp 18) rfl bn (k * 256) rfl (vb l) (.array 256 5) HR.out Try.underlying67 rfl (vb_len l HL.out) ?_)
      | (refine wpList_store_mid rfl 67 (.tmp 6) (.tmp 19) rfl w1.heap.size 0 (vb l).toArray rfl rfl (new_thereV w1 l HL.out) (vb_size l HL.out) (vb_all l) ?_))
    go_ret2
    exact ⟨_, rfl, (new_own8 w1 l HL.out).1, (new_own8 w1 l HL.out).2⟩
  · have eE : Dev.firmE n i = 2 := by unfold Dev.firmE; rw [if_neg h1]
    have eB : D.firmB n i = [] := by unfold Dev.firmB; rw [if_neg h1]
    rw [eE, eB]
    have h2 : hasB n i = false := by simpa using h1
    rw [h2] at hh
    have HH := Lib.hid hh; clear hh
    clear h eE eB h1 h2
    go_enter Try.func18, Try.ntmps18
    go_wp2_with fail
    refine HH.out.mono ?_
    rintro e w1 ⟨rfl, rfl⟩
    go_wp2_with fail
    go_ret2
    exact ⟨_, rfl, own8_nil _ _, Below.refl _ _⟩
set_option maxRecDepth 100000 in
set_option maxHeartbeats 4000000 in
theorem cdread_any (w : World) (d n : Nat) (L : Nat → Prop) (D : Dev) (h : CD w d L n D) (i : Int) : Calls Try.prog 22 #[.pointer (some ⟨d, 0, none⟩), .int .i64 i] w fun e w' => ∃ v, e = .returned (.tuple #[v, .int .i64 (D.readE n i : Int)]) ∧ Own8 w' w.heap.size v (D.readB n i).length (vb (D.readB n i)) ∧ Below w.heap.size w w' := by
  obtain ⟨S, h⟩ := h
  have hh := cdhas_any S w d n L D i h
  have d0 := h.c0
  have d7 := h.c7
  have hn4 := h.n4.2
  by_cases h1 : hasB n i = true
  · rw [h1] at hh
    have HH := Lib.hid hh; clear hh
    obtain ⟨i0, i1⟩ := (hasB_iff n i).1 h1
    by_cases hd : D.down = true
    · have eE : D.readE n i = 81 := by unfold Dev.readE; rw [if_pos h1, if_pos hd]
      have eB : D.readB n i = [] := by unfold Dev.readB; rw [if_neg (by rw [eE]; decide)]
      rw [eE, eB]
      rw [hd] at d7
      clear h eE eB hd
      go_enter Try.func22, Try.ntmps22
      go_wp2_with fail
      refine HH.out.mono ?_
      rintro e w1 ⟨rfl, rfl⟩
      go_wp2_with fail
      go_ret2
      exact ⟨_, rfl, own8_nil _ _, Below.refl _ _⟩
    have hd : D.down = false := by simpa using hd
    rw [hd] at d7
    have eE : D.readE n i = 0 := by unfold Dev.readE; rw [if_pos h1, if_neg (by rw [hd]; decide)]
    obtain ⟨k, rfl⟩ : ∃ k : Nat, i = (k : Int) := ⟨i.toNat, by omega⟩
    have hk : k < n := by omega
    have eB : D.readB n (k : Int) = D.now.getD k [] := by unfold Dev.readB; rw [if_pos eE]; rfl
    rw [eE, eB]
    have hlen := h.ok.nr k hk
    have hr := h.rn.range (k * 256) 256 (by omega)
    rw [bF_block _ _ hlen] at hr
    generalize D.now.getD k [] = l at *
    rw [hlen]
    have HR := Lib.hid hr; clear hr
    have HL := Lib.hid hlen; clear hlen
    have hz := zeroBlock
    clear h eE eB h1 i0 hd
    generalize S.bn = bn at *
    generalize S.cn = cn at *
    go_enter Try.func22, Try.ntmps22
    go_wp2_with fail
    refine HH.out.mono ?_
    rintro e w1 ⟨rfl, rfl⟩
    go_wp2_with (first
      | (refine wpList_load_mid rfl 67 (.tmp 25) rfl bn (k * 256) rfl (vb l) (.array 256 5) HR.out Try.underlying67 rfl (vb_len l HL.out) ?_)
      | (refine wpList_store_mid rfl 67 (.tmp 6) (.tmp 26) rfl w1.heap.size 0 (vb l).toArray rfl rfl (new_thereV w1 l HL.out) (vb_size l HL.out) (vb_all l) ?_))
    go_ret2
    exact ⟨_, rfl, (new_own8 w1 l HL.out).1, (new_own8 w1 l HL.out).2⟩
  · have eE : D.readE n i = 2 := by unfold Dev.readE; rw [if_neg h1]
    have eB : D.readB n i = [] := by unfold Dev.readB; rw [if_neg (by rw [eE]; decide)]
    rw [eE, eB]
    have h2 : hasB n i = false := by simpa using h1
    rw [h2] at hh
    have HH := Lib.hid hh; clear hh
    clear h eE eB h1 h2
    go_enter Try.func22, Try.ntmps22
    go_wp2_with fail
    refine HH.out.mono ?_
    rintro e w1 ⟨rfl, rfl⟩
    go_wp2_with fail
    go_ret2
    exact ⟨_, rfl, own8_nil _ _, Below.refl _ _⟩
/- A device that is not there. -/
section
variable (w : World)
theorem cdblocks_nil : Calls Try.prog 17 #[.pointer none] w fun e w' => e = .returned (.int .i64 0) ∧ Below w.heap.size w w' := by
  go_enter Try.func17, Try.ntmps17
  go_wp2_with fail
  go_ret
  exact ⟨rfl, Below.refl _ _⟩
theorem cdsteps_nil : Calls Try.prog 14 #[.pointer none] w fun e w' => e = .returned (.int .u64 0) ∧ Below w.heap.size w w' := by
  go_enter Try.func14, Try.ntmps14
  go_wp2_with fail
  go_ret
  exact ⟨rfl, Below.refl _ _⟩
theorem cdwaiting_nil : Calls Try.prog 15 #[.pointer none] w fun e w' => e = .returned (.int .i64 0) ∧ Below w.heap.size w w' := by
  go_enter Try.func15, Try.ntmps15
  go_wp2_with fail
  go_ret
  exact ⟨rfl, Below.refl _ _⟩
theorem cddown_nil : Calls Try.prog 16 #[.pointer none] w fun e w' => e = .returned (.bool false) ∧ Below w.heap.size w w' := by
  go_enter Try.func16, Try.ntmps16
  go_wp2_with fail
  go_ret
  exact ⟨rfl, Below.refl _ _⟩
theorem cdstep_nil : Calls Try.prog 26 #[.pointer none] w fun e w' => e = .returned (.int .i64 1) ∧ Below w.heap.size w w' := by
  go_enter Try.func26, Try.ntmps26
  go_wp2_with fail
  go_ret
  exact ⟨rfl, Below.refl _ _⟩
theorem cdsync_nil : Calls Try.prog 25 #[.pointer none] w fun e w' => e = .returned (.int .i64 1) ∧ Below w.heap.size w w' := by
  go_enter Try.func25, Try.ntmps25
  go_wp2_with fail
  go_ret
  exact ⟨rfl, Below.refl _ _⟩
theorem cdfork_nil : Calls Try.prog 23 #[.pointer none] w fun e w' => e = .returned (.pointer none) ∧ Below w.heap.size w w' := by
  go_enter Try.func23, Try.ntmps23
  go_wp2_with fail
  go_ret
  exact ⟨rfl, Below.refl _ _⟩
theorem cdread_nil (i : Int) : Calls Try.prog 22 #[.pointer none, .int .i64 i] w fun e w' => ∃ A c, e = .returned (.tuple #[.slice A 0 c, .int .i64 1]) ∧ Below w.heap.size w w' := by
  go_enter Try.func22, Try.ntmps22
  go_wp2_with fail
  go_ret2
  exact ⟨_, _, rfl, Below.refl _ _⟩
theorem cdfirm_nil (i : Int) : Calls Try.prog 18 #[.pointer none, .int .i64 i] w fun e w' => ∃ A c, e = .returned (.tuple #[.slice A 0 c, .int .i64 1]) ∧ Below w.heap.size w w' := by
  go_enter Try.func18, Try.ntmps18
  go_wp2_with fail
  go_ret2
  exact ⟨_, _, rfl, Below.refl _ _⟩
theorem cdfail_nil (i : Int) : Calls Try.prog 20 #[.pointer none, .int .i64 i] w fun e w' => e = .returned (.tuple #[]) ∧ Below w.heap.size w w' := by
  go_enter Try.func20, Try.ntmps20
  go_wp2_with fail
  refine bodyPost_ret (results_none rfl _ _ _) rfl ?_
  exact ⟨rfl, Below.refl _ _⟩
theorem cdcut_nil (i : Int) : Calls Try.prog 21 #[.pointer none, .int .i64 i] w fun e w' => e = .returned (.tuple #[]) ∧ Below w.heap.size w w' := by
  go_enter Try.func21, Try.ntmps21
  go_wp2_with fail
  refine bodyPost_ret (results_none rfl _ _ _) rfl ?_
  exact ⟨rfl, Below.refl _ _⟩
theorem cdwrite_nil (i : Int) (A : Option Addr) (len cap : Nat) : Calls Try.prog 24 #[.pointer none, .int .i64 i, .slice A len cap] w fun e w' => e = .returned (.int .i64 1) ∧ Below w.heap.size w w' := by
  go_enter Try.func24, Try.ntmps24
  go_wp2_with fail
  go_ret
  exact ⟨rfl, Below.refl _ _⟩
theorem cdcrash_nil (A : Option Addr) (len cap : Nat) : Calls Try.prog 27 #[.pointer none, .slice A len cap] w fun e w' => e = .returned (.int .i64 1) ∧ Below w.heap.size w w' := by
  go_enter Try.func27, Try.ntmps27
  go_wp2_with fail
  go_ret
  exact ⟨rfl, Below.refl _ _⟩
theorem cdforeign_nil (i at_ : Int) (A : Option Addr) (len cap : Nat) : Calls Try.prog 28 #[.pointer none, .int .i64 i, .int .i64 at_, .slice A len cap] w fun e w' => e = .returned (.int .i64 1) ∧ Below w.heap.size w w' := by
  go_enter Try.func28, Try.ntmps28
  go_wp2_with fail
  go_ret
  exact ⟨rfl, Below.refl _ _⟩
end
end Go.Proofs.Ytajplflefagbaaa
