/-
  The landed code's device (layer 8): Foreign. (Printed by wip/gen/dcforeign.py.)
-/
import Derived.Test.YtajplflefagbaaaDcD
import Derived.Test.YtajplflefagbaaaDkP
namespace Go.Proofs.Ytajplflefagbaaa
open Go Go.RowKit
set_option linter.unusedVariables false
set_option linter.unusedSimpArgs false

/-- Only the two rows of blocks are others. -/
theorem CDs.rows {S : Cs} {w w' : World} {d n : Nat} {L : Nat → Prop} {D D' : Dev} (h : CDs S w d L n D) (ok : D'.Ok n) (e3 : D'.waits = D.waits) (e4 : D'.steps = D.steps ∧ D'.fail = D.fail ∧ D'.cut = D.cut ∧ D'.down = D.down)
    (inv : ∀ i, i < n → (∀ k, k < D.waits.length → (D.waits.getD k (0, [])).1 ≠ i) → D'.now.getD i [] = D'.firm.getD i [])
    (h1 : Fr w' S.bn 67 (n * 256) (bF D'.now)) (h2 : Fr w' S.bf 67 (n * 256) (bF D'.firm)) (hk : ∀ b, b < w.heap.size → b ≠ S.bn → b ≠ S.bf → w'.heap[b]? = w.heap[b]?) (hs : w.heap.size ≤ w'.heap.size) : CDs S w' d L n D' := by
  obtain ⟨a1, a2, a3, a4⟩ := e4
  refine ⟨ok, h.n4, h.cc, by rw [a1]; exact h.ss, by rw [a1, a2]; exact h.rf, by rw [a1, a3]; exact h.rc, by rw [e3]; exact inv, ?_, h.ld, h.ne, h.lw, h1, h2, ?_, fun b hb => Nat.lt_of_lt_of_le (h.lt b hb) hs⟩
  · have e : cCells S n D' = cCells S n D := by unfold cCells; rw [a1, a4]
    rw [e]
    exact (hk d (h.lt d h.ld.1) (fun e => h.ne.1 e.symm) (fun e => h.ne.2.1 e.symm)).trans h.hp
  · rw [e3]
    exact own_same h.ww fun b hb => hk b (h.lt b (h.lw b hb).1) (h.lw b hb).2.2.1 (h.lw b hb).2.2.2
theorem vb_oneC (l : List UInt8) : ∀ v ∈ vb l, v.oneCell' = true := fun v hv => by obtain ⟨b, _, rfl⟩ := List.mem_map.1 hv; rfl
theorem u8_one : (Try.prog.info? 5).map (·.size) = some 1 := by kernel_rfl
/-- 'b[a:]' of an array. -/
def cutA (b o a : Nat) : Option Addr := if a = 256 then some ⟨b, o, none⟩ else some ⟨b, o + a, none⟩
theorem run_cutA (b o a : Nat) (h : a ≤ 256) (W : World) : (Instr.sliceAt 67 (.pointer (some ⟨b, o, none⟩)) (some (.int .i64 (a : Int))) none none).run Try.prog W = .ok (.slice (cutA b o a) (256 - a) (256 - a)) W := by
  have hu := Try.underlying67
  have hs : (sizeOf 5).run Try.prog W = .ok 1 W := by
    have := u8_one
    cases hi : Try.prog.info? 5 with
    | none => rw [hi] at this; cases this
    | some i => rw [hi] at this; simp at this; simp [sizeOf, typeInfo, hi, this]
  have h0 : (a : Int) ≤ 256 := by omega
  by_cases e : a = 256
  · subst e
    simp [Instr.sliceAt, Instr.sureAddr, run_underlying hu, Instr.sliceBounds, run_sliceBound, hs, cutA]
  · simp [Instr.sliceAt, Instr.sureAddr, run_underlying hu, Instr.sliceBounds, run_sliceBound, hs, cutA, e, h0, show ¬ 256 = a from fun h => e h.symm, Addr.add_mid]
set_option maxRecDepth 100000 in
set_option maxHeartbeats 16000000 in
theorem cdforeign_any (w : World) (d n : Nat) (L : Nat → Prop) (D : Dev) (h : CD w d L n D) (i at_ : Int) (hi : -9223372036854775808 ≤ i ∧ i ≤ 9223372036854775807) (ha : -9223372036854775808 ≤ at_ ∧ at_ ≤ 9223372036854775807) (A : Option Addr) (b : List UInt8) (len cap : Nat) (hn : b.length = len) (hc : len ≤ cap) (hl : len ≤ 140737488351232) (hr : Rd w w.heap.size A (vb b)) (hA : b.length ≠ 0 → ∀ ad, A = some ad → ¬ L ad.block) :
    Calls Try.prog 28 #[.pointer (some ⟨d, 0, none⟩), .int .i64 i, .int .i64 at_, .slice A len cap] w fun e w' => e = .returned (.int .i64 (forE n i at_ b.length : Int)) ∧ CD w' d (ext L w w') n (D.foreign n i at_ b) ∧ Keep L w w' := by
  obtain ⟨S, h⟩ := h
  have hh := cdhas_any S w d n L D i h
  have hno : forB n i at_ b.length = false → forE n i at_ b.length = 2 ∧ D.foreign n i at_ b = D := fun h => by
    unfold forE Dev.foreign
    rw [h]; exact ⟨rfl, rfl⟩
  by_cases h1 : hasB n i = true
  · rw [h1] at hh
    have HH := Lib.hid hh; clear hh
    by_cases h2 : 0 ≤ at_
    · by_cases h4 : at_ + (len : Int) ≤ 256
      · have hf : forB n i at_ b.length = true := by unfold forB; rw [h1, hn]; simp [h2, h4]
        have eE : forE n i at_ b.length = 0 := by unfold forE; rw [if_pos hf]
        have eW : D.foreign n i at_ b = { D with now := D.now.set i.toNat (over8 (D.now.getD i.toNat []) at_.toNat b), firm := D.firm.set i.toNat (over8 (D.firm.getD i.toNat []) at_.toNat b) } := by unfold Dev.foreign; rw [if_pos hf]
        have hok := h.ok.foreign i at_ b
        rw [eW] at hok
        rw [eE, eW]
        obtain ⟨i0, i1⟩ := (hasB_iff n i).1 h1
        obtain ⟨k, rfl⟩ : ∃ k : Nat, i = (k : Int) := ⟨i.toNat, by omega⟩
        obtain ⟨a, rfl⟩ : ∃ a : Nat, at_ = (a : Int) := ⟨at_.toNat, by omega⟩
        rw [Int.toNat_natCast, Int.toNat_natCast] at hok ⊢
        have hk : k < n := by omega
        have hal : a + len ≤ 256 := by omega
        have hki : (k : Int) < (n : Int) := by omega
        have hwr : IntKind.i64.wrap (256 - (a : Int)) = 256 - (a : Int) := IntWalk.i64_in _ (by omega)
        have hle : ¬ (256 : Int) - (a : Int) < (len : Int) := by omega
        have d0 := h.c0
        have d1 := h.c1
        have hn1 := h.ok.nr k hk
        have hn2 := h.ok.fr k hk
        have hln := h.ok.nl
        have hlf := h.ok.fl
        have HFN : Hid (Fr w S.bn 67 (n * 256) (bF D.now)) := Lib.hid h.rn
        have HFF : Hid (Fr w S.bf 67 (n * 256) (bF D.firm)) := Lib.hid h.rr
        have HNE := Lib.hid h.ne
        have HSRC : Hid (∀ W : World, Turn S.bn w W → 0 < (vb b).length → ∃ ad, A = some ad ∧ ∀ j v, (vb b)[j]? = some v → W.cell? (ad.add j) = some v) := Lib.hid fun W hW h0 => by
          obtain ⟨ad, e, hlt, hcs⟩ := hr h0
          refine ⟨ad, e, fun j v hj => ?_⟩
          have h0' : b.length ≠ 0 := by rw [List.length_map] at h0; omega
          exact (hW.cell (p := ad.add j) (fun e2 => by rw [add_block] at e2; exact hA h0' ad e (by rw [e2]; exact h.ld.2.1))).trans (hcs j v hj)
        have HFIN : Hid (∀ W W2 : World, Fr W S.bn 67 (n * 256) (layF (bF D.now) (k * 256 + a) (vb b)) → Turn S.bn w W → Fr W2 S.bf 67 (n * 256) (layF (bF D.firm) (k * 256 + a) (vb b)) → Turn S.bf W W2 →
            CD W2 d (ext L w W2) n { D with now := D.now.set k (over8 (D.now.getD k []) a b), firm := D.firm.set k (over8 (D.firm.getD k []) a b) } ∧ Keep L w W2) := Lib.hid fun W W2 g1 t1 g2 t2 => by
          have hfin := h.rows (w' := W2) (D' := { D with now := D.now.set k (over8 (D.now.getD k []) a b), firm := D.firm.set k (over8 (D.firm.getD k []) a b) }) hok rfl ⟨rfl, rfl, rfl, rfl⟩ (fun i hi' hno' => by
            show (D.now.set k _).getD i [] = (D.firm.set k _).getD i []
            rw [getD_set, getD_set, hln, hlf]
            by_cases e : i = k
            · subst e; rw [if_pos ⟨rfl, hk⟩, if_pos ⟨rfl, hk⟩, h.inv i hi' hno']
            · rw [if_neg (fun h => e h.1), if_neg (fun h => e h.1)]; exact h.inv i hi' hno')
            ((g1.turn t2 h.ne.2.2).congr fun j _ => bF_over D.now k a b (by omega) hn1 (by omega) j) (g2.congr fun j _ => bF_over D.firm k a b (by omega) hn2 (by omega) j)
            (fun x _ x1 x2 => (t2.block x x2).trans (t1.block x x1)) (by rw [t2.size, t1.size]; exact Nat.le_refl _)
          exact ⟨hfin.ext h.lt (by rw [t2.size, t1.size]; exact Nat.le_refl _), Turn.keep (t1.keepL h.ld.2.1) t2 fun _ => h.ld.2.2⟩
        have HC0 : Hid (a ≤ 256) := Lib.hid (by omega)
        have HC1 : Hid ((vb b).length = Nat.min len (256 - a)) := Lib.hid (by rw [List.length_map, hn]; exact (Nat.min_eq_left (by omega)).symm)
        have HC2 : Hid (k * 256 + a + (vb b).length ≤ n * 256) := Lib.hid (by rw [List.length_map, hn]; omega)
        have HP1 : Hid (∀ (W : World) (x : Nat), Turn S.bn w W → 0 < (vb b).length → cutA x (k * 256) a = some ⟨x, k * 256 + a, none⟩ ∧ ∃ ad, A = some ad ∧ ∀ j v, (vb b)[j]? = some v → W.cell? (ad.add j) = some v) := Lib.hid fun W x hW h0 => ⟨by unfold cutA; rw [if_neg (by rw [List.length_map] at h0; omega)], HSRC.out W hW h0⟩
        have HNE2 : Hid (S.bf ≠ S.bn) := Lib.hid fun e => h.ne.2.2 e.symm
        have HDB : Hid (d ≠ S.bn) := Lib.hid fun e => h.ne.1 e.symm
        clear hok HSRC
        obtain ⟨bn, hbn⟩ : ∃ bn, bn = S.bn := ⟨_, rfl⟩
        obtain ⟨cn, hcn⟩ : ∃ cn, cn = S.cn := ⟨_, rfl⟩
        obtain ⟨bf, hbf⟩ : ∃ bf, bf = S.bf := ⟨_, rfl⟩
        obtain ⟨cf, hcf⟩ : ∃ cf, cf = S.cf := ⟨_, rfl⟩
        rw [← hbn, ← hcn] at d0
        rw [← hbf, ← hcf] at d1
        rw [← hbn] at HFN HP1 HNE2 HDB
        rw [← hbf] at HFF HNE2
        rw [← hbn, ← hbf] at HNE HFIN
        clear h eE eW hf h1 hno hn1 hn2 hln hlf hr hA h4 hn hk hal hbn hcn hbf hcf
        go_enter Try.func28, Try.ntmps28
        go_wp2_with fail
        refine HH.out.mono ?_
        rintro e w1 ⟨rfl, ew⟩
        have ew := ew.symm
        subst ew
        clear HH
        have hcut := fun (W : World) (x : Nat) => run_cutA x (k * 256) a HC0.out W
        go_wp2_with (first
          | ((with_reducible show wpList _ _ _ (⟨some 35, _, _, _, _, _⟩ :: _) _ _); refine wpList_copy_fr (o := ⟨some 35, _, _, _, _, _⟩) rfl (.tmp 33) (.tmp 34) 34 34 rfl 5 Try.underlying34 u8_one (cutA bn (k * 256) a) _ (256 - a) (256 - a) len cap rfl rfl bn (k * 256 + a) (n * 256) 67 (bF D.now) HFN.out (vb b) HC1.out (HP1.out _ _ (Turn.refl _ _)) HC2.out (vb_oneC b) ?_; intro w2 HF1 HT1; have d1' := (HT1.out.cell (p := ⟨d, 1, none⟩) HDB.out).trans d1)
          | ((with_reducible show wpList _ _ _ (⟨some 45, _, _, _, _, _⟩ :: _) _ _); refine wpList_copy_fr (o := ⟨some 45, _, _, _, _, _⟩) rfl (.tmp 43) (.tmp 44) 34 34 rfl 5 Try.underlying34 u8_one (cutA bf (k * 256) a) _ (256 - a) (256 - a) len cap rfl rfl bf (k * 256 + a) (n * 256) 67 (bF D.firm) (HFF.out.turn HT1.out HNE2.out) (vb b) HC1.out (HP1.out _ _ HT1.out) HC2.out (vb_oneC b) ?_; intro w3 HF2 HT2))
        go_ret
        exact ⟨rfl, HFIN.out _ _ HF1.out HT1.out HF2.out HT2.out⟩
      · have hz := hno (by unfold forB; rw [h1, hn]; simp; omega)
        rw [hz.1, hz.2]
        have HF := Lib.hid (And.intro (h.ext h.lt (Nat.le_refl _)) (Keep.refl L w))
        have hgt : (256 : Int) - at_ < (len : Int) := by omega
        clear h hno h1 hr hA hz h4 hn
        go_enter Try.func28, Try.ntmps28
        go_wp2_with fail
        refine HH.out.mono ?_
        rintro e w1 ⟨rfl, ew⟩
        have ew := ew.symm
        subst ew
        go_wp2_with fail
        go_ret
        exact ⟨rfl, HF.out⟩
    · have hz := hno (by unfold forB; rw [h1, hn]; simp; omega)
      rw [hz.1, hz.2]
      have HF := Lib.hid (And.intro (h.ext h.lt (Nat.le_refl _)) (Keep.refl L w))
      have hlt : at_ < 0 := by omega
      clear h hno h1 hr hA hz h2 hn
      go_enter Try.func28, Try.ntmps28
      go_wp2_with fail
      refine HH.out.mono ?_
      rintro e w1 ⟨rfl, ew⟩
      have ew := ew.symm
      subst ew
      go_wp2_with fail
      go_ret
      exact ⟨rfl, HF.out⟩
  · have h2 : hasB n i = false := by simpa using h1
    rw [h2] at hh
    have HH := Lib.hid hh; clear hh
    have hz := hno (by unfold forB; rw [h2]; rfl)
    rw [hz.1, hz.2]
    have HF := Lib.hid (And.intro (h.ext h.lt (Nat.le_refl _)) (Keep.refl L w))
    clear h hno h1 hr hA hz h2 hn
    go_enter Try.func28, Try.ntmps28
    go_wp2_with fail
    refine HH.out.mono ?_
    rintro e w1 ⟨rfl, ew⟩
    have ew := ew.symm
    subst ew
    go_wp2_with fail
    go_ret
    exact ⟨rfl, HF.out⟩
end Go.Proofs.Ytajplflefagbaaa
