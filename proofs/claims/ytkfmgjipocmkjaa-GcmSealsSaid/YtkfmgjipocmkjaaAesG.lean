/-
  The code's state with each column mixed, or unmixed. (Printed by wip/gen/aescols.py.)
-/
import Derived.Test.YtkfmgjipocmkjaaFoldE
import Derived.Test.YtkfmgjipocmkjaaGalE
import Derived.Test.YtkfmgjipocmkjaaFoldD
import Derived.Laws.CopyOwn
import Derived.Deep.DeepCutAuto
import Derived.Deep.RegionHeld3
import Derived.Deep.RegionLaw
namespace Go.Proofs.Ytkfmgjipocmkjaa
open Go Go.RowKit
set_option linter.unusedVariables false
set_option linter.unusedSimpArgs false

/-- A copy into a row as one step of a region: the world is told. -/
theorem step_copy_set {P : Program} {ops : Array Oper} {o : Oper} {a : Act} {w : World} {K : Act → World → Prop} {Q : Exit → Act → World → Prop} {E : Prop} (hgd : o.guard = none) (d s : Operand) (dT sT : TypeId)
    (ho : o.op = .call { callee := .builtin .copy, args := #[d, s], argTypes := #[dT, sT] }) (elem : TypeId) (hu : P.underlying dT = some (.slice elem)) (hsz : (P.info? elem).map (·.size) = some 1)
    (g off dLen dCap : Nat) (ad : Addr) (sLen sCap : Nat) (hd : a.eval d = .slice (some ⟨g, off, none⟩) dLen dCap) (hs : a.eval s = .slice (some ad) sLen sCap)
    (cur : List Value) (t : TypeId) (hg : w.heap[g]? = some (.cells cur.toArray t (0, 0))) (cs : List Value) (hn : cs.length = Nat.min sLen dLen)
    (hsrc : ∀ j v, cs[j]? = some v → w.cell? (ad.add j) = some v) (hfit : off + cs.length ≤ cur.length) (h1 : ∀ v ∈ cs, v.oneCell' = true)
    (h : ∀ w', Hid (w' = w.setRow g (splice cur off cs).toArray) → K (a.put o.dst (goInt cs.length)) w') :
    if Region.wanted o (yielded ops a.tmps) = true then Oper.wp P o a w K Q else E := by
  have hw : Region.wanted o (yielded ops a.tmps) = true := by simp [Region.wanted, hgd]
  rw [if_pos hw]
  have hrun := run_copy_row (P := P) w dT sT o.type elem g off dLen dCap ad sLen sCap cur.toArray t cs hu hsz hg hn hsrc (by simpa using hfit) h1
  unfold Oper.wp
  simp [execOp, ho, resolve, invoke, builtin, hd, hs, hrun, Result.andThen]
  exact h _ (show _ = _ by simp [splice])

theorem size_one : (Try.prog.info? 5).map (·.size) = some 1 := by kernel_rfl
/-- The row behind a copy. -/
def lay (f h : Nat → Nat) (off m i : Nat) : Nat := if off ≤ i ∧ i < off + m then h (i - off) else f i
theorem splice_vl (n m off : Nat) (f h : Nat → Nat) (hf : off + m ≤ n) : splice (vl n f) off (vl m h) = vl n (lay f h off m) := by
  apply List.ext_getElem?
  intro i
  unfold splice
  rw [vl_len]
  by_cases h1 : i < off
  · rw [List.getElem?_append_left (by simp [vl_len]; omega), List.getElem?_take, if_pos h1, vl_get _ _ _ (by omega), vl_get _ _ _ (by omega), lay, if_neg (by omega)]
  · rw [List.getElem?_append_right (by simp [vl_len]; omega)]
    have e : (List.take off (vl n f)).length = off := by simp [vl_len]; omega
    rw [e]
    by_cases h2 : i < off + m
    · rw [List.getElem?_append_left (by rw [vl_len]; omega), vl_get _ _ _ (by omega), vl_get _ _ _ (by omega), lay, if_pos (by omega)]
    · rw [List.getElem?_append_right (by rw [vl_len]; omega), vl_len, List.getElem?_drop]
      by_cases h3 : i < n
      · rw [show off + m + (i - off - m) = i from by omega, vl_get _ _ _ h3, vl_get _ _ _ h3, lay, if_neg (by omega)]
      · rw [List.getElem?_eq_none (by rw [vl_len]; omega), List.getElem?_eq_none (by rw [vl_len]; omega)]

/-- The first q columns mixed. -/
def mixK (m f : Nat → Nat) (q i : Nat) : Nat := if i < 4 * q then sMix m f i else f i
theorem mixK_end (m f : Nat → Nat) : E16 (mixK m f 4) (sMix m f) := fun i hi => by unfold mixK; rw [if_pos (by omega)]
theorem mixK_next (m f c : Nat → Nat) (q : Nat) (hq : q < 4) (hc : ∀ j, j < 4 → c j = f (4 * q + j)) : E16 (lay (mixK m f q) (mixd m c) (4 * q) 4) (mixK m f (q + 1)) := fun i hi => by
  unfold lay mixK
  by_cases h : 4 * q ≤ i ∧ i < 4 * q + 4
  · rw [if_pos h, if_pos (by omega)]
    unfold sMix
    rw [show i / 4 = q from by omega, show i % 4 = i - 4 * q from by omega]
    exact mixd_eq _ _ _ hc _
  · rw [if_neg h]
    by_cases h' : i < 4 * q
    · rw [if_pos h', if_pos (by omega)]
    · rw [if_neg h', if_neg (by omega)]
/-- What the region that takes a column is held to. -/
theorem held_col {w0 w' : World} {b n : Nat} {F c : Nat → Nat} {t : TypeId} (hb : Hid (HT t w0 b F)) (hc : Hid (∀ j, j < 4 → c j = F (n + j))) (hn : n + 3 < 16) (h : Below w0.heap.size w0 w') :
    w'.cell? ⟨b, n, none⟩ = some (.int .u8 (c 0 : Int)) ∧ w'.cell? ⟨b, n + 1, none⟩ = some (.int .u8 (c 1 : Int)) ∧ w'.cell? ⟨b, n + 2, none⟩ = some (.int .u8 (c 2 : Int)) ∧ w'.cell? ⟨b, n + 3, none⟩ = some (.int .u8 (c 3 : Int)) ∧ Below w0.heap.size w0 w' := by
  have h1 := hb.out.below h hb.out.lt
  have hc := hc.out
  refine ⟨?_, ?_, ?_, ?_, h⟩
  · rw [hc 0 (by omega)]; exact h1.cell _ (by omega)
  · rw [hc 1 (by omega)]; exact h1.cell _ (by omega)
  · rw [hc 2 (by omega)]; exact h1.cell _ (by omega)
  · rw [hc 3 (by omega)]; exact h1.cell _ (by omega)
theorem HT.setRow_of {t : TypeId} {w w' : World} {b : Nat} {F G h : Nat → Nat} {off m : Nat} (hw : w' = w.setRow b (splice (vl 16 F) off (vl m h)).toArray) (hb : HT t w b F) (hf : off + m ≤ 16) (e : E16 (lay F h off m) G) : HT t w' b G := by
  subst hw
  rw [splice_vl 16 m off F h hf, vl_congr e]
  exact setRow_heap _ _ _ _ _ _ hb
theorem src4 {w : World} {b : Nat} {f : Nat → Nat} (h : Has w b f) : ∀ j v, (vl 4 f)[j]? = some v → w.cell? ((⟨b, 0, none⟩ : Addr).add j) = some v := fun j v hj => by
  have hl : j < 4 := by have := (List.getElem?_eq_some_iff.1 hj).1; rwa [vl_len] at this
  rw [vl_get _ _ _ hl] at hj
  rw [head_add, h.cell j hl, ← hj]

set_option maxRecDepth 100000 in
set_option maxHeartbeats 4000000 in
theorem columns_mix (f : Nat → Nat) (w : World) (hf : B16 f) :
    Calls Try.prog 42 #[.agg (aN 16 f), .func (.func 43) #[] #[]] w fun e w' => e = .returned (.agg (aN 16 (sMix mixR f))) ∧ Below w.heap.size w w' := by
  have HF := Lib.hid hf; clear hf
  have hb4 := Lib.hid build4
  have HSZ := Lib.hid size_one
  go_enter Try.func42, Try.ntmps42
  go_wp2_with fail
  go_loopw [5] (fun i wr => ∃ q : Nat, q ≤ 4 ∧ i = .int .i64 ((4 * q : Nat) : Int) ∧ Hid (HT 66 wr w.heap.size (mixK mixR f q)) ∧ Hid (HT 66 wr (w.heap.size + 1) fun _ => 0) ∧ Hid (Below w.heap.size w wr)) (fun i _ => 16 - (intOf i).toNat)
  case atStart =>
    refine ⟨0, by omega, rfl, Lib.hid ?_, Lib.hid ?_, Lib.hid (((Below.refl _ _).alloc (Nat.le_refl _) _).alloc (by simp) _)⟩
    · exact HT.alloc _ ((HT.newAt rfl).congr fun i _ => by simp [mixK])
    · exact HT.newAt (w := w.alloc (.cells (aN 16 f) 66)) (b := w.heap.size + 1) (f := fun _ => 0) (by rw [World.size_alloc])
  case round =>
    obtain ⟨q, hq, rfl, H0, H1, HB⟩ := hrel
    by_cases hlt : q < 4
    · obtain ⟨n, hn⟩ : ∃ n : Nat, n = 4 * q := ⟨_, rfl⟩
      have hn3 : n + 3 < 16 := by omega
      rw [← hn]
      have HN := Lib.hid hn; clear hn
      obtain ⟨c, hc⟩ : ∃ c : Nat → Nat, ∀ j, j < 4 → c j = f (n + j) := ⟨fun j => f (n + j), fun _ _ => rfl⟩
      have HC := Lib.hid hc; clear hc
      have HCF : Hid (∀ j, j < 4 → c j = mixK mixR f q (n + j)) := Lib.hid fun j hj => by
        have := HN.out
        rw [HC.out j hj]; unfold mixK; rw [if_neg (by omega)]
      have HC8 : Hid (∀ j, j < 4 → c j < 256) := Lib.hid fun j hj => by rw [HC.out j hj]; exact HF.out _ (by omega)
      have hpos : 0 < wr.heap.size := Nat.lt_of_le_of_lt (Nat.zero_le _) H0.out.lt
      have i0 : (0 : Int) ≤ (n : Int) := by omega
      have i1 : (n : Int) < 16 := by omega
      have i2 : (n : Int) + 1 < 16 := by omega
      have i3 : (n : Int) + 2 < 16 := by omega
      have i4 : (n : Int) + 3 < 16 := by omega
      go_upto_region 4 with fail
      have s1 : IntKind.i64.wrap ((n : Int) + 1) = (n : Int) + 1 := IntWalk.i64_in _ (by omega)
      have s2 : IntKind.i64.wrap ((n : Int) + 2) = (n : Int) + 2 := IntWalk.i64_in _ (by omega)
      have s3 : IntKind.i64.wrap ((n : Int) + 3) = (n : Int) + 3 := IntWalk.i64_in _ (by omega)
      have t0 : (n : Int).toNat = n := by omega
      have t1 : ((n : Int) + 1).toNat = n + 1 := by omega
      have t2 : ((n : Int) + 2).toNat = n + 2 := by omega
      have t3 : ((n : Int) + 3).toNat = n + 3 := by omega
      have u1 : (0 : Int) ≤ (n : Int) + 1 := by omega
      have u2 : (0 : Int) ≤ (n : Int) + 2 := by omega
      have u3 : (0 : Int) ≤ (n : Int) + 3 := by omega
      go_cut [6] (fun s6 wx => ∃ b6 : Nat, s6 = .pointer (some ⟨b6, 0, none⟩) ∧ Hid (Has wx b6 (mixd mixR c)) ∧ wr.heap.size ≤ b6 ∧ Hid (Below wr.heap.size wr wx))
      case first =>
        have hb4' := hb4.out
        go_region_held3 (fun w' => w'.cell? ⟨w.heap.size, n, none⟩ = some (.int .u8 (c 0 : Int)) ∧ w'.cell? ⟨w.heap.size, n + 1, none⟩ = some (.int .u8 (c 1 : Int)) ∧ w'.cell? ⟨w.heap.size, n + 2, none⟩ = some (.int .u8 (c 2 : Int)) ∧ w'.cell? ⟨w.heap.size, n + 3, none⟩ = some (.int .u8 (c 3 : Int)) ∧ Below wr.heap.size wr w')
          ((refine held_col H0 HCF hn3 ?_; go_split_ands; (repeat' first
            | (with_reducible exact Below.refl _ _)
            | (with_reducible assumption)
            | (with_reducible refine Below.drew ?_)
            | (with_reducible refine Below.alloc ?_ ?_ _)
            | (with_reducible refine below4 ?_ ?_ _ _ _ _)
            | go_size)))
          (first | (go_at_call 43; refine (mix_any c _ HC8.out).mono ?_; rintro e w' ⟨rfl, hb⟩; go_split_ands; have hbB : Below wr.heap.size wr w' := (by refine Below.trans ?_ (hb.mono ?_); assumption; exact Below.size (by assumption)); have hgo := Goes.of hb; have hbc := bcell hb; obtain ⟨hbc1, hbc2⟩ := hbc; have hbs := bsize hb; have hz := hb.size; have hzB := hbB.size; (try simp only [World.size_alloc, World.size_drew] at hz)))
        all_goals
          go_wp2_with fail
          go_meet
          refine ⟨_, rfl, Lib.hid ?_, ?_, Lib.hid ?_⟩
        all_goals (repeat' first
            | (with_reducible exact Below.refl _ _)
            | (with_reducible assumption)
            | (with_reducible refine Below.drew ?_)
            | (with_reducible refine Below.alloc ?_ ?_ _)
            | (with_reducible refine below4 ?_ ?_ _ _ _ _)
            | (with_reducible refine Has.drew ?_)
            | ((with_reducible refine Has.newAt ?_); go_size; done)
            | ((with_reducible refine Has.zeroAt ?_); go_size; done)
            | (with_reducible refine Has.alloc _ ?_)
            | (with_reducible refine Has.store (z := fun _ => 0) ?_)
            | (with_reducible refine Has.other ?_ ?_ _ _ _ _)
            | (with_reducible refine Goes.to (by assumption) ?_)
            | go_size)
      case rest =>
        obtain ⟨b6, rfl, H6, hb6, hw⟩ := hcut
        clear s1 s2 s3 t1 t2 t3 u1 u2 u3
        have H0' : Hid (HT 66 wc w.heap.size (mixK mixR f q)) := Lib.hid (H0.out.below hw.out H0.out.lt)
        have H1' : Hid (HT 66 wc (w.heap.size + 1) fun _ => 0) := Lib.hid (H1.out.below hw.out H1.out.lt)
        have HB' : Hid (Below w.heap.size w wc) := Lib.hid (HB.out.trans (hw.out.mono HB.out.size))
        have hne6 : w.heap.size ≠ b6 := by have := H0.out.lt; omega
        have HNE := Lib.hid hne6; clear hne6
        clear H0 H1 HB hw hpos hb6
        have hnle : (n : Int) ≤ 16 := by omega
        have hne16 : ¬ 16 = n := by omega
        have u16 : (16 : Int) - (n : Int) = ((16 - n : Nat) : Int) := by omega
        have HSRC : Hid (∀ j v, (vl 4 (mixd mixR c))[j]? = some v → wc.drew.cell? ((⟨b6, 0, none⟩ : Addr).add j) = some v) := Lib.hid (src4 (Has.drew H6.out))
        go_upto_region 5 with fail
        go_region_law (refine step_copy_set rfl (.tmp 30) (.tmp 31) 22 22 rfl 5 Try.underlying22 HSZ.out w.heap.size n (16 - n) (16 - n) ⟨b6, 0, none⟩ 4 4 rfl rfl (vl 16 (mixK mixR f q)) 66 H0'.out (vl 4 (mixd mixR c)) (by rw [vl_len]; exact (Nat.min_eq_left (by omega)).symm) (HSRC.out) (by rw [vl_len, vl_len]; omega) (vl_one _ _) ?_; intro w4 hw4)
        have hc4 : 4 * q + 4 ≤ 16 := by omega
        obtain rfl := HN.out
        have HE : Hid (E16 (lay (mixK mixR f q) (mixd mixR c) (4 * q) 4) (mixK mixR f (q + 1))) := Lib.hid (mixK_next mixR f c q hlt HC.out)
        have H0'' : Hid (HT 66 w4 w.heap.size (mixK mixR f (q + 1))) := Lib.hid (HT.setRow_of hw4.out H0'.out.drew hc4 HE.out)
        have H1'' : Hid (HT 66 w4 (w.heap.size + 1) fun _ => 0) := Lib.hid (by rw [hw4.out]; exact HT.rowOther H1'.out.drew (by omega) _)
        have HB'' : Hid (Below w.heap.size w w4) := Lib.hid (by rw [hw4.out]; exact below_setRow HB'.out.drew _ (Nat.le_refl _) _)
        clear H0' H1' HB' hw4 HSRC H6 HE HNE HN t0 u16 hnle hne16 i0 i1 i2 i3 i4 hn3
        have hq4 : (4 * (q : Int)) + 4 ≤ 16 := by omega
        go_wp2_with fail
        go_roundw
        case rel => exact ⟨q + 1, by omega, val_int (by omega), H0'', H1'', HB''⟩
        case measure => simp [intOf]; omega
    · obtain rfl : q = 4 := by omega
      have d0 : wr.heap[w.heap.size]? = some (.cells (aN 16 (sMix mixR f)) 66 (0, 0)) := H0.out.congr (mixK_end _ _)
      have d1 : wr.heap[w.heap.size + 1]? = some (.cells (aN 16 fun _ => 0) 66 (0, 0)) := H1.out
      go_wp2_with (first
        | (refine wpList_load_row rfl 66 (.tmp 2) rfl w.heap.size rfl 66 _ (0, 0) (.array 16 5) d0 Try.underlying66 rfl (by rw [aN_size]; kernel_rfl) ?_)
        | (refine wpList_store_row rfl 66 (.tmp 4) (.tmp 33) rfl (w.heap.size + 1) (aN 16 (sMix mixR f)) rfl rfl 66 _ d1 (by rw [aN_size]; kernel_rfl) (by rw [aN_size, aN_size]) (aN_one _ _) ?_))
      refine bodyPost_ret (v := .agg (aN 16 (sMix mixR f))) (results_cell_row (p := 4) (ty := 66) (by kernel_rfl) _ _ (w.heap.size + 1) 66 (aN 16 (sMix mixR f)) (0, 0) (.array 16 5) rfl ?_ Try.underlying66 rfl (by rw [aN_size]; kernel_rfl)) rfl ⟨rfl, ?_⟩
      · exact setRow_heap _ _ _ _ _ _ d1
      · exact below_setRow HB.out _ (by omega) _

end Go.Proofs.Ytkfmgjipocmkjaa
