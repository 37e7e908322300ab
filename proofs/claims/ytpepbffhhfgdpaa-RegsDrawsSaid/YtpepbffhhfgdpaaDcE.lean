/-
  The landed code's device (layer 8): Write. (Printed by wip/gen/dcwrite.py.)
-/
import Derived.Test.YtpepbffhhfgdpaaDcD
namespace Go.Proofs.Ytpepbffhhfgdpaa
open Go Go.RowKit
set_option linter.unusedVariables false
set_option linter.unusedSimpArgs false

theorem Fr.thereV {w : World} {b m : Nat} {t : TypeId} {f : Nat → Value} (h : Fr w b t m f) (o : Nat) (l : List UInt8) (hl : l.length = 256) (ho : o + 256 ≤ m) : w.there b o (vb l).toArray.size := by
  have e : (vb l).toArray.size = 256 := by simp [hl]
  rw [e]; exact h.there o 256 ho
/-- One that waits, laid. -/
def wC (x : Int) (f : Nat → Value) : Array Value := (.int .i64 x :: fl 256 f).toArray
theorem wr_built (x : Int) (f : Nat → Value) : Try.prog.built 83 [(0, .int .i64 x), (1, .agg (fl 256 f).toArray)] = some (wC x f) := by kernel_rfl
theorem run_build_wr (x : Int) (f : Nat → Value) (w : World) : (Instr.build 83 #[(0, .int .i64 x), (1, .agg (fl 256 f).toArray)]).run Try.prog w = .ok (.agg (wC x f)) w := run_build w _ _ _ (wr_built x f)
theorem wr_fill (x : Int) (f : Nat → Value) : Instr.fill (fun i => some (i * 257, 257)) ((Array.range 257).map ((Value.agg (wC 0 fun _ => .int .u8 0)).cells[· % (Value.agg (wC 0 fun _ => .int .u8 0)).cells.size]!)) [(0, .agg (wC x f))] = some (wC x f) := by kernel_rfl
theorem info_wr0 : (Try.prog.info? 83).map (fun i => (i.zero, i.size)) = some (some (.agg (wC 0 fun _ => .int .u8 0)), 257) := by kernel_rfl
theorem run_wr_slice (x : Int) (f : Nat → Value) (w : World) : (Instr.buildSlice 67 1 #[(0, .agg (wC x f))]).run Try.prog w = .ok (.slice (some ⟨w.heap.size, 0, none⟩) 1 1) (w.alloc (.cells (wC x f) 83)) := by
  have h0 := info_wr0
  have hf := wr_fill x f
  cases hi : Try.prog.info? 83 with
  | none => rw [hi] at h0; cases h0
  | some i =>
    rw [hi] at h0
    simp only [Option.map_some, Option.some.injEq, Prod.mk.injEq] at h0
    obtain ⟨hz, hs⟩ := h0
    simp [Instr.buildSlice, run_underlying Try.underlying67, sizeOf, typeInfo, zeroValue, hi, hz, hs, hf, newRow]
theorem wp_wr_slice {o : Oper} {a : Act} {w : World} {K : Act → World → Prop} {Q : Exit → Act → World → Prop} (z : Operand) (ho : o.op = .buildSlice 67 1 #[(0, z)]) (x : Int) (f : Nat → Value) (hz : a.eval z = .agg (wC x f))
    (h : K (a.put o.dst (.slice (some ⟨w.heap.size, 0, none⟩) 1 1)) (w.alloc (.cells (wC x f) 83))) : o.wp Try.prog a w K Q := by
  have hr := run_wr_slice x f w
  unfold Oper.wp execOp
  simp only [ho, List.map_toArray, List.map_cons, List.map_nil, hz, Sem.run_bind, hr, Result.andThen_ok]
  exact h
theorem run_arrayW (arr e : TypeId) (n : Nat) (a : Option Addr) (len cap : Nat) (w : World) (h : Try.prog.underlying arr = some (.array n e)) (hn : n ≤ len) : (Instr.arrayAt arr (.slice a len cap)).run Try.prog w = .ok (.pointer a) w := by
  simp [Instr.arrayAt, run_underlying h, Nat.not_lt.2 hn]
theorem yieldsIf_build_wr {ops : Array Oper} {S : World → Prop} {op : Oper} {a : Act} (hw : Region.wanted op (yielded ops a.tmps) = true) (x : Int) (f : Nat → Value) (p q : Operand) (ho : op.op = .build 83 #[(0, p), (1, q)])
    (hp : a.eval p = .int .i64 x) (hq : a.eval q = .agg (fl 256 f).toArray) : YieldsIf Try.prog ops S op (.agg (wC x f)) a :=
  .inl ⟨hw, fun w _ => by
    have hr := run_build_wr x f w
    unfold execOp
    simp only [ho, List.map_toArray, List.map_cons, List.map_nil, hp, hq, Sem.run_bind, hr, Result.andThen_ok, Sem.run_pure]⟩
theorem info_wr : (Try.prog.info? 83).map (fun i => (i.zero, i.size, i.bytes)) = some (some (.agg (wC 0 fun _ => .int .u8 0)), 257, 264) := by kernel_rfl
theorem wC_size (x : Int) (f : Nat → Value) : (Value.agg (wC x f)).cells.size = 257 := by show (wC x f).size = 257; simp [wC, fl_len]
theorem wC_list (k : Nat) (f : Nat → Value) (l : List UInt8) (h : fl 256 f = vb l) : (wC (k : Int) f).toList = wL (k, l) := by simp [wC, wL, h]
theorem CDs.putW {S : Cs} {w1 w3 w6 : World} {d n k g2 cap2 : Nat} {L M : Nat → Prop} {D1 : Dev} {l : List UInt8} (h : CDs S w1 d L n D1) (hk : k < n) (hl : l.length = 256) (hF : Fr w3 S.bn 81 (n * 256) (bF (D1.now.set k l))) (ht : Turn S.bn w1 w3)
    (hkeep : ∀ b, b < w3.heap.size → S.wv.ownBlock ≠ some b → w6.heap[b]? = w3.heap[b]?) (hs : w3.heap.size ≤ w6.heap.size) (hown : w6.ownsRow 0 83 257 (.slice (some ⟨g2, 0, none⟩) (D1.waits.length + 1) cap2) (D1.waits.length + 1) (fl (D1.waits.length * 257) (wF D1.waits) ++ wL (k, l)))
    (hat : S.wv.ownBlock = some g2 ∨ w3.heap.size ≤ g2) (hM : ∀ x, L x → M x) (hg : M g2) (hlt : ∀ x, M x → x < w6.heap.size) : CDs { S with wv := .slice (some ⟨g2, 0, none⟩) (D1.waits.length + 1) cap2 } (w6.setCell ⟨d, 2, none⟩ (.slice (some ⟨g2, 0, none⟩) (D1.waits.length + 1) cap2)) d M n (D1.put k l) := by
  have hdl := h.lt d h.ld.1
  have hbl := h.lt _ h.ld.2.1
  have hfl := h.lt _ h.ld.2.2
  have hsz := ht.size
  have ed : w6.heap[d]? = w1.heap[d]? := (hkeep d (by omega) (fun e => (h.lw _ e).2.1 rfl)).trans (ht.block d (fun e => h.ne.1 e.symm))
  have eb : w6.heap[S.bn]? = w3.heap[S.bn]? := hkeep _ (by omega) (fun e => (h.lw _ e).2.2.1 rfl)
  have ef : w6.heap[S.bf]? = w1.heap[S.bf]? := (hkeep _ (by omega) (fun e => (h.lw _ e).2.2.2 rfl)).trans (ht.block _ (fun e => h.ne.2.2 e.symm))
  have hgn : g2 ≠ d ∧ g2 ≠ S.bn ∧ g2 ≠ S.bf := by
    rcases hat with e | e
    · exact (h.lw g2 e).2
    · omega
  have eo : (fl (D1.waits.length * 257) (wF D1.waits) ++ wL (k, l)) = fl ((D1.put k l).waits.length * 257) (wF (D1.put k l).waits) := wF_add D1.waits (k, l) hl
  have el : (D1.put k l).waits.length = D1.waits.length + 1 := by show (D1.waits ++ [(k, l)]).length = _; simp
  have hok := h.ok.put hk hl
  refine ⟨hok, h.n4, h.cc, h.ss, h.rf, h.rc, ?_, ?_, ⟨hM _ h.ld.1, hM _ h.ld.2.1, hM _ h.ld.2.2⟩, h.ne, ?_, ?_, ?_, ?_, fun x hx => by rw [World.size_setCell]; exact hlt x hx⟩
  · intro i hi hno
    have hi2 : i ≠ k := fun e => by
      refine hno D1.waits.length (by omega) ?_
      show ((D1.waits ++ [(k, l)]).getD D1.waits.length (0, [])).1 = i
      rw [getD_app, if_pos rfl]; exact e.symm
    show (D1.now.set k l).getD i [] = D1.firm.getD i []
    rw [getD_set, if_neg (fun e => hi2 e.1)]
    refine h.inv i hi fun j hj e => hno j (by omega) ?_
    show ((D1.waits ++ [(k, l)]).getD j (0, [])).1 = i
    rw [getD_app, if_neg (by omega)]; exact e
  · exact heap_setCell_same _ _ _ _ _ _ (ed.trans h.hp)
  · intro b hb
    have hb : some g2 = some b := hb
    injection hb with hb
    subst hb
    exact ⟨hg, hgn⟩
  · exact (hF.keep eb).turn (turn_setCell _ _ _ _) h.ne.1
  · exact (h.rr.keep ef).turn (turn_setCell _ _ _ _) h.ne.2.1
  · have h8 : (w6.setCell ⟨d, 2, none⟩ (.slice (some ⟨g2, 0, none⟩) (D1.waits.length + 1) cap2)).ownsRow 0 83 257 (.slice (some ⟨g2, 0, none⟩) (D1.waits.length + 1) cap2) (D1.waits.length + 1) (fl ((D1.put k l).waits.length * 257) (wF (D1.put k l).waits)) := by
      refine own_same (w := w6) (by rw [← eo]; exact hown) fun b hb => ?_
      have hb : some g2 = some b := hb
      injection hb with hb
      subst hb
      exact heap_setCell_other _ _ _ _ hgn.1
    rw [← el] at h8
    have e2 : (D1.put k l).waits.length = D1.waits.length + 1 := el
    rw [e2] at h8 ⊢
    exact h8
set_option maxRecDepth 100000 in
set_option maxHeartbeats 16000000 in
theorem cdwrite_any (w : World) (d n : Nat) (L : Nat → Prop) (D : Dev) (h : CD w d L n D) (i : Int) (A : Option Addr) (l : List UInt8) (len cap : Nat) (hn : l.length = len) (hc : len ≤ cap) (hl : len ≤ 140737488351232) (hr : Rd w w.heap.size A (vb l)) (hA : l.length ≠ 0 → ∀ ad, A = some ad → ¬ L ad.block) (hm : D.load ≤ 1000000) :
    Calls Try.prog 34 #[.pointer (some ⟨d, 0, none⟩), .int .i64 i, .slice A len cap] w fun e w' => e = .returned (.int .i64 (D.writeE n i l : Int)) ∧ CD w' d (ext L w w') n (D.write n i l) ∧ Keep L w w' := by
  obtain ⟨S, h⟩ := h
  have hh := cdhas_any S w d n L D i h
  by_cases h1 : hasB n i = true
  · rw [h1] at hh
    have HH := Lib.hid hh; clear hh
    by_cases hle : len = 256
    · have hs := cdstep0 S w d n L D h hm
      have eE : D.writeE n i l = D.stepE := by unfold Dev.writeE; rw [if_pos ⟨h1, by omega⟩]
      have eW : D.write n i l = if D.stepE = 0 then D.step.put i.toNat l else D.step := by unfold Dev.write; rw [if_pos ⟨h1, by omega⟩]
      rw [eE, eW]
      have hwl : D.step.waits.length ≤ 1000000 := by rw [waits_stepE]; have := load_waits D; omega
      have hlt0 := h.lt
      have hld := h.ld
      subst hle
      obtain ⟨E, hE⟩ : ∃ E, E = D.stepE := ⟨_, rfl⟩
      rw [← hE] at hs
      rw [← hE]
      obtain ⟨D1, hD1⟩ : ∃ D1, D1 = D.step := ⟨_, rfl⟩
      rw [← hD1] at hs hwl
      rw [← hD1]
      have HS0 := Lib.hid hs; clear hs
      by_cases h0 : E = 0
      · rw [if_pos h0]
        obtain ⟨i0, i1⟩ := (hasB_iff n i).1 h1
        obtain ⟨k, rfl⟩ : ∃ k : Nat, i = (k : Int) := ⟨i.toNat, by omega⟩
        have hk : k < n := by omega
        rw [Int.toNat_natCast]
        subst h0
        obtain ⟨ad, rfl, hadl, hsrc⟩ := hr (by rw [List.length_map, hn]; decide)
        have hadn : ¬ L ad.block := hA (by omega) ad rfl
        have HN := Lib.hid hn; clear hn
        have HKN := Lib.hid hk
        have HK256 : Hid (k * 256 + 256 ≤ n * 256) := Lib.hid (by omega)
        have HSRC := Lib.hid (And.intro hadl (And.intro hadn hsrc)); clear hadl hadn hsrc hA hr
        have HM := Lib.hid hwl; clear hwl
        have HLT := Lib.hid hlt0; clear hlt0
        clear hE hD1 h eE eW h1 hld hm
        go_enter Try.func34, Try.ntmps34
        go_wp2_with fail
        refine HH.out.mono ?_
        rintro e w1 ⟨rfl, ew⟩
        have ew := ew.symm
        subst ew
        go_wp2_with fail
        refine HS0.out.mono ?_
        rintro e w2 ⟨rfl, hcd, ht2⟩
        clear HH HS0
        have HW2 := Lib.hid (And.intro hcd ht2)
        obtain ⟨bn, hbn⟩ : ∃ bn, bn = S.bn := ⟨_, rfl⟩
        obtain ⟨cn, hcn⟩ : ∃ cn, cn = S.cn := ⟨_, rfl⟩
        obtain ⟨wv, hwv⟩ : ∃ wv, wv = S.wv := ⟨_, rfl⟩
        obtain ⟨m, hmw⟩ : ∃ m, m = D1.waits.length := ⟨_, rfl⟩
        obtain ⟨xs, hxs⟩ : ∃ xs, xs = fl (D1.waits.length * 257) (wF D1.waits) := ⟨_, rfl⟩
        have HC0 : Hid (w2.cell? ⟨d, 0, none⟩ = some (.slice (some ⟨bn, 0, none⟩) n cn)) := Lib.hid (by rw [hbn, hcn]; exact hcd.c0)
        have HC2 : Hid (w2.cell? ⟨d, 2, none⟩ = some wv ∧ w2.frozen? ⟨d, 2, none⟩ = false) := Lib.hid (by rw [hwv]; exact ⟨hcd.c2, hcd.free 2⟩)
        have HF : Hid (Fr w2 bn 81 (n * 256) (bF D1.now)) := Lib.hid (by rw [hbn]; exact hcd.rn)
        have HDB : Hid (d ≠ bn) := Lib.hid (by rw [hbn]; exact fun e => hcd.ne.1 e.symm)
        have HDL : Hid (d < w2.heap.size ∧ bn < w2.heap.size) := Lib.hid (by rw [hbn]; exact ⟨hcd.lt _ hcd.ld.1, hcd.lt _ hcd.ld.2.1⟩)
        have HO2 : Hid (w2.ownsRow 0 83 257 wv m xs) := Lib.hid (by rw [hwv, hmw, hxs]; exact hcd.ww)
        have HWB : Hid (∀ b, wv.ownBlock = some b → b ≠ d ∧ b ≠ bn) := Lib.hid (by rw [hwv, hbn]; exact fun b hb => ⟨(hcd.lw b hb).2.1, (hcd.lw b hb).2.2.1⟩)
        have HLN : Hid (k < D1.now.length) := Lib.hid (by rw [hcd.ok.nl]; exact hk)
        rw [← hmw] at HM
        have HBN := Lib.hid hbn
        have HWV := Lib.hid (And.intro hwv (And.intro hmw hxs)); clear hwv hmw hxs hcn
        have hheld : ∀ W : World, Turn bn w2 W → W.cell? ⟨d, 0, none⟩ = some (.slice (some ⟨bn, 0, none⟩) n cn) ∧ ∀ (j : Nat) (v : Value), (vb l)[j]? = some v → W.cell? (ad.add j) = some v := fun W hW => by
          refine ⟨(hW.cell (p := ⟨d, 0, none⟩) HDB.out).trans HC0.out, fun j v hj => ?_⟩
          have hb : (ad.add j).block ≠ bn := fun e => by rw [add_block] at e; exact HSRC.out.2.1 (by rw [e, hbn]; exact HW2.out.1.ld.2.1)
          have hb2 : (ad.add j).block ≠ d := fun e => by rw [add_block] at e; exact HSRC.out.2.1 (by rw [e]; exact HW2.out.1.ld.1)
          exact ((hW.cell hb).trans (HW2.out.2.cell hb2)).trans (HSRC.out.2.2 j v hj)
        have HS := Lib.hid hheld; clear hheld hcd ht2 hbn
        have hki : (k : Int) < (n : Int) := by omega
        go_upto_region 8 with fail
        refine wp_region_noPanic ?_
        refine wp_region_held_drew (S := (fun w' => w'.cell? ⟨d, 0, none⟩ = some (.slice (some ⟨bn, 0, none⟩) n cn) ∧ ∀ (j : Nat) (v : Value), (vb l)[j]? = some v → w'.cell? (ad.add j) = some v)) (by kernel_rfl) ?_ (fun hHeld => ?_)
        · exact HS.out _ (Turn.refl _ _).drew
        refine wpAnyH_take (i := 0) (v := ?_) rfl (by kernel_rfl) (by kernel_rfl) (by kernel_rfl) (fun _ _ _ h => h) (Or.inl ⟨by rfl, ?_⟩) hHeld ?_
        rotate_left
        · intro w' hSw
          (try dsimp only at hSw)
          go_simp
          try with_reducible rfl
        try simp only [Act.put, zq1, zq2, zq3, zq4, zq5, zq6]
        refine wpAnyH_take (i := 1) (v := ?_) rfl (by kernel_rfl) (by kernel_rfl) (by kernel_rfl) (fun _ _ _ h => h) (Or.inl ⟨by rfl, ?_⟩) hHeld ?_
        rotate_left
        · intro w' hSw
          (try dsimp only at hSw)
          go_simp
          try with_reducible rfl
        try simp only [Act.put, zq1, zq2, zq3, zq4, zq5, zq6]
        refine wpAnyH_take (i := 2) (v := ?_) rfl (by kernel_rfl) (by kernel_rfl) (by kernel_rfl) (fun _ _ _ h => h) (Or.inl ⟨by rfl, ?_⟩) hHeld ?_
        rotate_left
        · intro w' hSw
          (try dsimp only at hSw)
          go_simp
          try with_reducible rfl
        try simp only [Act.put, zq1, zq2, zq3, zq4, zq5, zq6]
        refine wpAnyH_take (i := 3) (v := ?_) rfl (by kernel_rfl) (by kernel_rfl) (by kernel_rfl) (fun _ _ _ h => h) (Or.inl ⟨by rfl, ?_⟩) hHeld ?_
        rotate_left
        · intro w' hSw
          (try dsimp only at hSw)
          go_simp
          try with_reducible rfl
        try simp only [Act.put, zq1, zq2, zq3, zq4, zq5, zq6]
        refine wpAnyH_take (i := 4) (v := ?_) rfl (by kernel_rfl) (by kernel_rfl) (by kernel_rfl) (fun _ _ _ h => h) (Or.inl ⟨by rfl, ?_⟩) hHeld ?_
        rotate_left
        · intro w' hSw
          (try dsimp only at hSw)
          go_simp
          try with_reducible rfl
        try simp only [Act.put, zq1, zq2, zq3, zq4, zq5, zq6]
        refine wpAnyH_take (i := 5) (v := ?_) rfl (by kernel_rfl) (by kernel_rfl) (by kernel_rfl) (fun _ _ _ h => h) (Or.inl ⟨by rfl, ?_⟩) hHeld ?_
        rotate_left
        · intro w' hSw
          (try dsimp only at hSw)
          go_simp
          try with_reducible rfl
        try simp only [Act.put, zq1, zq2, zq3, zq4, zq5, zq6]
        refine wpAnyH_take (i := 6) (v := ?_) rfl (by kernel_rfl) (by kernel_rfl) (by kernel_rfl) (fun _ _ _ h => h) (Or.inl ⟨by rfl, ?_⟩) hHeld ?_
        rotate_left
        · intro w' hSw
          (try dsimp only at hSw)
          have hat := run_arrayW 81 5 256 (some ad) 256 cap w' Try.underlying81 (Nat.le_refl _)
          go_simp
          try with_reducible rfl
        try simp only [Act.put, zq1, zq2, zq3, zq4, zq5, zq6]
        refine wpAnyH_take (i := 7) rfl (by kernel_rfl) (by kernel_rfl) (by kernel_rfl) (fun _ _ _ h => h) (yieldsIf_load_at (by rfl) 81 (.tmp 30) rfl ad rfl (vb l) (.array 256 5) (fun _ h => h.2) Try.underlying81 rfl (vb_len l HN.out)) hHeld ?_
        try simp only [Act.put, zq1, zq2, zq3, zq4, zq5, zq6]
        refine wpAnyH_take (i := 8) (v := ?_) rfl (by kernel_rfl) (by kernel_rfl) (by kernel_rfl) (fun _ _ _ h => h) (Or.inl ⟨by rfl, ?_⟩) hHeld ?_
        rotate_left
        · intro w' hSw
          (try dsimp only at hSw)
          go_simp
          try with_reducible rfl
        try simp only [Act.put, zq1, zq2, zq3, zq4, zq5, zq6]
        refine wpAnyH_ready (rs := [9]) (by kernel_rfl) (by simp) ?_
        refine AllReadyH.cons rfl (fun K hK => ?_) (AllReadyH.nil)
        try simp only [zq1, zq2, zq3]
        try simp only [zq1, zq2, zq3]
        rw [if_pos (by rfl)]
        refine wp_store_mid 81 (.tmp 32) (.tmp 31) rfl (bn) (k * 256) (vb l).toArray rfl rfl (HF.out.thereV _ l HN.out HK256.out) (vb_size l HN.out) (vb_all l) ?_
        simp only [Act.put, zq1, zq2, zq3, zq4, zq5, zq6, List.toList_toArray]
        refine hK.out _ _ ?_ (fun hHeld => ?_)
        · exact HS.out _ (Turn.drew1 (turn_setCells _ _ _ w2.drew))
        clear hK K
        try simp only [Act.put, zq1, zq2, zq3, zq4, zq5, zq6]
        refine wpAnyH_done (by kernel_rfl) ?_ _
        refine NoPanic.normal ?_
        have hT3 : Turn bn w2 (w2.drew.setCells bn (k * 256) (vb l)) := Turn.drew1 (turn_setCells bn (vb l) (k * 256) w2.drew)
        have hF3 : Fr (w2.drew.setCells bn (k * 256) (vb l)) bn 81 (n * 256) (bF (D1.now.set k l)) := (Fr.setCells (vb l) (k * 256) w2.drew _ HF.out (by rw [List.length_map, HN.out]; exact HK256.out)).congr fun j _ => bF_set D1.now k n l HN.out HLN.out j
        generalize w2.drew.setCells bn (k * 256) (vb l) = w3 at *
        have HT3 := Lib.hid hT3; clear hT3
        have HF3 := Lib.hid hF3; clear hF3
        clear HS hHeld
        have hr3 := HF3.out.range (k * 256) 256 HK256.out
        have HLG : Hid ((D1.now.set k l).getD k [] = l) := Lib.hid (by rw [getD_set, if_pos ⟨rfl, HLN.out⟩])
        have hfv : fl 256 (fun j => bF (D1.now.set k l) (k * 256 + j)) = vb l := by rw [bF_block _ _ (by rw [HLG.out]; exact HN.out), HLG.out]
        generalize (fun j => bF (D1.now.set k l) (k * 256 + j)) = fk at *
        have HFV := Lib.hid hfv; clear hfv
        have hheld : ∀ W : World, W.heap[d]? = w3.heap[d]? → W.heap[bn]? = w3.heap[bn]? → W.cell? ⟨d, 0, none⟩ = some (.slice (some ⟨bn, 0, none⟩) n cn) ∧ W.rangeAt bn (k * 256) (fl 256 fk) := fun W h1 h2 => by
          refine ⟨?_, fun j v hj => ?_⟩
          · rw [World.cell?_of_block (w := w2) (h1.trans (HT3.out.block d HDB.out))]; exact HC0.out
          · rw [World.cell?_of_block (w := w3) h2]; exact hr3 j v hj
        have HS := Lib.hid hheld; clear hheld hr3
        have hheld2 : ∀ W : World, W.heap[d]? = w3.heap[d]? → W.cell? ⟨d, 2, none⟩ = some wv ∧ W.frozen? ⟨d, 2, none⟩ = false := fun W h1 => by
          have h3 := h1.trans (HT3.out.block d HDB.out)
          rw [World.cell?_of_block (w := w2) h3, World.frozen?_of_block (w := w2) h3]; exact HC2.out
        have HD := Lib.hid hheld2; clear hheld2
        have hdl : d < w3.heap.size := by rw [HT3.out.size]; exact HDL.out.1
        have hbl : bn < w3.heap.size := by rw [HT3.out.size]; exact HDL.out.2
        have HOW : Hid (w3.ownsRow 0 83 257 wv m xs) := Lib.hid (own_same HO2.out fun b hb => HT3.out.block b (HWB.out b hb).2)
        obtain ⟨j0, hi, hz0, hz1, hz2⟩ := info_parts info_wr
        go_upto_region 9 with fail
        refine wp_region_noPanic ?_
        refine wp_region_held_drew (S := (fun w' => w'.cell? ⟨d, 0, none⟩ = some (.slice (some ⟨bn, 0, none⟩) n cn) ∧ w'.rangeAt bn (k * 256) (fl 256 fk))) (by kernel_rfl) ?_ (fun hHeld => ?_)
        · exact HS.out _ rfl rfl
        have es0 : Hid (w3.drew.heap.size = w3.heap.size) := Lib.hid rfl
        have e0d : w3.drew.heap[d]? = w3.heap[d]? := rfl
        have e0b : w3.drew.heap[bn]? = w3.heap[bn]? := rfl
        have eo0 : w3.drew.ownsRow 0 83 257 wv m xs := HOW.out
        have er0 : ∀ b, b < w3.heap.size → w3.drew.heap[b]? = w3.heap[b]? := fun _ _ => rfl
        have ew0 : w3.drew.os = w3.os ∧ w3.drew.tape = w3.tape ∧ w3.drew.output = w3.output := ⟨rfl, rfl, rfl⟩
        have HS9 : Hid (∀ (W : World) (v : Value), W.heap[d]? = w3.heap[d]? → W.heap[bn]? = w3.heap[bn]? → (W.setCell ⟨d, 2, none⟩ v).cell? ⟨d, 0, none⟩ = some (.slice (some ⟨bn, 0, none⟩) n cn) ∧ (W.setCell ⟨d, 2, none⟩ v).rangeAt bn (k * 256) (fl 256 fk)) := Lib.hid fun W v h1 h2 => by
          obtain ⟨h3, h4⟩ := HS.out W h1 h2
          refine ⟨(World.cell?_setCell_other _ _ _ _ (fun e => by injection e with _ e; cases e)).trans h3, fun j u hj => (World.cell?_setCell_other _ _ _ _ (fun e => by injection e with e _; exact HDB.out e)).trans (h4 j u hj)⟩
        generalize w3.drew = ws at *
        refine wpAnyH_take (i := 0) (v := ?_) rfl (by kernel_rfl) (by kernel_rfl) (by kernel_rfl) (fun _ _ _ h => h) (Or.inl ⟨by rfl, ?_⟩) hHeld ?_
        rotate_left
        · intro w' hSw
          (try dsimp only at hSw)
          go_simp
          try with_reducible rfl
        try simp only [Act.put, zq1, zq2, zq3, zq4, zq5, zq6]
        refine wpAnyH_take (i := 1) (v := ?_) rfl (by kernel_rfl) (by kernel_rfl) (by kernel_rfl) (fun _ _ _ h => h) (Or.inl ⟨by rfl, ?_⟩) hHeld ?_
        rotate_left
        · intro w' hSw
          (try dsimp only at hSw)
          go_simp
          try with_reducible rfl
        try simp only [Act.put, zq1, zq2, zq3, zq4, zq5, zq6]
        refine wpAnyH_take (i := 2) (v := ?_) rfl (by kernel_rfl) (by kernel_rfl) (by kernel_rfl) (fun _ _ _ h => h) (Or.inl ⟨by rfl, ?_⟩) hHeld ?_
        rotate_left
        · intro w' hSw
          (try dsimp only at hSw)
          go_simp
          try with_reducible rfl
        try simp only [Act.put, zq1, zq2, zq3, zq4, zq5, zq6]
        refine wpAnyH_take (i := 3) (v := ?_) rfl (by kernel_rfl) (by kernel_rfl) (by kernel_rfl) (fun _ _ _ h => h) (Or.inl ⟨by rfl, ?_⟩) hHeld ?_
        rotate_left
        · intro w' hSw
          (try dsimp only at hSw)
          go_simp
          try with_reducible rfl
        try simp only [Act.put, zq1, zq2, zq3, zq4, zq5, zq6]
        refine wpAnyH_take (i := 5) (v := ?_) rfl (by kernel_rfl) (by kernel_rfl) (by kernel_rfl) (fun _ _ _ h => h) (Or.inl ⟨by rfl, ?_⟩) hHeld ?_
        rotate_left
        · intro w' hSw
          (try dsimp only at hSw)
          go_simp
          try with_reducible rfl
        try simp only [Act.put, zq1, zq2, zq3, zq4, zq5, zq6]
        refine wpAnyH_take (i := 6) (v := ?_) rfl (by kernel_rfl) (by kernel_rfl) (by kernel_rfl) (fun _ _ _ h => h) (Or.inl ⟨by rfl, ?_⟩) hHeld ?_
        rotate_left
        · intro w' hSw
          (try dsimp only at hSw)
          go_simp
          try with_reducible rfl
        try simp only [Act.put, zq1, zq2, zq3, zq4, zq5, zq6]
        refine wpAnyH_take (i := 7) (v := ?_) rfl (by kernel_rfl) (by kernel_rfl) (by kernel_rfl) (fun _ _ _ h => h) (Or.inl ⟨by rfl, ?_⟩) hHeld ?_
        rotate_left
        · intro w' hSw
          (try dsimp only at hSw)
          go_simp
          try with_reducible rfl
        try simp only [Act.put, zq1, zq2, zq3, zq4, zq5, zq6]
        refine wpAnyH_take (i := 8) (v := ?_) rfl (by kernel_rfl) (by kernel_rfl) (by kernel_rfl) (fun _ _ _ h => h) (Or.inl ⟨by rfl, ?_⟩) hHeld ?_
        rotate_left
        · intro w' hSw
          (try dsimp only at hSw)
          go_simp
          try with_reducible rfl
        try simp only [Act.put, zq1, zq2, zq3, zq4, zq5, zq6]
        refine wpAnyH_take (i := 9) (v := ?_) rfl (by kernel_rfl) (by kernel_rfl) (by kernel_rfl) (fun _ _ _ h => h) (Or.inl ⟨by rfl, ?_⟩) hHeld ?_
        rotate_left
        · intro w' hSw
          (try dsimp only at hSw)
          go_simp
          try with_reducible rfl
        try simp only [Act.put, zq1, zq2, zq3, zq4, zq5, zq6]
        refine wpAnyH_take (i := 10) (v := ?_) rfl (by kernel_rfl) (by kernel_rfl) (by kernel_rfl) (fun _ _ _ h => h) (Or.inl ⟨by rfl, ?_⟩) hHeld ?_
        rotate_left
        · intro w' hSw
          (try dsimp only at hSw)
          go_simp
          try with_reducible rfl
        try simp only [Act.put, zq1, zq2, zq3, zq4, zq5, zq6]
        refine wpAnyH_take (i := 11) (v := ?_) rfl (by kernel_rfl) (by kernel_rfl) (by kernel_rfl) (fun _ _ _ h => h) (Or.inl ⟨by rfl, ?_⟩) hHeld ?_
        rotate_left
        · intro w' hSw
          (try dsimp only at hSw)
          go_simp
          try with_reducible rfl
        try simp only [Act.put, zq1, zq2, zq3, zq4, zq5, zq6]
        refine wpAnyH_take (i := 12) rfl (by kernel_rfl) (by kernel_rfl) (by kernel_rfl) (fun _ _ _ h => h) (yieldsIf_load_mid (by rfl) 81 (.tmp 44) rfl (bn) (k * 256) rfl (fl 256 fk) (.array 256 5) (fun _ h => h.2) Try.underlying81 rfl (by rw [fl_len]; exact block_size)) hHeld ?_
        try simp only [Act.put, zq1, zq2, zq3, zq4, zq5, zq6]
        refine wpAnyH_take (i := 13) rfl (by kernel_rfl) (by kernel_rfl) (by kernel_rfl) (fun _ _ _ h => h) (yieldsIf_build_wr (by rfl) (k : Int) fk (.tmp 38) (.tmp 45) rfl rfl rfl) hHeld ?_
        try simp only [Act.put, zq1, zq2, zq3, zq4, zq5, zq6]
        refine wpAnyH_ready (rs := [4, 14]) (by kernel_rfl) (by simp) ?_
        refine AllReadyH.cons rfl (fun K hK => ?_) (AllReadyH.cons rfl (fun K hK => ?_) (AllReadyH.nil))
        · try simp only [zq1, zq2, zq3]
          have hcl := (HD.out _ e0d).1
          go_simp
          clear hcl
          refine hK.out _ _ ?_ (fun hHeld => ?_)
          · exact HS.out _ e0d e0b
          clear hK K
          try simp only [Act.put, zq1, zq2, zq3, zq4, zq5, zq6]
          refine wpAnyH_ready (rs := [14]) (by kernel_rfl) (by simp) ?_
          refine AllReadyH.cons rfl (fun K hK => ?_) (AllReadyH.nil)
          try simp only [zq1, zq2, zq3]
          rw [if_pos (by rfl)]
          refine wp_wr_slice _ rfl (k : Int) fk rfl ?_
          have e1d : (ws.alloc (.cells (wC (k : Int) fk) 83)).heap[d]? = w3.heap[d]? := (heap_alloc_old _ _ (by rw [es0.out]; exact hdl)).trans e0d
          have e1b : (ws.alloc (.cells (wC (k : Int) fk) 83)).heap[bn]? = w3.heap[bn]? := (heap_alloc_old _ _ (by rw [es0.out]; exact hbl)).trans e0b
          have eo1 : (ws.alloc (.cells (wC (k : Int) fk) 83)).ownsRow 0 83 257 wv m xs := World.ownsRow.alloc eo0 _
          have ek1 : (ws.alloc (.cells (wC (k : Int) fk) 83)).heap[ws.heap.size]? = some (.cells (wC (k : Int) fk) 83 (0, 0)) := heap_alloc_new _ _
          have er1 : ∀ b, b < w3.heap.size → (ws.alloc (.cells (wC (k : Int) fk) 83)).heap[b]? = w3.heap[b]? := fun b hb => (heap_alloc_old _ _ (by rw [es0.out]; exact hb)).trans (er0 b hb)
          have es1 : (ws.alloc (.cells (wC (k : Int) fk) 83)).heap.size = w3.heap.size + 1 := by rw [World.size_alloc, es0.out]
          have ew1 : (ws.alloc (.cells (wC (k : Int) fk) 83)).os = w3.os ∧ (ws.alloc (.cells (wC (k : Int) fk) 83)).tape = w3.tape ∧ (ws.alloc (.cells (wC (k : Int) fk) 83)).output = w3.output := ew0
          refine hK.out _ _ ?_ (fun hHeld => ?_)
          · exact HS.out _ e1d e1b
          clear hK K
          try simp only [Act.put, zq1, zq2, zq3, zq4, zq5, zq6]
          generalize ws.alloc (.cells (wC (k : Int) fk) 83) = wt at *
          refine wpAnyH_ready (rs := [15]) (by kernel_rfl) (by simp) ?_
          refine AllReadyH.cons rfl (fun K hK => ?_) (AllReadyH.nil)
          rw [if_pos (by rfl)]
          refine wp_append_lies _ _ _ 67 (by rfl) 0 83 j0 (.agg (wC 0 fun _ => .int .u8 0)) 257 264 Try.underlying67 hi hz0 hz1 hz2 (wC_size _ _) (by omega) wv m xs (by rfl) eo1 ⟨_, 0, none⟩ 1 1 (wC (k : Int) fk).toList (by rfl) (by simp [wC, fl_len]) (World.news_of_block ek1) (fun u hu => by rw [wC_list k fk l HFV.out] at hu; exact wL_one _ u hu) (by omega) (by unfold maxLen; have := HM.out; omega) (by have := HM.out; omega) (Nat.zero_le _) (w3.heap.size + 1) es1 ?_
          intro g2 cap2 w6 hown6 hgrow6 hat6 hlt6
          have e6d : w6.heap[d]? = w3.heap[d]? := (hgrow6.block d (by omega) (fun e => (HWB.out d e.symm).1 rfl)).trans e1d
          have e6b : w6.heap[bn]? = w3.heap[bn]? := (hgrow6.block bn (by omega) (fun e => (HWB.out bn e.symm).2 rfl)).trans e1b
          refine hK.out _ _ ?_ (fun hHeld => ?_)
          · exact HS.out _ e6d e6b
          clear hK K
          try simp only [Act.put, zq1, zq2, zq3, zq4, zq5, zq6]
          refine wpAnyH_take (i := 16) (v := ?_) rfl (by kernel_rfl) (by kernel_rfl) (by kernel_rfl) (fun _ _ _ h => h) (Or.inl ⟨by rfl, ?_⟩) hHeld ?_
          rotate_left
          · intro w' hSw
            (try dsimp only at hSw)
            go_simp
            try with_reducible rfl
          try simp only [Act.put, zq1, zq2, zq3, zq4, zq5, zq6]
          refine wpAnyH_take (i := 17) (v := ?_) rfl (by kernel_rfl) (by kernel_rfl) (by kernel_rfl) (fun _ _ _ h => h) (Or.inl ⟨by rfl, ?_⟩) hHeld ?_
          rotate_left
          · intro w' hSw
            (try dsimp only at hSw)
            go_simp
            try with_reducible rfl
          try simp only [Act.put, zq1, zq2, zq3, zq4, zq5, zq6]
          refine wpAnyH_ready (rs := [18]) (by kernel_rfl) (by simp) ?_
          refine AllReadyH.cons rfl (fun K hK => ?_) (AllReadyH.nil)
          try simp only [zq1, zq2, zq3]
          have hcl := (HD.out _ e6d).1
          have hfl := (HD.out _ e6d).2
          go_simp
          clear hcl hfl
          refine hK.out _ _ ?_ (fun hHeld => ?_)
          · exact HS9.out w6 _ e6d e6b
          clear hK K
          try simp only [Act.put, zq1, zq2, zq3, zq4, zq5, zq6]
          refine wpAnyH_done (by kernel_rfl) ?_ _
          refine NoPanic.normal ?_
          have hw2 := HW2.out
          have hd0 := HDL.out.1
          have hfin := hw2.1.putW (w3 := w3) (w6 := w6) (g2 := g2) (cap2 := cap2) (M := ext L w w6) HKN.out HN.out (by rw [← HBN.out]; exact HF3.out) (by rw [← HBN.out]; exact HT3.out)
            (fun b hb hn => (hgrow6.block b (by omega) (fun e => hn (by rw [← HWV.out.1]; exact e.symm))).trans (er1 b hb))
            (by have := hgrow6.size; omega) (by have := hown6; rw [wC_list k fk l HFV.out, HWV.out.2.2, HWV.out.2.1] at this; exact this)
            (by rw [← HWV.out.1]; exact hat6.imp id fun h => by omega) (fun x hx => .inl hx) (by
              rcases hat6 with h | h
              · exact .inl (hw2.1.lw g2 (by rw [← HWV.out.1]; exact h)).1
              · exact .inr ⟨by have := HT3.out.size; have := hw2.2.size; omega, hlt6⟩) (fun x hx => hx.elim (fun hl => by have := hw2.1.lt x hl; have := HT3.out.size; have := hgrow6.size; omega) fun h => h.2)
          have hkp : Keep L w (w6.setCell ⟨d, 2, none⟩ (.slice (some ⟨g2, 0, none⟩) (m + 1) cap2)) := by
            refine Turn.keep (Keep.trans (L := L) (M := L) (Turn.keep (hw2.2.keepL hw2.1.ld.1) HT3.out fun _ => by rw [HBN.out]; exact hw2.1.ld.2.1) (show Keep L w3 w6 from ⟨hgrow6.os.trans ew1.1, hgrow6.tape.trans ew1.2.1, hgrow6.output.trans ew1.2.2, by have := hgrow6.size; omega, fun x hx hn => (hgrow6.block x (by omega) (fun e => hn (hw2.1.lw x (by rw [← HWV.out.1]; exact e.symm)).1)).trans (er1 x hx)⟩) fun x _ h => h) (turn_setCell _ _ _ _) fun _ => hw2.1.ld.1
          rw [← HWV.out.2.1] at hfin
          have HF : Hid (CD (w6.setCell ⟨d, 2, none⟩ (.slice (some ⟨g2, 0, none⟩) (m + 1) cap2)) d (ext L w (w6.setCell ⟨d, 2, none⟩ (.slice (some ⟨g2, 0, none⟩) (m + 1) cap2))) n (D1.put k l) ∧ Keep L w (w6.setCell ⟨d, 2, none⟩ (.slice (some ⟨g2, 0, none⟩) (m + 1) cap2))) :=
            Lib.hid ⟨⟨_, hfin.more (fun x hx => hx.imp id fun h => ⟨h.1, by rw [World.size_setCell]; exact h.2⟩) (fun x hx => hfin.lt x (hx.imp id fun h => ⟨h.1, by have := h.2; rw [World.size_setCell] at this; exact this⟩))⟩, hkp⟩
          clear hfin hkp hw2 hd0
          generalize w6.setCell ⟨d, 2, none⟩ (.slice (some ⟨g2, 0, none⟩) (m + 1) cap2) = w7 at *
          clear hown6 hgrow6 hat6 hlt6 e6d e6b
          go_wp2_with fail
          go_ret
          exact ⟨rfl, HF.out⟩
        · try simp only [zq1, zq2, zq3]
          rw [if_pos (by rfl)]
          refine wp_wr_slice _ rfl (k : Int) fk rfl ?_
          have e1d : (ws.alloc (.cells (wC (k : Int) fk) 83)).heap[d]? = w3.heap[d]? := (heap_alloc_old _ _ (by rw [es0.out]; exact hdl)).trans e0d
          have e1b : (ws.alloc (.cells (wC (k : Int) fk) 83)).heap[bn]? = w3.heap[bn]? := (heap_alloc_old _ _ (by rw [es0.out]; exact hbl)).trans e0b
          have eo1 : (ws.alloc (.cells (wC (k : Int) fk) 83)).ownsRow 0 83 257 wv m xs := World.ownsRow.alloc eo0 _
          have ek1 : (ws.alloc (.cells (wC (k : Int) fk) 83)).heap[ws.heap.size]? = some (.cells (wC (k : Int) fk) 83 (0, 0)) := heap_alloc_new _ _
          have er1 : ∀ b, b < w3.heap.size → (ws.alloc (.cells (wC (k : Int) fk) 83)).heap[b]? = w3.heap[b]? := fun b hb => (heap_alloc_old _ _ (by rw [es0.out]; exact hb)).trans (er0 b hb)
          have es1 : (ws.alloc (.cells (wC (k : Int) fk) 83)).heap.size = w3.heap.size + 1 := by rw [World.size_alloc, es0.out]
          have ew1 : (ws.alloc (.cells (wC (k : Int) fk) 83)).os = w3.os ∧ (ws.alloc (.cells (wC (k : Int) fk) 83)).tape = w3.tape ∧ (ws.alloc (.cells (wC (k : Int) fk) 83)).output = w3.output := ew0
          refine hK.out _ _ ?_ (fun hHeld => ?_)
          · exact HS.out _ e1d e1b
          clear hK K
          try simp only [Act.put, zq1, zq2, zq3, zq4, zq5, zq6]
          generalize ws.alloc (.cells (wC (k : Int) fk) 83) = wt at *
          refine wpAnyH_ready (rs := [4]) (by kernel_rfl) (by simp) ?_
          refine AllReadyH.cons rfl (fun K hK => ?_) (AllReadyH.nil)
          try simp only [zq1, zq2, zq3]
          have hcl := (HD.out _ e1d).1
          go_simp
          clear hcl
          refine hK.out _ _ ?_ (fun hHeld => ?_)
          · exact HS.out _ e1d e1b
          clear hK K
          try simp only [Act.put, zq1, zq2, zq3, zq4, zq5, zq6]
          refine wpAnyH_ready (rs := [15]) (by kernel_rfl) (by simp) ?_
          refine AllReadyH.cons rfl (fun K hK => ?_) (AllReadyH.nil)
          rw [if_pos (by rfl)]
          refine wp_append_lies _ _ _ 67 (by rfl) 0 83 j0 (.agg (wC 0 fun _ => .int .u8 0)) 257 264 Try.underlying67 hi hz0 hz1 hz2 (wC_size _ _) (by omega) wv m xs (by rfl) eo1 ⟨_, 0, none⟩ 1 1 (wC (k : Int) fk).toList (by rfl) (by simp [wC, fl_len]) (World.news_of_block ek1) (fun u hu => by rw [wC_list k fk l HFV.out] at hu; exact wL_one _ u hu) (by omega) (by unfold maxLen; have := HM.out; omega) (by have := HM.out; omega) (Nat.zero_le _) (w3.heap.size + 1) es1 ?_
          intro g2 cap2 w6 hown6 hgrow6 hat6 hlt6
          have e6d : w6.heap[d]? = w3.heap[d]? := (hgrow6.block d (by omega) (fun e => (HWB.out d e.symm).1 rfl)).trans e1d
          have e6b : w6.heap[bn]? = w3.heap[bn]? := (hgrow6.block bn (by omega) (fun e => (HWB.out bn e.symm).2 rfl)).trans e1b
          refine hK.out _ _ ?_ (fun hHeld => ?_)
          · exact HS.out _ e6d e6b
          clear hK K
          try simp only [Act.put, zq1, zq2, zq3, zq4, zq5, zq6]
          refine wpAnyH_take (i := 16) (v := ?_) rfl (by kernel_rfl) (by kernel_rfl) (by kernel_rfl) (fun _ _ _ h => h) (Or.inl ⟨by rfl, ?_⟩) hHeld ?_
          rotate_left
          · intro w' hSw
            (try dsimp only at hSw)
            go_simp
            try with_reducible rfl
          try simp only [Act.put, zq1, zq2, zq3, zq4, zq5, zq6]
          refine wpAnyH_take (i := 17) (v := ?_) rfl (by kernel_rfl) (by kernel_rfl) (by kernel_rfl) (fun _ _ _ h => h) (Or.inl ⟨by rfl, ?_⟩) hHeld ?_
          rotate_left
          · intro w' hSw
            (try dsimp only at hSw)
            go_simp
            try with_reducible rfl
          try simp only [Act.put, zq1, zq2, zq3, zq4, zq5, zq6]
          refine wpAnyH_ready (rs := [18]) (by kernel_rfl) (by simp) ?_
          refine AllReadyH.cons rfl (fun K hK => ?_) (AllReadyH.nil)
          try simp only [zq1, zq2, zq3]
          have hcl := (HD.out _ e6d).1
          have hfl := (HD.out _ e6d).2
          go_simp
          clear hcl hfl
          refine hK.out _ _ ?_ (fun hHeld => ?_)
          · exact HS9.out w6 _ e6d e6b
          clear hK K
          try simp only [Act.put, zq1, zq2, zq3, zq4, zq5, zq6]
          refine wpAnyH_done (by kernel_rfl) ?_ _
          refine NoPanic.normal ?_
          have hw2 := HW2.out
          have hd0 := HDL.out.1
          have hfin := hw2.1.putW (w3 := w3) (w6 := w6) (g2 := g2) (cap2 := cap2) (M := ext L w w6) HKN.out HN.out (by rw [← HBN.out]; exact HF3.out) (by rw [← HBN.out]; exact HT3.out)
            (fun b hb hn => (hgrow6.block b (by omega) (fun e => hn (by rw [← HWV.out.1]; exact e.symm))).trans (er1 b hb))
            (by have := hgrow6.size; omega) (by have := hown6; rw [wC_list k fk l HFV.out, HWV.out.2.2, HWV.out.2.1] at this; exact this)
            (by rw [← HWV.out.1]; exact hat6.imp id fun h => by omega) (fun x hx => .inl hx) (by
              rcases hat6 with h | h
              · exact .inl (hw2.1.lw g2 (by rw [← HWV.out.1]; exact h)).1
              · exact .inr ⟨by have := HT3.out.size; have := hw2.2.size; omega, hlt6⟩) (fun x hx => hx.elim (fun hl => by have := hw2.1.lt x hl; have := HT3.out.size; have := hgrow6.size; omega) fun h => h.2)
          have hkp : Keep L w (w6.setCell ⟨d, 2, none⟩ (.slice (some ⟨g2, 0, none⟩) (m + 1) cap2)) := by
            refine Turn.keep (Keep.trans (L := L) (M := L) (Turn.keep (hw2.2.keepL hw2.1.ld.1) HT3.out fun _ => by rw [HBN.out]; exact hw2.1.ld.2.1) (show Keep L w3 w6 from ⟨hgrow6.os.trans ew1.1, hgrow6.tape.trans ew1.2.1, hgrow6.output.trans ew1.2.2, by have := hgrow6.size; omega, fun x hx hn => (hgrow6.block x (by omega) (fun e => hn (hw2.1.lw x (by rw [← HWV.out.1]; exact e.symm)).1)).trans (er1 x hx)⟩) fun x _ h => h) (turn_setCell _ _ _ _) fun _ => hw2.1.ld.1
          rw [← HWV.out.2.1] at hfin
          have HF : Hid (CD (w6.setCell ⟨d, 2, none⟩ (.slice (some ⟨g2, 0, none⟩) (m + 1) cap2)) d (ext L w (w6.setCell ⟨d, 2, none⟩ (.slice (some ⟨g2, 0, none⟩) (m + 1) cap2))) n (D1.put k l) ∧ Keep L w (w6.setCell ⟨d, 2, none⟩ (.slice (some ⟨g2, 0, none⟩) (m + 1) cap2))) :=
            Lib.hid ⟨⟨_, hfin.more (fun x hx => hx.imp id fun h => ⟨h.1, by rw [World.size_setCell]; exact h.2⟩) (fun x hx => hfin.lt x (hx.imp id fun h => ⟨h.1, by have := h.2; rw [World.size_setCell] at this; exact this⟩))⟩, hkp⟩
          clear hfin hkp hw2 hd0
          generalize w6.setCell ⟨d, 2, none⟩ (.slice (some ⟨g2, 0, none⟩) (m + 1) cap2) = w7 at *
          clear hown6 hgrow6 hat6 hlt6 e6d e6b
          go_wp2_with fail
          go_ret
          exact ⟨rfl, HF.out⟩
      · rw [if_neg h0]
        have hEi : ¬ (E : Int) = 0 := by omega
        have HLT := Lib.hid hlt0; clear hlt0
        clear hE hD1 h eE eW h1 hr hA hn hwl h0 hm
        go_enter Try.func34, Try.ntmps34
        go_wp2_with fail
        refine HH.out.mono ?_
        rintro e w1 ⟨rfl, ew⟩
        have ew := ew.symm
        subst ew
        go_wp2_with fail
        refine HS0.out.mono ?_
        rintro e w2 ⟨rfl, hcd, ht2⟩
        have HF := Lib.hid (And.intro (hcd.ext HLT.out (Nat.le_of_eq ht2.size.symm)) (ht2.keepL hld.1)); clear hcd ht2 HH HS0
        go_wp2_with fail
        go_ret
        exact ⟨rfl, HF.out⟩
    · have eE : D.writeE n i l = 2 := by unfold Dev.writeE; rw [if_neg (fun e => hle (by omega))]
      have eW : D.write n i l = D := by unfold Dev.write; rw [if_neg (fun e => hle (by omega))]
      rw [eE, eW]
      have HF := Lib.hid (And.intro (h.ext h.lt (Nat.le_refl _)) (Keep.refl L w))
      have hli : ¬ (len : Int) = 256 := by omega
      clear h eE eW h1 hr hA hn hm hle
      go_enter Try.func34, Try.ntmps34
      go_wp2_with fail
      refine HH.out.mono ?_
      rintro e w1 ⟨rfl, ew⟩
      have ew := ew.symm
      subst ew
      go_wp2_with fail
      go_ret
      exact ⟨rfl, HF.out⟩
  · have eE : D.writeE n i l = 2 := by unfold Dev.writeE; rw [if_neg (fun e => h1 e.1)]
    have eW : D.write n i l = D := by unfold Dev.write; rw [if_neg (fun e => h1 e.1)]
    rw [eE, eW]
    have h2 : hasB n i = false := by simpa using h1
    rw [h2] at hh
    have HH := Lib.hid hh; clear hh
    have HF := Lib.hid (And.intro (h.ext h.lt (Nat.le_refl _)) (Keep.refl L w))
    clear h eE eW h1 hr hA hn hm h2
    go_enter Try.func34, Try.ntmps34
    go_wp2_with fail
    refine HH.out.mono ?_
    rintro e w1 ⟨rfl, ew⟩
    have ew := ew.symm
    subst ew
    go_wp2_with fail
    go_ret
    exact ⟨rfl, HF.out⟩
end Go.Proofs.Ytpepbffhhfgdpaa
