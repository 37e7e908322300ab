/-
  The document's device (layer 8): Write.
-/
import Derived.Test.YtpepbffhhfgdpaaFoldA
import Derived.Deep.AppendLies
import Derived.Deep.RegionHeld3
namespace Go.Proofs.Ytpepbffhhfgdpaa
open Go Go.RowKit
set_option linter.unusedVariables false
set_option linter.unusedSimpArgs false

theorem Rd.kept {w w' : World} {L : Nat → Prop} {A : Option Addr} {l : List UInt8} (h : Rd w w.heap.size A (vb l)) (hk : Keep L w w') (hA : l.length ≠ 0 → ∀ ad, A = some ad → ¬ L ad.block) : Rd w' w'.heap.size A (vb l) := fun h0 => by
  have hA := hA (by simpa [vb] using Nat.ne_of_gt h0)
  obtain ⟨ad, rfl, hb, hc⟩ := h h0
  refine ⟨ad, rfl, Nat.lt_of_lt_of_le hb hk.size, fun j u hj => ?_⟩
  exact (World.cell?_of_block (w := w) (by rw [add_block]; exact hk.block _ hb (hA ad rfl))).trans (hc j u hj)
theorem info_wait : (Try.prog.info? 86).map (fun i => (i.zero, i.size, i.bytes)) = some (some (.agg #[.int .i64 0, .slice none 0 0]), 2, 32) := by kernel_rfl
theorem wr_app {w4 w5 w6 : World} {p m : Nat} {wv : Value} {xs : List Value} {o : Obj} {g2 : Nat} (HH : ∀ W : World, Below w4.heap.size w4 W → W.cell? ⟨p, 2, none⟩ = some wv ∧ W.frozen? ⟨p, 2, none⟩ = false ∧ W.ownsRow 0 86 2 wv m xs) (hpw : ∀ b, wv.ownBlock = some b → b ≠ p ∧ b < w4.heap.size) (hpl : p < w4.heap.size)
    (hb : Below w4.heap.size w4 w5) (hg : (w5.alloc o).grownBy w6 wv.ownBlock) (hat : wv.ownBlock = some g2 ∨ g2 = (w5.alloc o).heap.size) :
    w6.cell? ⟨p, 2, none⟩ = some wv ∧ w6.frozen? ⟨p, 2, none⟩ = false ∧ w5.grownBy w6 wv.ownBlock ∧ (wv.ownBlock = some g2 ∨ w5.heap.size < g2) ∧ w5.heap.size < w6.heap.size := by
  have hbA : Below w4.heap.size w4 (w5.alloc o) := hb.trans (((Below.refl _ _).alloc (Nat.le_refl _) o).mono hb.size)
  obtain ⟨h1, h2, _⟩ := HH _ hbA
  have hp : w6.heap[p]? = (w5.alloc o).heap[p]? := hg.block p (by have := hbA.size; omega) (fun e => (hpw p e.symm).1 rfl)
  have hsz : (w5.alloc o).heap.size = w5.heap.size + 1 := World.size_alloc _ _
  refine ⟨(World.cell?_of_block (w := w5.alloc o) hp).trans h1, (World.frozen?_of_block (w := w5.alloc o) hp).trans h2, ⟨hg.os, hg.tape, hg.output, by have := hg.size; omega, fun k hk hn => (hg.block k (by omega) hn).trans (heap_alloc_old _ _ hk)⟩, hat.imp id fun h => by omega, by have := hg.size; omega⟩
theorem held_w1 {w w' : World} {S : Sh} {p n k : Nat} {L : Nat → Prop} {D : Dev} (h : Hid (RDs S w p L n D)) (hk : k < n) (hb : Below w.heap.size w w') :
    w'.cell? ⟨p, 0, none⟩ = some (.slice (some ⟨S.bn, 0, none⟩) n S.cn) ∧ w'.cell? ⟨S.bn, k, none⟩ = some (.slice (some ⟨S.g k, 0, none⟩) 256 (S.cg k)) ∧ w'.frozen? ⟨S.bn, k, none⟩ = false ∧ Below w.heap.size w w' := by
  have := h.out.call hb
  exact ⟨this.c0, this.sn.cellAt k hk, this.sn.free k, hb⟩
set_option maxRecDepth 100000 in
set_option maxHeartbeats 8000000 in
theorem rdwrite_any (w : World) (p n : Nat) (L : Nat → Prop) (D : Dev) (i : Int) (A : Option Addr) (l : List UInt8) (len cap : Nat) (h : RD w p L n D) (hn : l.length = len) (hr : Rd w w.heap.size A (vb l)) (hA : l.length ≠ 0 → ∀ ad, A = some ad → ¬ L ad.block) (hm : D.waits.length ≤ 1000000) (hnn : n ≤ 100000) :
    Calls Try.prog 35 #[.pointer (some ⟨p, 0, none⟩), .int .i64 i, .slice A len cap] w fun e w' => e = .returned (.int .i64 (D.writeE n i l : Int)) ∧ RD w' p (ext L w w') n (D.write n i l) ∧ Keep L w w' := by
  have hh := rdhas_any w p n L D i h
  have more : ∀ (w' : World) (D' : Dev), RD w' p L n D' → Keep L w w' → RD w' p (ext L w w') n D' := fun w' D' h' hk => h'.more (fun b hb => .inl hb) (fun b hb => hb.elim (fun hl => Nat.lt_of_lt_of_le (h.lt b hl) hk.size) (fun hb => hb.2))
  by_cases h1 : hasB n i = true
  · rw [h1] at hh
    have HH := Lib.hid hh; clear hh
    by_cases hl : len = 256
    · have hs := rdstep_any w p n L D h
      have eE : D.writeE n i l = D.stepE := by unfold Dev.writeE; rw [if_pos ⟨h1, by omega⟩]
      have eW : D.write n i l = if D.stepE = 0 then D.step.put i.toNat l else D.step := by unfold Dev.write; rw [if_pos ⟨h1, by omega⟩]
      rw [eE, eW]
      have hwl : D.step.waits = D.waits := by unfold Dev.step; split <;> rfl
      have hlt0 := h.lt
      have hsz : ∀ b, L b → b < w.heap.size := h.lt
      have hno : ∀ b, w.heap.size ≤ b → ¬ L b := fun b hb hl => by have := hsz b hl; omega
      have HS := Lib.hid hs; clear hs
      subst hl
      obtain ⟨E, hE⟩ : ∃ E, E = D.stepE := ⟨_, rfl⟩
      rw [← hE] at HS
      rw [← hE]
      obtain ⟨D1, hD1⟩ : ∃ D1, D1 = D.step := ⟨_, rfl⟩
      rw [← hD1] at HS hwl
      rw [← hD1]
      by_cases h0 : E = 0
      · rw [if_pos h0]
        obtain ⟨i0, i1⟩ := (hasB_iff n i).1 h1
        obtain ⟨k, rfl⟩ : ∃ k : Nat, i = (k : Int) := ⟨i.toNat, by omega⟩
        have hk : k < n := by omega
        rw [Int.toNat_natCast]
        subst h0
        have HO := Lib.hid more; clear more
        have HRD := Lib.hid hr; clear hr
        have HA := Lib.hid hA; clear hA
        have HN := Lib.hid hn; clear hn
        have HW := Lib.hid hwl; clear hwl
        clear hE hD1 h eE eW hlt0 h1
        go_enter Try.func35, Try.ntmps35
        go_wp2_with fail
        refine HH.out.mono ?_
        rintro e w1 ⟨rfl, ew⟩
        have ew := ew.symm
        subst ew
        go_wp2_with fail
        refine HS.out.mono ?_
        rintro e w2 ⟨rfl, ⟨S, hrd⟩, hk2⟩
        clear HH HS
        have HR := Lib.hid hrd; clear hrd
        have HK := Lib.hid hk2; clear hk2
        have HC : Hid (∀ W : World, Below w2.heap.size w2 W → Calls Try.prog 10 #[.slice A 256 cap] W fun e w' => e = .returned (.slice (some ⟨W.heap.size, 0, none⟩) 256 259) ∧ w'.ownsRow W.heap.size 5 1 (.slice (some ⟨W.heap.size, 0, none⟩) 256 259) 256 (vb l) ∧ Below W.heap.size W w') :=
          Lib.hid fun W hb => copyx_any A (vb l) 256 cap (by simp [vb, HN.out]) (vb_onec l) W (by decide) ((HRD.out.kept HK.out HA.out).go hb)
        obtain ⟨bn, hbn⟩ : ∃ bn, bn = S.bn := ⟨_, rfl⟩
        obtain ⟨cn, hcn⟩ : ∃ cn, cn = S.cn := ⟨_, rfl⟩
        obtain ⟨gk, hgk⟩ : ∃ gk, gk = S.g k := ⟨_, rfl⟩
        obtain ⟨ck, hck⟩ : ∃ ck, ck = S.cg k := ⟨_, rfl⟩
        have hheld : ∀ W : World, Below w2.heap.size w2 W → W.cell? ⟨p, 0, none⟩ = some (.slice (some ⟨bn, 0, none⟩) n cn) ∧ W.cell? ⟨bn, k, none⟩ = some (.slice (some ⟨gk, 0, none⟩) 256 ck) ∧ W.frozen? ⟨bn, k, none⟩ = false ∧ Below w2.heap.size w2 W := fun W hb => by
          rw [hbn, hcn, hgk, hck]; exact held_w1 HR hk hb
        have HE := Lib.hid (And.intro hbn (And.intro hcn (And.intro hgk hck))); clear hbn hcn hgk hck
        have HH := Lib.hid hheld; clear hheld
        have hpb : Hid (p ≠ bn) := Lib.hid fun e => by have h7 := HR.out.lp.2; rw [e, HE.out.1, HR.out.lbn.2] at h7; cases h7
        have hki : (k : Int) < (n : Int) := by omega
        go_upto_region 6 with fail
        go_region_held3 (fun w' => w'.cell? ⟨p, 0, none⟩ = some (.slice (some ⟨bn, 0, none⟩) n cn))
          (first
            | exact (HH.out _ ((Below.refl _ _).drew)).1
            | exact (HH.out _ (by assumption)).1
            | exact (World.cell?_setCell_other _ _ _ _ (fun e => hpb.out (congrArg Addr.block e).symm)).trans (HH.out _ (by assumption)).1)
          ((go_at_call 10; refine (HC.out _ ((Below.refl _ _).drew)).mono ?_; rintro e w3 ⟨rfl, ho3, hb3⟩; have hbw3 : Below w2.heap.size w2 w3 := (Below.refl _ _).drew.trans (hb3.mono (Nat.le_refl _)); have hfc := (HH.out _ hbw3).2.1; have hff := (HH.out _ hbw3).2.2.1))
        have hsz2 : w.heap.size ≤ w2.heap.size := HK.out.size
        have hsz3 : w2.heap.size < w3.heap.size := by obtain ⟨_, e3, _, hr3⟩ := Row.of_own ho3 (by decide); injection e3 with e3; injection e3 with e3; have h3 := hr3.lt; rw [← e3] at h3; exact h3
        obtain ⟨b0, hb0⟩ : ∃ b0, b0 = w2.heap.size := ⟨_, rfl⟩
        have hrow : Row w3 b0 l := by obtain ⟨_, e3, _, hr3⟩ := Row.of_own ho3 (by decide); injection e3 with e3; injection e3 with e3; rw [← e3] at hr3; rw [hb0]; exact hr3
        have hLb : ∀ x, L x → x < w3.heap.size := fun x hx => by have := HR.out.lt x hx; omega
        have h4 := (HR.out.call hbw3).newNow (M := ext L w w3) (k := k) (b := b0) (c := 259) (l := l) hk (fun hx => by have := HR.out.lt _ hx; omega) hrow HN.out (fun x hx => .inl hx) (.inr ⟨by omega, by omega⟩) (fun x hx => hx.elim (hLb x) (fun h => h.2))
        have hk4 : Keep L w (w3.setCell ⟨S.bn, k, none⟩ (.slice (some ⟨b0, 0, none⟩) 256 259)) := (HK.out.call hbw3).setCell (a := ⟨S.bn, k, none⟩) (fun _ => HR.out.lbn.1) _
        rw [← HE.out.1, hb0] at h4 hk4
        obtain ⟨S4, hS4, hS4w⟩ : ∃ S4, RDs S4 (w3.setCell ⟨bn, k, none⟩ (.slice (some ⟨w2.heap.size, 0, none⟩) 256 259)) p (ext L w w3) n { D1 with now := D1.now.set k l } ∧ S4.wv = S.wv := ⟨_, h4, rfl⟩
        have hsz4 : (w3.setCell ⟨bn, k, none⟩ (.slice (some ⟨w2.heap.size, 0, none⟩) 256 259)).heap.size = w3.heap.size := World.size_setCell _ _ _
        clear h4 hrow hLb hfc hff ho3 hb3 hbw3 HC HH hpb
        try clear hb0 b0
        generalize w3.setCell ⟨bn, k, none⟩ (.slice (some ⟨w2.heap.size, 0, none⟩) 256 259) = w4 at *
        have HZ4 := Lib.hid hsz4; clear hsz4
        have HR4 := Lib.hid hS4; clear hS4
        have HK4 := Lib.hid hk4; clear hk4
        obtain ⟨j0, hi, hz0, hz1, hz2⟩ := info_parts info_wait
        obtain ⟨wv, hwv⟩ : ∃ wv, wv = S4.wv := ⟨_, rfl⟩
        obtain ⟨m, hmw⟩ : ∃ m, m = D1.waits.length := ⟨_, rfl⟩
        obtain ⟨xs, hxs⟩ : ∃ xs, xs = prs D1.waits.length (wA D1.waits) (wB S4.q S4.cq) := ⟨_, rfl⟩
        have hm2 : m ≤ 1000000 := by rw [hmw, HW.out]; exact hm
        have hheld : ∀ W : World, Below w4.heap.size w4 W → W.cell? ⟨p, 2, none⟩ = some wv ∧ W.frozen? ⟨p, 2, none⟩ = false ∧ W.ownsRow 0 86 2 wv m xs := fun W hb => by
          have := HR4.out.call hb
          rw [hwv, hmw, hxs]; exact ⟨this.c2, this.free 2, this.ww⟩
        have hpw : ∀ b, wv.ownBlock = some b → b ≠ p ∧ b < w4.heap.size := fun b hb => by
          rw [hwv] at hb
          have h6 := HR4.out.lw b hb
          exact ⟨fun e => (by have h7 := HR4.out.lp.2; rw [← e, h6.2] at h7; cases h7), HR4.out.lt b h6.1⟩
        have hpl : p < w4.heap.size := HR4.out.lt p HR4.out.lp.1
        have HC : Hid (∀ W : World, Below w4.heap.size w4 W → Calls Try.prog 10 #[.slice A 256 cap] W fun e w' => e = .returned (.slice (some ⟨W.heap.size, 0, none⟩) 256 259) ∧ w'.ownsRow W.heap.size 5 1 (.slice (some ⟨W.heap.size, 0, none⟩) 256 259) 256 (vb l) ∧ Below W.heap.size W w') :=
          Lib.hid fun W hb => copyx_any A (vb l) 256 cap (by simp [vb, HN.out]) (vb_onec l) W (by decide) ((HRD.out.kept HK4.out HA.out).go hb)
        have HH := Lib.hid hheld; clear hheld
        have HPW := Lib.hid hpw; clear hpw
        have HWV := Lib.hid (And.intro hwv (And.intro hmw hxs)); clear hwv hmw hxs
        go_upto_region 7 with fail
        have hc4 := (HH.out w4 (Below.refl _ _)).1
        have hf4 := (HH.out w4 (Below.refl _ _)).2.1
        refine wp_region_noPanic ?_
        refine wp_region_held_drew (S := (fun _ => True)) (by kernel_rfl) ?_ (fun hHeld => ?_)
        · trivial
        refine wpAnyH_take (i := 0) (v := ?_) rfl (by kernel_rfl) (by kernel_rfl) (by kernel_rfl) (fun _ _ _ h => h) (Or.inl ⟨by rfl, ?_⟩) hHeld ?_
        rotate_left
        · intro w' hSw
          (try dsimp only at hSw)
          go_simp
          try with_reducible rfl
        try simp only [Act.put, zq1, zq2, zq3, zq4, zq5, zq6]
        refine wpAnyH_take (i := 1) (v := ?_) rfl (by kernel_rfl) (by kernel_rfl) (by kernel_rfl) (fun _ _ _ h => h) (Or.inl ⟨by rfl, ?_⟩) hHeld ?_
        rotate_left
        · intro w' hSw
          (try dsimp only at hSw)
          go_simp
          try with_reducible rfl
        try simp only [Act.put, zq1, zq2, zq3, zq4, zq5, zq6]
        refine wpAnyH_take (i := 2) (v := ?_) rfl (by kernel_rfl) (by kernel_rfl) (by kernel_rfl) (fun _ _ _ h => h) (Or.inl ⟨by rfl, ?_⟩) hHeld ?_
        rotate_left
        · intro w' hSw
          (try dsimp only at hSw)
          go_simp
          try with_reducible rfl
        try simp only [Act.put, zq1, zq2, zq3, zq4, zq5, zq6]
        refine wpAnyH_take (i := 3) (v := ?_) rfl (by kernel_rfl) (by kernel_rfl) (by kernel_rfl) (fun _ _ _ h => h) (Or.inl ⟨by rfl, ?_⟩) hHeld ?_
        rotate_left
        · intro w' hSw
          (try dsimp only at hSw)
          go_simp
          try with_reducible rfl
        try simp only [Act.put, zq1, zq2, zq3, zq4, zq5, zq6]
        refine wpAnyH_take (i := 5) (v := ?_) rfl (by kernel_rfl) (by kernel_rfl) (by kernel_rfl) (fun _ _ _ h => h) (Or.inl ⟨by rfl, ?_⟩) hHeld ?_
        rotate_left
        · intro w' hSw
          (try dsimp only at hSw)
          go_simp
          try with_reducible rfl
        try simp only [Act.put, zq1, zq2, zq3, zq4, zq5, zq6]
        refine wpAnyH_take (i := 6) (v := ?_) rfl (by kernel_rfl) (by kernel_rfl) (by kernel_rfl) (fun _ _ _ h => h) (Or.inl ⟨by rfl, ?_⟩) hHeld ?_
        rotate_left
        · intro w' hSw
          (try dsimp only at hSw)
          go_simp
          try with_reducible rfl
        try simp only [Act.put, zq1, zq2, zq3, zq4, zq5, zq6]
        refine wpAnyH_ready (rs := [4, 7]) (by kernel_rfl) (by simp) ?_
        refine AllReadyH.cons rfl (fun K hK => ?_) (AllReadyH.cons rfl (fun K hK => ?_) (AllReadyH.nil))
        · try simp only [zq1, zq2, zq3]
          have hcl := hc4
          go_simp
          clear hcl
          refine hK.out _ _ ?_ (fun hHeld => ?_)
          · trivial
          clear hK K
          try simp only [Act.put, zq1, zq2, zq3, zq4, zq5, zq6]
          refine wpAnyH_ready (rs := [7]) (by kernel_rfl) (by simp) ?_
          refine AllReadyH.cons rfl (fun K hK => ?_) (AllReadyH.nil)
          try simp only [zq1, zq2, zq3]
          go_simp
          refine (HC.out _ ((Below.refl _ _).drew)).mono ?_
          rintro e w5 ⟨rfl, ho5, hb5⟩
          have hbw5 : Below w4.heap.size w4 w5 := (Below.refl _ _).drew.trans (hb5.mono (Nat.le_refl _))
          have hc5 := (HH.out _ hbw5).1
          have hp5 : p < w5.heap.size := Nat.lt_of_lt_of_le hpl hbw5.size
          refine hK.out _ _ ?_ (fun hHeld => ?_)
          · trivial
          clear hK K
          try simp only [Act.put, zq1, zq2, zq3, zq4, zq5, zq6]
          refine wpAnyH_take (i := 8) (v := ?_) rfl (by kernel_rfl) (by kernel_rfl) (by kernel_rfl) (fun _ _ _ h => h) (Or.inl ⟨by rfl, ?_⟩) hHeld ?_
          rotate_left
          · intro w' hSw
            (try dsimp only at hSw)
            go_simp
            try with_reducible rfl
          try simp only [Act.put, zq1, zq2, zq3, zq4, zq5, zq6]
          refine wpAnyH_ready (rs := [9]) (by kernel_rfl) (by simp) ?_
          refine AllReadyH.cons rfl (fun K hK => ?_) (AllReadyH.nil)
          try simp only [zq1, zq2, zq3]
          go_simp
          have hcA := (HH.out _ (hbw5.trans (((Below.refl _ _).alloc (Nat.le_refl _) (.cells #[.int .i64 (k : Int), .slice (some ⟨w4.heap.size, 0, none⟩) 256 259] 86)).mono hbw5.size))).1
          refine hK.out _ _ ?_ (fun hHeld => ?_)
          · trivial
          clear hK K
          try simp only [Act.put, zq1, zq2, zq3, zq4, zq5, zq6]
          refine wpAnyH_ready (rs := [10]) (by kernel_rfl) (by simp) ?_
          refine AllReadyH.cons rfl (fun K hK => ?_) (AllReadyH.nil)
          refine step_append_lies _ (by rfl) _ _ _ (by rfl) 0 86 j0 _ 2 32 Try.underlying56 hi hz0 hz1 hz2 rfl (by omega) wv m xs (by rfl) (by exact ((HH.out _ hbw5).2.2).alloc _) ⟨_, 0, none⟩ 1 1 [.int .i64 (k : Int), .slice (some ⟨w4.heap.size, 0, none⟩) 256 259] (by rfl) (by rfl) (World.news_of_block (t := 86) (fr := (0, 0)) (heap_alloc_new _ _)) (by simp [Value.oneCell']) (by omega) (by unfold maxLen; omega) (by omega) (Nat.zero_le _) _ (by rfl) ?_
          intro g2 cap2 w6 hown6 hgrow6 hat6 hlt6
          obtain ⟨hc6, hf6, hgr6, hat6', hsz6⟩ := wr_app HH.out HPW.out hpl hbw5 hgrow6 hat6
          refine hK.out _ _ ?_ (fun hHeld => ?_)
          · trivial
          clear hK K
          try simp only [Act.put, zq1, zq2, zq3, zq4, zq5, zq6]
          refine wpAnyH_take (i := 11) (v := ?_) rfl (by kernel_rfl) (by kernel_rfl) (by kernel_rfl) (fun _ _ _ h => h) (Or.inl ⟨by rfl, ?_⟩) hHeld ?_
          rotate_left
          · intro w' hSw
            (try dsimp only at hSw)
            go_simp
            try with_reducible rfl
          try simp only [Act.put, zq1, zq2, zq3, zq4, zq5, zq6]
          refine wpAnyH_take (i := 12) (v := ?_) rfl (by kernel_rfl) (by kernel_rfl) (by kernel_rfl) (fun _ _ _ h => h) (Or.inl ⟨by rfl, ?_⟩) hHeld ?_
          rotate_left
          · intro w' hSw
            (try dsimp only at hSw)
            go_simp
            try with_reducible rfl
          try simp only [Act.put, zq1, zq2, zq3, zq4, zq5, zq6]
          refine wpAnyH_ready (rs := [13]) (by kernel_rfl) (by simp) ?_
          refine AllReadyH.cons rfl (fun K hK => ?_) (AllReadyH.nil)
          try simp only [zq1, zq2, zq3]
          have hcl := hc6
          have hfl := hf6
          go_simp
          clear hcl hfl
          refine hK.out _ _ ?_ (fun hHeld => ?_)
          · trivial
          clear hK K
          try simp only [Act.put, zq1, zq2, zq3, zq4, zq5, zq6]
          refine wpAnyH_done (by kernel_rfl) ?_ _
          refine NoPanic.normal ?_
          have hrow : Row w5 w4.heap.size l := by obtain ⟨_, e3, _, hr3⟩ := Row.of_own ho5 (by decide); injection e3 with e3; injection e3 with e3; rw [← e3] at hr3; exact hr3
          have hz45 : w4.heap.size < w5.heap.size := hrow.lt
          have hex : ∀ x, ext L w w3 x → x < w4.heap.size := HR4.out.lt
          have hM : ∀ x, ext L w w3 x → ext L w w6 x := fun x hx => hx.elim .inl fun h => .inr ⟨h.1, by have := hex x hx; omega⟩
          have hg2 : ext L w w6 g2 := by
            rcases hat6' with h | h
            · rw [HWV.out.1] at h; exact hM _ (HR4.out.lw g2 h).1
            · exact .inr ⟨by have := HK4.out.size; omega, hlt6⟩
          have h7 := (HR4.out.call hbw5).newWait (M := ext L w w6) (k := k) (b := w4.heap.size) (c := 259) (g2 := g2) (cap := cap2) (l := l) (w' := w6) hk (fun hx => by have := hex _ hx; omega) hrow HN.out hM (.inr ⟨HK4.out.size, by omega⟩) hg2
            (by have := hown6; rw [HWV.out.2.1, HWV.out.2.2] at this; exact this) (by rw [← HWV.out.1]; exact hgr6) (by rw [← HWV.out.1]; exact hat6'.imp id fun h => by omega) (fun x hx => hx.elim (fun hl => by have := hex x (.inl hl); omega) fun h => h.2)
          have hk7 : Keep L w (w6.setCell ⟨p, 2, none⟩ (.slice (some ⟨g2, 0, none⟩) (m + 1) cap2)) := ((HK4.out.call hbw5).grown hgr6 (fun b hb hlt => by
            rw [HWV.out.1] at hb
            exact (HR4.out.lw b hb).1.elim id fun h => by omega)).setCell (a := ⟨p, 2, none⟩) (fun hlt => HR4.out.lp.1.elim id fun h => by have : p < w.heap.size := hlt; omega) _
          rw [← show m = D1.waits.length from HWV.out.2.1] at h7
          clear hown6 hgrow6 hgr6 hat6 hat6' hc6 hf6
          have hz7 : (w6.setCell ⟨p, 2, none⟩ (.slice (some ⟨g2, 0, none⟩) (m + 1) cap2)).heap.size = w6.heap.size := World.size_setCell _ _ _
          have HF : Hid (RD (w6.setCell ⟨p, 2, none⟩ (.slice (some ⟨g2, 0, none⟩) (m + 1) cap2)) p (ext L w (w6.setCell ⟨p, 2, none⟩ (.slice (some ⟨g2, 0, none⟩) (m + 1) cap2))) n (D1.put k l) ∧ Keep L w (w6.setCell ⟨p, 2, none⟩ (.slice (some ⟨g2, 0, none⟩) (m + 1) cap2))) := by
            exact Lib.hid ⟨⟨_, h7.more (fun x hx => hx.imp id fun h => ⟨h.1, by rw [hz7]; exact h.2⟩) (fun x hx => h7.lt x (hx.imp id fun h => ⟨h.1, by have := h.2; rw [hz7] at this; exact this⟩))⟩, hk7⟩
          generalize w6.setCell ⟨p, 2, none⟩ (.slice (some ⟨g2, 0, none⟩) (m + 1) cap2) = w7 at *
          clear h7 hk7
          go_wp2_with fail
          go_ret
          exact ⟨rfl, HF.out⟩
        · try simp only [zq1, zq2, zq3]
          go_simp
          refine (HC.out _ ((Below.refl _ _).drew)).mono ?_
          rintro e w5 ⟨rfl, ho5, hb5⟩
          have hbw5 : Below w4.heap.size w4 w5 := (Below.refl _ _).drew.trans (hb5.mono (Nat.le_refl _))
          have hc5 := (HH.out _ hbw5).1
          have hp5 : p < w5.heap.size := Nat.lt_of_lt_of_le hpl hbw5.size
          refine hK.out _ _ ?_ (fun hHeld => ?_)
          · trivial
          clear hK K
          try simp only [Act.put, zq1, zq2, zq3, zq4, zq5, zq6]
          refine wpAnyH_take (i := 8) (v := ?_) rfl (by kernel_rfl) (by kernel_rfl) (by kernel_rfl) (fun _ _ _ h => h) (Or.inl ⟨by rfl, ?_⟩) hHeld ?_
          rotate_left
          · intro w' hSw
            (try dsimp only at hSw)
            go_simp
            try with_reducible rfl
          try simp only [Act.put, zq1, zq2, zq3, zq4, zq5, zq6]
          refine wpAnyH_ready (rs := [4, 9]) (by kernel_rfl) (by simp) ?_
          refine AllReadyH.cons rfl (fun K hK => ?_) (AllReadyH.cons rfl (fun K hK => ?_) (AllReadyH.nil))
          · try simp only [zq1, zq2, zq3]
            have hcl := hc5
            go_simp
            clear hcl
            refine hK.out _ _ ?_ (fun hHeld => ?_)
            · trivial
            clear hK K
            try simp only [Act.put, zq1, zq2, zq3, zq4, zq5, zq6]
            refine wpAnyH_ready (rs := [9]) (by kernel_rfl) (by simp) ?_
            refine AllReadyH.cons rfl (fun K hK => ?_) (AllReadyH.nil)
            try simp only [zq1, zq2, zq3]
            go_simp
            have hcA := (HH.out _ (hbw5.trans (((Below.refl _ _).alloc (Nat.le_refl _) (.cells #[.int .i64 (k : Int), .slice (some ⟨w4.heap.size, 0, none⟩) 256 259] 86)).mono hbw5.size))).1
            refine hK.out _ _ ?_ (fun hHeld => ?_)
            · trivial
            clear hK K
            try simp only [Act.put, zq1, zq2, zq3, zq4, zq5, zq6]
            refine wpAnyH_ready (rs := [10]) (by kernel_rfl) (by simp) ?_
            refine AllReadyH.cons rfl (fun K hK => ?_) (AllReadyH.nil)
            refine step_append_lies _ (by rfl) _ _ _ (by rfl) 0 86 j0 _ 2 32 Try.underlying56 hi hz0 hz1 hz2 rfl (by omega) wv m xs (by rfl) (by exact ((HH.out _ hbw5).2.2).alloc _) ⟨_, 0, none⟩ 1 1 [.int .i64 (k : Int), .slice (some ⟨w4.heap.size, 0, none⟩) 256 259] (by rfl) (by rfl) (World.news_of_block (t := 86) (fr := (0, 0)) (heap_alloc_new _ _)) (by simp [Value.oneCell']) (by omega) (by unfold maxLen; omega) (by omega) (Nat.zero_le _) _ (by rfl) ?_
            intro g2 cap2 w6 hown6 hgrow6 hat6 hlt6
            obtain ⟨hc6, hf6, hgr6, hat6', hsz6⟩ := wr_app HH.out HPW.out hpl hbw5 hgrow6 hat6
            refine hK.out _ _ ?_ (fun hHeld => ?_)
            · trivial
            clear hK K
            try simp only [Act.put, zq1, zq2, zq3, zq4, zq5, zq6]
            refine wpAnyH_take (i := 11) (v := ?_) rfl (by kernel_rfl) (by kernel_rfl) (by kernel_rfl) (fun _ _ _ h => h) (Or.inl ⟨by rfl, ?_⟩) hHeld ?_
            rotate_left
            · intro w' hSw
              (try dsimp only at hSw)
              go_simp
              try with_reducible rfl
            try simp only [Act.put, zq1, zq2, zq3, zq4, zq5, zq6]
            refine wpAnyH_take (i := 12) (v := ?_) rfl (by kernel_rfl) (by kernel_rfl) (by kernel_rfl) (fun _ _ _ h => h) (Or.inl ⟨by rfl, ?_⟩) hHeld ?_
            rotate_left
            · intro w' hSw
              (try dsimp only at hSw)
              go_simp
              try with_reducible rfl
            try simp only [Act.put, zq1, zq2, zq3, zq4, zq5, zq6]
            refine wpAnyH_ready (rs := [13]) (by kernel_rfl) (by simp) ?_
            refine AllReadyH.cons rfl (fun K hK => ?_) (AllReadyH.nil)
            try simp only [zq1, zq2, zq3]
            have hcl := hc6
            have hfl := hf6
            go_simp
            clear hcl hfl
            refine hK.out _ _ ?_ (fun hHeld => ?_)
            · trivial
            clear hK K
            try simp only [Act.put, zq1, zq2, zq3, zq4, zq5, zq6]
            refine wpAnyH_done (by kernel_rfl) ?_ _
            refine NoPanic.normal ?_
            have hrow : Row w5 w4.heap.size l := by obtain ⟨_, e3, _, hr3⟩ := Row.of_own ho5 (by decide); injection e3 with e3; injection e3 with e3; rw [← e3] at hr3; exact hr3
            have hz45 : w4.heap.size < w5.heap.size := hrow.lt
            have hex : ∀ x, ext L w w3 x → x < w4.heap.size := HR4.out.lt
            have hM : ∀ x, ext L w w3 x → ext L w w6 x := fun x hx => hx.elim .inl fun h => .inr ⟨h.1, by have := hex x hx; omega⟩
            have hg2 : ext L w w6 g2 := by
              rcases hat6' with h | h
              · rw [HWV.out.1] at h; exact hM _ (HR4.out.lw g2 h).1
              · exact .inr ⟨by have := HK4.out.size; omega, hlt6⟩
            have h7 := (HR4.out.call hbw5).newWait (M := ext L w w6) (k := k) (b := w4.heap.size) (c := 259) (g2 := g2) (cap := cap2) (l := l) (w' := w6) hk (fun hx => by have := hex _ hx; omega) hrow HN.out hM (.inr ⟨HK4.out.size, by omega⟩) hg2
              (by have := hown6; rw [HWV.out.2.1, HWV.out.2.2] at this; exact this) (by rw [← HWV.out.1]; exact hgr6) (by rw [← HWV.out.1]; exact hat6'.imp id fun h => by omega) (fun x hx => hx.elim (fun hl => by have := hex x (.inl hl); omega) fun h => h.2)
            have hk7 : Keep L w (w6.setCell ⟨p, 2, none⟩ (.slice (some ⟨g2, 0, none⟩) (m + 1) cap2)) := ((HK4.out.call hbw5).grown hgr6 (fun b hb hlt => by
              rw [HWV.out.1] at hb
              exact (HR4.out.lw b hb).1.elim id fun h => by omega)).setCell (a := ⟨p, 2, none⟩) (fun hlt => HR4.out.lp.1.elim id fun h => by have : p < w.heap.size := hlt; omega) _
            rw [← show m = D1.waits.length from HWV.out.2.1] at h7
            clear hown6 hgrow6 hgr6 hat6 hat6' hc6 hf6
            have hz7 : (w6.setCell ⟨p, 2, none⟩ (.slice (some ⟨g2, 0, none⟩) (m + 1) cap2)).heap.size = w6.heap.size := World.size_setCell _ _ _
            have HF : Hid (RD (w6.setCell ⟨p, 2, none⟩ (.slice (some ⟨g2, 0, none⟩) (m + 1) cap2)) p (ext L w (w6.setCell ⟨p, 2, none⟩ (.slice (some ⟨g2, 0, none⟩) (m + 1) cap2))) n (D1.put k l) ∧ Keep L w (w6.setCell ⟨p, 2, none⟩ (.slice (some ⟨g2, 0, none⟩) (m + 1) cap2))) := by
              exact Lib.hid ⟨⟨_, h7.more (fun x hx => hx.imp id fun h => ⟨h.1, by rw [hz7]; exact h.2⟩) (fun x hx => h7.lt x (hx.imp id fun h => ⟨h.1, by have := h.2; rw [hz7] at this; exact this⟩))⟩, hk7⟩
            generalize w6.setCell ⟨p, 2, none⟩ (.slice (some ⟨g2, 0, none⟩) (m + 1) cap2) = w7 at *
            clear h7 hk7
            go_wp2_with fail
            go_ret
            exact ⟨rfl, HF.out⟩
          · try simp only [zq1, zq2, zq3]
            go_simp
            have hcA := (HH.out _ (hbw5.trans (((Below.refl _ _).alloc (Nat.le_refl _) (.cells #[.int .i64 (k : Int), .slice (some ⟨w4.heap.size, 0, none⟩) 256 259] 86)).mono hbw5.size))).1
            refine hK.out _ _ ?_ (fun hHeld => ?_)
            · trivial
            clear hK K
            try simp only [Act.put, zq1, zq2, zq3, zq4, zq5, zq6]
            refine wpAnyH_ready (rs := [4]) (by kernel_rfl) (by simp) ?_
            refine AllReadyH.cons rfl (fun K hK => ?_) (AllReadyH.nil)
            try simp only [zq1, zq2, zq3]
            have hcl := hcA
            go_simp
            clear hcl
            refine hK.out _ _ ?_ (fun hHeld => ?_)
            · trivial
            clear hK K
            try simp only [Act.put, zq1, zq2, zq3, zq4, zq5, zq6]
            refine wpAnyH_ready (rs := [10]) (by kernel_rfl) (by simp) ?_
            refine AllReadyH.cons rfl (fun K hK => ?_) (AllReadyH.nil)
            refine step_append_lies _ (by rfl) _ _ _ (by rfl) 0 86 j0 _ 2 32 Try.underlying56 hi hz0 hz1 hz2 rfl (by omega) wv m xs (by rfl) (by exact ((HH.out _ hbw5).2.2).alloc _) ⟨_, 0, none⟩ 1 1 [.int .i64 (k : Int), .slice (some ⟨w4.heap.size, 0, none⟩) 256 259] (by rfl) (by rfl) (World.news_of_block (t := 86) (fr := (0, 0)) (heap_alloc_new _ _)) (by simp [Value.oneCell']) (by omega) (by unfold maxLen; omega) (by omega) (Nat.zero_le _) _ (by rfl) ?_
            intro g2 cap2 w6 hown6 hgrow6 hat6 hlt6
            obtain ⟨hc6, hf6, hgr6, hat6', hsz6⟩ := wr_app HH.out HPW.out hpl hbw5 hgrow6 hat6
            refine hK.out _ _ ?_ (fun hHeld => ?_)
            · trivial
            clear hK K
            try simp only [Act.put, zq1, zq2, zq3, zq4, zq5, zq6]
            refine wpAnyH_take (i := 11) (v := ?_) rfl (by kernel_rfl) (by kernel_rfl) (by kernel_rfl) (fun _ _ _ h => h) (Or.inl ⟨by rfl, ?_⟩) hHeld ?_
            rotate_left
            · intro w' hSw
              (try dsimp only at hSw)
              go_simp
              try with_reducible rfl
            try simp only [Act.put, zq1, zq2, zq3, zq4, zq5, zq6]
            refine wpAnyH_take (i := 12) (v := ?_) rfl (by kernel_rfl) (by kernel_rfl) (by kernel_rfl) (fun _ _ _ h => h) (Or.inl ⟨by rfl, ?_⟩) hHeld ?_
            rotate_left
            · intro w' hSw
              (try dsimp only at hSw)
              go_simp
              try with_reducible rfl
            try simp only [Act.put, zq1, zq2, zq3, zq4, zq5, zq6]
            refine wpAnyH_ready (rs := [13]) (by kernel_rfl) (by simp) ?_
            refine AllReadyH.cons rfl (fun K hK => ?_) (AllReadyH.nil)
            try simp only [zq1, zq2, zq3]
            have hcl := hc6
            have hfl := hf6
            go_simp
            clear hcl hfl
            refine hK.out _ _ ?_ (fun hHeld => ?_)
            · trivial
            clear hK K
            try simp only [Act.put, zq1, zq2, zq3, zq4, zq5, zq6]
            refine wpAnyH_done (by kernel_rfl) ?_ _
            refine NoPanic.normal ?_
            have hrow : Row w5 w4.heap.size l := by obtain ⟨_, e3, _, hr3⟩ := Row.of_own ho5 (by decide); injection e3 with e3; injection e3 with e3; rw [← e3] at hr3; exact hr3
            have hz45 : w4.heap.size < w5.heap.size := hrow.lt
            have hex : ∀ x, ext L w w3 x → x < w4.heap.size := HR4.out.lt
            have hM : ∀ x, ext L w w3 x → ext L w w6 x := fun x hx => hx.elim .inl fun h => .inr ⟨h.1, by have := hex x hx; omega⟩
            have hg2 : ext L w w6 g2 := by
              rcases hat6' with h | h
              · rw [HWV.out.1] at h; exact hM _ (HR4.out.lw g2 h).1
              · exact .inr ⟨by have := HK4.out.size; omega, hlt6⟩
            have h7 := (HR4.out.call hbw5).newWait (M := ext L w w6) (k := k) (b := w4.heap.size) (c := 259) (g2 := g2) (cap := cap2) (l := l) (w' := w6) hk (fun hx => by have := hex _ hx; omega) hrow HN.out hM (.inr ⟨HK4.out.size, by omega⟩) hg2
              (by have := hown6; rw [HWV.out.2.1, HWV.out.2.2] at this; exact this) (by rw [← HWV.out.1]; exact hgr6) (by rw [← HWV.out.1]; exact hat6'.imp id fun h => by omega) (fun x hx => hx.elim (fun hl => by have := hex x (.inl hl); omega) fun h => h.2)
            have hk7 : Keep L w (w6.setCell ⟨p, 2, none⟩ (.slice (some ⟨g2, 0, none⟩) (m + 1) cap2)) := ((HK4.out.call hbw5).grown hgr6 (fun b hb hlt => by
              rw [HWV.out.1] at hb
              exact (HR4.out.lw b hb).1.elim id fun h => by omega)).setCell (a := ⟨p, 2, none⟩) (fun hlt => HR4.out.lp.1.elim id fun h => by have : p < w.heap.size := hlt; omega) _
            rw [← show m = D1.waits.length from HWV.out.2.1] at h7
            clear hown6 hgrow6 hgr6 hat6 hat6' hc6 hf6
            have hz7 : (w6.setCell ⟨p, 2, none⟩ (.slice (some ⟨g2, 0, none⟩) (m + 1) cap2)).heap.size = w6.heap.size := World.size_setCell _ _ _
            have HF : Hid (RD (w6.setCell ⟨p, 2, none⟩ (.slice (some ⟨g2, 0, none⟩) (m + 1) cap2)) p (ext L w (w6.setCell ⟨p, 2, none⟩ (.slice (some ⟨g2, 0, none⟩) (m + 1) cap2))) n (D1.put k l) ∧ Keep L w (w6.setCell ⟨p, 2, none⟩ (.slice (some ⟨g2, 0, none⟩) (m + 1) cap2))) := by
              exact Lib.hid ⟨⟨_, h7.more (fun x hx => hx.imp id fun h => ⟨h.1, by rw [hz7]; exact h.2⟩) (fun x hx => h7.lt x (hx.imp id fun h => ⟨h.1, by have := h.2; rw [hz7] at this; exact this⟩))⟩, hk7⟩
            generalize w6.setCell ⟨p, 2, none⟩ (.slice (some ⟨g2, 0, none⟩) (m + 1) cap2) = w7 at *
            clear h7 hk7
            go_wp2_with fail
            go_ret
            exact ⟨rfl, HF.out⟩
      · rw [if_neg h0]
        have hEi : ¬ (E : Int) = 0 := by omega
        have HO := Lib.hid more; clear more
        clear hE hD1 h eE eW hlt0 h1 hr hA hn hwl h0
        go_enter Try.func35, Try.ntmps35
        go_wp2_with fail
        refine HH.out.mono ?_
        rintro e w1 ⟨rfl, ew⟩
        have ew := ew.symm
        subst ew
        go_wp2_with fail
        refine HS.out.mono ?_
        rintro e w2 ⟨rfl, hrd, hk2⟩
        have HR := Lib.hid hrd; clear hrd
        have HK := Lib.hid hk2; clear hk2
        go_wp2_with fail
        go_ret
        exact ⟨rfl, HO.out _ _ HR.out HK.out, HK.out⟩
    · have hno : ¬ (hasB n i = true ∧ l.length = 256) := fun h => hl (by omega)
      have eE : D.writeE n i l = 2 := by unfold Dev.writeE; rw [if_neg hno]
      have eW : D.write n i l = D := by unfold Dev.write; rw [if_neg hno]
      rw [eE, eW]
      have hli : ¬ (len : Int) = 256 := by omega
      have HF := Lib.hid (more w D h (Keep.refl _ _))
      clear more h hn hr hA h1 hl hno eE eW
      go_enter Try.func35, Try.ntmps35
      go_wp2_with fail
      refine HH.out.mono ?_
      rintro e w1 ⟨rfl, ew⟩
      have ew := ew.symm
      subst ew
      go_wp2_with fail
      go_ret
      exact ⟨rfl, HF.out, Keep.refl _ _⟩
  · have hno : ¬ (hasB n i = true ∧ l.length = 256) := fun h => h1 h.1
    have eE : D.writeE n i l = 2 := by unfold Dev.writeE; rw [if_neg hno]
    have eW : D.write n i l = D := by unfold Dev.write; rw [if_neg hno]
    rw [eE, eW]
    have h2 : hasB n i = false := by simpa using h1
    rw [h2] at hh
    have HH := Lib.hid hh; clear hh
    have HF := Lib.hid (more w D h (Keep.refl _ _))
    clear more h hn hr hA h1 h2 hno eE eW
    go_enter Try.func35, Try.ntmps35
    go_wp2_with fail
    refine HH.out.mono ?_
    rintro e w1 ⟨rfl, ew⟩
    have ew := ew.symm
    subst ew
    go_wp2_with fail
    go_ret
    exact ⟨rfl, HF.out, Keep.refl _ _⟩
end Go.Proofs.Ytpepbffhhfgdpaa
