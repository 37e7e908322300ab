/-
  The code's Crypt by its stream's closure, a range over a text's chunks.
-/
import Derived.Test.YtkfmgjipocmkjaaFoldG
import Derived.Test.YtkfmgjipocmkjaaFoldF
import Derived.Test.YtkfmgjipocmkjaaFoldA
import Derived.Deep.DeepCutAuto
import Derived.Laws.EntriesVeiled
namespace Go.Proofs.Ytkfmgjipocmkjaa
open Go Go.RowKit Go.Shelf
set_option linter.unusedVariables false
set_option linter.unusedSimpArgs false
attribute [local go_sem] Oper.semAt_some

theorem newK_any (K : Option Addr) (kl : List Nat) (nk ck : Nat) (hn : kl.length = nk) (hv : ∀ x ∈ kl, x < 256) (hk : nk = 16 ∨ nk = 32) (hc : nk ≤ ck) (w : World) (h : Rd w w.heap.size K (vn kl)) :
    Calls Try.prog 24 #[.slice K nk ck] w fun e w' => ∃ c, e = .returned (.tuple #[.pointer (some ⟨c, 0, none⟩), .int .i64 0]) ∧ Ci (kl.length / 4 + 6) w' c (kF kl) ∧ Below w.heap.size w w' := by
  rw [hn]
  rcases hk with rfl | rfl
  · exact new16_any K kl ck hn hc hv w h
  · exact new32_any K kl ck hn hc hv w h
theorem St.call {u0 : World} {c : Nat} {s : Nat → Nat} {pc pp i : Nat} {w w' : World} (h : St u0 c s pc pp i w) (hb : Below w.heap.size w w') : St u0 c s pc pp i w' := by
  obtain ⟨lo, ne, hc, hp, bel⟩ := h
  exact ⟨lo, ne, one_call hc hb, one_call hp hb, bel.trans (hb.mono bel.size)⟩
theorem St.at_ {u0 : World} {c : Nat} {s : Nat → Nat} {pc pp i : Nat} {w w' : World} (h : St u0 c s pc pp i w) (h1 : w'.heap[pc]? = w.heap[pc]?) (h2 : w'.heap[pp]? = w.heap[pp]?) (hb : Below u0.heap.size u0 w') : St u0 c s pc pp i w' := by
  obtain ⟨lo, ne, hc, hp, bel⟩ := h
  exact ⟨lo, ne, h1.trans hc, h2.trans hp, hb⟩
/-- A box that is made and stored at once. -/
theorem new_one (w : World) (v0 v : Value) (t : TypeId) : ((w.alloc (.cells #[v0] t)).setCell ⟨w.heap.size, 0, none⟩ v).heap[w.heap.size]? = some (.cells #[v] t (0, 0)) ∧ Below w.heap.size w ((w.alloc (.cells #[v0] t)).setCell ⟨w.heap.size, 0, none⟩ v) ∧ ((w.alloc (.cells #[v0] t)).setCell ⟨w.heap.size, 0, none⟩ v).heap.size = w.heap.size + 1 :=
  ⟨one_setCell (heap_alloc_new w _), ((Below.refl _ _).alloc (Nat.le_refl _) _).setCell (Nat.le_refl _) _, by simp⟩

/-- What the loop keeps: the stream, the closure's box, the text's box and its row. -/
structure Lp (w3 wL : World) (c : Nat) (s : Nat → Nat) (E : (Nat → Nat) → Nat → Nat) (l : List Nat) (pc pp b11 b12 bR : Nat) (ks : List Nat) (W : World) : Prop where
  st : St w3 c s pc pp ks.length W
  fn : W.heap[b11]? = some (.cells #[(.func (.func 44) #[] #[.pointer (some ⟨pc, 0, none⟩), .pointer (some ⟨pp, 0, none⟩)])] 50 (0, 0))
  row : ∃ g cap, W.heap[b12]? = some (.cells #[.slice (some ⟨g, 0, none⟩) (outP E s l ks).length cap] 22 (0, 0)) ∧ W.ownsRow bR 5 1 (.slice (some ⟨g, 0, none⟩) (outP E s l ks).length cap) (outP E s l ks).length (vn (outP E s l ks)) ∧ (g = bR ∨ wL.heap.size ≤ g)
  sz : wL.heap.size ≤ W.heap.size
theorem Lp.own {w3 wL : World} {c : Nat} {s : Nat → Nat} {E : (Nat → Nat) → Nat → Nat} {l : List Nat} {pc pp b11 b12 bR B : Nat} {β : Type} (f : β → List Nat) (h3 : w3.heap.size ≤ B) : OwnFrom B (fun (x : β) W => Lp w3 wL c s E l pc pp b11 b12 bR (f x) W) := by
  rintro x W W' row ⟨st, fn, ⟨g, cap, hx, hown, hg⟩, sz⟩ hgr hr
  have keep : ∀ (k : Nat) (cs : Array Value) (t : TypeId) (fr : Nat × Nat), W.heap[k]? = some (.cells cs t fr) → W'.heap[k]? = W.heap[k]? := fun k cs t fr hk =>
    hgr.block k (Array.getElem?_eq_some_iff.1 hk).1 (fun e => by
      obtain ⟨_, o, ho, hc⟩ := hr k e.symm
      rw [hk] at ho
      cases ho
      cases hc)
  have hb : ∀ n (u : World), n ≤ B → n ≤ u.heap.size → Below n u W → Below n u W' := fun n u hn hu h => h.grown hgr (Nat.le_trans hu h.size) (fun k e => Nat.le_trans hn (hr k e).1)
  refine ⟨st.at_ (keep _ _ _ _ st.hc) (keep _ _ _ _ st.hp) (hb _ _ h3 (Nat.le_refl _) st.bel), (keep _ _ _ _ fn).trans fn, ⟨g, cap, (keep _ _ _ _ hx).trans hx, ?_, hg⟩, Nat.le_trans sz hgr.size⟩
  obtain ⟨hn, hv⟩ := hown
  refine ⟨hn, hv.imp id ?_⟩
  rintro ⟨g', cap', cur, e, h1, h2, h4⟩
  exact ⟨g', cap', cur, e, h1, (keep _ _ _ _ h2).trans h2, h4⟩
/-- An owned row stays where its block does. -/
theorem own_at {w w' : World} {base e n cap g : Nat} {xs : List Value} (h : w.ownsRow base e 1 (.slice (some ⟨g, 0, none⟩) n cap) n xs) (hk : w'.heap[g]? = w.heap[g]?) : w'.ownsRow base e 1 (.slice (some ⟨g, 0, none⟩) n cap) n xs := by
  obtain ⟨hn, hv⟩ := h
  refine ⟨hn, hv.imp id ?_⟩
  rintro ⟨g', cap', cur, e', h1, h2, h4⟩
  have hg : g = g' := by
    injection e' with e1 _ _
    injection e1 with e1
    injection e1
  subst hg
  exact ⟨g, cap', cur, e', h1, hk.trans h2, h4⟩
theorem own_blk {w : World} {base e n cap g : Nat} {xs : List Value} (h : w.ownsRow base e 1 (.slice (some ⟨g, 0, none⟩) n cap) n xs) : ∃ cur, w.heap[g]? = some (.cells cur e (0, 0)) := by
  obtain ⟨_, hv⟩ := h
  rcases hv with ⟨hv, _⟩ | ⟨g', _, cur, e', _, h2, _⟩
  · cases hv
  · injection e' with e1 _ _
    injection e1 with e1
    injection e1 with e1
    exact ⟨cur, by rw [e1]; exact h2⟩
theorem vn_app (a b : List Nat) : vn (a ++ b) = vn a ++ vn b := by simp [vn]

set_option maxRecDepth 100000 in
set_option maxHeartbeats 8000000 in
theorem ccrypt_any (K : Option Addr) (kl : List Nat) (nk ck : Nat) (hkn : kl.length = nk) (hkv : ∀ x ∈ kl, x < 256) (hk16 : nk = 16 ∨ nk = 32) (hkc : nk ≤ ck)
    (A : Option Addr) (nl : List Nat) (cn : Nat) (hnl : nl.length = 12) (hnv : ∀ x ∈ nl, x < 256) (hnc : 12 ≤ cn) (B : Option Addr) (l : List Nat) (n ct : Nat) (hn : l.length = n) (hl : ∀ x ∈ l, x < 256) (hlc : n ≤ ct) (hle : n ≤ 65536) (w : World)
    (hk : Rd w w.heap.size K (vn kl)) (h1 : Rd w w.heap.size A (vn nl)) (h2 : Rd w w.heap.size B (vn l)) :
    Calls Try.prog 18 #[.slice K nk ck, .slice A 12 cn, .slice B n ct] w fun e w' => ∃ v, e = .returned (.tuple #[v, .int .i64 0]) ∧ w'.ownsRow w.heap.size 5 1 v n (vn (crL (encK kl) (stF nl) l n)) ∧ Below w.heap.size w w' := by
  obtain ⟨i0, hi, hz0, hz1, hz2⟩ := info_parts info_b
  have hr1 : 1 ≤ kl.length / 4 + 6 := by omega
  have hr2 : kl.length / 4 + 6 ≤ 14 := by omega
  have HBK : Hid (BK (kF kl) (kl.length / 4 + 6)) := Lib.hid (kF_bk kl hkv _)
  have hE : encK kl = enc (kF kl) (kl.length / 4 + 6) := rfl
  rw [hE]
  clear hE
  have hnew := newK_any K kl nk ck hkn hkv hk16 hkc w hk
  obtain ⟨r, hr⟩ : ∃ r, r = kl.length / 4 + 6 := ⟨_, rfl⟩
  rw [← hr] at hnew HBK hr1 hr2
  rw [← hr]
  obtain ⟨F, hF⟩ : ∃ F, F = kF kl := ⟨_, rfl⟩
  rw [← hF] at hnew HBK
  rw [← hF]
  have hst : B16 (stF nl) := stF_lt nl hnv
  have hfirst : ∀ w1 : World, Below w.heap.size w w1 → Calls Try.prog 25 #[.slice A 12 cn] w1 fun e w' => e = .returned (.tuple #[.agg (aN 16 (stF nl)), .int .i64 0]) ∧ Below w1.heap.size w1 w' := fun w1 hb => cfirst_any A nl cn hnl hnv hnc w1 (h1.go hb)
  obtain ⟨s, hs⟩ : ∃ s, s = stF nl := ⟨_, rfl⟩
  rw [← hs] at hst hfirst
  rw [← hs]
  have HST := Lib.hid hst; clear hst hr hF hs hkn hkv hk16 hkc hnl hnv hnc hk h1
  have HFI := Lib.hid hfirst; clear hfirst
  have HN := Lib.hid hn; clear hn
  have HL := Lib.hid hl; clear hl
  have H2 := Lib.hid h2; clear h2
  have hle2 : ¬ (65536 : Int) < (n : Int) := by omega
  refine (callsIn_wide (n := 2)).1 ?_
  refine callsIn_of_wp_marks Try.func18 rfl trivial ?_ rfl
  simp only [Try.ntmps18, List.size_toArray, List.length_cons, List.length_nil, Nat.reduceAdd, Nat.reduceSub, Array.replicate_succ, Array.replicate_zero, List.push_toArray, List.append_toArray, List.nil_append, List.cons_append]
  refine wpIn_wide.2 ?_
  go_wp2_with fail
  refine hnew.mono ?_
  rintro e w1 ⟨c, rfl, hci, hb1⟩
  have HCI := Lib.hid hci; clear hci
  clear hnew
  go_wp2_with fail
  refine (HFI.out w1 hb1).mono ?_
  rintro e w2 ⟨rfl, hb2⟩
  have dS := new_dS w2
  go_upto_region 5 with (refine wpList_store_row rfl 35 (.tmp 10) (.tmp 28) rfl w2.heap.size (aN 16 (s)) rfl rfl 35 _ dS (by rw [aN_size]; exact blk_size) (by simp only [aN_size]) (aN_one _ _) ?_)
  obtain ⟨hN, hbN⟩ := new_row w2 s
  have hb3 := hb2.trans (hbN.mono hb2.size)
  replace HCI : Hid (Ci r ((w2.alloc (.cells #[.int .u8 0, .int .u8 0, .int .u8 0, .int .u8 0, .int .u8 0, .int .u8 0, .int .u8 0, .int .u8 0, .int .u8 0, .int .u8 0, .int .u8 0, .int .u8 0, .int .u8 0, .int .u8 0, .int .u8 0, .int .u8 0] 35)).setRow w2.heap.size (aN 16 s)) c F) := Lib.hid (HCI.out.far hb3)
  have HB : Hid (Below w.heap.size w ((w2.alloc (.cells #[.int .u8 0, .int .u8 0, .int .u8 0, .int .u8 0, .int .u8 0, .int .u8 0, .int .u8 0, .int .u8 0, .int .u8 0, .int .u8 0, .int .u8 0, .int .u8 0, .int .u8 0, .int .u8 0, .int .u8 0, .int .u8 0] 35)).setRow w2.heap.size (aN 16 s))) := Lib.hid (hb1.trans (hb3.mono hb1.size))
  clear hb1 hb2 hb3 hbN dS
  generalize (w2.alloc (.cells #[.int .u8 0, .int .u8 0, .int .u8 0, .int .u8 0, .int .u8 0, .int .u8 0, .int .u8 0, .int .u8 0, .int .u8 0, .int .u8 0, .int .u8 0, .int .u8 0, .int .u8 0, .int .u8 0, .int .u8 0, .int .u8 0] 35)).setRow w2.heap.size (aN 16 s) = w3 at *
  generalize w2.heap.size = b10 at *
  have d10 : w3.heap[b10]? = some (.cells (aN 16 s) 35 (0, 0)) := hN
  clear hN HFI
  try clear w1
  try clear w2
  go_upto_region 9 with fail
  go_wp2_with (refine wpList_load_row_g rfl 35 (.tmp 10) rfl b10 rfl 35 (aN 16 (s)) (0, 0) (.array 16 5) d10 Try.underlying35 rfl (by rw [aN_size]; exact blk_size) ?_)
  refine (stream_any c s w3).mono ?_
  rintro e w4 ⟨pc, pp, rfl, hst, hc, hp⟩
  have HS := Lib.hid hst; clear hst d10
  go_upto_region 10 with fail
  have hb5 : Below w4.heap.size w4 (w4.alloc (.cells #[.func (.func 44) #[] #[.pointer (some ⟨pc, 0, none⟩), .pointer (some ⟨pp, 0, none⟩)]] 50)) := (Below.refl _ _).alloc (Nat.le_refl _) _
  have H11 := Lib.hid (heap_alloc_new w4 (.cells #[.func (.func 44) #[] #[.pointer (some ⟨pc, 0, none⟩), .pointer (some ⟨pp, 0, none⟩)]] 50))
  have h45 : (w4.alloc (.cells #[.func (.func 44) #[] #[.pointer (some ⟨pc, 0, none⟩), .pointer (some ⟨pp, 0, none⟩)]] 50)).heap.size = w4.heap.size + 1 := by simp
  have h34 : w3.heap.size ≤ w4.heap.size := HS.out.bel.size
  have hws : w.heap.size ≤ w3.heap.size := HB.out.size
  have HB3 := Lib.hid HB.out
  replace HB := Lib.hid (HB.out.trans ((HS.out.bel.trans (hb5.mono h34)).mono hws))
  replace HS := Lib.hid (HS.out.call hb5)
  clear hb5
  generalize w4.alloc (.cells #[.func (.func 44) #[] #[.pointer (some ⟨pc, 0, none⟩), .pointer (some ⟨pp, 0, none⟩)]] 50) = w5 at *
  generalize w4.heap.size = b11 at *
  go_upto_region 11 with (at_make; refine wpList_make_blk _ rfl _ _ 22 rfl 5 i0 (.int .u8 0) Try.underlying22 hi hz0 hz1 rfl .i64 .i64 _ _ 0 n rfl rfl rfl rfl (by omega) (by rw [hz2]; omega) (by unfold maxLen; omega) ?_; intro w6 hr6 hb6 hz6)
  have H12 := Lib.hid (heap_alloc_new w6 (.cells #[.slice (some ⟨b11 + 1, 0, none⟩) 0 n] 22))
  have hb7 : Below w6.heap.size w6 (w6.alloc (.cells #[.slice (some ⟨b11 + 1, 0, none⟩) 0 n] 22)) := (Below.refl _ _).alloc (Nat.le_refl _) _
  have h67 : (w6.alloc (.cells #[.slice (some ⟨b11 + 1, 0, none⟩) 0 n] 22)).heap.size = b11 + 1 + 1 + 1 := by rw [World.size_alloc, hz6.out, h45]
  have hbb := hb6.trans (hb7.mono hb6.size)
  have e6 : w6.heap.size = b11 + 1 + 1 := by rw [hz6.out, h45]
  have HR0 := hr6.out
  rw [h45] at HR0
  have HR := Lib.hid (one_call HR0 hb7)
  clear HR0
  replace H11 := Lib.hid (one_call H11.out hbb)
  replace HS := Lib.hid (HS.out.call hbb)
  replace HB := Lib.hid (HB.out.trans (hbb.mono HB.out.size))
  rw [e6] at H12
  rw [e6]
  clear hb6 hb7 hbb hr6 hz6 e6 h45
  generalize w6.alloc (.cells #[.slice (some ⟨b11 + 1, 0, none⟩) 0 n] 22) = w7 at *
  try clear w6
  try clear w5
  go_wp2_with fail
  refine (chunk_any B n ct _).mono ?_
  rintro e w8 ⟨rfl, hw8⟩
  rw [h67]
  have D2 : w8.heap[b11 + 1 + 1 + 1]? = some (.cells #[.slice B n ct] 22 (0, 0)) := by rw [hw8, ← h67, heap_alloc_old _ _ (by simp)]; exact heap_alloc_new w7 _
  have D3 : w8.heap[b11 + 1 + 1 + 1 + 1]? = some (.cells #[.int .i64 16] 3 (0, 0)) := by
    have := heap_alloc_new (w7.alloc (.cells #[.slice B n ct] 22)) (.cells #[.int .i64 16] 3)
    rw [World.size_alloc, h67] at this
    rw [hw8]; exact this
  have h8 : w8.heap.size = b11 + 1 + 1 + 1 + 1 + 1 := by rw [hw8, World.size_alloc, World.size_alloc, h67]
  have hb8 : Below w7.heap.size w7 w8 := by rw [hw8]; exact ((Below.refl _ _).alloc (Nat.le_refl _) _).alloc (by simp) _
  replace H11 := Lib.hid (one_call H11.out hb8)
  replace H12 := Lib.hid (one_call H12.out hb8)
  replace HR := Lib.hid (one_call HR.out hb8)
  replace HS := Lib.hid (HS.out.call hb8)
  clear hb8 hw8 h67 HB
  try clear w7
  have hN0 : 0 < n → ∃ ad, B = some ad := fun h0 => by
    obtain ⟨ad, e, _⟩ := H2.out (by rw [vn_len, HN.out]; exact h0)
    exact ⟨ad, e⟩
  have h0 : Lp w3 w8 c s (enc F r) l pc pp b11 (b11 + 1 + 1) (b11 + 1) [] w8 := by
    refine ⟨HS.out, H11.out, ⟨b11 + 1, n, H12.out, ?_, .inl rfl⟩, Nat.le_refl _⟩
    exact own_of_blk HR.out (Nat.le_refl _) (Nat.zero_le _) (by unfold maxLen; omega) (by simp)
  clear H11 H12 HR HS
  go_wp2_with fail
  refine (wpIn_wide (n := 2)).1 ?_
  refine wpIn_rangeFunc_ownF (F := Fence.wide) (n := 2) rfl (by omega) (gf := 46) (lb := #[.pointer (some ⟨b11 + 1 + 1 + 1, 0, none⟩), .pointer (some ⟨b11 + 1 + 1 + 1 + 1, 0, none⟩)]) rfl trivial (enters_of Try.func46 (by kernel_rfl) rfl)
    (chunk_stops (b11 + 1 + 1 + 1) (b11 + 1 + 1 + 1 + 1) B n ct hN0 hlc (by omega) w8 D2 D3) (fun h k => h.trans k) (fun W lq o o' hlq _ _ _ => ⟨World.putObj_heap_other (by omega), World.putObj_heap_other (by omega)⟩) (Below.refl _ _) (fun _ => rfl)
    (fun pre W => Lp w3 w8 c s (enc F r) l pc pp b11 (b11 + 1 + 1) (b11 + 1) (pre.map (·.1)) W)
    (fun _ _ _ => False)
    (Lp.own _ (by omega))
    (fun _ _ _ _ _ hs _ _ => hs)
    h0
    (fun x => { tmps := #[.slice K nk ck, .slice A 12 cn, .slice B n ct, undef, undef, undef, .slice none 0 0, .int .i64 0, .pointer (some ⟨c, 0, none⟩), .int .i64 0, .pointer (some ⟨b10, 0, none⟩), .pointer (some ⟨b11, 0, none⟩), .pointer (some ⟨b11 + 1 + 1, 0, none⟩), .slice (B.map fun ad => ad.add (16 * x.1)) (chL n x.1) (chL n x.1), undef, undef, undef, .tuple #[.pointer (some ⟨c, 0, none⟩), .int .i64 0], .slice K nk ck, .tuple #[.pointer (some ⟨c, 0, none⟩), .int .i64 0], .pointer (some ⟨c, 0, none⟩), .int .i64 0, .int .i64 0, .bool false, undef, .tuple #[.agg (aN 16 s), .int .i64 0], .slice A 12 cn, .tuple #[.agg (aN 16 s), .int .i64 0], .agg (aN 16 s), .int .i64 0, .int .i64 0, .bool false, undef, .slice B n ct, .int .i64 (n : Int), .bool (decide ((65536 : Int) < (n : Int))), .pointer (some ⟨c, 0, none⟩), .agg (aN 16 s), (.func (.func 44) #[] #[.pointer (some ⟨pc, 0, none⟩), .pointer (some ⟨pp, 0, none⟩)]), .slice B n ct, .int .i64 (n : Int), .slice (some ⟨b11 + 1, 0, none⟩) 0 n, .slice B n ct, .func (.func 46) #[] #[.pointer (some ⟨b11 + 1 + 1 + 1, 0, none⟩), .pointer (some ⟨b11 + 1 + 1 + 1 + 1, 0, none⟩)], .slice (B.map fun ad => ad.add (16 * x.1)) (chL n x.1) (chL n x.1), undef, undef, undef, undef, undef, undef, undef, undef, undef, undef, undef, undef, undef, undef], defers := [] }) ?assign ?body ?done ?stop
  case assign =>
    intro lq x W K hK
    simp only [chA]
    gi_wp2
    exact hK
  case body =>
    rintro lq pre x W hI hpl
    obtain ⟨xv, hxv⟩ := x
    have hks : (pre ++ [(⟨xv, hxv⟩ : Chk n)]).map (·.1) = pre.map (·.1) ++ [xv] := by simp
    obtain ⟨ks, hk⟩ : ∃ ks, ks = pre.map (·.1) := ⟨_, rfl⟩
    have hkl : ks.length = pre.length := by rw [hk, List.length_map]
    rw [← hkl] at hpl
    have hI' : Lp w3 w8 c s (enc F r) l pc pp b11 (b11 + 1 + 1) (b11 + 1) ks W := by rw [hk]; exact hI
    have HKS : Hid ((pre ++ [(⟨xv, hxv⟩ : Chk n)]).map (·.1) = ks ++ [xv]) := Lib.hid (by rw [hks, hk])
    clear hI hks hk hkl h0
    obtain ⟨st, fn, ⟨g, cap, hx, hown, hg⟩, sz⟩ := hI'
    obtain ⟨k, hk⟩ : ∃ k, k = ks.length := ⟨_, rfl⟩
    rw [← hk] at st hpl
    obtain ⟨L, hL⟩ : ∃ L, L = (outP (enc F r) s l ks).length := ⟨_, rfl⟩
    rw [← hL] at hx hown
    have hLk : L ≤ 16 * k := by rw [hL, hk]; exact outP_len _ _ _ _
    obtain ⟨ad, rfl, hab, hac⟩ := H2.out (by rw [vn_len, HN.out]; omega)
    have hbW : Below w.heap.size w W := HB3.out.trans (st.bel.mono hws)
    have hr : Rd W w.heap.size (some (ad.add (16 * xv))) (vn (chk l xv)) := by
      intro h0
      refine ⟨_, rfl, by rw [add_block]; exact hab, fun j u hj => ?_⟩
      rw [add_add, hbW.cell (by rw [add_block]; exact hab)]
      refine hac (16 * xv + j) u ?_
      have hj16 : j < 16 := by have := (List.getElem?_eq_some_iff.1 hj).1; rw [vn_len, chk_len] at this; omega
      simpa [vn, chk, List.getElem?_take, List.getElem?_drop, hj16] using hj
    obtain ⟨m, hm⟩ : ∃ m, m = chL n xv := ⟨_, rfl⟩
    have hm16 : m ≤ 16 := by rw [hm]; unfold chL; split <;> omega
    have hm0 : 0 < m := by rw [hm]; unfold chL; split <;> omega
    have hcm : (chk l xv).length = m := by rw [chk_len, HN.out, hm]; unfold chL; split <;> omega
    have hcl : ∀ y ∈ chk l xv, y < 256 := fun y hy => HL.out y (List.mem_of_mem_drop (List.mem_of_mem_take hy))
    obtain ⟨blk, hblk⟩ : ∃ blk, blk = enc F r (cB s (k + 1)) := ⟨_, rfl⟩
    have hblkB : B16 blk := by rw [hblk]; exact enc_lt F r _ (cB_lt s HST.out _) HBK.out
    have hXV : vb (orX (u8s (chk l xv)) (byF blk 0 m)) = vn (bkX (enc F r) s l k xv) := by
      rw [hblk, ← hcm]; exact bkX_vb _ _ _ HL.out _ _ (enc_lt F r _ (cB_lt s HST.out _) HBK.out)
    have hnx := nextb_any w3 r c F s pc pp k W hr1 hr2 HST.out HBK.out HCI.out st
    rw [← hblk] at hnx
    have hglt : g < W.heap.size := (hown.lt g rfl).2
    have hgpc : g ≠ pc := by omega
    have HOWN := Lib.hid hown; clear hown
    have HR := Lib.hid hr; clear hr
    have HX := Lib.hid hx; clear hx
    have HF := Lib.hid fn
    have HST0 := Lib.hid st; clear st
    have c11 := cell_of_one fn
    clear fn
    have HXV := Lib.hid hXV; clear hXV
    have HCM := Lib.hid hcm; clear hcm
    have HCL := Lib.hid hcl; clear hcl
    have HBL := Lib.hid hblk; clear hblk
    have HBB := Lib.hid hblkB; clear hblkB
    have HOL := Lib.hid hL; clear hL
    have HKL := Lib.hid hk; clear hk
    simp only [← hm, Option.map_some]
    have HM := Lib.hid hm; clear hm
    obtain ⟨src, hsrc⟩ : ∃ src, src = some (ad.add (16 * xv)) := ⟨_, rfl⟩
    rw [← hsrc]
    rw [← hsrc] at HR
    clear hsrc hac hab
    refine wpIn_block ?_
    refine wpIn_seq (wpIn_round_list (by rfl) ?_)
    go_wp2_with fail
    refine hnx.mono ?_
    clear hnx
    rintro e W1 ⟨rfl, st1, hk1⟩
    have dS := new_dS W1
    go_wp2_with (refine wpList_store_row rfl 35 (.tmp 14) (.tmp 46) rfl W1.heap.size (aN 16 (blk)) rfl rfl 35 _ dS (by rw [aN_size]; exact blk_size) (by simp only [aN_size]) (aN_one _ _) ?_)
    obtain ⟨hN, hbN⟩ := new_row W1 blk
    have hW1 := hk1.1
    have h1r : W1.heap.size ≤ ((W1.alloc (.cells #[.int .u8 0, .int .u8 0, .int .u8 0, .int .u8 0, .int .u8 0, .int .u8 0, .int .u8 0, .int .u8 0, .int .u8 0, .int .u8 0, .int .u8 0, .int .u8 0, .int .u8 0, .int .u8 0, .int .u8 0, .int .u8 0] 35)).setRow W1.heap.size (aN 16 blk)).heap.size := hbN.size
    have hp1 : pp < W1.heap.size := (Array.getElem?_eq_some_iff.1 st1.hp).1
    have hc1 : pc < W1.heap.size := st1.hc.lt
    have HST1 := Lib.hid st1; clear st1
    have HK1 := Lib.hid hk1; clear hk1
    have HBN := Lib.hid hbN; clear hbN dS c11
    generalize (W1.alloc (.cells #[.int .u8 0, .int .u8 0, .int .u8 0, .int .u8 0, .int .u8 0, .int .u8 0, .int .u8 0, .int .u8 0, .int .u8 0, .int .u8 0, .int .u8 0, .int .u8 0, .int .u8 0, .int .u8 0, .int .u8 0, .int .u8 0] 35)).setRow W1.heap.size (aN 16 blk) = W2 at *
    have HN2 := Lib.hid hN; clear hN
    refine OnlyN.normal ?_
    refine wpIn_seq (wpIn_round_list (by rfl) ?_)
    have hmi : (m : Int) ≤ 16 := by omega
    have hlo := HST0.out.lo
    have hto2 : ∀ q, q < W.heap.size → q ≠ pc → W2.heap[q]? = W.heap[q]? := fun q hq hne => (HBN.out.block q (by omega)).trans (HK1.out.2 q hq hne)
    have hxor := xor_any src (some ⟨W1.heap.size, 0, none⟩) (u8s (chk l xv)) (byF blk 0 m) m m 16 (by rw [u8s_len, HCM.out]) (byF_len _ _ _) W2 (by omega)
      (by rw [u8s_vb _ HCL.out]; exact (HR.out.keep (fun p hp => World.cell?_of_block (hto2 p.block (by omega) (by omega)))).more (by omega)) (H16.rd HN2.out HBB.out 0 m (by omega))
    have HTO2 := Lib.hid hto2; clear hto2
    have H2R := Lib.hid h1r; clear h1r
    go_wp2_with fail
    refine hxor.mono ?_
    clear hxor
    rintro e W3 ⟨v, rfl, hown3, hb3⟩
    obtain ⟨A3, c3, rfl, hl3, hr3⟩ := Rd.of_own hown3
    rw [HXV.out] at hr3
    have hbl : (vn (bkX (enc F r) s l k xv)).length = m := by rw [vn_len, bkX_len, HCM.out]
    obtain ⟨ad3, rfl, _, hc3⟩ := hr3 (by omega)
    have HC3 := Lib.hid hc3; clear hc3 hown3 hl3 hr3
    have hto : ∀ q, q < W.heap.size → q ≠ pc → W3.heap[q]? = W.heap[q]? := fun q hq hne => (hb3.block q (by have := H2R.out; omega)).trans (HTO2.out q hq hne)
    have hW3 : W.heap.size ≤ W3.heap.size := by have := H2R.out; have := hb3.size; omega
    have HX3 := Lib.hid ((hto (b11 + 1 + 1) (by omega) (by omega)).trans HX.out)
    have HOWN3 := Lib.hid (own_at HOWN.out (hto g hglt hgpc))
    have h13 : Below W1.heap.size W1 W3 := HBN.out.trans (hb3.mono HBN.out.size)
    have H13 := Lib.hid h13; clear h13 hb3
    have HTO := Lib.hid hto; clear hto
    have c12 := cell_of_one HX3.out
    have hgl3 : g < W3.heap.size := by omega
    obtain ⟨o1, ho1⟩ : ∃ o1, o1 = vn (outP (enc F r) s l ks) := ⟨_, rfl⟩
    obtain ⟨o2, ho2⟩ : ∃ o2, o2 = vn (bkX (enc F r) s l k xv) := ⟨_, rfl⟩
    rw [← ho1] at HOWN3
    rw [← ho2] at HC3 hbl
    have hone : ∀ u ∈ o2, u.oneCell' = true := by rw [ho2]; exact vn_onec _
    have HO := Lib.hid (And.intro ho1 ho2); clear ho1 ho2
    have HONE := Lib.hid hone; clear hone
    have HBLN := Lib.hid hbl; clear hbl
    go_wp2_with fail
    refine OnlyN.normal ?_
    refine wpIn_round_list (by rfl) ?_
    go_wp2_with (first
      | (at_builtin
         refine wpList_append_lies _ rfl (.tmp 55) (.tmp 56) 22 rfl (b11 + 1) 5 i0 (.int .u8 0) 1 1 Try.underlying22 hi hz0 hz1 hz2 rfl (by omega) (.slice (some ⟨g, 0, none⟩) L cap) L o1 rfl HOWN3.out ad3 m c3 o2 rfl (by rw [HBLN.out, Nat.mul_one]) HC3.out HONE.out hm0 (by unfold maxLen; omega) (by omega) (by omega) W3.heap.size rfl ?_
         intro g2 cap2 W4 hown4 hgrow4 hat4 hlt4
         have hx4 : W4.heap[b11 + 1 + 1]? = some (.cells #[.slice (some ⟨g, 0, none⟩) L cap] 22 (0, 0)) := (hgrow4.block (b11 + 1 + 1) (by omega) (by simp [Value.ownBlock]; omega)).trans HX3.out
         have cX := cell_of_one hx4
         have fX := free_of_one hx4
         have HX4 := Lib.hid hx4
         have HOWN4 := Lib.hid hown4
         have HGR4 := Lib.hid hgrow4
         have HAT4 := Lib.hid hat4
         clear hx4 hown4 hgrow4 hat4))
    refine OnlyN.normal ?_
    obtain ⟨W5, hW5⟩ : ∃ W5, W5 = W4.setCell ⟨b11 + 1 + 1, 0, none⟩ (.slice (some ⟨g2, 0, none⟩) (L + m) cap2) := ⟨_, rfl⟩
    rw [← hW5]
    have hat : g2 = g ∨ g2 = W3.heap.size := by
      rcases HAT4.out with h | h
      · left; simpa [Value.ownBlock] using h.symm
      · exact .inr h
    have hg2b : g2 ≠ b11 + 1 + 1 := by omega
    have hset : ∀ q, q ≠ b11 + 1 + 1 → W5.heap[q]? = W4.heap[q]? := fun q hq => by rw [hW5]; exact heap_setCell_other _ _ _ _ hq
    have hgr : ∀ q, q < W3.heap.size → q ≠ g → W4.heap[q]? = W3.heap[q]? := fun q hq hne => HGR4.out.block q hq (by simp [Value.ownBlock]; omega)
    have hto5 : ∀ q, q < W.heap.size → q ≠ pc → q ≠ g → q ≠ b11 + 1 + 1 → W5.heap[q]? = W.heap[q]? := fun q hq h1 h2 h3 => (hset q h3).trans ((hgr q (by omega) h2).trans (HTO.out q hq h1))
    have hs45 : W5.heap.size = W4.heap.size := by rw [hW5]; simp
    have hs34 : W3.heap.size ≤ W4.heap.size := HGR4.out.size
    have hs13 := H13.out.size
    obtain ⟨cur, hcur⟩ := own_blk HOWN.out
    have hne : ∀ (q : Nat) (o : Obj) (cs : Array Value) (t : TypeId) (fr : Nat × Nat), W.heap[q]? = some o → o.isCells = false → W.heap[q]? = some (.cells cs t fr) → False := fun q o cs t fr h1 h2 h3 => by
      rw [h1] at h3
      cases h3
      cases h2
    have hbel : Below w3.heap.size w3 W5 := by
      rw [hW5]
      exact ((HST1.out.bel.trans (H13.out.mono (by omega))).grown HGR4.out (by omega) (fun q e => by simp [Value.ownBlock] at e; omega)).setCell (by show w3.heap.size ≤ b11 + 1 + 1; omega) _
    show KeepsOthers W W5 ∧ KpC _ _ W W5 ∧ Lp w3 w8 c s (enc F r) l pc pp b11 (b11 + 1 + 1) (b11 + 1) ((pre ++ [(⟨xv, hxv⟩ : Chk n)]).map (·.1)) W5
    rw [HKS.out]
    have eL : (outP (enc F r) s l (ks ++ [xv])).length = L + m := by rw [outP_snoc, List.length_append, bkX_len, HCM.out, ← HOL.out]
    have eV : vn (outP (enc F r) s l (ks ++ [xv])) = o1 ++ o2 := by rw [outP_snoc, vn_app, ← HKL.out, HO.out.1, HO.out.2]
    have eK : (ks ++ [xv]).length = k + 1 := by rw [List.length_append, ← HKL.out]; rfl
    refine ⟨⟨by omega, fun q o hq ho => ?_⟩, ⟨hto5 _ (by omega) (by omega) (by omega) (by omega), hto5 _ (by omega) (by omega) (by omega) (by omega)⟩, ?_, ?_, ⟨g2, cap2, ?_, ?_, by omega⟩, by omega⟩
    · exact (hto5 q (Array.getElem?_eq_some_iff.1 hq).1 (fun e => hne q o _ _ _ hq ho (by rw [e]; exact HST0.out.hc)) (fun e => hne q o _ _ _ hq ho (by rw [e]; exact hcur)) (fun e => hne q o _ _ _ hq ho (by rw [e]; exact HX.out))).trans hq
    · rw [eK]
      exact HST1.out.at_ ((hset pc (by omega)).trans ((hgr pc (by omega) (by omega)).trans (H13.out.block pc hc1))) ((hset pp (by omega)).trans ((hgr pp (by omega) (by omega)).trans (H13.out.block pp hp1))) hbel
    · exact (hto5 b11 (by omega) (by omega) (by omega) (by omega)).trans HF.out
    · rw [eL, hW5]; exact one_setCell HX4.out
    · rw [eL, eV]; exact own_at HOWN4.out (hset g2 hg2b)
  case done =>
    rintro D ys W hD hys hI hK
    have hI' : Lp w3 w8 c s (enc F r) l pc pp b11 (b11 + 1 + 1) (b11 + 1) (List.range ((n + 15) / 16)) W := by rw [← hys]; exact hI
    clear hI hys h0
    obtain ⟨st, fn, ⟨g, cap, hx, hown, hg⟩, sz⟩ := hI'
    have eO : outP (enc F r) s l (List.range ((n + 15) / 16)) = crL (enc F r) s l n := by rw [← HN.out]; exact outP_all _ _ _
    rw [eO, crL_len] at hx hown
    have c12 := cell_of_one hx
    have hbW := Lib.hid (HB3.out.trans (st.bel.mono hws))
    have HOWN := Lib.hid hown
    clear st fn hx hown eO
    obtain ⟨cur, hcur⟩ := own_blk HOWN.out
    have hgD : g ≠ D := fun e => by rw [← e, hcur] at hK; cases hK
    have hw8 : w.heap.size ≤ w8.heap.size := by omega
    clear hcur
    go_wp2_with fail
    refine ⟨by simp, .inl ⟨_, _, rfl, run_takeDeferred hK, ?_⟩⟩
    refine ⟨_, results_tmp2 rfl _ _ _, _, rfl, ?_, hbW.out.trans (belowK_b (w := w8) hw8 _ D _ _ hD hK rfl rfl)⟩
    exact own_lower (own_at HOWN.out (World.putObj_heap_other hgD)) (by omega)
  case stop =>
    rintro D c pre W _ _ h _
    exact h.elim
end Go.Proofs.Ytkfmgjipocmkjaa
