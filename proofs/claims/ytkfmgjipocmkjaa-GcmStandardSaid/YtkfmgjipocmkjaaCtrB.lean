/-
  The document's Crypt (layer 5), over whatever enciphers a block. (Printed by wip/gen/ctrref.py.)
-/
import Derived.Test.YtkfmgjipocmkjaaFoldA
import Derived.StillTailTactics
namespace Go.Proofs.Ytkfmgjipocmkjaa
open Go Go.RowKit
set_option linter.unusedVariables false
set_option linter.unusedSimpArgs false

/-- The counter blocks. -/
def cB (s : Nat → Nat) : Nat → Nat → Nat
  | 0 => s
  | j + 1 => nxF (cB s j)
theorem cB_lt (s : Nat → Nat) (h : B16 s) (j : Nat) : B16 (cB s j) := by
  induction j with
  | zero => exact h
  | succ j ih => exact nxF_lt _ ih
/-- The stream. -/
def ksB (E : (Nat → Nat) → Nat → Nat) (s : Nat → Nat) (i : Nat) : Nat := E (cB s (i / 16 + 1)) (i % 16)
/-- A text's beginning with the stream added. -/
def crL (E : (Nat → Nat) → Nat → Nat) (s : Nat → Nat) (l : List Nat) (k : Nat) : List Nat := (List.range k).map fun i => l.getD i 0 ^^^ ksB E s i
theorem crL_len (E : (Nat → Nat) → Nat → Nat) (s : Nat → Nat) (l : List Nat) (k : Nat) : (crL E s l k).length = k := by simp [crL]
theorem crL_succ (E : (Nat → Nat) → Nat → Nat) (s : Nat → Nat) (l : List Nat) (k : Nat) : crL E s l (k + 1) = crL E s l k ++ [l.getD k 0 ^^^ ksB E s k] := by simp [crL, List.range_succ]
theorem vn_snocN (l : List Nat) (x : Nat) : vn (l ++ [x]) = vn l ++ [.int .u8 (x : Int)] := by simp [vn]
theorem own_setRow {w : World} {base e n b : Nat} {v : Value} {xs : List Value} (h : w.ownsRow base e 1 v n xs) (hb : b < base) (cs : Array Value) : (w.setRow b cs).ownsRow base e 1 v n xs :=
  World.ownsRow.kept h (row := some b) ⟨rfl, rfl, rfl, by simp, fun k _ hk => setRow_other w b k _ (fun e => hk (by rw [e]))⟩ (.inr (fun e' => own_far h hb e'.symm))
theorem own_lower {w : World} {base base' e n : Nat} {v : Value} {xs : List Value} (h : w.ownsRow base e 1 v n xs) (hb : base' ≤ base) : w.ownsRow base' e 1 v n xs :=
  ⟨h.1, h.2.imp id fun ⟨g, cap, cur, hv, hg, rest⟩ => ⟨g, cap, cur, hv, Nat.le_trans hb hg, rest⟩⟩
theorem setRow_below {B : Nat} {w w' : World} (h : Below B w w') (g : Nat) (hg : B ≤ g) (cs : Array Value) : Below B w (w'.setRow g cs) := below_row h g hg cs

set_option maxRecDepth 100000 in
set_option maxHeartbeats 8000000 in
theorem rcrypt_any (E : (Nat → Nat) → Nat → Nat) (hE : ∀ b, B16 b → B16 (E b)) (K : Option Addr) (kl : List Nat) (nk ck : Nat)
    (hEnc : ∀ (b : Nat → Nat) (W : World), B16 b → Rd W W.heap.size K (vn kl) → Calls Try.prog 33 #[.slice K nk ck, .agg (aN 16 b)] W fun e w' => e = .returned (.agg (aN 16 (E b))) ∧ Below W.heap.size W w')
    (A : Option Addr) (nl : List Nat) (cn : Nat) (hnl : nl.length = 12) (hnv : ∀ x ∈ nl, x < 256) (B : Option Addr) (l : List Nat) (n ct : Nat) (hn : l.length = n) (hl : ∀ x ∈ l, x < 256) (hle : n ≤ 100000) (w : World)
    (hk : Rd w w.heap.size K (vn kl)) (h1 : Rd w w.heap.size A (vn nl)) (h2 : Rd w w.heap.size B (vn l)) :
    Calls Try.prog 20 #[.slice K nk ck, .slice A 12 cn, .slice B n ct] w fun e w' => ∃ v, e = .returned v ∧ w'.ownsRow w.heap.size 5 1 v n (vn (crL E (stF nl) l n)) ∧ Below w.heap.size w w' := by
  obtain ⟨j0, hi, hz0, hz1, hz2⟩ := info_parts info_b
  have HJ := Lib.hid (And.intro hi (And.intro hz0 (And.intro hz1 hz2))); clear hi hz0 hz1 hz2
  have hst : B16 (stF nl) := stF_lt nl hnv
  obtain ⟨st, hs⟩ : ∃ st, st = stF nl := ⟨_, rfl⟩
  rw [← hs] at hst
  rw [← hs]
  have HST := Lib.hid hst; clear hst
  have HS := Lib.hid hs; clear hs
  have HENC := Lib.hid hEnc; clear hEnc
  have HE := Lib.hid hE; clear hE
  have HN := Lib.hid hn; clear hn
  have HL := Lib.hid hl; clear hl
  have HK := Lib.hid hk; clear hk
  have H1 := Lib.hid h1; clear h1
  have H2 := Lib.hid h2; clear h2
  have HNL := Lib.hid (And.intro hnl hnv); clear hnl hnv
  go_enter Try.func20, Try.ntmps20
  go_wp2_with fail
  refine (rfirst_any A nl cn HNL.out.1 w H1.out).mono ?_
  rintro e w1 ⟨rfl, hb1⟩
  rw [← HS.out]
  have dS := H16.newAt (w := w1) (f := fun _ => 0) (b := w1.heap.size) rfl
  have dS' : (w1.alloc (.cells #[.int .u8 0, .int .u8 0, .int .u8 0, .int .u8 0, .int .u8 0, .int .u8 0, .int .u8 0, .int .u8 0, .int .u8 0, .int .u8 0, .int .u8 0, .int .u8 0, .int .u8 0, .int .u8 0, .int .u8 0, .int .u8 0] 35)).heap[w1.heap.size]? = some (.cells (aN 16 fun _ => 0) 35 (0, 0)) := dS
  go_upto_region 2 with (refine wpList_store_row rfl 35 (.tmp 7) (.tmp 12) rfl w1.heap.size (aN 16 st) rfl rfl 35 _ dS' (by rw [aN_size]; exact blk_size) (by simp only [aN_size]) (aN_one _ _) ?_)
  have h7 : H16 ((w1.alloc (.cells #[.int .u8 0, .int .u8 0, .int .u8 0, .int .u8 0, .int .u8 0, .int .u8 0, .int .u8 0, .int .u8 0, .int .u8 0, .int .u8 0, .int .u8 0, .int .u8 0, .int .u8 0, .int .u8 0, .int .u8 0, .int .u8 0] 35)).setRow w1.heap.size (aN 16 st)) w1.heap.size st := setRow_heap _ _ _ _ _ _ dS'
  have hb2 : Below w.heap.size w ((w1.alloc (.cells #[.int .u8 0, .int .u8 0, .int .u8 0, .int .u8 0, .int .u8 0, .int .u8 0, .int .u8 0, .int .u8 0, .int .u8 0, .int .u8 0, .int .u8 0, .int .u8 0, .int .u8 0, .int .u8 0, .int .u8 0, .int .u8 0] 35)).setRow w1.heap.size (aN 16 st)) := below_row (hb1.alloc hb1.size _) _ hb1.size _
  clear dS dS'
  generalize (w1.alloc (.cells #[.int .u8 0, .int .u8 0, .int .u8 0, .int .u8 0, .int .u8 0, .int .u8 0, .int .u8 0, .int .u8 0, .int .u8 0, .int .u8 0, .int .u8 0, .int .u8 0, .int .u8 0, .int .u8 0, .int .u8 0, .int .u8 0] 35)).setRow w1.heap.size (aN 16 st) = w2 at *
  have hw1 : w.heap.size ≤ w1.heap.size := hb1.size
  have hw9 : w.heap.size ≤ w2.heap.size := hb2.size
  generalize w1.heap.size = b7 at *
  have h7l : b7 < w2.heap.size := h7.lt
  have h9 : H16 (w2.alloc (.cells (aN 16 fun _ => 0) 35)) w2.heap.size fun _ => 0 := H16.newAt rfl
  have h7' := H16.alloc (.cells (aN 16 fun _ => 0) 35) h7
  have hb3 := hb2.alloc hb2.size (.cells (aN 16 fun _ => 0) 35)
  have hsz : (w2.alloc (.cells (aN 16 fun _ => 0) 35)).heap.size = w2.heap.size + 1 := by simp
  go_wp2_with fail
  rw [zero16]
  generalize w2.alloc (.cells (aN 16 fun _ => 0) 35) = w3 at *
  generalize w2.heap.size = b9 at *
  have H7 := Lib.hid h7'; clear h7 h7'
  have H9 := Lib.hid h9; clear h9
  have HB3 := Lib.hid hb3; clear hb3 hb2 hb1
  have h93 : b9 < w3.heap.size := by omega
  have h73 : b7 < w3.heap.size := by omega
  clear hsz
  go_loopw [8, 10] (fun v i wr => ∃ k : Nat, k ≤ n ∧ i = .int .i64 (k : Int) ∧ Hid (wr.ownsRow w3.heap.size 5 1 v k (vn (crL E st l k))) ∧ Hid (H16 wr b7 (cB st ((k + 15) / 16))) ∧ Hid (∃ x, H16 wr b9 x ∧ (0 < k → E16 x (E (cB st ((k + 15) / 16))))) ∧ Hid (Below w.heap.size w wr) ∧ w3.heap.size ≤ wr.heap.size) (fun _ i _ => n - (intOf i).toNat)
  case atStart => exact ⟨0, by omega, rfl, Lib.hid (World.ownsRow_nil _ _ _ _), H7, Lib.hid ⟨_, H9.out, fun h => by omega⟩, HB3, Nat.le_refl _⟩
  case round =>
    rename_i wr _ _
    clear H7 H9 HB3
    obtain ⟨k, hk, rfl, HO, H7, H9, HB, hsz⟩ := hrel
    by_cases hlt : k < n
    · have hki : (k : Int) < (n : Int) := by omega
      obtain ⟨r, hr⟩ : ∃ r, r = k % 16 := ⟨_, rfl⟩
      have hr16 : r < 16 := by omega
      have m1 : (k : Int) % 16 = (r : Int) := by omega
      by_cases hz : r = 0
      · have hkk : k % 16 = 0 := by omega
        have m0 : ((k : Int) % 16 == 0) = true := by rw [beq_iff_eq]; omega
        have eC : cB st ((k + 15) / 16) = cB st (k / 16) := by rw [show (k + 15) / 16 = k / 16 from by omega]
        rw [eC] at H7
        clear eC
        have d7 : wr.heap[b7]? = some (.cells (aN 16 (cB st (k / 16))) 35 (0, 0)) := H7.out
        obtain ⟨x9, hx9, _⟩ := H9.out
        have HX9 := Lib.hid hx9; clear hx9
        obtain ⟨cc, hcc⟩ : ∃ cc, cc = cB st (k / 16) := ⟨_, rfl⟩
        have hccB : B16 cc := by rw [hcc]; exact cB_lt st HST.out _
        rw [← hcc] at d7
        have HCC := Lib.hid hcc; clear hcc
        clear m1
        go_wp2_with (refine wpList_load_row rfl 35 (.tmp 7) rfl b7 rfl 35 (aN 16 cc) (0, 0) (.array 16 5) d7 Try.underlying35 rfl (by rw [aN_size]; exact blk_size) ?_)
        refine (rnext_any cc wr hccB).mono ?_
        rintro e wa ⟨rfl, hba⟩
        have d7a : wa.heap[b7]? = some (.cells (aN 16 cc) 35 (0, 0)) := H16.call hba d7
        go_upto_region 9 with (refine wpList_store_row rfl 35 (.tmp 7) (.tmp 23) rfl b7 (aN 16 (nxF cc)) rfl rfl 35 _ d7a (by rw [aN_size]; exact blk_size) (by simp only [aN_size]) (aN_one _ _) ?_)
        have h7b : H16 (wa.setRow b7 (aN 16 (nxF cc))) b7 (nxF cc) := setRow_heap _ _ _ _ _ _ d7a
        have h9b : H16 (wa.setRow b7 (aN 16 (nxF cc))) b9 x9 := H16.rowOther (H16.call hba HX9.out) (by omega) _
        have hob := own_setRow (own_below HO.out hba) h73 (aN 16 (nxF cc))
        have hbb := setRow_below (HB.out.trans (hba.mono HB.out.size)) b7 hw1 (aN 16 (nxF cc))
        have hsb : w3.heap.size ≤ (wa.setRow b7 (aN 16 (nxF cc))).heap.size := by have := hba.size; simp; omega
        clear d7 d7a hba HX9 HO H7 H9 HB
        generalize wa.setRow b7 (aN 16 (nxF cc)) = wb at *
        have d7b : wb.heap[b7]? = some (.cells (aN 16 (nxF cc)) 35 (0, 0)) := h7b
        have HNX : Hid (B16 (nxF cc)) := Lib.hid (nxF_lt cc hccB)
        have HOb := Lib.hid hob; clear hob
        have HBb := Lib.hid hbb; clear hbb
        have H9b := Lib.hid h9b; clear h9b
        have H7b := Lib.hid h7b; clear h7b
        go_wp2_with (refine wpList_load_row rfl 35 (.tmp 7) rfl b7 rfl 35 (aN 16 (nxF cc)) (0, 0) (.array 16 5) d7b Try.underlying35 rfl (by rw [aN_size]; exact blk_size) ?_)
        refine (HENC.out (nxF cc) wb HNX.out ((HK.out.below HBb.out).more HBb.out.size)).mono ?_
        rintro e wc ⟨rfl, hbc⟩
        have d9c : wc.heap[b9]? = some (.cells (aN 16 x9) 35 (0, 0)) := H16.call hbc H9b.out
        go_upto_region 10 with (refine wpList_store_row rfl 35 (.tmp 9) (.tmp 26) rfl b9 (aN 16 (E (nxF cc))) rfl rfl 35 _ d9c (by rw [aN_size]; exact blk_size) (by simp only [aN_size]) (aN_one _ _) ?_)
        have h9c : H16 (wc.setRow b9 (aN 16 (E (nxF cc)))) b9 (E (nxF cc)) := setRow_heap _ _ _ _ _ _ d9c
        have h7c : H16 (wc.setRow b9 (aN 16 (E (nxF cc)))) b7 (nxF cc) := H16.rowOther (H16.call hbc H7b.out) (by omega) _
        have hoc := own_setRow (own_below HOb.out hbc) h93 (aN 16 (E (nxF cc)))
        have hbd := setRow_below (HBb.out.trans (hbc.mono HBb.out.size)) b9 hw9 (aN 16 (E (nxF cc)))
        have hsc : w3.heap.size ≤ (wc.setRow b9 (aN 16 (E (nxF cc)))).heap.size := by have := hbc.size; simp; omega
        have eN : cB st (k / 16 + 1) = nxF cc := by rw [HCC.out]; rfl
        clear d7b d9c hbc HOb HBb H9b H7b hsb
        generalize wc.setRow b9 (aN 16 (E (nxF cc))) = wz at *
        have G7 : Hid (H16 wz b7 (cB st (k / 16 + 1))) := Lib.hid (by rw [eN]; exact h7c)
        have G9 : Hid (H16 wz b9 (E (cB st (k / 16 + 1)))) := Lib.hid (by rw [eN]; exact h9c)
        have HO := Lib.hid hoc
        have HB := Lib.hid hbd
        have hsz := hsc
        clear h9c h7c hoc hbd hsc eN HCC hccB HNX m0
        obtain ⟨wr, rfl⟩ : ∃ wr : World, wr = wz := ⟨_, rfl⟩
        clear hz hkk
        obtain ⟨bd, rfl, hbd, hck⟩ := ((H2.out.below HB.out)).num (k := k) (by rw [HN.out]; exact hlt)
        obtain ⟨x, hxx⟩ : ∃ x, x = l.getD k 0 := ⟨_, rfl⟩
        obtain ⟨y, hyy⟩ : ∃ y, y = E (cB st (k / 16 + 1)) r := ⟨_, rfl⟩
        have cy : wr.cell? ⟨b9, r, none⟩ = some (.int .u8 (y : Int)) := by rw [hyy]; exact G9.out.cell r hr16
        rw [← hxx] at hck
        have hxl : x < 256 := by rw [hxx, List.getD_eq_getElem?_getD, List.getElem?_eq_getElem (by rw [HN.out]; exact hlt)]; exact HL.out _ (List.getElem_mem _)
        have hyl : y < 256 := by rw [hyy]; exact HE.out _ (cB_lt st HST.out _) r hr16
        have hx : bits .xor .u8 (x : Int) (y : Int) = ((x ^^^ y : Nat) : Int) := xor_u8 x y hxl hyl
        have hown := HO.out
        have fa := own_far hown (g := bd.block) (by omega)
        have fb := own_far hown (g := b9) h93
        have fc := own_far hown (g := b7) h73
        have t1 : (k : Int).tmod 16 = (r : Int) := by rw [Int.tmod_eq_emod_of_nonneg (by omega)]; omega
        have t2 : IntKind.i64.wrap (r : Int) = (r : Int) := IntWalk.i64_in _ (by omega)
        have hri : (r : Int) < 16 := by omega
        have hri0 : (0 : Int) ≤ (r : Int) := by omega
        have eL : vn (crL E st l (k + 1)) = vn (crL E st l k) ++ [.int .u8 ((x ^^^ y : Nat) : Int)] := by
          rw [crL_succ, vn_snocN, hxx, hyy, hr]; rfl
        have HEL := Lib.hid eL; clear eL
        have HXY := Lib.hid (And.intro hxx hyy); clear hxx hyy
        have HR := Lib.hid hr; clear hr
        have hi := HJ.out.1
        have hz0 := HJ.out.2.1
        have hz1 := HJ.out.2.2.1
        have hz2 := HJ.out.2.2.2
        obtain ⟨z, hz'⟩ : ∃ z, z = x ^^^ y := ⟨_, rfl⟩
        rw [← hz'] at hx HEL
        have HZ := Lib.hid hz'; clear hz'
        go_region_held3 (fun w' => w'.cell? (bd.add k) = some (.int .u8 (x : Int)) ∧ w'.cell? ⟨b9, r, none⟩ = some (.int .u8 (y : Int)))
          (first
            | (exact ⟨hck, cy⟩)
            | go_keep
            | (go_split_ands
               refine ⟨?_, ?_⟩
               · (rw [hgrow.cell_far _ (by rw [add_block]; simp; omega) (by rw [add_block]; exact fa)]; assumption)
               · (rw [hgrow.cell_far _ (by simp; omega) fb]; assumption)))
          (first | (refine step_append_lies _ (by rfl) _ _ _ (by rfl) w3.heap.size 5 j0 _ 1 1 Try.underlying22 hi hz0 hz1 hz2 rfl (by omega) u8 k _ (by rfl) (by exact hown.alloc _) ⟨wr.heap.size, 0, none⟩ 1 1 [.int .u8 (z : Int)] (by rfl) (by rfl) (World.news_of_block (cs := #[.int .u8 (z : Int)]) (t := 5) (fr := (0, 0)) (heap_alloc_new _ _)) (by simp [Value.oneCell']) (by omega) (by unfold maxLen; omega) (by omega) (by simp; omega) (wr.heap.size + 1) (by simp) ?_; intro gg cap w1 hown1 hgrow hat hlt1))
        go_wp2_with fail
        go_roundw
        case rel =>
          refine ⟨k + 1, by omega, by go_num, Lib.hid ?_, Lib.hid ?_, Lib.hid ⟨E (cB st (k / 16 + 1)), ?_, fun _ => ?_⟩, Lib.hid ?_, ?_⟩
          · rw [HEL.out]; exact hown1
          · rw [show (k + 1 + 15) / 16 = k / 16 + 1 from by omega]
            exact (hgrow.block b7 (by simp; omega) (fun e => fc e)).trans (H16.alloc _ (show H16 wr.drew b7 _ from G7.out))
          · exact (hgrow.block b9 (by simp; omega) (fun e => fb e)).trans (H16.alloc _ (show H16 wr.drew b9 _ from G9.out))
          · rw [show (k + 1 + 15) / 16 = k / 16 + 1 from by omega]; exact E16.refl _
          · exact (((bdrewN HB.out _).alloc (by exact HB.out.size) _).grown hgrow (by have := HB.out.size; simp; omega) (fun k hk => by have := (hown.lt k hk).1; omega))
          · have := hgrow.size; simp at this; omega
        case measure => simp [intOf]; omega
      · have m0 : ((k : Int) % 16 == 0) = false := by rw [beq_eq_false_iff_ne]; omega
        have eC : (k + 15) / 16 = k / 16 + 1 := by omega
        have hk0 : 0 < k := by omega
        obtain ⟨x9, hx9, hxe⟩ := H9.out
        have G7 : Hid (H16 wr b7 (cB st (k / 16 + 1))) := Lib.hid (by rw [← eC]; exact H7.out)
        have G9 : Hid (H16 wr b9 (E (cB st (k / 16 + 1)))) := Lib.hid (by rw [← eC]; exact hx9.congr (hxe hk0))
        clear hx9 hxe H7 H9 eC
        clear m1
        go_upto_region 10 with fail
        clear m0
        obtain ⟨bd, rfl, hbd, hck⟩ := ((H2.out.below HB.out)).num (k := k) (by rw [HN.out]; exact hlt)
        obtain ⟨x, hxx⟩ : ∃ x, x = l.getD k 0 := ⟨_, rfl⟩
        obtain ⟨y, hyy⟩ : ∃ y, y = E (cB st (k / 16 + 1)) r := ⟨_, rfl⟩
        have cy : wr.cell? ⟨b9, r, none⟩ = some (.int .u8 (y : Int)) := by rw [hyy]; exact G9.out.cell r hr16
        rw [← hxx] at hck
        have hxl : x < 256 := by rw [hxx, List.getD_eq_getElem?_getD, List.getElem?_eq_getElem (by rw [HN.out]; exact hlt)]; exact HL.out _ (List.getElem_mem _)
        have hyl : y < 256 := by rw [hyy]; exact HE.out _ (cB_lt st HST.out _) r hr16
        have hx : bits .xor .u8 (x : Int) (y : Int) = ((x ^^^ y : Nat) : Int) := xor_u8 x y hxl hyl
        have hown := HO.out
        have fa := own_far hown (g := bd.block) (by omega)
        have fb := own_far hown (g := b9) h93
        have fc := own_far hown (g := b7) h73
        have t1 : (k : Int).tmod 16 = (r : Int) := by rw [Int.tmod_eq_emod_of_nonneg (by omega)]; omega
        have t2 : IntKind.i64.wrap (r : Int) = (r : Int) := IntWalk.i64_in _ (by omega)
        have hri : (r : Int) < 16 := by omega
        have hri0 : (0 : Int) ≤ (r : Int) := by omega
        have eL : vn (crL E st l (k + 1)) = vn (crL E st l k) ++ [.int .u8 ((x ^^^ y : Nat) : Int)] := by
          rw [crL_succ, vn_snocN, hxx, hyy, hr]; rfl
        have HEL := Lib.hid eL; clear eL
        have HXY := Lib.hid (And.intro hxx hyy); clear hxx hyy
        have HR := Lib.hid hr; clear hr
        have hi := HJ.out.1
        have hz0 := HJ.out.2.1
        have hz1 := HJ.out.2.2.1
        have hz2 := HJ.out.2.2.2
        obtain ⟨z, hz'⟩ : ∃ z, z = x ^^^ y := ⟨_, rfl⟩
        rw [← hz'] at hx HEL
        have HZ := Lib.hid hz'; clear hz'
        go_region_held3 (fun w' => w'.cell? (bd.add k) = some (.int .u8 (x : Int)) ∧ w'.cell? ⟨b9, r, none⟩ = some (.int .u8 (y : Int)))
          (first
            | (exact ⟨hck, cy⟩)
            | go_keep
            | (go_split_ands
               refine ⟨?_, ?_⟩
               · (rw [hgrow.cell_far _ (by rw [add_block]; simp; omega) (by rw [add_block]; exact fa)]; assumption)
               · (rw [hgrow.cell_far _ (by simp; omega) fb]; assumption)))
          (first | (refine step_append_lies _ (by rfl) _ _ _ (by rfl) w3.heap.size 5 j0 _ 1 1 Try.underlying22 hi hz0 hz1 hz2 rfl (by omega) u8 k _ (by rfl) (by exact hown.alloc _) ⟨wr.heap.size, 0, none⟩ 1 1 [.int .u8 (z : Int)] (by rfl) (by rfl) (World.news_of_block (cs := #[.int .u8 (z : Int)]) (t := 5) (fr := (0, 0)) (heap_alloc_new _ _)) (by simp [Value.oneCell']) (by omega) (by unfold maxLen; omega) (by omega) (by simp; omega) (wr.heap.size + 1) (by simp) ?_; intro gg cap w1 hown1 hgrow hat hlt1))
        go_wp2_with fail
        go_roundw
        case rel =>
          refine ⟨k + 1, by omega, by go_num, Lib.hid ?_, Lib.hid ?_, Lib.hid ⟨E (cB st (k / 16 + 1)), ?_, fun _ => ?_⟩, Lib.hid ?_, ?_⟩
          · rw [HEL.out]; exact hown1
          · rw [show (k + 1 + 15) / 16 = k / 16 + 1 from by omega]
            exact (hgrow.block b7 (by simp; omega) (fun e => fc e)).trans (H16.alloc _ (show H16 wr.drew b7 _ from G7.out))
          · exact (hgrow.block b9 (by simp; omega) (fun e => fb e)).trans (H16.alloc _ (show H16 wr.drew b9 _ from G9.out))
          · rw [show (k + 1 + 15) / 16 = k / 16 + 1 from by omega]; exact E16.refl _
          · exact (((bdrewN HB.out _).alloc (by exact HB.out.size) _).grown hgrow (by have := HB.out.size; simp; omega) (fun k hk => by have := (hown.lt k hk).1; omega))
          · have := hgrow.size; simp at this; omega
        case measure => simp [intOf]; omega
    · obtain rfl : k = n := by omega
      go_wp2_with fail
      go_ret
      refine ⟨_, rfl, ?_, HB.out⟩
      exact own_lower HO.out (by omega)
end Go.Proofs.Ytkfmgjipocmkjaa
