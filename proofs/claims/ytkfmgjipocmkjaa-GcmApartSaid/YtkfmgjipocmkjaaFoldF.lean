/-
  Several texts in one:
  The document's Crypt under keys of both lengths; counter blocks and streams, plain (layer 5).
  Pieces: bytes and numbers, rows that are stored at once, loads of rows. (Printed by wip/gen/ctrlaws.py.)
  The code's Next by octet's Get and Put and a copy.
  The code's cipher of a key. (Printed by wip/gen/aesnew.py.)
  A text's blocks enciphered one by one: what has come out behind some chunks. No function of any package.
-/
import Derived.Test.YtkfmgjipocmkjaaCtrB
import Derived.Test.YtkfmgjipocmkjaaAesM
import Derived.Test.YtkfmgjipocmkjaaFoldD
import Derived.Test.YtkfmgjipocmkjaaAesN
import Derived.WalkLawsBesides
import Derived.Test.YtkfmgjipocmkjaaFoldA
import Derived.Test.YtkfmgjipocmkjaaAesG
import Derived.Test.YtkfmgjipocmkjaaAesI
namespace Go.Proofs.Ytkfmgjipocmkjaa
open Go Go.RowKit
set_option linter.unusedVariables false
set_option linter.unusedSimpArgs false

/-- A block enciphered under a key. -/
def encK (kl : List Nat) (b : Nat → Nat) : Nat → Nat := enc (kF kl) (kl.length / 4 + 6) b
theorem encK_lt (kl : List Nat) (h : ∀ x ∈ kl, x < 256) (b : Nat → Nat) (hb : B16 b) : B16 (encK kl b) := enc_lt (kF kl) _ b hb (kF_bk kl h _)
theorem rencK_any (K : Option Addr) (kl : List Nat) (nk ck : Nat) (hn : kl.length = nk) (hv : ∀ x ∈ kl, x < 256) (hk : nk = 16 ∨ nk = 32) (b : Nat → Nat) (w : World) (hb : B16 b) (h : Rd w w.heap.size K (vn kl)) :
    Calls Try.prog 33 #[.slice K nk ck, .agg (aN 16 b)] w fun e w' => e = .returned (.agg (aN 16 (encK kl b))) ∧ Below w.heap.size w w' := by
  unfold encK
  rw [hn]
  rcases hk with rfl | rfl
  · exact renc16_any K kl ck b hn hv hb w h
  · exact renc32_any K kl ck b hn hv hb w h
theorem rcryptK_any (K : Option Addr) (kl : List Nat) (nk ck : Nat) (hkn : kl.length = nk) (hkv : ∀ x ∈ kl, x < 256) (hk16 : nk = 16 ∨ nk = 32)
    (A : Option Addr) (nl : List Nat) (cn : Nat) (hnl : nl.length = 12) (hnv : ∀ x ∈ nl, x < 256) (B : Option Addr) (l : List Nat) (n ct : Nat) (hn : l.length = n) (hl : ∀ x ∈ l, x < 256) (hle : n ≤ 100000) (w : World)
    (hk : Rd w w.heap.size K (vn kl)) (h1 : Rd w w.heap.size A (vn nl)) (h2 : Rd w w.heap.size B (vn l)) :
    Calls Try.prog 20 #[.slice K nk ck, .slice A 12 cn, .slice B n ct] w fun e w' => ∃ v, e = .returned v ∧ w'.ownsRow w.heap.size 5 1 v n (vn (crL (encK kl) (stF nl) l n)) ∧ Below w.heap.size w w' :=
  rcrypt_any (encK kl) (encK_lt kl hkv) K kl nk ck (fun b W hb hr => rencK_any K kl nk ck hkn hkv hk16 b W hb hr) A nl cn hnl hnv B l n ct hn hl hle w hk h1 h2

theorem ctN_next (f : Nat → Nat) : ctN (nxF f) = (ctN f + 1) % 4294967296 := by
  have h : ∀ i, ¬ i < 12 → nxF f i = (ctN f + 1) % 4294967296 / 256 ^ (15 - i) % 256 := fun i hi => by unfold nxF; rw [if_neg hi]
  have e : ctN (nxF f) = ((nxF f 12 * 256 + nxF f 13) * 256 + nxF f 14) * 256 + nxF f 15 := rfl
  rw [e, h 12 (by omega), h 13 (by omega), h 14 (by omega), h 15 (by omega)]
  have hm : (ctN f + 1) % 4294967296 < 4294967296 := Nat.mod_lt _ (by decide)
  generalize (ctN f + 1) % 4294967296 = m at *
  omega
theorem nxF_first (f : Nat → Nat) (i : Nat) (hi : i < 12) : nxF f i = f i := by unfold nxF; rw [if_pos hi]
theorem ctN_congr {f g : Nat → Nat} (h : E16 f g) : ctN f = ctN g := by
  unfold ctN; rw [h 12 (by omega), h 13 (by omega), h 14 (by omega), h 15 (by omega)]
theorem ctN_bytes (f g : Nat → Nat) (hf : B16 f) (hg : B16 g) (h : ctN f = ctN g) (i : Nat) (hi : 12 ≤ i) (hi2 : i < 16) : f i = g i := by
  have f1 := hf 12 (by omega); have f2 := hf 13 (by omega); have f3 := hf 14 (by omega); have f4 := hf 15 (by omega)
  have g1 := hg 12 (by omega); have g2 := hg 13 (by omega); have g3 := hg 14 (by omega); have g4 := hg 15 (by omega)
  unfold ctN at h
  have hc : i = 12 ∨ i = 13 ∨ i = 14 ∨ i = 15 := by omega
  rcases hc with rfl | rfl | rfl | rfl <;> omega
theorem nxF_ne (f : Nat → Nat) (hf : B16 f) : sameB (nxF f) f = false := by
  rw [Bool.eq_false_iff]
  intro h
  have e := ctN_congr (sameB_iff.mp h)
  rw [ctN_next] at e
  have := ctN_lt f hf
  omega
theorem nxF_inj (f g : Nat → Nat) (hf : B16 f) (hg : B16 g) : sameB (nxF f) (nxF g) = sameB f g := by
  rw [Bool.eq_iff_iff, sameB_iff, sameB_iff]
  constructor
  · intro h i hi
    by_cases h12 : i < 12
    · have := h i hi
      rwa [nxF_first f i h12, nxF_first g i h12] at this
    · refine ctN_bytes f g hf hg ?_ i (by omega) hi
      have e := ctN_congr h
      rw [ctN_next, ctN_next] at e
      have := ctN_lt f hf
      have := ctN_lt g hg
      omega
  · intro h i hi
    by_cases h12 : i < 12
    · rw [nxF_first f i h12, nxF_first g i h12, h i hi]
    · unfold nxF
      rw [if_neg h12, if_neg h12, ctN_congr h]
theorem crL_lt (E : (Nat → Nat) → Nat → Nat) (hE : ∀ b, B16 b → B16 (E b)) (s : Nat → Nat) (hs : B16 s) (l : List Nat) (hl : ∀ x ∈ l, x < 256) (n : Nat) : ∀ x ∈ crL E s l n, x < 256 := by
  intro x hx
  unfold crL at hx
  obtain ⟨i, _, rfl⟩ := List.mem_map.mp hx
  refine Nat.xor_lt_two_pow (n := 8) ?_ (hE _ (cB_lt s hs _) _ (Nat.mod_lt _ (by omega)))
  rw [List.getD_eq_getElem?_getD]
  cases h : l[i]? with
  | none => simp
  | some y => simpa using hl y (List.mem_of_getElem? h)
theorem crL_at (E : (Nat → Nat) → Nat → Nat) (s : Nat → Nat) (l : List Nat) (n i : Nat) (hi : i < n) : (crL E s l n).getD i 0 = l.getD i 0 ^^^ ksB E s i := by
  unfold crL
  rw [List.getD_eq_getElem?_getD, List.getElem?_map, List.getElem?_range hi]
  rfl
theorem crL_back (E : (Nat → Nat) → Nat → Nat) (s : Nat → Nat) (l : List Nat) (n : Nat) (hn : l.length = n) : crL E s (crL E s l n) n = l := by
  apply List.ext_getElem
  · rw [crL_len, hn]
  · intro i h1 h2
    have hi : i < n := by rw [crL_len] at h1; exact h1
    have e := crL_at E s (crL E s l n) n i hi
    rw [crL_at E s l n i hi, Nat.xor_assoc, Nat.xor_self, Nat.xor_zero] at e
    rw [List.getD_eq_getElem?_getD, List.getD_eq_getElem?_getD, List.getElem?_eq_getElem h1, List.getElem?_eq_getElem h2] at e
    exact e
theorem crL_take (E : (Nat → Nat) → Nat → Nat) (s : Nat → Nat) (l : List Nat) (n k : Nat) (hk : k ≤ n) : crL E s (l.take k) k = (crL E s l n).take k := by
  unfold crL
  rw [← List.map_take, List.take_range, Nat.min_eq_left hk]
  apply List.map_congr_left
  intro i hi
  have := List.mem_range.mp hi
  rw [List.getD_eq_getElem?_getD, List.getD_eq_getElem?_getD, List.getElem?_take, if_pos this]
end Go.Proofs.Ytkfmgjipocmkjaa
namespace Go.Proofs.Ytkfmgjipocmkjaa
open Go Go.RowKit
set_option linter.unusedVariables false
set_option linter.unusedSimpArgs false

theorem vb_vn (l : List UInt8) : vb l = vn (l.map UInt8.toNat) := by simp [vb, vn]
theorem vb_lt (l : List UInt8) : ∀ x ∈ l.map UInt8.toNat, x < 256 := fun x hx => by
  obtain ⟨c, _, rfl⟩ := List.mem_map.mp hx
  exact c.toNat_lt
/-- Numbers as bytes. -/
def u8s (l : List Nat) : List UInt8 := l.map UInt8.ofNat
theorem u8s_vb (l : List Nat) (h : ∀ x ∈ l, x < 256) : vb (u8s l) = vn l := by
  unfold vb u8s vn
  rw [List.map_map]
  apply List.map_congr_left
  intro x hx
  simp only [Function.comp, UInt8.toNat_ofNat']
  rw [Nat.mod_eq_of_lt (h x hx)]
theorem u8s_len (l : List Nat) : (u8s l).length = l.length := by simp [u8s]
theorem u8s_nm (l : List UInt8) : u8s (l.map UInt8.toNat) = l := by
  unfold u8s
  rw [List.map_map]
  have : (UInt8.ofNat ∘ UInt8.toNat) = (id : UInt8 → UInt8) := by funext x; simp
  rw [this, List.map_id]
theorem own_cap {w : World} {base e n c : Nat} {A : Option Addr} {xs : List Value} (h : w.ownsRow base e 1 (.slice A n c) n xs) : n ≤ c := by
  obtain ⟨_, hv⟩ := h
  rcases hv with ⟨_, h0⟩ | ⟨g, cap, cur, hv, _, _, hnc, _⟩
  · omega
  · injection hv with _ _ h3
    omega
/-- A new row that is stored at once. -/
theorem new_row (w : World) (f : Nat → Nat) : H16 ((w.alloc (.cells #[.int .u8 0, .int .u8 0, .int .u8 0, .int .u8 0, .int .u8 0, .int .u8 0, .int .u8 0, .int .u8 0, .int .u8 0, .int .u8 0, .int .u8 0, .int .u8 0, .int .u8 0, .int .u8 0, .int .u8 0, .int .u8 0] 35)).setRow w.heap.size (aN 16 f)) w.heap.size f ∧ Below w.heap.size w ((w.alloc (.cells #[.int .u8 0, .int .u8 0, .int .u8 0, .int .u8 0, .int .u8 0, .int .u8 0, .int .u8 0, .int .u8 0, .int .u8 0, .int .u8 0, .int .u8 0, .int .u8 0, .int .u8 0, .int .u8 0, .int .u8 0, .int .u8 0] 35)).setRow w.heap.size (aN 16 f)) :=
  ⟨setRow_heap _ _ _ _ _ _ (H16.newAt (f := fun _ => 0) rfl), below_row ((Below.refl _ _).alloc (Nat.le_refl _) _) _ (Nat.le_refl _) _⟩
theorem new_dS (w : World) : (w.alloc (.cells #[.int .u8 0, .int .u8 0, .int .u8 0, .int .u8 0, .int .u8 0, .int .u8 0, .int .u8 0, .int .u8 0, .int .u8 0, .int .u8 0, .int .u8 0, .int .u8 0, .int .u8 0, .int .u8 0, .int .u8 0, .int .u8 0] 35)).heap[w.heap.size]? = some (.cells (aN 16 fun _ => 0) 35 (0, 0)) := H16.newAt (f := fun _ => 0) rfl
theorem new_h (w : World) : H16 (w.alloc (.cells #[.int .u8 0, .int .u8 0, .int .u8 0, .int .u8 0, .int .u8 0, .int .u8 0, .int .u8 0, .int .u8 0, .int .u8 0, .int .u8 0, .int .u8 0, .int .u8 0, .int .u8 0, .int .u8 0, .int .u8 0, .int .u8 0] 35)) w.heap.size fun _ => 0 := new_dS w
/-- Two arrays, as a region's loads leave them. -/
theorem eqv (f g : Nat → Nat) (s : Bool) (h : sameB f g = s) (w : World) : (Op.equalIn 10000 35 (.agg (vl 16 f).toArray) (.agg (vl 16 g).toArray)).run Try.prog w = .ok s w := by
  rw [← h]; exact eqin16 f g w
theorem wpList_load_row_g {P : Program} {ops : Array Oper} {rest : List Oper} {o : Oper} {a : Act} {w : World} {Q : Exit → Act → World → Prop} (hw : Region.wanted o (yielded ops a.tmps) = true) (ty : TypeId) (x : Operand) (ho : o.op = .load ty x)
    (g : Nat) (hx : a.eval x = .pointer (some ⟨g, 0, none⟩)) (t : TypeId) (cs : Array Value) (fr : Nat × Nat) (d : TypeDesc) (hg : w.heap[g]? = some (.cells cs t fr))
    (hu : P.underlying ty = some d) (hd : d.isRow = true) (hi : (P.info? ty).map (·.size) = some cs.size)
    (h : wpList P ops Q rest (a.put o.dst (.agg cs)) w) : wpList P ops Q (o :: rest) a w :=
  wpList_step fun K hK => by
    rw [if_pos hw]
    refine wp_load_row ty x ho g hx t cs fr d hg hu ?_ hi (hK _ _ h)
    cases d <;> simp_all
end Go.Proofs.Ytkfmgjipocmkjaa
namespace Go.Proofs.Ytkfmgjipocmkjaa
open Go Go.RowKit
set_option linter.unusedVariables false
set_option linter.unusedSimpArgs false

theorem nx_splice (f : Nat → Nat) (h : B16 f) : splice (vl 16 f) 12 (vb (be ((ctN f + 1) % 4294967296) 4)) = vl 16 (nxF f) := by
  have hl : (vb (be ((ctN f + 1) % 4294967296) 4)).length = 4 := by simp [be_len]
  apply List.ext_getElem?
  intro i
  unfold splice
  rw [hl]
  by_cases h1 : i < 12
  · rw [List.getElem?_append_left (by simp [vl_len]; omega), List.getElem?_take, if_pos h1, vl_get 16 f i (by omega), vl_get 16 _ i (by omega), nxF_first f i h1]
  · rw [List.getElem?_append_right (by simp [vl_len]; omega)]
    simp only [List.length_take, vl_len]
    rw [show min 12 16 = 12 from rfl]
    by_cases h2 : i < 16
    · rw [List.getElem?_append_left (by omega), be_four f (i - 12) (by omega), vl_get 16 _ i h2, show 12 + (i - 12) = i from by omega]
    · rw [List.getElem?_append_right (by omega), List.getElem?_drop, List.getElem?_eq_none (by rw [vl_len]; omega), List.getElem?_eq_none (by rw [vl_len]; omega)]

/-- A copy into a row: the world is told. -/
theorem wpList_copy_set {P : Program} {w : World} {ops : Array Oper} {rest : List Oper} {o : Oper} {a : Act} {Q : Exit → Act → World → Prop} (hgd : o.guard = none) (d s : Operand) (dT sT : TypeId)
    (ho : o.op = .call { callee := .builtin .copy, args := #[d, s], argTypes := #[dT, sT] }) (elem : TypeId) (hu : P.underlying dT = some (.slice elem)) (hsz : (P.info? elem).map (·.size) = some 1)
    (g off dLen dCap : Nat) (ad : Addr) (sLen sCap : Nat) (hd : a.eval d = .slice (some ⟨g, off, none⟩) dLen dCap) (hs : a.eval s = .slice (some ad) sLen sCap)
    (cur : List Value) (t : TypeId) (hg : w.heap[g]? = some (.cells cur.toArray t (0, 0))) (cs : List Value) (hn : cs.length = Nat.min sLen dLen)
    (hsrc : ∀ j v, cs[j]? = some v → w.cell? (ad.add j) = some v) (hfit : off + cs.length ≤ cur.length) (h1 : ∀ v ∈ cs, v.oneCell' = true)
    (h : ∀ w', Hid (w' = w.setRow g (splice cur off cs).toArray) → wpList P ops Q rest (a.put o.dst (goInt cs.length)) w') :
    wpList P ops Q (o :: rest) a w :=
  wpList_copy_own hgd d s dT sT ho elem hu hsz g off dLen dCap ad sLen sCap hd hs cur.toArray t hg cs hn hsrc (by simpa using hfit) h1 (h _ (show _ = _ by simp [splice]))

set_option maxRecDepth 100000 in
set_option maxHeartbeats 4000000 in
theorem cnext_any (f : Nat → Nat) (w : World) (hf : B16 f) :
    Calls Try.prog 45 #[.agg (aN 16 f)] w fun e w' => e = .returned (.agg (aN 16 (nxF f))) ∧ Below w.heap.size w w' := by
  have hsz : (Try.prog.info? 5).map (·.size) = some 1 := by kernel_rfl
  have h1 : H16 ((w.alloc (.cells (aN 16 f) 35)).alloc (.cells (aN 16 fun _ => 0) 35)) w.heap.size f := H16.alloc _ (H16.newAt rfl)
  have h2 : H16 ((w.alloc (.cells (aN 16 f) 35)).alloc (.cells (aN 16 fun _ => 0) 35)) (w.heap.size + 1) fun _ => 0 := H16.newAt (w := w.alloc (.cells (aN 16 f) 35)) (by rw [World.size_alloc])
  have hB : Below w.heap.size w ((w.alloc (.cells (aN 16 f) 35)).alloc (.cells (aN 16 fun _ => 0) 35)) := ((Below.refl _ _).alloc (Nat.le_refl _) _).alloc (by simp) _
  have H1 := Lib.hid h1; clear h1
  have H2 := Lib.hid h2; clear h2
  have HB := Lib.hid hB; clear hB
  have HF := Lib.hid hf
  obtain ⟨cn, hcn⟩ : ∃ cn, cn = ctN f := ⟨_, rfl⟩
  have hcl : cn < 4294967296 := by rw [hcn]; exact ctN_lt f HF.out
  obtain ⟨cm, hcm⟩ : ∃ cm, cm = (cn + 1) % 4294967296 := ⟨_, rfl⟩
  have hcml : cm < 4294967296 := by omega
  have hw1 : IntKind.u32.wrap (cn : Int) = (cn : Int) := by rw [IntKind.wrap_u32]; omega
  have hw2 : IntKind.u32.wrap ((cn : Int) + 1) = (cm : Int) := by rw [IntKind.wrap_u32]; omega
  have hw4 : (cn : Int) % 4294967296 = (cn : Int) := by omega
  have hw5 : ((cn : Int) + 1) % 4294967296 = (cm : Int) := by omega
  have hw3 : IntKind.u64.wrap (cm : Int) = (cm : Int) := IntWalk.u64_in _ (by omega)
  have HS := Lib.hid (show splice (vl 16 f) 12 (vb (be cm 4)) = vl 16 (nxF f) by rw [hcm, hcn]; exact nx_splice f HF.out)
  have HC := Lib.hid hcn; clear hcn hcm hf
  go_enter Try.func45, Try.ntmps45
  go_upto_region 1 with fail
  rw [zero16]
  generalize (w.alloc (.cells (aN 16 f) 35)).alloc (.cells (aN 16 fun _ => 0) 35) = w1 at *
  go_wp2_with fail
  refine (get_any _ (byF f 12 4) 4 4 (byF_len _ _ _) w1 (by decide) (by decide) (H1.out.rd HF.out 12 4 (by decide))).mono ?_
  rintro e w2 ⟨rfl, rfl⟩
  rw [num_four f HF.out, ← HC.out]
  go_wp2_with fail
  refine (put_any cm 4 w2 (by omega) (by omega) (by decide) (by decide)).mono ?_
  rintro e w3 ⟨v, rfl, hown, hb3⟩
  obtain ⟨A1, cap1, rfl, _, hr1⟩ := Rd.of_own hown
  have d1 : w3.heap[w.heap.size]? = some (.cells (vl 16 f).toArray 35 (0, 0)) := H1.out.call hb3
  obtain ⟨ad, rfl, hab, hac⟩ := hr1 (by simp [be_len])
  replace H2 := Lib.hid (H2.out.call hb3)
  replace HB : Hid (Below w.heap.size w w3) := Lib.hid (HB.out.trans (hb3.mono HB.out.size))
  have HAC := Lib.hid hac; clear hac
  clear hown hr1 hb3 H1
  try clear w1 w2
  go_wp2_with (first
    | ((with_reducible show wpList _ _ _ _ _ _); refine wpList_copy_set (o := ⟨some 22, _, _, _, _, _⟩) rfl (.tmp 20) (.tmp 21) 22 22 rfl 5 Try.underlying22 hsz w.heap.size 12 4 4 ad 4 cap1 rfl rfl (vl 16 f) 35 d1 (vb (be cm 4)) (by simp [be_len]) (fun j v hv => HAC.out j v hv) (by simp [be_len, vl_len]) (vb_onec _) ?_))
  intro w4 hw4
  have d2 : w4.heap[w.heap.size]? = some (.cells (aN 16 (nxF f)) 35 (0, 0)) := by rw [hw4.out, HS.out]; exact setRow_heap _ _ _ _ _ _ d1
  have d3 : w4.heap[w.heap.size + 1]? = some (.cells (aN 16 fun _ => 0) 35 (0, 0)) := by rw [hw4.out]; exact (setRow_other _ _ _ _ (by omega)).trans H2.out
  have hb4 : Below w.heap.size w w4 := by rw [hw4.out]; exact below_row HB.out _ (Nat.le_refl _) _
  clear hw4 d1 HAC H2 HB
  try clear w3
  go_wp2_with (first
    | (refine wpList_load_row rfl 35 (.tmp 1) rfl w.heap.size rfl 35 (aN 16 (nxF f)) (0, 0) (.array 16 5) d2 Try.underlying35 rfl (by rw [aN_size]; exact blk_size) ?_)
    | (refine wpList_store_row rfl 35 (.tmp 2) (.tmp 23) rfl (w.heap.size + 1) (aN 16 (nxF f)) rfl rfl 35 _ d3 (by rw [aN_size]; exact blk_size) (by simp only [aN_size]) (aN_one _ _) ?_))
  refine bodyPost_ret (blk_ret (p := 2) (by kernel_rfl) _ _ (w.heap.size + 1) _ rfl ?_) rfl ⟨rfl, ?_⟩
  · exact setRow_heap _ _ _ _ _ _ d3
  · exact below_row hb4 _ (by omega) _
end Go.Proofs.Ytkfmgjipocmkjaa
namespace Go.Proofs.Ytkfmgjipocmkjaa
open Go Go.RowKit
set_option linter.unusedVariables false
set_option linter.unusedSimpArgs false

/-- A cipher of r rounds with the words F at block c. -/
def Ci (r : Nat) (w : World) (c : Nat) (F : Nat → Nat) : Prop :=
  ∃ g, w.heap[c]? = some (.cells #[.slice (some ⟨g, 0, none⟩) (r + 1) (r + 1)] 68 (0, 0)) ∧ HV (16 * (r + 1)) 66 w g F
theorem Ci.lt {r : Nat} {w : World} {c : Nat} {F : Nat → Nat} (h : Ci r w c F) : c < w.heap.size := by
  obtain ⟨g, h, _⟩ := h
  exact (Array.getElem?_eq_some_iff.1 h).1
theorem Ci.below {r B : Nat} {w w' : World} {c : Nat} {F : Nat → Nat} (hb : Below w.heap.size w w') (h : Ci r w c F) : Ci r w' c F := by
  have hl := h.lt
  obtain ⟨g, h1, h2⟩ := h
  exact ⟨g, (hb.block c hl).trans h1, h2.call hb⟩
theorem Ci.alloc {r : Nat} {w : World} {c : Nat} {F : Nat → Nat} (o : Obj) (h : Ci r w c F) : Ci r (w.alloc o) c F := by
  have hl := h.lt
  obtain ⟨g, h1, h2⟩ := h
  exact ⟨g, (heap_alloc_old w o hl).trans h1, h2.alloc o⟩

set_option maxRecDepth 100000 in
theorem new_none (A : Option Addr) (N cap : Nat) (h1 : N ≠ 16) (h2 : N ≠ 32) (w : World) :
    Calls Try.prog 24 #[.slice A N cap] w fun e w' => e = .returned (.tuple #[.pointer none, .int .i64 2]) ∧ w' = w := by
  have hc := Lib.hid (fun w => words_none A N cap h1 h2 w)
  clear h1 h2
  go_enter Try.func24, Try.ntmps24
  go_wp2_with fail
  refine (hc.out _).mono ?_
  rintro e w1 ⟨rfl, rfl⟩
  go_wp2_with fail
  go_ret2
  exact ⟨rfl, rfl⟩

set_option maxRecDepth 100000 in
set_option maxHeartbeats 4000000 in
theorem new16_any (A : Option Addr) (l : List Nat) (cap : Nat) (hn : l.length = 16) (hcap : 16 ≤ cap) (hl : ∀ x ∈ l, x < 256) (w : World) (h : Rd w w.heap.size A (vn l)) :
    Calls Try.prog 24 #[.slice A 16 cap] w fun e w' => ∃ c, e = .returned (.tuple #[.pointer (some ⟨c, 0, none⟩), .int .i64 0]) ∧ Ci 10 w' c (kF l) ∧ Below w.heap.size w w' := by
  have hmk : ∀ w : World, (Instr.makeSlice 64 (.int .i64 11) (.int .i64 11)).run Try.prog w = .ok (.slice (some ⟨w.heap.size, 0, none⟩) 11 11) (w.alloc (.cells (aN 176 fun _ => 0) 66)) := fun w => make_states 11 (by omega) w
  have hc := Lib.hid (words16_any A l cap hn hcap hl w h)
  clear hn hcap hl h
  go_enter Try.func24, Try.ntmps24
  go_wp2_with fail
  refine hc.out.mono ?_
  rintro e w1 ⟨rfl, h0, hb⟩
  clear hc
  have H0 := Lib.hid h0; clear h0
  have HB := Lib.hid hb; clear hb
  obtain ⟨g, hg⟩ : ∃ g, g = w.heap.size := ⟨_, rfl⟩
  rw [← hg] at H0
  have HG := Lib.hid hg
  rw [← hg]
  clear hg
  go_wp2_with fail
  clear hmk
  go_loopw [23] (fun i wr => ∃ k : Nat, k ≤ 44 ∧ i = .int .i64 k ∧ Hid (HV 176 65 wr g (kF l)) ∧ Hid (HV 176 66 wr w1.heap.size (wK (kF l) k)) ∧ Hid (Below w.heap.size w wr)) (fun i _ => 44 - (intOf i).toNat)
  case atStart =>
    refine ⟨0, by omega, rfl, Lib.hid (H0.out.alloc _), Lib.hid ?_, Lib.hid (HB.out.alloc HB.out.size _)⟩
    exact (HV.newAt rfl).congr fun i _ => by simp [wK]
  case round =>
    have hgw : g < w1.heap.size := H0.out.lt
    have hww : w.heap.size ≤ w1.heap.size := HB.out.size
    have HGW := Lib.hid hgw; clear hgw
    have HWW := Lib.hid hww; clear hww
    clear H0 HB
    obtain ⟨k, hk, rfl, H0, H1, HB⟩ := hrel
    by_cases hlt : k < 44
    · have hk0 : (0 : Int) ≤ (k : Int) := by omega
      have hk1 : (k : Int) < 44 := by omega
      have c0 := H0.out.cell (k * 4) (by omega)
      have c1 := H0.out.cell (k * 4 + 1) (by omega)
      have c2 := H0.out.cell (k * 4 + 2) (by omega)
      have c3 := H0.out.cell (k * 4 + 3) (by omega)
      obtain ⟨x, hx⟩ : ∃ x : Nat → Nat, ∀ p, x p = kF l (k * 4 + p) := ⟨fun p => kF l (k * 4 + p), fun _ => rfl⟩
      have e0 := hx 0
      rw [Nat.add_zero] at e0
      rw [← e0] at c0
      rw [← hx 1] at c1
      rw [← hx 2] at c2
      rw [← hx 3] at c3
      have HX := Lib.hid hx; clear hx e0
      go_upto_region 8 with fail
      have h8 : Has (wr.alloc (.cells (arr4 x) 65)) wr.heap.size x := Has.new
      have h0 : HV 176 65 (wr.alloc (.cells (arr4 x) 65)) g (kF l) := H0.out.alloc _
      have h1 : HV 176 66 (wr.alloc (.cells (arr4 x) 65)) w1.heap.size (wK (kF l) k) := H1.out.alloc _
      have hB : Below w.heap.size w (wr.alloc (.cells (arr4 x) 65)) := HB.out.alloc HB.out.size _
      have hne : w1.heap.size ≠ wr.heap.size := Nat.ne_of_lt H1.out.lt
      clear H0 H1 HB c0 c1 c2 c3
      have H8 := Lib.hid h8; clear h8
      have H0 := Lib.hid h0; clear h0
      have H1 := Lib.hid h1; clear h1
      have HB := Lib.hid hB; clear hB
      have HNE := Lib.hid hne; clear hne
      generalize wr.alloc (.cells (arr4 x) 65) = w2 at *
      generalize wr.heap.size = b8 at *
      obtain ⟨d, r, hr, hkd⟩ : ∃ d r, r < 4 ∧ k = 4 * d + r := ⟨k / 4, k % 4, by omega, by omega⟩
      have hd : d < 11 := by omega
      have hd0 : (0 : Int) ≤ (d : Int) := by omega
      have hd1 : (d : Int) < 11 := by omega
      have hr0 : (0 : Int) ≤ 4 * (r : Int) := by omega
      have hr1 : 4 * (r : Int) ≤ 16 := by omega
      have hr2 : ¬ 16 = 4 * r := by omega
      have e1 : IntKind.i64.wrap ((k : Int) / 4) = (d : Int) := (IntWalk.i64_in _ (by omega)).trans (by omega)
      have e2 : (k : Int) % 4 = (r : Int) := by omega
      have e3 : (k : Int).tmod 4 = (r : Int) := by rw [Int.tmod_eq_emod_of_nonneg (by omega)]; exact e2
      have e4 : IntKind.i64.wrap (4 * (r : Int)) = 4 * (r : Int) := IntWalk.i64_in _ (by omega)
      have e5 : (4 * (r : Int)).toNat = 4 * r := by omega
      have e6 : IntKind.i64.wrap (r : Int) = (r : Int) := IntWalk.i64_in _ (by omega)
      have HSRC : Hid (∀ j v, (vl 4 x)[j]? = some v → w2.drew.cell? ((⟨b8, 0, none⟩ : Addr).add j) = some v) := Lib.hid (src4 (Has.drew H8.out))
      have HKD := Lib.hid hkd; clear hkd
      go_region_held3 (fun _ => True) (trivial) ((refine step_copy_set rfl (.tmp 35) (.tmp 36) 22 22 rfl 5 Try.underlying22 size_one w1.heap.size (d * 16 + 4 * r) (16 - 4 * r) (16 - 4 * r) ⟨b8, 0, none⟩ 4 4 rfl rfl (vl 176 (wK (kF l) k)) 66 H1.out (vl 4 x) (by rw [vl_len]; exact (Nat.min_eq_left (by omega)).symm) HSRC.out (by rw [vl_len, vl_len]; omega) (vl_one _ _) ?_; intro w4 hw4))
      have H1' : Hid (HV 176 66 w4 w1.heap.size (wK (kF l) (k + 1))) := Lib.hid (HV.setRow_of hw4.out H1.out.drew (by omega) fun j hj => by
        have hkd := HKD.out
        unfold lay wK
        by_cases h1 : d * 16 + 4 * r ≤ j ∧ j < d * 16 + 4 * r + 4
        · rw [if_pos h1, if_pos (by omega), HX.out, show k * 4 + (j - (d * 16 + 4 * r)) = j from by omega]
        · rw [if_neg h1]
          by_cases h2 : j < 4 * k
          · rw [if_pos h2, if_pos (by omega)]
          · rw [if_neg h2, if_neg (by omega)])
      have H0' : Hid (HV 176 65 w4 g (kF l)) := Lib.hid (by rw [hw4.out]; exact (setRow_other _ _ _ _ (Nat.ne_of_lt HGW.out)).trans H0.out.drew)
      have HB' : Hid (Below w.heap.size w w4) := Lib.hid (by rw [hw4.out]; exact below_setRow HB.out.drew _ HWW.out _)
      clear H0 H1 HB H8 hw4 HSRC hd0 hd1 hr0 hr1 hr2 e1 e2 e3 e4 e5 e6 HKD HX
      go_wp2_with fail
      go_roundw
      case rel => exact ⟨k + 1, by omega, by go_num, H0', H1', HB'⟩
      case measure => simp [intOf]; omega
    · obtain rfl : k = 44 := by omega
      go_wp2_with fail
      go_ret2
      refine ⟨_, rfl, ⟨w1.heap.size, heap_alloc_new _ _, ?_⟩, HB.out.alloc HB.out.size _⟩
      exact HV.alloc _ (H1.out.congr fun j hj => by unfold wK; rw [if_pos (by omega)])

set_option maxRecDepth 100000 in
set_option maxHeartbeats 4000000 in
theorem new32_any (A : Option Addr) (l : List Nat) (cap : Nat) (hn : l.length = 32) (hcap : 32 ≤ cap) (hl : ∀ x ∈ l, x < 256) (w : World) (h : Rd w w.heap.size A (vn l)) :
    Calls Try.prog 24 #[.slice A 32 cap] w fun e w' => ∃ c, e = .returned (.tuple #[.pointer (some ⟨c, 0, none⟩), .int .i64 0]) ∧ Ci 14 w' c (kF l) ∧ Below w.heap.size w w' := by
  have hmk : ∀ w : World, (Instr.makeSlice 64 (.int .i64 15) (.int .i64 15)).run Try.prog w = .ok (.slice (some ⟨w.heap.size, 0, none⟩) 15 15) (w.alloc (.cells (aN 240 fun _ => 0) 66)) := fun w => make_states 15 (by omega) w
  have hc := Lib.hid (words32_any A l cap hn hcap hl w h)
  clear hn hcap hl h
  go_enter Try.func24, Try.ntmps24
  go_wp2_with fail
  refine hc.out.mono ?_
  rintro e w1 ⟨rfl, h0, hb⟩
  clear hc
  have H0 := Lib.hid h0; clear h0
  have HB := Lib.hid hb; clear hb
  obtain ⟨g, hg⟩ : ∃ g, g = w.heap.size := ⟨_, rfl⟩
  rw [← hg] at H0
  have HG := Lib.hid hg
  rw [← hg]
  clear hg
  go_wp2_with fail
  clear hmk
  go_loopw [23] (fun i wr => ∃ k : Nat, k ≤ 60 ∧ i = .int .i64 k ∧ Hid (HV 240 65 wr g (kF l)) ∧ Hid (HV 240 66 wr w1.heap.size (wK (kF l) k)) ∧ Hid (Below w.heap.size w wr)) (fun i _ => 60 - (intOf i).toNat)
  case atStart =>
    refine ⟨0, by omega, rfl, Lib.hid (H0.out.alloc _), Lib.hid ?_, Lib.hid (HB.out.alloc HB.out.size _)⟩
    exact (HV.newAt rfl).congr fun i _ => by simp [wK]
  case round =>
    have hgw : g < w1.heap.size := H0.out.lt
    have hww : w.heap.size ≤ w1.heap.size := HB.out.size
    have HGW := Lib.hid hgw; clear hgw
    have HWW := Lib.hid hww; clear hww
    clear H0 HB
    obtain ⟨k, hk, rfl, H0, H1, HB⟩ := hrel
    by_cases hlt : k < 60
    · have hk0 : (0 : Int) ≤ (k : Int) := by omega
      have hk1 : (k : Int) < 60 := by omega
      have c0 := H0.out.cell (k * 4) (by omega)
      have c1 := H0.out.cell (k * 4 + 1) (by omega)
      have c2 := H0.out.cell (k * 4 + 2) (by omega)
      have c3 := H0.out.cell (k * 4 + 3) (by omega)
      obtain ⟨x, hx⟩ : ∃ x : Nat → Nat, ∀ p, x p = kF l (k * 4 + p) := ⟨fun p => kF l (k * 4 + p), fun _ => rfl⟩
      have e0 := hx 0
      rw [Nat.add_zero] at e0
      rw [← e0] at c0
      rw [← hx 1] at c1
      rw [← hx 2] at c2
      rw [← hx 3] at c3
      have HX := Lib.hid hx; clear hx e0
      go_upto_region 8 with fail
      have h8 : Has (wr.alloc (.cells (arr4 x) 65)) wr.heap.size x := Has.new
      have h0 : HV 240 65 (wr.alloc (.cells (arr4 x) 65)) g (kF l) := H0.out.alloc _
      have h1 : HV 240 66 (wr.alloc (.cells (arr4 x) 65)) w1.heap.size (wK (kF l) k) := H1.out.alloc _
      have hB : Below w.heap.size w (wr.alloc (.cells (arr4 x) 65)) := HB.out.alloc HB.out.size _
      have hne : w1.heap.size ≠ wr.heap.size := Nat.ne_of_lt H1.out.lt
      clear H0 H1 HB c0 c1 c2 c3
      have H8 := Lib.hid h8; clear h8
      have H0 := Lib.hid h0; clear h0
      have H1 := Lib.hid h1; clear h1
      have HB := Lib.hid hB; clear hB
      have HNE := Lib.hid hne; clear hne
      generalize wr.alloc (.cells (arr4 x) 65) = w2 at *
      generalize wr.heap.size = b8 at *
      obtain ⟨d, r, hr, hkd⟩ : ∃ d r, r < 4 ∧ k = 4 * d + r := ⟨k / 4, k % 4, by omega, by omega⟩
      have hd : d < 15 := by omega
      have hd0 : (0 : Int) ≤ (d : Int) := by omega
      have hd1 : (d : Int) < 15 := by omega
      have hr0 : (0 : Int) ≤ 4 * (r : Int) := by omega
      have hr1 : 4 * (r : Int) ≤ 16 := by omega
      have hr2 : ¬ 16 = 4 * r := by omega
      have e1 : IntKind.i64.wrap ((k : Int) / 4) = (d : Int) := (IntWalk.i64_in _ (by omega)).trans (by omega)
      have e2 : (k : Int) % 4 = (r : Int) := by omega
      have e3 : (k : Int).tmod 4 = (r : Int) := by rw [Int.tmod_eq_emod_of_nonneg (by omega)]; exact e2
      have e4 : IntKind.i64.wrap (4 * (r : Int)) = 4 * (r : Int) := IntWalk.i64_in _ (by omega)
      have e5 : (4 * (r : Int)).toNat = 4 * r := by omega
      have e6 : IntKind.i64.wrap (r : Int) = (r : Int) := IntWalk.i64_in _ (by omega)
      have HSRC : Hid (∀ j v, (vl 4 x)[j]? = some v → w2.drew.cell? ((⟨b8, 0, none⟩ : Addr).add j) = some v) := Lib.hid (src4 (Has.drew H8.out))
      have HKD := Lib.hid hkd; clear hkd
      go_region_held3 (fun _ => True) (trivial) ((refine step_copy_set rfl (.tmp 35) (.tmp 36) 22 22 rfl 5 Try.underlying22 size_one w1.heap.size (d * 16 + 4 * r) (16 - 4 * r) (16 - 4 * r) ⟨b8, 0, none⟩ 4 4 rfl rfl (vl 240 (wK (kF l) k)) 66 H1.out (vl 4 x) (by rw [vl_len]; exact (Nat.min_eq_left (by omega)).symm) HSRC.out (by rw [vl_len, vl_len]; omega) (vl_one _ _) ?_; intro w4 hw4))
      have H1' : Hid (HV 240 66 w4 w1.heap.size (wK (kF l) (k + 1))) := Lib.hid (HV.setRow_of hw4.out H1.out.drew (by omega) fun j hj => by
        have hkd := HKD.out
        unfold lay wK
        by_cases h1 : d * 16 + 4 * r ≤ j ∧ j < d * 16 + 4 * r + 4
        · rw [if_pos h1, if_pos (by omega), HX.out, show k * 4 + (j - (d * 16 + 4 * r)) = j from by omega]
        · rw [if_neg h1]
          by_cases h2 : j < 4 * k
          · rw [if_pos h2, if_pos (by omega)]
          · rw [if_neg h2, if_neg (by omega)])
      have H0' : Hid (HV 240 65 w4 g (kF l)) := Lib.hid (by rw [hw4.out]; exact (setRow_other _ _ _ _ (Nat.ne_of_lt HGW.out)).trans H0.out.drew)
      have HB' : Hid (Below w.heap.size w w4) := Lib.hid (by rw [hw4.out]; exact below_setRow HB.out.drew _ HWW.out _)
      clear H0 H1 HB H8 hw4 HSRC hd0 hd1 hr0 hr1 hr2 e1 e2 e3 e4 e5 e6 HKD HX
      go_wp2_with fail
      go_roundw
      case rel => exact ⟨k + 1, by omega, by go_num, H0', H1', HB'⟩
      case measure => simp [intOf]; omega
    · obtain rfl : k = 60 := by omega
      go_wp2_with fail
      go_ret2
      refine ⟨_, rfl, ⟨w1.heap.size, heap_alloc_new _ _, ?_⟩, HB.out.alloc HB.out.size _⟩
      exact HV.alloc _ (H1.out.congr fun j hj => by unfold wK; rw [if_pos (by omega)])
end Go.Proofs.Ytkfmgjipocmkjaa
namespace Go.Proofs.Ytkfmgjipocmkjaa
open Go Go.RowKit
set_option linter.unusedVariables false
set_option linter.unusedSimpArgs false

/-- A text's chunk. -/
def chk (l : List Nat) (x : Nat) : List Nat := (l.drop (16 * x)).take 16
theorem chk_len (l : List Nat) (x : Nat) : (chk l x).length = min 16 (l.length - 16 * x) := by simp [chk]
theorem chk_get (l : List Nat) (x i : Nat) (hi : i < (chk l x).length) : (chk l x)[i] = l.getD (16 * x + i) 0 := by
  have h := hi
  rw [chk_len] at h
  have h2 : 16 * x + i < l.length := by omega
  simp [chk, h2]
/-- Chunk x under the stream's block j. -/
def bkX (E : (Nat → Nat) → Nat → Nat) (s : Nat → Nat) (l : List Nat) (j x : Nat) : List Nat := (List.range (chk l x).length).map fun i => l.getD (16 * x + i) 0 ^^^ E (cB s (j + 1)) i
theorem bkX_len (E : (Nat → Nat) → Nat → Nat) (s : Nat → Nat) (l : List Nat) (j x : Nat) : (bkX E s l j x).length = (chk l x).length := by simp [bkX]
/-- What has come out behind some chunks. -/
def outP (E : (Nat → Nat) → Nat → Nat) (s : Nat → Nat) (l : List Nat) (pre : List Nat) : List Nat := pre.zipIdx.flatMap fun p => bkX E s l p.2 p.1
theorem outP_nil (E : (Nat → Nat) → Nat → Nat) (s : Nat → Nat) (l : List Nat) : outP E s l [] = [] := rfl
theorem outP_snoc (E : (Nat → Nat) → Nat → Nat) (s : Nat → Nat) (l pre : List Nat) (x : Nat) : outP E s l (pre ++ [x]) = outP E s l pre ++ bkX E s l pre.length x := by
  unfold outP
  rw [List.zipIdx_append, List.flatMap_append]
  simp
theorem outP_len (E : (Nat → Nat) → Nat → Nat) (s : Nat → Nat) (l pre : List Nat) : (outP E s l pre).length ≤ 16 * pre.length := by
  have h : ∀ n, ((pre.zipIdx n).flatMap fun p => bkX E s l p.2 p.1).length ≤ 16 * pre.length := by
    induction pre with
    | nil => intro n; simp
    | cons x p ih =>
      intro n
      have := ih (n + 1)
      rw [List.zipIdx_cons, List.flatMap_cons, List.length_append, bkX_len, chk_len, List.length_cons]
      omega
  exact h 0
theorem crL_add (E : (Nat → Nat) → Nat → Nat) (s : Nat → Nat) (l : List Nat) (a b : Nat) : crL E s l (a + b) = crL E s l a ++ (List.range b).map fun i => l.getD (a + i) 0 ^^^ ksB E s (a + i) := by
  unfold crL
  rw [List.range_add, List.map_append, List.map_map]
  rfl
theorem outP_range (E : (Nat → Nat) → Nat → Nat) (s : Nat → Nat) (l : List Nat) (k : Nat) : outP E s l (List.range k) = crL E s l (min (16 * k) l.length) := by
  induction k with
  | zero => simp [outP_nil, crL]
  | succ k ih =>
    rw [List.range_succ, outP_snoc, ih, List.length_range]
    by_cases h : 16 * k < l.length
    · have hm : min (16 * k) l.length = 16 * k := by omega
      have hc := chk_len l k
      have e : min (16 * (k + 1)) l.length = 16 * k + (chk l k).length := by omega
      have hb : bkX E s l k k = (List.range (chk l k).length).map fun i => l.getD (16 * k + i) 0 ^^^ ksB E s (16 * k + i) := by
        unfold bkX ksB
        apply List.map_congr_left
        intro i hi
        have hi' : i < (chk l k).length := List.mem_range.mp hi
        have h1 : (16 * k + i) / 16 = k := by omega
        have h2 : (16 * k + i) % 16 = i := by omega
        rw [h1, h2]
      rw [hm, e, hb]
      exact (crL_add E s l (16 * k) (chk l k).length).symm
    · have hc := chk_len l k
      have h0 : (chk l k).length = 0 := by omega
      have e1 : min (16 * (k + 1)) l.length = l.length := by omega
      have e2 : min (16 * k) l.length = l.length := by omega
      have e3 : bkX E s l k k = [] := by unfold bkX; rw [h0]; rfl
      rw [e1, e2, e3, List.append_nil]
theorem outP_all (E : (Nat → Nat) → Nat → Nat) (s : Nat → Nat) (l : List Nat) : outP E s l (List.range ((l.length + 15) / 16)) = crL E s l l.length := by
  rw [outP_range]
  congr 1
  omega
theorem bkX_vb (E : (Nat → Nat) → Nat → Nat) (s : Nat → Nat) (l : List Nat) (hl : ∀ x ∈ l, x < 256) (j x : Nat) (hE : B16 (E (cB s (j + 1)))) : vb (orX (u8s (chk l x)) (byF (E (cB s (j + 1))) 0 (chk l x).length)) = vn (bkX E s l j x) := by
  have hlen : (orX (u8s (chk l x)) (byF (E (cB s (j + 1))) 0 (chk l x).length)).length = (chk l x).length := by simp [orX, u8s_len, byF_len]
  apply List.ext_getElem
  · simp only [vb, vn, List.length_map, hlen, bkX_len]
  · intro i h1 h2
    have hi : i < (chk l x).length := by simpa only [vb, List.length_map, hlen] using h1
    have h16 : i < 16 := by rw [chk_len] at hi; omega
    have hb := hE i h16
    have ha : l.getD (16 * x + i) 0 < 256 := by
      rw [← chk_get l x i hi]
      exact hl _ (List.mem_of_mem_drop (List.mem_of_mem_take (List.getElem_mem hi)))
    simp only [vb, vn, List.getElem_map, orX, List.getElem_zipWith, u8s, byF, bkX, List.getElem_range, chk_get l x i hi, Nat.zero_add]
    congr 2
    rw [UInt8.toNat_xor, UInt8.toNat_ofNat', UInt8.toNat_ofNat', Nat.mod_eq_of_lt ha, Nat.mod_eq_of_lt hb]
end Go.Proofs.Ytkfmgjipocmkjaa
