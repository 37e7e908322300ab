/-
  Several texts in one:
  Columns: sums spread, and what was mixed is unmixed. Plain mathematics on numbers.
  AES on numbers: states of sixteen bytes as functions, key words as a list, to encipher and to decipher, there and back. Plain mathematics, behind the field of 256.
  Arrays of sixteen bytes in memory; the document's round key, rows moved, columns taken.
  The code's steps on a state: a key added, each byte by a function, rows moved. (Printed by wip/gen/aesstate.py.)
  Arrays of four bytes, compared.
  Blocks of four bytes that a function makes, in a world that goes on.
  The bytes of a key's words by their recursion. Plain mathematics.
  What checks a block's encipherment by tables: a key's words, the states of the rounds. Plain.
  The code's sum over a text's blocks.
  The code's sum over a text's blocks: the loop. (Printed by wip/gen/ghover.py.)
  The code's product of two elements. (Printed by wip/gen/ghmulcode.py.)
-/
import Derived.Test.YtkfmgjipocmkjaaGalE
import Derived.Test.YtkfmgjipocmkjaaFoldA
import Derived.Test.YtkfmgjipocmkjaaGalD
import Derived.Test.YtkfmgjipocmkjaaFoldB
import Derived.StillTailTactics
import Derived.Deep.MidRow
import Derived.Laws.StructEq
import Derived.Deep.RegionHeld3
import Derived.Deep.DeepCutAuto
import Derived.Test.YtkfmgjipocmkjaaGhU
import Derived.Test.YtkfmgjipocmkjaaFoldC
namespace Go.Proofs.Ytkfmgjipocmkjaa

theorem dotp_add (f c d : Nat → Nat) (n : Nat) : dotp f (fun j => c j ^^^ d j) n = dotp f c n ^^^ dotp f d n := by
  induction n with
  | zero => simp [dotp]
  | succ n ih =>
    simp only [dotp, ih, gm_add_r]
    exact xor4 _ _ _ _
theorem mixd_add (m c d : Nat → Nat) (j : Nat) : mixd m (fun j => c j ^^^ d j) j = mixd m c j ^^^ mixd m d j := dotp_add _ c d 4

theorem dotp4 (f c : Nat → Nat) : dotp f c 4 = gm (f 0) (c 0) ^^^ gm (f 1) (c 1) ^^^ gm (f 2) (c 2) ^^^ gm (f 3) (c 3) := by
  simp [dotp]

theorem sums2 (a b c d e f g h : Nat) : (a ^^^ b ^^^ c ^^^ d) ^^^ (e ^^^ f ^^^ g ^^^ h) = (a ^^^ e) ^^^ (b ^^^ f) ^^^ (c ^^^ g) ^^^ (d ^^^ h) := by
  rw [xor4 (a ^^^ b ^^^ c) d (e ^^^ f ^^^ g) h, xor4 (a ^^^ b) c (e ^^^ f) g, xor4 a b e f]
theorem sums4 (a b c d e f g h i j k l m n o p : Nat) :
    (a ^^^ b ^^^ c ^^^ d) ^^^ (e ^^^ f ^^^ g ^^^ h) ^^^ (i ^^^ j ^^^ k ^^^ l) ^^^ (m ^^^ n ^^^ o ^^^ p) =
    (a ^^^ e ^^^ i ^^^ m) ^^^ (b ^^^ f ^^^ j ^^^ n) ^^^ (c ^^^ g ^^^ k ^^^ o) ^^^ (d ^^^ h ^^^ l ^^^ p) := by
  rw [sums2 a b c d e f g h, sums2 (a ^^^ e) (b ^^^ f) (c ^^^ g) (d ^^^ h) i j k l, sums2 (a ^^^ e ^^^ i) (b ^^^ f ^^^ j) (c ^^^ g ^^^ k) (d ^^^ h ^^^ l) m n o p]

/-- A column of rows, of a column of rows. -/
theorem rows_rows (f : Nat → Nat) (m c : Nat → Nat) (hm : ∀ n, n < 16 → m n < 256) (hc : ∀ q, q < 4 → c q < 256) :
    dotp f (mixd m c) 4 = dotp (fun r => gm (f 0) (m r) ^^^ gm (f 1) (m (4 + r)) ^^^ gm (f 2) (m (8 + r)) ^^^ gm (f 3) (m (12 + r))) c 4 := by
  have as4 (a b k : Nat) (hb : b < 16) (hk : k < 4) : gm a (gm (m b) (c k)) = gm (gm a (m b)) (c k) := (gm_assoc _ _ _ (hm b hb) (hc k hk)).symm
  rw [dotp4, dotp4]
  simp only [mixd, dotp4, gm_add_r, gm_add_l, Nat.mul_zero, Nat.zero_add, Nat.reduceMul, Nat.reduceAdd, Nat.add_zero]
  simp only [as4 _ _ _ (show 0 < 16 by omega) (show 0 < 4 by omega), as4 _ _ _ (show 1 < 16 by omega) (show 1 < 4 by omega), as4 _ _ _ (show 2 < 16 by omega) (show 2 < 4 by omega), as4 _ _ _ (show 3 < 16 by omega) (show 3 < 4 by omega),
    as4 _ _ _ (show 4 < 16 by omega) (show 0 < 4 by omega), as4 _ _ _ (show 5 < 16 by omega) (show 1 < 4 by omega), as4 _ _ _ (show 6 < 16 by omega) (show 2 < 4 by omega), as4 _ _ _ (show 7 < 16 by omega) (show 3 < 4 by omega),
    as4 _ _ _ (show 8 < 16 by omega) (show 0 < 4 by omega), as4 _ _ _ (show 9 < 16 by omega) (show 1 < 4 by omega), as4 _ _ _ (show 10 < 16 by omega) (show 2 < 4 by omega), as4 _ _ _ (show 11 < 16 by omega) (show 3 < 4 by omega),
    as4 _ _ _ (show 12 < 16 by omega) (show 0 < 4 by omega), as4 _ _ _ (show 13 < 16 by omega) (show 1 < 4 by omega), as4 _ _ _ (show 14 < 16 by omega) (show 2 < 4 by omega), as4 _ _ _ (show 15 < 16 by omega) (show 3 < 4 by omega)]
  exact sums4 _ _ _ _ _ _ _ _ _ _ _ _ _ _ _ _

theorem dotp_one (c : Nat → Nat) (k : Nat) (hk : k < 4) (hc : ∀ q, q < 4 → c q < 256) : dotp (fun r => if r = k then 1 else 0) c 4 = c k := by
  have g1 (q : Nat) (h : q < 4) : gm 1 (c q) = c q := by rw [gm_comm 1 _ (by omega) (hc q h), gm_one _ (hc q h)]
  rw [dotp4]
  rcases k with _ | _ | _ | _ | k
  · simp [gm_nought_l, g1 0]
  · simp [gm_nought_l, g1 1]
  · simp [gm_nought_l, g1 2]
  · simp [gm_nought_l, g1 3]
  · omega

theorem unmix_mix (c : Nat → Nat) (hc : ∀ q, q < 4 → c q < 256) (j : Nat) (hj : j < 4) : mixd unmixR (mixd mixR c) j = c j := by
  rw [mixd, rows_rows _ _ _ mixR_lt hc, ← dotp_one c j hj hc]
  refine dotp_congr _ _ _ _ fun q hq => ?_
  have : ∀ j : Fin 4, ∀ q : Fin 4, gm (unmixR (4 * j + 0)) (mixR q) ^^^ gm (unmixR (4 * j + 1)) (mixR (4 + q)) ^^^ gm (unmixR (4 * j + 2)) (mixR (8 + q)) ^^^ gm (unmixR (4 * j + 3)) (mixR (12 + q)) = if q = j then 1 else 0 := by decide +kernel
  have := this ⟨j, hj⟩ ⟨q, hq⟩
  simpa [Fin.ext_iff] using this
theorem mix_unmix (c : Nat → Nat) (hc : ∀ q, q < 4 → c q < 256) (j : Nat) (hj : j < 4) : mixd mixR (mixd unmixR c) j = c j := by
  rw [mixd, rows_rows _ _ _ unmixR_lt hc, ← dotp_one c j hj hc]
  refine dotp_congr _ _ _ _ fun q hq => ?_
  have : ∀ j : Fin 4, ∀ q : Fin 4, gm (mixR (4 * j + 0)) (unmixR q) ^^^ gm (mixR (4 * j + 1)) (unmixR (4 + q)) ^^^ gm (mixR (4 * j + 2)) (unmixR (8 + q)) ^^^ gm (mixR (4 * j + 3)) (unmixR (12 + q)) = if q = j then 1 else 0 := by decide +kernel
  have := this ⟨j, hj⟩ ⟨q, hq⟩
  simpa [Fin.ext_iff] using this

/-- The sum of two columns, as far as k. -/
def addD (c d : Nat → Nat) (k j : Nat) : Nat := if j < k then c j ^^^ d j else 0
theorem addD_next (c d : Nat → Nat) (k : Nat) : addD c d (k + 1) k = c k ^^^ d k := by simp [addD]
theorem addD_far (c d : Nat → Nat) (k j : Nat) (h : j ≠ k) : addD c d (k + 1) j = addD c d k j := by
  unfold addD
  by_cases h' : j < k
  · rw [if_pos h', if_pos (by omega)]
  · rw [if_neg h', if_neg (by omega)]
theorem addD_lt (c d : Nat → Nat) (hc : ∀ q, q < 4 → c q < 256) (hd : ∀ q, q < 4 → d q < 256) (k j : Nat) (hj : j < 4) : addD c d k j < 256 := by
  unfold addD
  split
  · exact Nat.xor_lt_two_pow (n := 8) (hc j hj) (hd j hj)
  · omega
theorem mixd_sum (m c d : Nat → Nat) (j : Nat) : mixd m (addD c d 4) j = mixd m c j ^^^ mixd m d j := by
  rw [← mixd_add]
  simp [mixd, dotp, addD]
end Go.Proofs.Ytkfmgjipocmkjaa
namespace Go.Proofs.Ytkfmgjipocmkjaa

/-- Each byte by a table. -/
def sMap (t : Nat → Nat) (f : Nat → Nat) (i : Nat) : Nat := t (f i)
/-- Of row p each byte so many columns to the left. -/
def sMov (y : Nat → Nat) (f : Nat → Nat) (i : Nat) : Nat := f (4 * ((i / 4 + y (i % 4)) % 4) + i % 4)
/-- Each column by rows. -/
def sMix (m : Nat → Nat) (f : Nat → Nat) (i : Nat) : Nat := mixd m (fun q => f (4 * (i / 4) + q)) (i % 4)
def sAdd (f k : Nat → Nat) (i : Nat) : Nat := f i ^^^ k i
/-- The round key j. -/
def rk (w : Nat → Nat) (j i : Nat) : Nat := w (16 * j + i)
def up (p : Nat) : Nat := p
def dn (p : Nat) : Nat := (4 - p) % 4

theorem sMap_eq {f g : Nat → Nat} (t : Nat → Nat) (h : E16 f g) : E16 (sMap t f) (sMap t g) := fun i hi => by unfold sMap; rw [h i hi]
theorem sMov_eq {f g : Nat → Nat} (y : Nat → Nat) (h : E16 f g) : E16 (sMov y f) (sMov y g) := fun i hi => h _ (by omega)
theorem sMix_eq {f g : Nat → Nat} (m : Nat → Nat) (h : E16 f g) : E16 (sMix m f) (sMix m g) := fun i hi => by
  unfold sMix mixd
  rw [dotp4, dotp4, h _ (by omega), h _ (by omega), h _ (by omega), h _ (by omega)]
theorem sAdd_eq {f g : Nat → Nat} (k : Nat → Nat) (h : E16 f g) : E16 (sAdd f k) (sAdd g k) := fun i hi => by unfold sAdd; rw [h i hi]
theorem sMap_lt {f : Nat → Nat} (t : Nat → Nat) (ht : ∀ a, a < 256 → t a < 256) (h : B16 f) : B16 (sMap t f) := fun i hi => ht _ (h i hi)
theorem sMov_lt {f : Nat → Nat} (y : Nat → Nat) (h : B16 f) : B16 (sMov y f) := fun i hi => h _ (by omega)
theorem sMix_lt {f : Nat → Nat} (m : Nat → Nat) (h : B16 f) : B16 (sMix m f) := fun i hi => mixd_lt _ _ (fun q hq => h _ (by omega)) _
theorem sAdd_lt {f k : Nat → Nat} (h : B16 f) (hk : B16 k) : B16 (sAdd f k) := fun i hi => Nat.xor_lt_two_pow (n := 8) (h i hi) (hk i hi)

theorem sAdd_back (f k : Nat → Nat) : E16 (sAdd (sAdd f k) k) f := fun i _ => by unfold sAdd; rw [Nat.xor_assoc, Nat.xor_self, Nat.xor_zero]
theorem sMov_back (f : Nat → Nat) : E16 (sMov dn (sMov up f)) f := fun i hi => by
  unfold sMov up dn
  congr 1
  omega
theorem sMov_forth (f : Nat → Nat) : E16 (sMov up (sMov dn f)) f := fun i hi => by
  unfold sMov up dn
  congr 1
  omega
theorem col_of (m : Nat → Nat) (f : Nat → Nat) (i q : Nat) (hq : q < 4) : sMix m f (4 * (i / 4) + q) = mixd m (fun q => f (4 * (i / 4) + q)) q := by
  unfold sMix
  rw [show (4 * (i / 4) + q) / 4 = i / 4 from by omega, show (4 * (i / 4) + q) % 4 = q from by omega]
theorem mixd_eq (m c d : Nat → Nat) (h : ∀ q, q < 4 → c q = d q) (j : Nat) : mixd m c j = mixd m d j := by
  unfold mixd
  rw [dotp4, dotp4, h 0 (by omega), h 1 (by omega), h 2 (by omega), h 3 (by omega)]
theorem sMix_back (f : Nat → Nat) (h : B16 f) : E16 (sMix unmixR (sMix mixR f)) f := fun i hi => by
  show mixd unmixR (fun q => sMix mixR f (4 * (i / 4) + q)) (i % 4) = f i
  rw [mixd_eq _ _ _ (fun q hq => col_of mixR f i q hq), unmix_mix _ (fun q hq => h _ (by omega)) _ (by omega)]
  congr 1
  omega
theorem sMix_forth (f : Nat → Nat) (h : B16 f) : E16 (sMix mixR (sMix unmixR f)) f := fun i hi => by
  show mixd mixR (fun q => sMix unmixR f (4 * (i / 4) + q)) (i % 4) = f i
  rw [mixd_eq _ _ _ (fun q hq => col_of unmixR f i q hq), mix_unmix _ (fun q hq => h _ (by omega)) _ (by omega)]
  congr 1
  omega
theorem sMap_back (f : Nat → Nat) (h : B16 f) : E16 (sMap gb (sMap gs f)) f := fun i hi => gb_gs _ (h i hi)
theorem sMap_forth (f : Nat → Nat) (h : B16 f) : E16 (sMap gs (sMap gb f)) f := fun i hi => gs_gb _ (h i hi)

/-- A round forth, the key last: 'last' has no columns mixed. -/
def eRnd (w : Nat → Nat) (r j : Nat) (f : Nat → Nat) : Nat → Nat :=
  sAdd (if j < r then sMix mixR (sMov up (sMap gs f)) else sMov up (sMap gs f)) (rk w j)
/-- A round back. -/
def dRnd (w : Nat → Nat) (r j : Nat) (f : Nat → Nat) : Nat → Nat :=
  sMap gb (sMov dn (if j < r then sMix unmixR (sAdd f (rk w j)) else sAdd f (rk w j)))
/-- Enciphered, n rounds. -/
def eN (w : Nat → Nat) (r : Nat) (b : Nat → Nat) : Nat → Nat → Nat
  | 0 => sAdd b (rk w 0)
  | n + 1 => eRnd w r (n + 1) (eN w r b n)
/-- Deciphered, n rounds from the last one on. -/
def dN (w : Nat → Nat) (r : Nat) (b : Nat → Nat) : Nat → Nat → Nat
  | 0 => b
  | n + 1 => dRnd w r (r - n) (dN w r b n)
def enc (w : Nat → Nat) (r : Nat) (b : Nat → Nat) : Nat → Nat := eN w r b r
def dec (w : Nat → Nat) (r : Nat) (b : Nat → Nat) : Nat → Nat := sAdd (dN w r b r) (rk w 0)

def BK (w : Nat → Nat) (r : Nat) : Prop := ∀ j, j ≤ r → B16 (rk w j)
theorem eRnd_eq {f g : Nat → Nat} (w : Nat → Nat) (r j : Nat) (h : E16 f g) : E16 (eRnd w r j f) (eRnd w r j g) := by
  unfold eRnd
  refine sAdd_eq _ ?_
  split
  · exact sMix_eq _ (sMov_eq _ (sMap_eq _ h))
  · exact sMov_eq _ (sMap_eq _ h)
theorem dRnd_eq {f g : Nat → Nat} (w : Nat → Nat) (r j : Nat) (h : E16 f g) : E16 (dRnd w r j f) (dRnd w r j g) := by
  unfold dRnd
  refine sMap_eq _ (sMov_eq _ ?_)
  split
  · exact sMix_eq _ (sAdd_eq _ h)
  · exact sAdd_eq _ h
theorem eRnd_lt {f : Nat → Nat} (w : Nat → Nat) (r j : Nat) (h : B16 f) (hk : B16 (rk w j)) : B16 (eRnd w r j f) := by
  unfold eRnd
  refine sAdd_lt ?_ hk
  split
  · exact sMix_lt _ (sMov_lt _ (sMap_lt _ gs_lt h))
  · exact sMov_lt _ (sMap_lt _ gs_lt h)
theorem dRnd_lt {f : Nat → Nat} (w : Nat → Nat) (r j : Nat) (h : B16 f) (hk : B16 (rk w j)) : B16 (dRnd w r j f) := by
  unfold dRnd
  refine sMap_lt _ gb_lt (sMov_lt _ ?_)
  split
  · exact sMix_lt _ (sAdd_lt h hk)
  · exact sAdd_lt h hk
theorem dRnd_eRnd (w : Nat → Nat) (r j : Nat) (f : Nat → Nat) (h : B16 f) : E16 (dRnd w r j (eRnd w r j f)) f := by
  have h1 := sMap_lt _ gs_lt h
  unfold dRnd eRnd
  by_cases hj : j < r
  · simp only [hj, if_true]
    refine (sMap_eq _ (sMov_eq _ ((sMix_eq _ (sAdd_back _ _)).trans (sMix_back _ (sMov_lt _ h1))))).trans ?_
    exact (sMap_eq _ (sMov_back _)).trans (sMap_back f h)
  · simp only [hj, if_false]
    refine (sMap_eq _ (sMov_eq _ (sAdd_back _ _))).trans ?_
    exact (sMap_eq _ (sMov_back _)).trans (sMap_back f h)
theorem eRnd_dRnd (w : Nat → Nat) (r j : Nat) (f : Nat → Nat) (h : B16 f) (hk : B16 (rk w j)) : E16 (eRnd w r j (dRnd w r j f)) f := by
  have h1 := sAdd_lt h hk
  unfold dRnd eRnd
  by_cases hj : j < r
  · simp only [hj, if_true]
    refine (sAdd_eq _ (sMix_eq _ (sMov_eq _ (sMap_forth _ (sMov_lt _ (sMix_lt _ h1)))))).trans ?_
    refine (sAdd_eq _ (sMix_eq _ (sMov_forth _))).trans ?_
    exact (sAdd_eq _ (sMix_forth _ h1)).trans (sAdd_back _ _)
  · simp only [hj, if_false]
    refine (sAdd_eq _ (sMov_eq _ (sMap_forth _ (sMov_lt _ h1)))).trans ?_
    exact (sAdd_eq _ (sMov_forth _)).trans (sAdd_back _ _)

theorem eN_lt (w : Nat → Nat) (r : Nat) (b : Nat → Nat) (hb : B16 b) (hk : BK w r) (n : Nat) (hn : n ≤ r) : B16 (eN w r b n) := by
  induction n with
  | zero => exact sAdd_lt hb (hk 0 (by omega))
  | succ n ih => exact eRnd_lt w r _ (ih (by omega)) (hk _ hn)
theorem dN_lt (w : Nat → Nat) (r : Nat) (b : Nat → Nat) (hb : B16 b) (hk : BK w r) (n : Nat) (hn : n ≤ r) : B16 (dN w r b n) := by
  induction n with
  | zero => exact hb
  | succ n ih => exact dRnd_lt w r _ (ih (by omega)) (hk _ (by omega))
theorem enc_lt (w : Nat → Nat) (r : Nat) (b : Nat → Nat) (hb : B16 b) (hk : BK w r) : B16 (enc w r b) := eN_lt w r b hb hk r (Nat.le_refl r)
theorem dec_lt (w : Nat → Nat) (r : Nat) (b : Nat → Nat) (hb : B16 b) (hk : BK w r) : B16 (dec w r b) := sAdd_lt (dN_lt w r b hb hk r (Nat.le_refl r)) (hk 0 (by omega))
theorem eN_eq {b d : Nat → Nat} (w : Nat → Nat) (r : Nat) (h : E16 b d) (n : Nat) : E16 (eN w r b n) (eN w r d n) := by
  induction n with
  | zero => exact sAdd_eq _ h
  | succ n ih => exact eRnd_eq _ _ _ ih
theorem dN_eq {b d : Nat → Nat} (w : Nat → Nat) (r : Nat) (h : E16 b d) (n : Nat) : E16 (dN w r b n) (dN w r d n) := by
  induction n with
  | zero => exact h
  | succ n ih => exact dRnd_eq _ _ _ ih
theorem enc_eq {b d : Nat → Nat} (w : Nat → Nat) (r : Nat) (h : E16 b d) : E16 (enc w r b) (enc w r d) := eN_eq w r h r
theorem dec_eq {b d : Nat → Nat} (w : Nat → Nat) (r : Nat) (h : E16 b d) : E16 (dec w r b) (dec w r d) := sAdd_eq _ (dN_eq w r h r)

/-- What was enciphered is deciphered to what it was. -/
theorem dec_enc (w : Nat → Nat) (r : Nat) (b : Nat → Nat) (hb : B16 b) (hk : BK w r) : E16 (dec w r (enc w r b)) b := by
  have key : ∀ n, n ≤ r → E16 (dN w r (enc w r b) n) (eN w r b (r - n)) := by
    intro n
    induction n with
    | zero => intro _; exact E16.refl _
    | succ n ih =>
      intro hn
      have h1 := ih (by omega)
      rw [show r - n = (r - (n + 1)) + 1 from by omega] at h1
      show E16 (dRnd w r (r - n) (dN w r (enc w r b) n)) _
      rw [show r - n = (r - (n + 1)) + 1 from by omega]
      exact (dRnd_eq _ _ _ h1).trans (dRnd_eRnd w r _ _ (eN_lt w r b hb hk _ (by omega)))
  have h := key r (Nat.le_refl r)
  rw [Nat.sub_self] at h
  exact (sAdd_eq _ h).trans (sAdd_back _ _)
/-- What was deciphered is enciphered to what it was. -/
theorem enc_dec (w : Nat → Nat) (r : Nat) (b : Nat → Nat) (hb : B16 b) (hk : BK w r) : E16 (enc w r (dec w r b)) b := by
  have key : ∀ n, n ≤ r → E16 (eN w r (dec w r b) n) (dN w r b (r - n)) := by
    intro n
    induction n with
    | zero => intro _; exact sAdd_back _ _
    | succ n ih =>
      intro hn
      have h1 := ih (by omega)
      rw [show r - n = (r - (n + 1)) + 1 from by omega] at h1
      refine (eRnd_eq _ _ _ h1).trans ?_
      show E16 (eRnd w r (n + 1) (dRnd w r (r - (r - (n + 1))) (dN w r b (r - (n + 1))))) _
      rw [show r - (r - (n + 1)) = n + 1 from by omega]
      exact eRnd_dRnd w r _ _ (dN_lt w r b hb hk _ (by omega)) (hk _ hn)
  have h := key r (Nat.le_refl r)
  rw [Nat.sub_self] at h
  exact h

/- The words of a key, as bytes one behind the other. -/
/-- What the word ahead becomes. -/
def kT (k i : Nat) (t : Nat → Nat) (p : Nat) : Nat :=
  if i % k = 0 then (if p = 0 then gs (t ((p + 1) % 4)) ^^^ gp 2 (i / k - 1) else gs (t ((p + 1) % 4)))
  else if k = 8 ∧ i % 8 = 4 then gs (t p) else t p
/-- The word i behind those ahead. -/
def kW (k i : Nat) (w : List Nat) (p : Nat) : Nat := kT k i (fun p => w.getD (4 * (i - 1) + p) 0) p ^^^ w.getD (4 * (i - k) + p) 0
def kX (k : Nat) (key : List Nat) : Nat → List Nat
  | 0 => key
  | n + 1 => kX k key n ++ [kW k (k + n) (kX k key n) 0, kW k (k + n) (kX k key n) 1, kW k (k + n) (kX k key n) 2, kW k (k + n) (kX k key n) 3]
/-- All of them. -/
def kAll (key : List Nat) : List Nat := kX (key.length / 4) key (3 * (key.length / 4) + 28)
theorem kX_len (k : Nat) (key : List Nat) (n : Nat) : (kX k key n).length = key.length + 4 * n := by
  induction n with
  | zero => rfl
  | succ n ih => rw [kX, List.length_append, ih]; simp; omega
theorem getD_lt (l : List Nat) (h : ∀ x ∈ l, x < 256) (i : Nat) : l.getD i 0 < 256 := by
  rw [List.getD_eq_getElem?_getD]
  cases hl : l[i]? with
  | none => simp
  | some x => simpa using h x (List.mem_of_getElem? hl)
theorem kT_lt (k i : Nat) (t : Nat → Nat) (ht : ∀ p, t p < 256) (p : Nat) : kT k i t p < 256 := by
  unfold kT
  split
  · split
    · exact Nat.xor_lt_two_pow (n := 8) (gs_lt _ (ht _)) (gp_lt 2 _ (by omega))
    · exact gs_lt _ (ht _)
  · split
    · exact gs_lt _ (ht _)
    · exact ht _
theorem kW_lt (k i : Nat) (w : List Nat) (h : ∀ x ∈ w, x < 256) (p : Nat) : kW k i w p < 256 :=
  Nat.xor_lt_two_pow (n := 8) (kT_lt k i _ (fun _ => getD_lt w h _) p) (getD_lt w h _)
theorem kX_lt (k : Nat) (key : List Nat) (h : ∀ x ∈ key, x < 256) (n : Nat) : ∀ x ∈ kX k key n, x < 256 := by
  induction n with
  | zero => exact h
  | succ n ih =>
    intro x hx
    rw [kX, List.mem_append] at hx
    rcases hx with hx | hx
    · exact ih x hx
    · simp only [List.mem_cons, List.not_mem_nil, or_false] at hx
      rcases hx with rfl | rfl | rfl | rfl <;> exact kW_lt _ _ _ ih _
/-- The bytes of a key's words, by their place. -/
def kF (key : List Nat) (i : Nat) : Nat := (kAll key).getD i 0
theorem kF_lt (key : List Nat) (h : ∀ x ∈ key, x < 256) (i : Nat) : kF key i < 256 := getD_lt _ (kX_lt _ _ h _) i
theorem kF_bk (key : List Nat) (h : ∀ x ∈ key, x < 256) (r : Nat) : BK (kF key) r := fun _ _ _ _ => kF_lt key h _
end Go.Proofs.Ytkfmgjipocmkjaa
namespace Go.Proofs.Ytkfmgjipocmkjaa
open Go Go.RowKit
set_option linter.unusedVariables false
set_option linter.unusedSimpArgs false

theorem addK_end (f g : Nat → Nat) : E16 (addK f g 16) (sAdd f g) := fun i hi => by simp [addK, sAdd, hi]

set_option maxRecDepth 100000 in
set_option maxHeartbeats 1000000 in
theorem radd_any (f : Nat → Nat) (A : Option Addr) (l : List Nat) (n cap j : Nat) (w : World) (hf : B16 f) (hl : ∀ x ∈ l, x < 256) (hn : l.length = n) (hj : 16 * j + 16 ≤ n) (hm : n ≤ 1000) (h : Rd w w.heap.size A (vn l)) :
    Calls Try.prog 55 #[.agg (aN 16 f), .slice A n cap, .int .i64 (j : Int)] w fun e w' => e = .returned (.agg (aN 16 (sAdd f (rk (fun i => l.getD i 0) j)))) ∧ Below w.heap.size w w' := by
  have HF := Lib.hid hf; clear hf
  have HL := Lib.hid hl; clear hl
  have HN := Lib.hid hn; clear hn
  go_enter Try.func55, Try.ntmps55
  go_wp2_with fail
  go_loopw [7] (fun i wr => ∃ k : Nat, k ≤ 16 ∧ i = .int .i64 k ∧ Hid (H16 wr w.heap.size (addK f (rk (fun i => l.getD i 0) j) k)) ∧ Hid (H16 wr (w.heap.size + 1) fun _ => 0) ∧ Hid (Below w.heap.size w wr)) (fun i _ => 16 - (intOf i).toNat)
  case atStart =>
    refine ⟨0, by omega, rfl, Lib.hid ?_, Lib.hid ?_, Lib.hid (((Below.refl _ _).alloc (Nat.le_refl _) _).alloc (by simp) _)⟩
    · exact H16.alloc _ ((H16.newAt rfl).congr fun i _ => by simp [addK])
    · exact H16.newAt (w := w.alloc (.cells (aN 16 f) 35)) (b := w.heap.size + 1) (f := fun _ => 0) (by rw [World.size_alloc])
  case round =>
    obtain ⟨k, hk, rfl, H0, H1, HB⟩ := hrel
    by_cases hlt : k < 16
    · have hk16 : (k : Int) < 16 := by omega
      have hk0 : (0 : Int) ≤ (k : Int) := by omega
      have hlen : 16 * j + k < l.length := by have := HN.out; omega
      obtain ⟨ad, rfl, hbd, hck⟩ := (h.below HB.out).num hlen
      have c0 := H0.out.cell k hlt
      have f0 := H0.out.free k
      have lb := getD_lt l HL.out (16 * j + k)
      have e0 : addK f (rk (fun i => l.getD i 0) j) k k = f k := by simp [addK]
      rw [e0] at c0
      have la := HF.out k hlt
      obtain ⟨v, hv⟩ : ∃ v, v = l.getD (16 * j + k) 0 := ⟨_, rfl⟩
      rw [← hv] at hck lb
      have hx : bits .xor .u8 (f k : Int) (v : Int) = ((addK f (rk (fun i => l.getD i 0) j) (k + 1) k : Nat) : Int) := by
        rw [nbits_xor _ _ la lb, hv]; simp [addK, rk]
      clear hv
      have s1 : IntKind.i64.wrap (16 * (j : Int)) = 16 * (j : Int) := IntWalk.i64_in _ (by omega)
      have s2 : IntKind.i64.wrap (16 * (j : Int) + (k : Int)) = 16 * (j : Int) + (k : Int) := IntWalk.i64_in _ (by omega)
      have s3 : (16 * (j : Int) + (k : Int)).toNat = 16 * j + k := by omega
      have s4 : 16 * (j : Int) + (k : Int) < (n : Int) := by omega
      have s5 : (0 : Int) ≤ 16 * (j : Int) + (k : Int) := by omega
      go_wp2_with fail
      go_still_tail 13, (by kernel_rfl)
      change wpList _ _ _ _ _ wr.drew
      have c0' : wr.drew.cell? ⟨w.heap.size, k, none⟩ = some (.int .u8 (f k : Int)) := c0
      have f0' : wr.drew.frozen? ⟨w.heap.size, k, none⟩ = false := f0
      have H0' : Hid (H16 wr.drew w.heap.size (addK f (rk (fun i => l.getD i 0) j) k)) := Lib.hid H0.out
      have H1' : Hid (H16 wr.drew (w.heap.size + 1) fun _ => 0) := Lib.hid H1.out
      have HB' : Hid (Below w.heap.size w wr.drew) := Lib.hid HB.out.drew
      clear H0 H1 HB c0 f0 hck s1 s2 s3 s4 s5
      generalize wr.drew = w2 at *
      go_wp2_with fail
      go_roundw
      case rel =>
        refine ⟨k + 1, by omega, by go_num, Lib.hid ?_, Lib.hid ?_, Lib.hid (HB'.out.setCell (by simp) _)⟩
        · exact H0'.out.set k _ hlt rfl fun i hi hik => by
            unfold addK
            by_cases h1 : i < k
            · rw [if_pos h1, if_pos (by omega)]
            · rw [if_neg h1, if_neg (by omega)]
        · exact H1'.out.other _ (by simp) _
      case measure => simp [intOf]; omega
    · obtain rfl : k = 16 := by omega
      have d0 : wr.heap[w.heap.size]? = some (.cells (aN 16 (sAdd f (rk (fun i => l.getD i 0) j))) 35 (0, 0)) := H0.out.congr (addK_end _ _)
      have d1 : wr.heap[w.heap.size + 1]? = some (.cells (aN 16 fun _ => 0) 35 (0, 0)) := H1.out
      go_wp2_with (first
        | (refine wpList_load_row rfl 35 (.tmp 3) rfl w.heap.size rfl 35 _ (0, 0) (.array 16 5) d0 Try.underlying35 rfl (by rw [aN_size]; kernel_rfl) ?_)
        | (refine wpList_store_row rfl 35 (.tmp 6) (.tmp 25) rfl (w.heap.size + 1) (aN 16 (sAdd f (rk (fun i => l.getD i 0) j))) rfl rfl 35 _ d1 (by rw [aN_size]; kernel_rfl) (by rw [aN_size, aN_size]) (aN_one _ _) ?_))
      refine bodyPost_ret (v := .agg (aN 16 (sAdd f (rk (fun i => l.getD i 0) j)))) (results_cell_row (p := 6) (ty := 35) (by kernel_rfl) _ _ (w.heap.size + 1) 35 (aN 16 (sAdd f (rk (fun i => l.getD i 0) j))) (0, 0) (.array 16 5) rfl ?_ Try.underlying35 rfl (by rw [aN_size]; kernel_rfl)) rfl ⟨rfl, ?_⟩
      · exact setRow_heap _ _ _ _ _ _ d1
      · exact below_setRow HB.out _ (by omega) _
end Go.Proofs.Ytkfmgjipocmkjaa
namespace Go.Proofs.Ytkfmgjipocmkjaa
open Go Go.RowKit
set_option linter.unusedVariables false
set_option linter.unusedSimpArgs false

/-- Block b holds sixteen bytes, as type t. -/
def HT (t : TypeId) (w : World) (b : Nat) (f : Nat → Nat) : Prop := w.heap[b]? = some (.cells (aN 16 f) t (0, 0))
section
variable {t : TypeId} {w w' : World} {b g : Nat} {f z : Nat → Nat}
theorem HT.lt (h : HT t w b f) : b < w.heap.size := (Array.getElem?_eq_some_iff.1 h).1
theorem HT.cell (h : HT t w b f) (k : Nat) (hk : k < 16) : w.cell? ⟨b, k, none⟩ = some (.int .u8 (f k : Int)) := by
  rw [cell_of_row _ _ _ _ _ _ h]; exact aN_get 16 f k hk
theorem HT.free (h : HT t w b f) (k : Nat) : w.frozen? ⟨b, k, none⟩ = false := frozen_of_row _ _ _ _ _ h
theorem HT.below {B : Nat} (hb : Below B w w') (h : HT t w b f) (hB : b < B) : HT t w' b f := (hb.block b hB).trans h
theorem HT.call (hb : Below w.heap.size w w') (h : HT t w b f) : HT t w' b f := h.below hb h.lt
theorem HT.alloc (o : Obj) (h : HT t w b f) : HT t (w.alloc o) b f := (heap_alloc_old w o h.lt).trans h
theorem HT.newAt (h : b = w.heap.size) : HT t (w.alloc (.cells (aN 16 f) t)) b f := h ▸ heap_alloc_new w _
theorem HT.other (h : HT t w b f) (a : Addr) (hg : b ≠ a.block) (v : Value) : HT t (w.setCell a v) b f := (heap_setCell_other _ _ _ _ hg).trans h
theorem HT.set (h : HT t w b f) (k v : Nat) (hk : k < 16) (hv : z k = v) (ho : ∀ j, j < 16 → j ≠ k → z j = f j) : HT t (w.setCell ⟨b, k, none⟩ (.int .u8 (v : Int))) b z := by
  unfold HT
  rw [heap_setCell_same _ _ _ _ _ _ h, aN_set 16 f z k v hk hv ho]
theorem HT.row (h : HT t w b f) : HT t (w.setRow b (aN 16 z)) b z := setRow_heap _ _ _ _ _ _ h
theorem HT.rowOther (h : HT t w b f) (hg : b ≠ g) (cs : Array Value) : HT t (w.setRow g cs) b f := (setRow_other _ _ _ _ hg).trans h
theorem HT.congr (h : HT t w b f) (e : E16 f z) : HT t w b z := by
  unfold HT at *
  rw [h, aN_congr e]
theorem HT.drew (h : HT t w b f) : HT t w.drew b f := h
end

/-- The first k bytes by a table. -/
def mapK (t f : Nat → Nat) (k i : Nat) : Nat := if i < k then t (f i) else f i
theorem mapK_end (t f : Nat → Nat) : E16 (mapK t f 16) (sMap t f) := fun i hi => by simp [mapK, sMap, hi]

set_option maxRecDepth 100000 in
set_option maxHeartbeats 1000000 in
theorem plus_any (f g : Nat → Nat) (w : World) (hf : B16 f) (hg : B16 g) :
    Calls Try.prog 38 #[.agg (aN 16 f), .agg (aN 16 g)] w fun e w' => e = .returned (.agg (aN 16 (sAdd f g))) ∧ Below w.heap.size w w' := by
  have HF := Lib.hid hf; clear hf
  have HG := Lib.hid hg; clear hg
  go_enter Try.func38, Try.ntmps38
  go_wp2_with fail
  go_loopw [6] (fun i wr => ∃ k : Nat, k ≤ 16 ∧ i = .int .i64 k ∧ Hid (HT 66 wr w.heap.size (addK f g k)) ∧ Hid (HT 66 wr (w.heap.size + 1) g) ∧ Hid (HT 66 wr (w.heap.size + 1 + 1) fun _ => 0) ∧ Hid (Below w.heap.size w wr)) (fun i _ => 16 - (intOf i).toNat)
  case atStart =>
    refine ⟨0, by omega, rfl, Lib.hid ?_, Lib.hid ?_, Lib.hid ?_, Lib.hid ((((Below.refl _ _).alloc (Nat.le_refl _) _).alloc (by simp) _).alloc (by simp; omega) _)⟩
    · exact HT.alloc _ (HT.alloc _ ((HT.newAt rfl).congr fun i _ => by simp [addK]))
    · refine HT.alloc _ ?_
      exact HT.newAt (w := w.alloc (.cells (aN 16 f) 66)) (by rw [World.size_alloc])
    · exact HT.newAt (w := (w.alloc (.cells (aN 16 f) 66)).alloc (.cells (aN 16 g) 66)) (b := w.heap.size + 1 + 1) (f := fun _ => 0) (by rw [World.size_alloc, World.size_alloc])
  case round =>
    obtain ⟨k, hk, rfl, H0, H1, H2, HB⟩ := hrel
    by_cases hlt : k < 16
    · have hk16 : (k : Int) < 16 := by omega
      have c0 := H0.out.cell k hlt
      have f0 := H0.out.free k
      have c1 := H1.out.cell k hlt
      have e0 : addK f g k k = f k := by simp [addK]
      rw [e0] at c0
      clear e0
      have hx : bits .xor .u8 (f k : Int) (g k : Int) = ((addK f g (k + 1) k : Nat) : Int) := by
        rw [nbits_xor _ _ (HF.out k hlt) (HG.out k hlt)]; simp [addK]
      go_wp2_with fail
      go_still_tail 8, (by kernel_rfl)
      change wpList _ _ _ _ _ wr.drew
      have f0' : wr.drew.frozen? ⟨w.heap.size, k, none⟩ = false := f0
      have c0' : wr.drew.cell? ⟨w.heap.size, k, none⟩ = some (.int .u8 (f k : Int)) := c0
      have H0' : Hid (HT 66 wr.drew w.heap.size (addK f g k)) := Lib.hid H0.out
      have H1' : Hid (HT 66 wr.drew (w.heap.size + 1) g) := Lib.hid H1.out
      have H2' : Hid (HT 66 wr.drew (w.heap.size + 1 + 1) fun _ => 0) := Lib.hid H2.out
      have HB' : Hid (Below w.heap.size w wr.drew) := Lib.hid HB.out.drew
      clear H0 H1 H2 HB c0 f0 c1
      generalize wr.drew = w2 at *
      go_wp2_with fail
      go_roundw
      case rel =>
        refine ⟨k + 1, by omega, by go_num, Lib.hid ?_, Lib.hid (H1'.out.other _ (by simp) _), Lib.hid (H2'.out.other _ (by simp; omega) _), Lib.hid (HB'.out.setCell (by simp) _)⟩
        exact H0'.out.set k _ hlt rfl fun i hi hik => by
          unfold addK
          by_cases h1 : i < k
          · rw [if_pos h1, if_pos (by omega)]
          · rw [if_neg h1, if_neg (by omega)]
      case measure => simp [intOf]; omega
    · obtain rfl : k = 16 := by omega
      have d0 : wr.heap[w.heap.size]? = some (.cells (aN 16 (sAdd f g)) 66 (0, 0)) := H0.out.congr (addK_end _ _)
      have d1 : wr.heap[w.heap.size + 1 + 1]? = some (.cells (aN 16 fun _ => 0) 66 (0, 0)) := H2.out
      go_wp2_with (first
        | (refine wpList_load_row rfl 66 (.tmp 2) rfl w.heap.size rfl 66 _ (0, 0) (.array 16 5) d0 Try.underlying66 rfl (by rw [aN_size]; kernel_rfl) ?_)
        | (refine wpList_store_row rfl 66 (.tmp 4) (.tmp 18) rfl (w.heap.size + 1 + 1) (aN 16 (sAdd f g)) rfl rfl 66 _ d1 (by rw [aN_size]; kernel_rfl) (by rw [aN_size, aN_size]) (aN_one _ _) ?_))
      refine bodyPost_ret (v := .agg (aN 16 (sAdd f g))) (results_cell_row (p := 4) (ty := 66) (by kernel_rfl) _ _ (w.heap.size + 1 + 1) 66 (aN 16 (sAdd f g)) (0, 0) (.array 16 5) rfl ?_ Try.underlying66 rfl (by rw [aN_size]; kernel_rfl)) rfl ⟨rfl, ?_⟩
      · exact setRow_heap _ _ _ _ _ _ d1
      · exact below_setRow HB.out _ (by omega) _

set_option maxRecDepth 100000 in
set_option maxHeartbeats 1000000 in
theorem each_sub (f : Nat → Nat) (w : World) (hf : B16 f) :
    Calls Try.prog 39 #[.agg (aN 16 f), .func (.func 40) #[] #[]] w fun e w' => e = .returned (.agg (aN 16 (sMap gs f))) ∧ Below w.heap.size w w' := by
  have HF := Lib.hid hf; clear hf
  go_enter Try.func39, Try.ntmps39
  go_wp2_with fail
  go_loopw [6] (fun i wr => ∃ k : Nat, k ≤ 16 ∧ i = .int .i64 k ∧ Hid (HT 66 wr w.heap.size (mapK gs f k)) ∧ Hid (HT 66 wr (w.heap.size + 1) fun _ => 0) ∧ Hid (Below w.heap.size w wr)) (fun i _ => 16 - (intOf i).toNat)
  case atStart =>
    refine ⟨0, by omega, rfl, Lib.hid ?_, Lib.hid ?_, Lib.hid (((Below.refl _ _).alloc (Nat.le_refl _) _).alloc (by simp) _)⟩
    · exact HT.alloc _ ((HT.newAt rfl).congr fun i _ => by simp [mapK])
    · exact HT.newAt (w := w.alloc (.cells (aN 16 f) 66)) (b := w.heap.size + 1) (f := fun _ => 0) (by rw [World.size_alloc])
  case round =>
    obtain ⟨k, hk, rfl, H0, H1, HB⟩ := hrel
    by_cases hlt : k < 16
    · have hk16 : (k : Int) < 16 := by omega
      have c0 := H0.out.cell k hlt
      have f0 := H0.out.free k
      have e0 : mapK gs f k k = f k := by simp [mapK]
      rw [e0] at c0
      clear e0
      have la := HF.out k hlt
      have hx : ((gs (f k) : Nat) : Int) = ((mapK gs f (k + 1) k : Nat) : Int) := by simp [mapK]
      have HX := Lib.hid hx; clear hx
      go_wp2_with fail
      refine (sub_any (f k) _ la).mono ?_
      rintro e w2 ⟨rfl, rfl⟩
      skip
      rw [HX.out]
      go_wp2_with fail
      go_roundw
      case rel =>
        refine ⟨k + 1, by omega, by go_num, Lib.hid ?_, Lib.hid (H1.out.other _ (by simp) _), Lib.hid (HB.out.setCell (by simp) _)⟩
        exact H0.out.set k _ hlt rfl fun i hi hik => by
          unfold mapK
          by_cases h1 : i < k
          · rw [if_pos h1, if_pos (by omega)]
          · rw [if_neg h1, if_neg (by omega)]
      case measure => simp [intOf]; omega
    · obtain rfl : k = 16 := by omega
      have d0 : wr.heap[w.heap.size]? = some (.cells (aN 16 (sMap gs f)) 66 (0, 0)) := H0.out.congr (mapK_end _ _)
      have d1 : wr.heap[w.heap.size + 1]? = some (.cells (aN 16 fun _ => 0) 66 (0, 0)) := H1.out
      go_wp2_with (first
        | (refine wpList_load_row rfl 66 (.tmp 2) rfl w.heap.size rfl 66 _ (0, 0) (.array 16 5) d0 Try.underlying66 rfl (by rw [aN_size]; kernel_rfl) ?_)
        | (refine wpList_store_row rfl 66 (.tmp 4) (.tmp 17) rfl (w.heap.size + 1) (aN 16 (sMap gs f)) rfl rfl 66 _ d1 (by rw [aN_size]; kernel_rfl) (by rw [aN_size, aN_size]) (aN_one _ _) ?_))
      refine bodyPost_ret (v := .agg (aN 16 (sMap gs f))) (results_cell_row (p := 4) (ty := 66) (by kernel_rfl) _ _ (w.heap.size + 1) 66 (aN 16 (sMap gs f)) (0, 0) (.array 16 5) rfl ?_ Try.underlying66 rfl (by rw [aN_size]; kernel_rfl)) rfl ⟨rfl, ?_⟩
      · exact setRow_heap _ _ _ _ _ _ d1
      · exact below_setRow HB.out _ (by omega) _

end Go.Proofs.Ytkfmgjipocmkjaa
namespace Go.Proofs.Ytkfmgjipocmkjaa
open Go Go.RowKit
set_option linter.unusedVariables false
set_option linter.unusedSimpArgs false

theorem cells30 : (Try.prog.info? 5).map (·.size) = some 1 := by kernel_rfl
theorem guard4 (x y : Operand) (xs ys : Array Value) (w : World) : (eqGuard .eql 65 x y (.agg xs) (.agg ys)).run Try.prog w = .ok () w := by kernel_rfl
theorem part4 (f : Nat → Nat) (k : Nat) (hk : k < 4) (w : World) : (part 5 (arr4 f) k).run Try.prog w = .ok (.int .u8 (f k : Int)) w := by
  rcases k with _ | _ | _ | _ | k
  · kernel_rfl
  · kernel_rfl
  · kernel_rfl
  · kernel_rfl
  · omega
theorem eqin4_at (e : Nat) (he : ∀ (a b : Int) (w : World), (Op.equalIn e 5 (.int .u8 a) (.int .u8 b)).run Try.prog w = .ok (a == b) w) (f g : Nat → Nat) (w : World) :
    (Op.equalIn (e + 1) 65 (.agg (arr4 f)) (.agg (arr4 g))).run Try.prog w = .ok (decide (f 0 = g 0 ∧ f 1 = g 1 ∧ f 2 = g 2 ∧ f 3 = g 3)) w := by
  have p0 := part4 f 0 (by omega)
  have p1 := part4 f 1 (by omega)
  have p2 := part4 f 2 (by omega)
  have p3 := part4 f 3 (by omega)
  have q0 := part4 g 0 (by omega)
  have q1 := part4 g 1 (by omega)
  have q2 := part4 g 2 (by omega)
  have q3 := part4 g 3 (by omega)
  simp only [Op.equalIn, Sem.run_bind, run_underlying Try.underlying65, Result.andThen_ok, size_u8]
  simp only [Std.Legacy.Range.forIn_eq_forIn_range', Std.Legacy.Range.size, List.range', Nat.mul_one, Nat.sub_zero, Nat.add_sub_cancel, Nat.div_one, List.forIn_cons, List.forIn_nil, Sem.run_bind, Nat.zero_add, Nat.reduceAdd]
  by_cases h0 : f 0 = g 0 <;> by_cases h1 : f 1 = g 1 <;> by_cases h2 : f 2 = g 2 <;> by_cases h3 : f 3 = g 3 <;>
    simp [p0, q0, p1, q1, p2, q2, p3, q3, he, h0, h1, h2, h3, Sem.run_bind, Int.natCast_inj]
theorem eqin4 (f g : Nat → Nat) (w : World) : (Op.equalIn 10000 65 (.agg (arr4 f)) (.agg (arr4 g))).run Try.prog w = .ok (decide (f 0 = g 0 ∧ f 1 = g 1 ∧ f 2 = g 2 ∧ f 3 = g 3)) w :=
  eqin4_at 9999 (eqin_u8 9998) f g w
theorem eq4 (f g : Nat → Nat) (w : World) : (binOp .eql 65 (.agg (arr4 f)) (.agg (arr4 g))).run Try.prog w = .ok (.bool (decide (f 0 = g 0 ∧ f 1 = g 1 ∧ f 2 = g 2 ∧ f 3 = g 3))) w := by
  rw [run_eql_struct, eqin4]; rfl
theorem eq4_same (f : Nat → Nat) (w : World) : (binOp .eql 65 (.agg (arr4 f)) (.agg (arr4 f))).run Try.prog w = .ok (.bool true) w := by
  rw [eq4]; simp
end Go.Proofs.Ytkfmgjipocmkjaa
namespace Go.Proofs.Ytkfmgjipocmkjaa
open Go Go.RowKit
set_option linter.unusedVariables false
set_option linter.unusedSimpArgs false

/-- Block b holds four bytes. -/
def Has (w : World) (b : Nat) (f : Nat → Nat) : Prop := w.heap[b]? = some (.cells (arr4 f) 65 (0, 0))

section
variable {w w' : World} {b g : Nat} {f z : Nat → Nat}
theorem Has.lt (h : Has w b f) : b < w.heap.size := by
  unfold Has at h
  exact (Array.getElem?_eq_some_iff.1 h).1
theorem Has.cell (h : Has w b f) (k : Nat) (hk : k < 4) : w.cell? ⟨b, k, none⟩ = some (.int .u8 (f k : Int)) := by
  rw [cell_of_row _ _ _ _ _ _ h]; exact get4 f k hk
theorem Has.below {B : Nat} (hb : Below B w w') (h : Has w b f) (hB : b < B) : Has w' b f := (hb.block b hB).trans h
theorem Has.call (hb : Below w.heap.size w w') (h : Has w b f) : Has w' b f := h.below hb h.lt
theorem Has.alloc (o : Obj) (h : Has w b f) : Has (w.alloc o) b f := (heap_alloc_old w o h.lt).trans h
theorem Has.new : Has (w.alloc (.cells (arr4 f) 65)) w.heap.size f := heap_alloc_new w _
theorem Has.zeroAt (h : b = w.heap.size) : Has (w.alloc (.cells #[.int .u8 0, .int .u8 0, .int .u8 0, .int .u8 0] 65)) b (fun _ => 0) := h ▸ heap_alloc_new w _
theorem Has.zero : Has (w.alloc (.cells #[.int .u8 0, .int .u8 0, .int .u8 0, .int .u8 0] 65)) w.heap.size (fun _ => 0) := heap_alloc_new w _
theorem Has.newAt (h : b = w.heap.size) : Has (w.alloc (.cells (arr4 f) 65)) b f := h ▸ heap_alloc_new w _
theorem Has.drew (h : Has w b f) : Has w.drew b f := h
theorem Has.other (h : Has w b f) (hg : b ≠ g) (v0 v1 v2 v3 : Value) : Has ((((w.setCell ⟨g, 0, none⟩ v0).setCell ⟨g, 1, none⟩ v1).setCell ⟨g, 2, none⟩ v2).setCell ⟨g, 3, none⟩ v3) b f := by
  unfold Has
  rw [heap_setCell_other _ _ _ _ hg, heap_setCell_other _ _ _ _ hg, heap_setCell_other _ _ _ _ hg, heap_setCell_other _ _ _ _ hg]
  exact h
theorem Has.store (h : Has w b z) : Has ((((w.setCell ⟨b, 0, none⟩ (.int .u8 (f 0 : Int))).setCell ⟨b, 1, none⟩ (.int .u8 (f 1 : Int))).setCell ⟨b, 2, none⟩ (.int .u8 (f 2 : Int))).setCell ⟨b, 3, none⟩ (.int .u8 (f 3 : Int))) b f :=
  heap_setCell_same _ _ _ _ _ _ (heap_setCell_same _ _ _ _ _ _ (heap_setCell_same _ _ _ _ _ _ (heap_setCell_same _ _ _ _ _ _ h)))
theorem below4 {B : Nat} (h : Below B w w') (hg : B ≤ g) (v0 v1 v2 v3 : Value) : Below B w ((((w'.setCell ⟨g, 0, none⟩ v0).setCell ⟨g, 1, none⟩ v1).setCell ⟨g, 2, none⟩ v2).setCell ⟨g, 3, none⟩ v3) :=
  (((h.setCell (by exact hg) _).setCell (by exact hg) _).setCell (by exact hg) _).setCell (by exact hg) _
end
/-- What held four bytes holds them. -/
def Goes (w w' : World) : Prop := ∀ b f, Has w b f → Has w' b f
theorem Goes.of {w w' : World} (hb : Below w.heap.size w w') : Goes w w' := fun _ _ h => h.call hb
theorem Goes.to {w w' : World} {b : Nat} {f : Nat → Nat} (h : Goes w w') (hh : Has w b f) : Has w' b f := h b f hh
theorem bcell {W w1 : World} (hb : Below W.heap.size W w1) : (∀ b o, b < W.heap.size → w1.cell? ⟨b, o, none⟩ = W.cell? ⟨b, o, none⟩) ∧ (∀ b o, b < W.heap.size → w1.frozen? ⟨b, o, none⟩ = W.frozen? ⟨b, o, none⟩) :=
  ⟨fun b o h => hb.cell (p := ⟨b, o, none⟩) h, fun b o h => hb.frozen (p := ⟨b, o, none⟩) h⟩

theorem bsize {W w1 : World} (hb : Below W.heap.size W w1) : ∀ b, b < W.heap.size → b < w1.heap.size := by
  have := hb.size
  exact fun b h => by omega
theorem bnew {W w0 w1 : World} (h0 : Below w0.heap.size w0 W) (hb : Below W.heap.size W w1) (hp : 0 < w0.heap.size) : ¬ w1.heap.size = W.heap.size - 1 ∧ ¬ W.heap.size - 1 = w1.heap.size := by
  have := hb.size
  have := h0.size
  omega
/-- What a region that reads two blocks is held to. -/
theorem held8 {w0 w' : World} {b d : Nat} {f g : Nat → Nat} (hb : Hid (Has w0 b f)) (hd : Hid (Has w0 d g)) (h : Below w0.heap.size w0 w') :
    w'.cell? ⟨b, 0, none⟩ = some (.int .u8 (f 0 : Int)) ∧ w'.cell? ⟨b, 1, none⟩ = some (.int .u8 (f 1 : Int)) ∧ w'.cell? ⟨b, 2, none⟩ = some (.int .u8 (f 2 : Int)) ∧ w'.cell? ⟨b, 3, none⟩ = some (.int .u8 (f 3 : Int)) ∧
    w'.cell? ⟨d, 0, none⟩ = some (.int .u8 (g 0 : Int)) ∧ w'.cell? ⟨d, 1, none⟩ = some (.int .u8 (g 1 : Int)) ∧ w'.cell? ⟨d, 2, none⟩ = some (.int .u8 (g 2 : Int)) ∧ w'.cell? ⟨d, 3, none⟩ = some (.int .u8 (g 3 : Int)) ∧ Below w0.heap.size w0 w' := by
  have h1 := hb.out.below h hb.out.lt
  have h2 := hd.out.below h hd.out.lt
  exact ⟨h1.cell 0 (by omega), h1.cell 1 (by omega), h1.cell 2 (by omega), h1.cell 3 (by omega), h2.cell 0 (by omega), h2.cell 1 (by omega), h2.cell 2 (by omega), h2.cell 3 (by omega), h⟩
theorem held12 {w0 w' : World} {b d e : Nat} {f g h : Nat → Nat} (hb : Hid (Has w0 b f)) (hd : Hid (Has w0 d g)) (he : Hid (Has w0 e h)) (hw : Below w0.heap.size w0 w') :
    w'.cell? ⟨b, 0, none⟩ = some (.int .u8 (f 0 : Int)) ∧ w'.cell? ⟨b, 1, none⟩ = some (.int .u8 (f 1 : Int)) ∧ w'.cell? ⟨b, 2, none⟩ = some (.int .u8 (f 2 : Int)) ∧ w'.cell? ⟨b, 3, none⟩ = some (.int .u8 (f 3 : Int)) ∧
    w'.cell? ⟨d, 0, none⟩ = some (.int .u8 (g 0 : Int)) ∧ w'.cell? ⟨d, 1, none⟩ = some (.int .u8 (g 1 : Int)) ∧ w'.cell? ⟨d, 2, none⟩ = some (.int .u8 (g 2 : Int)) ∧ w'.cell? ⟨d, 3, none⟩ = some (.int .u8 (g 3 : Int)) ∧
    w'.cell? ⟨e, 0, none⟩ = some (.int .u8 (h 0 : Int)) ∧ w'.cell? ⟨e, 1, none⟩ = some (.int .u8 (h 1 : Int)) ∧ w'.cell? ⟨e, 2, none⟩ = some (.int .u8 (h 2 : Int)) ∧ w'.cell? ⟨e, 3, none⟩ = some (.int .u8 (h 3 : Int)) ∧ Below w0.heap.size w0 w' := by
  have h1 := hb.out.below hw hb.out.lt
  have h2 := hd.out.below hw hd.out.lt
  have h3 := he.out.below hw he.out.lt
  exact ⟨h1.cell 0 (by omega), h1.cell 1 (by omega), h1.cell 2 (by omega), h1.cell 3 (by omega), h2.cell 0 (by omega), h2.cell 1 (by omega), h2.cell 2 (by omega), h2.cell 3 (by omega), h3.cell 0 (by omega), h3.cell 1 (by omega), h3.cell 2 (by omega), h3.cell 3 (by omega), hw⟩
end Go.Proofs.Ytkfmgjipocmkjaa
namespace Go.Proofs.Ytkfmgjipocmkjaa

theorem kX_more (k : Nat) (key : List Nat) (m d : Nat) (j : Nat) (hj : j < key.length + 4 * m) : (kX k key (m + d))[j]? = (kX k key m)[j]? := by
  induction d with
  | zero => rfl
  | succ d ih =>
    rw [show m + (d + 1) = (m + d) + 1 from rfl, kX, List.getElem?_append_left (by rw [kX_len]; omega), ih]
theorem kX_get (k : Nat) (key : List Nat) (m n : Nat) (h : m ≤ n) (j : Nat) (hj : j < key.length + 4 * m) : (kX k key n).getD j 0 = (kX k key m).getD j 0 := by
  obtain ⟨d, rfl⟩ : ∃ d, n = m + d := ⟨n - m, by omega⟩
  rw [List.getD_eq_getElem?_getD, List.getD_eq_getElem?_getD, kX_more k key m d j hj]
theorem kX_new (k : Nat) (key : List Nat) (m p : Nat) (hp : p < 4) : (kX k key (m + 1)).getD (key.length + 4 * m + p) 0 = kW k (k + m) (kX k key m) p := by
  rw [kX, List.getD_eq_getElem?_getD, List.getElem?_append_right (by rw [kX_len]; omega), kX_len, show key.length + 4 * m + p - (key.length + 4 * m) = p from by omega]
  rcases p with _ | _ | _ | _ | p
  · rfl
  · rfl
  · rfl
  · rfl
  · omega
theorem kT_eq (k i : Nat) (t u : Nat → Nat) (h : ∀ p, p < 4 → t p = u p) (p : Nat) (hp : p < 4) : kT k i t p = kT k i u p := by
  unfold kT
  rw [h p hp, h ((p + 1) % 4) (by omega)]

/-- The first words are the key's bytes. -/
theorem kF_key (key : List Nat) (j : Nat) (hj : j < key.length) : kF key j = key.getD j 0 := by
  show (kX (key.length / 4) key (3 * (key.length / 4) + 28)).getD j 0 = _
  rw [kX_get _ key 0 _ (by omega) j (by omega)]
  rfl
/-- Each further word. -/
theorem kF_next (key : List Nat) (k i p : Nat) (hk : key.length = 4 * k) (h1 : 1 ≤ k) (hi : k ≤ i) (hi' : i < 4 * k + 28) (hp : p < 4) :
    kF key (4 * i + p) = kT k i (fun p => kF key (4 * (i - 1) + p)) p ^^^ kF key (4 * (i - k) + p) := by
  obtain ⟨n, hF, hn⟩ : ∃ n, (∀ j, kF key j = (kX k key n).getD j 0) ∧ n = 3 * k + 28 := by
    have e : key.length / 4 = k := by omega
    refine ⟨3 * (key.length / 4) + 28, fun j => ?_, by rw [e]⟩
    show (kX (key.length / 4) key (3 * (key.length / 4) + 28)).getD j 0 = _
    rw [e]
  obtain ⟨m, rfl⟩ : ∃ m, i = k + m := ⟨i - k, by omega⟩
  rw [hF, hF, kT_eq k (k + m) (fun p => kF key (4 * (k + m - 1) + p)) (fun q => (kX k key m).getD (4 * (k + m - 1) + q) 0) (fun q hq => by show kF key _ = _; rw [hF, kX_get k key m n (by omega) _ (by omega)]) p hp]
  rw [kX_get k key (m + 1) n (by omega) (4 * (k + m) + p) (by omega), show 4 * (k + m) + p = key.length + 4 * m + p from by omega, kX_new k key m p hp]
  rw [show k + m - k = m from by omega, kX_get k key m n (by omega) (4 * m + p) (by omega)]
  unfold kW
  rw [show k + m - k = m from by omega]
/-- Whoever begins and goes on so is the key's words. -/
theorem kF_uniq (key : List Nat) (k : Nat) (hk : key.length = 4 * k) (h1 : 1 ≤ k) (g : Nat → Nat) (h0 : ∀ j, j < key.length → g j = key.getD j 0)
    (hn : ∀ i p, k ≤ i → i < 4 * k + 28 → p < 4 → g (4 * i + p) = kT k i (fun p => g (4 * (i - 1) + p)) p ^^^ g (4 * (i - k) + p)) :
    ∀ j, j < 4 * (4 * k + 28) → kF key j = g j := by
  have key2 : ∀ n j, j < n → j < 4 * (4 * k + 28) → kF key j = g j := by
    intro n
    induction n with
    | zero => intro j hj; omega
    | succ n ih =>
      intro j hj hjb
      by_cases hl : j < key.length
      · rw [kF_key key j hl, h0 j hl]
      · obtain ⟨i, q, hq, rfl⟩ : ∃ i q, q < 4 ∧ j = 4 * i + q := ⟨j / 4, j % 4, by omega, by omega⟩
        have a1 : kF key (4 * (i - k) + q) = g (4 * (i - k) + q) := ih _ (by omega) (by omega)
        have a2 : kT k i (fun p => kF key (4 * (i - 1) + p)) q = kT k i (fun p => g (4 * (i - 1) + p)) q := kT_eq _ _ _ _ (fun q hq => ih _ (by omega) (by omega)) _ hq
        have a3 := kF_next key k i q hk h1 (by omega) (by omega) hq
        have a4 := hn i q (by omega) (by omega) hq
        generalize kF key (4 * i + q) = u1 at *
        generalize g (4 * i + q) = u2 at *
        rw [a3, a4]
        exact congr (congrArg (fun x y => x ^^^ y) a2) a1
  exact fun j hj => key2 (j + 1) j (by omega) hj
end Go.Proofs.Ytkfmgjipocmkjaa
namespace Go.Proofs.Ytkfmgjipocmkjaa
set_option maxRecDepth 100000

theorem all_below {p : Nat → Bool} (n : Nat) (h : (List.range n).all p = true) (a : Nat) (ha : a < n) : p a = true := List.all_eq_true.mp h a (List.mem_range.mpr ha)

/-- The cipher hangs on the key's words alone that it uses. -/
theorem rk_eq {w v : Nat → Nat} {r : Nat} (h : ∀ i, i < 16 * (r + 1) → w i = v i) (j : Nat) (hj : j ≤ r) : E16 (rk w j) (rk v j) := fun i hi => h _ (by omega)
theorem sAdd_key (f : Nat → Nat) {k l : Nat → Nat} (h : E16 k l) : E16 (sAdd f k) (sAdd f l) := fun i hi => by unfold sAdd; rw [h i hi]
theorem eN_key {w v : Nat → Nat} {r : Nat} (h : ∀ i, i < 16 * (r + 1) → w i = v i) (b : Nat → Nat) (n : Nat) (hn : n ≤ r) : E16 (eN w r b n) (eN v r b n) := by
  induction n with
  | zero => exact sAdd_key b (rk_eq h 0 (by omega))
  | succ n ih =>
    refine (eRnd_eq w r (n + 1) (ih (by omega))).trans ?_
    exact sAdd_key _ (rk_eq h (n + 1) hn)
/-- A table of states is what the rounds come to. -/
theorem eN_table (w : Nat → Nat) (r : Nat) (b s : Nat → Nat) (h0 : ∀ i, i < 16 → s i = sAdd b (rk w 0) i) (hn : ∀ j i, j < r → i < 16 → s (16 * (j + 1) + i) = eRnd w r (j + 1) (fun i => s (16 * j + i)) i) :
    ∀ n, n ≤ r → E16 (eN w r b n) (fun i => s (16 * n + i)) := by
  intro n
  induction n with
  | zero => exact fun _ i hi => by show sAdd b (rk w 0) i = s (16 * 0 + i); rw [Nat.mul_zero, Nat.zero_add, h0 i hi]
  | succ n ih =>
    intro hn'
    refine (eRnd_eq w r (n + 1) (ih (by omega))).trans fun i hi => ?_
    exact (hn n i (by omega) hi).symm

end Go.Proofs.Ytkfmgjipocmkjaa
namespace Go.Proofs.Ytkfmgjipocmkjaa
open Go Go.RowKit Go.Shelf
set_option linter.unusedVariables false
set_option linter.unusedSimpArgs false
attribute [local go_sem] Oper.semAt_some

/-- From a on, some blocks of a text under h. -/
def gpre (h a : Nat) (l : List Nat) (pre : List Nat) : Nat := pre.foldl (fun s j => hm (s ^^^ hof (gblk l j)) h) a
theorem gpre_snoc (h a : Nat) (l pre : List Nat) (x : Nat) : gpre h a l (pre ++ [x]) = hm (gpre h a l pre ^^^ hof (gblk l x)) h := by simp [gpre]
theorem gpre_lt (h a : Nat) (hh : h < 2 ^ 128) (ha : a < 2 ^ 128) (l pre : List Nat) : gpre h a l pre < 2 ^ 128 := by
  rcases List.eq_nil_or_concat pre with rfl | ⟨p, x, rfl⟩
  · exact ha
  · rw [List.concat_eq_append, gpre_snoc]; exact hm_lt _ _ hh
/-- From a on, the first n blocks. -/
def gfrom (h a : Nat) (l : List Nat) (n : Nat) : Nat := gpre h a l (List.range n)
theorem gblk_lt (l : List Nat) (hl : ∀ x ∈ l, x < 256) (j : Nat) : B16 (gblk l j) := fun i _ => by
  unfold gblk
  rw [List.getD_eq_getElem?_getD]
  cases hx : l[16 * j + i]? with
  | none => simp
  | some x => simpa using hl x (List.mem_of_getElem? hx)

theorem blk_splice (l : List Nat) (x : Nat) : (splice z16 0 (vn ((l.drop (16 * x)).take 16))).toArray = aN 16 (gblk l x) := by
  rw [aN_vl]
  congr 1
  apply List.ext_getElem?
  intro i
  have hlen : (vn ((l.drop (16 * x)).take 16)).length = min 16 (l.length - 16 * x) := by simp [vn]
  unfold splice
  simp only [List.take_zero, List.nil_append, Nat.zero_add]
  by_cases hi : i < 16
  · rw [vl_get 16 _ i hi]
    by_cases h2 : i < (vn ((l.drop (16 * x)).take 16)).length
    · rw [List.getElem?_append_left h2]
      have h3 : 16 * x + i < l.length := by omega
      simp [vn, gblk, hi, h3, List.getElem?_take, List.getElem?_drop]
    · rw [List.getElem?_append_right (by omega), List.getElem?_drop]
      have h3 : ¬ 16 * x + i < l.length := by omega
      rw [show (vn ((l.drop (16 * x)).take 16)).length + (i - (vn ((l.drop (16 * x)).take 16)).length) = i from by omega]
      have hg : gblk l x i = 0 := by
        unfold gblk
        rw [List.getD_eq_getElem?_getD, List.getElem?_eq_none (by omega)]; rfl
      rw [hg]
      rw [show z16 = List.replicate 16 (Value.int .u8 0) from rfl, List.getElem?_replicate, if_pos hi]
      rfl
  · rw [List.getElem?_eq_none (by simp [z16_len, hlen]; omega), List.getElem?_eq_none (by rw [vl_len]; omega)]
/-- All but one block is as it was. -/
def KeptBut (b : Nat) (W w' : World) : Prop := W.heap.size ≤ w'.heap.size ∧ ∀ k, k < W.heap.size → k ≠ b → w'.heap[k]? = W.heap[k]?
theorem KeptBut.call {b : Nat} {W w1 w' : World} (h : KeptBut b W w1) (hb : Below w1.heap.size w1 w') : KeptBut b W w' :=
  ⟨Nat.le_trans h.1 hb.size, fun k hk hne => (hb.block k (Nat.lt_of_lt_of_le hk h.1)).trans (h.2 k hk hne)⟩
def eL (a : Nat) : List Value := [.int .u64 ((a / 18446744073709551616 : Nat) : Int), .int .u64 ((a % 18446744073709551616 : Nat) : Int)]
theorem HE.range {w : World} {b a : Nat} (h : HE w b a) : w.rangeAt b 0 (eL a) := fun j v hj => by
  rw [Nat.zero_add, cell_of_row _ _ _ _ _ _ h]
  have : j < 2 := (List.getElem?_eq_some_iff.1 hj).1
  rcases j with _ | _ | j
  · exact hj
  · exact hj
  · omega
theorem HE.there {w : World} {b a : Nat} (h : HE w b a) : w.there b 0 2 := fun j hj => by
  rw [Nat.zero_add, cell_of_row _ _ _ _ _ _ h, frozen_of_row _ _ _ _ _ h]
  rcases j with _ | _ | j
  · exact ⟨rfl, rfl⟩
  · exact ⟨rfl, rfl⟩
  · omega
theorem HE.store {w : World} {b a : Nat} (h : HE w b a) (c : Nat) : HE (w.setCells b 0 (eL c)) b c := el_set (x := .int .u64 ((c / 18446744073709551616 : Nat) : Int)) (y := .int .u64 ((c % 18446744073709551616 : Nat) : Int)) h
theorem HE.call {w w' : World} {b a : Nat} (hb : Below w.heap.size w w') (h : HE w b a) : HE w' b a := (hb.block b (Array.getElem?_eq_some_iff.1 h).1).trans h
theorem KeptBut.store {b : Nat} {W w1 : World} (h : KeptBut b W w1) (vs : List Value) : KeptBut b W (w1.setCells b 0 vs) :=
  ⟨Nat.le_trans h.1 (below_store (B := 0) (Below.refl 0 w1) (Nat.zero_le _) vs 0).size, fun k hk hne => (heap_store_far vs hne 0 w1).trans (h.2 k hk hne)⟩
theorem el_one (a : Nat) : (eL a).toArray.all (·.oneCell') = true := by simp [eL, Value.oneCell']
theorem gwords_d (f : Nat → Nat) (w : World) (hf : B16 f) :
    Calls Try.prog 47 #[.agg (aN 16 f)] w fun e w' => e = .returned (.agg (eL (hof f)).toArray) ∧ Below w.heap.size w w' := gwords_any f w hf
theorem gplus_d (a b : Nat) (w : World) (ha : a < 2 ^ 128) (hb : b < 2 ^ 128) :
    Calls Try.prog 49 #[.agg (eL a).toArray, .agg (eL b).toArray] w fun e w' => e = .returned (.agg (eL (a ^^^ b)).toArray) ∧ Below w.heap.size w w' := gplus_any a b w ha hb
theorem gtimes_d (a b : Nat) (w : World) (ha : a < 2 ^ 128) (hb : b < 2 ^ 128) :
    Calls Try.prog 50 #[.agg (eL a).toArray, .agg (eL b).toArray] w fun e w' => e = .returned (.agg (eL (hm a b)).toArray) ∧ Below w.heap.size w w' := gtimes_any a b w ha hb
theorem gbytes_d (a : Nat) (w : World) (ha : a < 2 ^ 128) :
    Calls Try.prog 51 #[.agg (eL a).toArray] w fun e w' => e = .returned (.agg (aN 16 (hby a))) ∧ Below w.heap.size w w' := gbytes_any a w ha
theorem over_keep {w W w1 w' : World} {b8 b5 b3 key B0 : Nat} {g : Nat → Nat} (hb : Below w1.heap.size w1 w') (hB : B0 ≤ w1.heap.size)
    (h : w1.rangeAt b8 0 (vl 16 g) ∧ w1.rangeAt b5 0 (eL key) ∧ w1.there b3 0 2 ∧ KeptBut b3 W w1 ∧ Below B0 w w1) :
    w'.rangeAt b8 0 (vl 16 g) ∧ w'.rangeAt b5 0 (eL key) ∧ w'.there b3 0 2 ∧ KeptBut b3 W w' ∧ Below B0 w w' :=
  ⟨range_callw hb h.1, range_callw hb h.2.1, there_callw hb h.2.2.1, h.2.2.2.1.call hb, h.2.2.2.2.trans (hb.mono hB)⟩
theorem over_store {w W w1 : World} {b8 b5 b3 key B0 : Nat} {g : Nat → Nat} (vs : List Value) (h8 : b8 ≠ b3) (h5 : b5 ≠ b3) (hB : B0 ≤ b3)
    (h : w1.rangeAt b8 0 (vl 16 g) ∧ w1.rangeAt b5 0 (eL key) ∧ w1.there b3 0 2 ∧ KeptBut b3 W w1 ∧ Below B0 w w1) :
    (w1.setCells b3 0 vs).rangeAt b8 0 (vl 16 g) ∧ (w1.setCells b3 0 vs).rangeAt b5 0 (eL key) ∧ (w1.setCells b3 0 vs).there b3 0 2 ∧ KeptBut b3 W (w1.setCells b3 0 vs) ∧ Below B0 w (w1.setCells b3 0 vs) :=
  ⟨World.rangeAt_setCells_apart h.1 _ _ _ (.inl h8), World.rangeAt_setCells_apart h.2.1 _ _ _ (.inl h5), World.there_setCells h.2.2.1 _ _ _, h.2.2.2.1.store _, below_store h.2.2.2.2 hB _ 0⟩

theorem five_old (w : World) (o1 o2 o3 o4 o5 : Obj) : ((((((w.alloc o1).alloc o2).alloc o3).alloc o4).alloc o5).heap[w.heap.size]? = some o1 ∧ (((((w.alloc o1).alloc o2).alloc o3).alloc o4).alloc o5).heap[w.heap.size + 1]? = some o2 ∧ (((((w.alloc o1).alloc o2).alloc o3).alloc o4).alloc o5).heap[w.heap.size + 1 + 1]? = some o3 ∧
    (((((w.alloc o1).alloc o2).alloc o3).alloc o4).alloc o5).heap[w.heap.size + 1 + 1 + 1]? = some o4 ∧ (((((w.alloc o1).alloc o2).alloc o3).alloc o4).alloc o5).heap[w.heap.size + 1 + 1 + 1 + 1]? = some o5) ∧ (((((w.alloc o1).alloc o2).alloc o3).alloc o4).alloc o5).heap.size = w.heap.size + 1 + 1 + 1 + 1 + 1 ∧ Below w.heap.size w (((((w.alloc o1).alloc o2).alloc o3).alloc o4).alloc o5) := by
  refine ⟨⟨?_, ?_, ?_, ?_, ?_⟩, by simp, (((((Below.refl _ _).alloc (Nat.le_refl _) _).alloc (by simp) _).alloc (by simp; omega) _).alloc (by simp; omega) _).alloc (by simp; omega) _⟩
  · rw [heap_alloc_old _ _ (by simp only [World.size_alloc]; omega), heap_alloc_old _ _ (by simp only [World.size_alloc]; omega), heap_alloc_old _ _ (by simp only [World.size_alloc]; omega), heap_alloc_old _ _ (by simp only [World.size_alloc]; omega)]; exact heap_alloc_new w o1
  · rw [heap_alloc_old _ _ (by simp only [World.size_alloc]; omega), heap_alloc_old _ _ (by simp only [World.size_alloc]; omega), heap_alloc_old _ _ (by simp only [World.size_alloc]; omega)]; have := heap_alloc_new (w.alloc o1) o2; rwa [World.size_alloc] at this
  · rw [heap_alloc_old _ _ (by simp only [World.size_alloc]; omega), heap_alloc_old _ _ (by simp only [World.size_alloc]; omega)]; have := heap_alloc_new ((w.alloc o1).alloc o2) o3; rwa [World.size_alloc, World.size_alloc] at this
  · rw [heap_alloc_old _ _ (by simp only [World.size_alloc]; omega)]; have := heap_alloc_new (((w.alloc o1).alloc o2).alloc o3) o4; rwa [World.size_alloc, World.size_alloc, World.size_alloc] at this
  · have := heap_alloc_new ((((w.alloc o1).alloc o2).alloc o3).alloc o4) o5; rwa [World.size_alloc, World.size_alloc, World.size_alloc, World.size_alloc] at this
end Go.Proofs.Ytkfmgjipocmkjaa
namespace Go.Proofs.Ytkfmgjipocmkjaa
open Go Go.RowKit Go.Shelf
set_option linter.unusedVariables false
set_option linter.unusedSimpArgs false
attribute [local go_sem] Oper.semAt_some

set_option maxRecDepth 100000 in
set_option maxHeartbeats 4000000 in
theorem over_any (a key : Nat) (ha : a < 2 ^ 128) (hk : key < 2 ^ 128) (A : Option Addr) (l : List Nat) (len cap : Nat) (hn : l.length = len) (hl : ∀ x ∈ l, x < 256) (hlc : len ≤ cap) (hreach : len ≤ 140737488351360) (w : World) (h : Rd w w.heap.size A (vn l)) :
    Calls Try.prog 48 #[eV a, .slice A len cap, eV key] w fun e w' => e = .returned (eV (gfrom key a l ((len + 15) / 16))) ∧ Below w.heap.size w w' := by
  have HN := Lib.hid hn; clear hn
  have HL := Lib.hid hl; clear hl
  have HRD := Lib.hid h; clear h
  have HA := Lib.hid ha; clear ha
  have HK := Lib.hid hk; clear hk
  obtain ⟨a1, ha1⟩ : ∃ a1, a1 = a / 18446744073709551616 := ⟨_, rfl⟩
  obtain ⟨a2, ha2⟩ : ∃ a2, a2 = a % 18446744073709551616 := ⟨_, rfl⟩
  obtain ⟨b1, hb1⟩ : ∃ b1, b1 = key / 18446744073709551616 := ⟨_, rfl⟩
  obtain ⟨b2, hb2⟩ : ∃ b2, b2 = key % 18446744073709551616 := ⟨_, rfl⟩
  have hea : eV a = .agg #[.int .u64 (a1 : Int), .int .u64 (a2 : Int)] := by rw [eV, ← ha1, ← ha2]
  have hek : eV key = .agg #[.int .u64 (b1 : Int), .int .u64 (b2 : Int)] := by rw [eV, ← hb1, ← hb2]
  rw [hea, hek]
  have HEA := Lib.hid (And.intro ha1 ha2); clear hea ha1 ha2
  have HEK := Lib.hid (And.intro hb1 hb2); clear hek hb1 hb2
  obtain ⟨g1, hg1⟩ : ∃ g1, g1 = gfrom key a l ((len + 15) / 16) / 18446744073709551616 := ⟨_, rfl⟩
  obtain ⟨g2, hg2⟩ : ∃ g2, g2 = gfrom key a l ((len + 15) / 16) % 18446744073709551616 := ⟨_, rfl⟩
  have heg : eV (gfrom key a l ((len + 15) / 16)) = .agg #[.int .u64 (g1 : Int), .int .u64 (g2 : Int)] := by rw [eV, ← hg1, ← hg2]
  rw [heg]
  have HG := Lib.hid (And.intro hg1 hg2); clear hg1 hg2 heg
  refine (callsIn_wide (n := 2)).1 ?_
  refine callsIn_of_wp_marks Try.func48 rfl trivial ?_ rfl
  simp only [Try.ntmps48, List.size_toArray, List.length_cons, List.length_nil, Nat.reduceAdd, Nat.reduceSub, Array.replicate_succ, Array.replicate_zero, List.push_toArray, List.append_toArray, List.nil_append, List.cons_append]
  gi_wp2
  refine ⟨trivial, ?_⟩
  refine (callsIn_wide.2 (chunk_any A len cap _)).mono ?_
  rintro e w' ⟨rfl, rfl⟩
  gi_wp2
  have d0 := five_old w (.cells #[.int .u64 a1, .int .u64 a2] 77) (.cells #[.int .u64 b1, .int .u64 b2] 77) (.cells #[.int .u64 0, .int .u64 0] 77) (.cells #[.slice A len cap] 22) (.cells #[.int .i64 16] 3)
  generalize ((((w.alloc (.cells #[.int .u64 a1, .int .u64 a2] 77)).alloc (.cells #[.int .u64 b1, .int .u64 b2] 77)).alloc (.cells #[.int .u64 0, .int .u64 0] 77)).alloc (.cells #[.slice A len cap] 22)).alloc (.cells #[.int .i64 16] 3) = w5 at *
  obtain ⟨⟨d0, d1, d2, d3, d4⟩, ds, hB0⟩ := d0
  have D0 : HE w5 w.heap.size (gpre key a l []) := by show w5.heap[w.heap.size]? = _; rw [d0]; unfold gpre; rw [List.foldl_nil, HEA.out.1, HEA.out.2]
  have D1 : HE w5 (w.heap.size + 1) key := by show w5.heap[w.heap.size + 1]? = _; rw [d1, HEK.out.1, HEK.out.2]
  have hN0 : 0 < len → ∃ ad, A = some ad := fun h0 => by
    obtain ⟨ad, e, _⟩ := HRD.out (by rw [vn_len, HN.out]; exact h0)
    exact ⟨ad, e⟩
  refine wpIn_rangeFunc_ownF (F := Fence.wide) (n := 2) rfl (by omega) (gf := 46) (lb := #[.pointer (some ⟨w.heap.size + 1 + 1 + 1, 0, none⟩), .pointer (some ⟨w.heap.size + 1 + 1 + 1 + 1, 0, none⟩)]) rfl trivial (enters_of Try.func46 (by kernel_rfl) rfl)
    (chunk_stops (w.heap.size + 1 + 1 + 1) (w.heap.size + 1 + 1 + 1 + 1) A len cap hN0 hlc hreach w5 d3 d4) (fun h k => h.trans k) (fun W lq o o' hlq _ _ _ => ⟨World.putObj_heap_other (by omega), World.putObj_heap_other (by omega)⟩) (Below.refl _ _) (fun _ => rfl)
    (fun pre W => (HE W w.heap.size (gpre key a l (pre.map (·.1))) ∧ HE W (w.heap.size + 1) key ∧ W.heap[w.heap.size + 1 + 1]? = some (Obj.cells #[.int .u64 0, .int .u64 0] 77 (0, 0))) ∧ (Below w.heap.size w W ∧ w5.heap.size ≤ W.heap.size))
    (fun _ _ _ => False)
    (OwnFrom.and (OwnFrom.and (ownFrom_block (o := fun pre : List (Chk len) => Obj.cells #[.int .u64 ((gpre key a l (pre.map (·.1)) / 18446744073709551616 : Nat) : Int), .int .u64 ((gpre key a l (pre.map (·.1)) % 18446744073709551616 : Nat) : Int)] 77 (0, 0)) (by omega)) (OwnFrom.and (ownFrom_block (o := fun _ => Obj.cells #[.int .u64 ((key / 18446744073709551616 : Nat) : Int), .int .u64 ((key % 18446744073709551616 : Nat) : Int)] 77 (0, 0)) (by omega)) (ownFrom_block (o := fun _ => Obj.cells #[.int .u64 0, .int .u64 0] 77 (0, 0)) (by omega)))) (OwnFrom.and (ownFrom_below (Nat.le_refl _) (by omega)) (fun _ W W' row h hg _ => Nat.le_trans h hg.size)))
    (fun _ _ _ _ _ hs _ _ => hs)
    ⟨⟨D0, D1, d2⟩, hB0, Nat.le_refl _⟩
    (fun x => { tmps := #[.agg #[.int .u64 (a1 : Int), .int .u64 (a2 : Int)], .slice A len cap, .agg #[.int .u64 (b1 : Int), .int .u64 (b2 : Int)], .pointer (some ⟨w.heap.size, 0, none⟩), undef, .pointer (some ⟨w.heap.size + 1, 0, none⟩), .pointer (some ⟨w.heap.size + 1 + 1, 0, none⟩), .slice (A.map fun ad => ad.add (16 * x.1)) (chL len x.1) (chL len x.1), undef, .slice A len cap,
      .func (.func 46) #[] #[.pointer (some ⟨w.heap.size + 1 + 1 + 1, 0, none⟩), .pointer (some ⟨w.heap.size + 1 + 1 + 1 + 1, 0, none⟩)], .slice (A.map fun ad => ad.add (16 * x.1)) (chL len x.1) (chL len x.1), undef, undef, undef, undef, undef, undef, undef, undef, undef, undef], defers := [] }) ?assign ?body ?done ?stop
  case assign =>
    intro lq x W K hK
    simp only [chA]
    gi_wp2
    exact hK
  case body =>
    rintro lq pre x W ⟨⟨h3, h5, h6⟩, hB, hS5⟩ _
    obtain ⟨xv, hxv⟩ := x
    have hlen0 : 0 < len := by omega
    obtain ⟨ad, rfl, hab, hac⟩ := HRD.out (by rw [vn_len, HN.out]; exact hlen0)
    have hs5 : w5.heap.size ≤ W.heap.size := hS5
    have hr : Rd W W.heap.size (some (ad.add (16 * xv))) (vn ((l.drop (16 * xv)).take 16)) := by
      intro h0
      refine ⟨_, rfl, by rw [add_block]; exact Nat.lt_of_lt_of_le hab hB.size, fun j u hj => ?_⟩
      rw [add_add, hB.cell (by rw [add_block]; exact hab)]
      refine hac (16 * xv + j) u ?_
      have hj16 : j < 16 := by have := (List.getElem?_eq_some_iff.1 hj).1; simp [vn] at this; omega
      simpa [vn, List.getElem?_take, List.getElem?_drop, hj16] using hj
    obtain ⟨m, hm⟩ : ∃ m, m = chL len xv := ⟨_, rfl⟩
    have hm16 : m ≤ 16 := by rw [hm]; unfold chL; split <;> omega
    have hmc : (vn ((l.drop (16 * xv)).take 16)).length = m := by
      rw [vn_len, List.length_take, List.length_drop, HN.out, hm]; unfold chL; split <;> omega
    have hsz : (Try.prog.info? 5).map (·.size) = some 1 := by kernel_rfl
    have d8 : (W.alloc (.cells z16.toArray 35)).heap[W.heap.size]? = some (.cells z16.toArray 35 (0, 0)) := heap_alloc_new W _
    have hbA : Below W.heap.size W (W.alloc (.cells z16.toArray 35)) := (Below.refl _ _).alloc (Nat.le_refl _) _
    have P1 : Hid (0 < (vn ((l.drop (16 * xv)).take 16)).length → ∃ ad', some (ad.add (16 * xv)) = some ad' ∧ ∀ j v, (vn ((l.drop (16 * xv)).take 16))[j]? = some v → (W.alloc (.cells z16.toArray 35)).cell? (ad'.add j) = some v) := Lib.hid fun h0 => by
      obtain ⟨ad', e, hb', hc'⟩ := hr h0
      exact ⟨ad', e, fun j v hv => (hbA.cell (by rw [add_block]; exact hb')).trans (hc' j v hv)⟩
    have HMC := Lib.hid hmc; clear hmc
    have HH3 := Lib.hid h3; clear h3
    have HH5 := Lib.hid h5; clear h5
    have HH6 := Lib.hid h6; clear h6
    have HHB := Lib.hid hB; clear hB hr
    have hone : ∀ v ∈ vn ((l.drop (16 * xv)).take 16), v.oneCell' = true := nums_one _
    have HONE := Lib.hid hone; clear hone
    simp only [← hm]
    have HM := Lib.hid hm; clear hm
    obtain ⟨cs, hcs⟩ : ∃ cs, cs = vn ((l.drop (16 * xv)).take 16) := ⟨_, rfl⟩
    rw [← hcs] at P1 HMC HONE
    have HCS := Lib.hid hcs; clear hcs
    obtain ⟨src, hsrc⟩ : ∃ src, src = some (ad.add (16 * xv)) := ⟨_, rfl⟩
    simp only [Option.map_some]
    rw [← hsrc]
    rw [← hsrc] at P1
    have HSRC := Lib.hid hsrc; clear hsrc
    refine wpIn_block ?_
    refine wpIn_seq (wpIn_round_list (by rfl) ?_)
    go_wp2_with fail
    refine OnlyN.normal ?_
    refine wpIn_seq (wpIn_round_list (by rfl) ?_)
    go_wp2_with (first
      | ((with_reducible show wpList _ _ _ _ _ _); refine wpList_copy_splice (o := ⟨some 14, _, _, _, _, _⟩) rfl (.tmp 12) (.tmp 13) 22 22 rfl 5 Try.underlying22 hsz (some ⟨W.heap.size, 0, none⟩) src 16 16 m m rfl rfl W.heap.size 0 z16 35 d8 cs (by rw [HMC.out]; exact (Nat.min_eq_left hm16).symm) (fun h0 => ⟨rfl, P1.out h0⟩) (by rw [HMC.out, z16_len]; omega) HONE.out W.heap.size W hbA (Nat.le_refl _) ?_))
    intro w6 hw6 hb6
    refine OnlyN.normal ?_
    obtain ⟨elD, hElD, hRow⟩ : ∃ d, Try.prog.underlying 77 = some d ∧ d.isRow = true := ⟨_, Try.underlying77, rfl⟩
    have h8 : H16 w6 W.heap.size (gblk l xv) := by show w6.heap[W.heap.size]? = _; rw [hw6.out, HCS.out, blk_splice]
    have g5 : HE w6 (w.heap.size + 1) key := HE.call hb6 HH5.out
    have hkb : KeptBut w.heap.size W w6 := ⟨hb6.size, fun k hk _ => hb6.block k hk⟩
    have hbb : Below w.heap.size w w6 := HHB.out.trans (hb6.mono HHB.out.size)
    obtain ⟨gv, hgv⟩ : ∃ gv, gv = gpre key a l (pre.map (·.1)) := ⟨_, rfl⟩
    have hgl : gv < 2 ^ 128 := by rw [hgv]; exact gpre_lt _ _ HK.out HA.out _ _
    have HGV := Lib.hid hgv
    have g3 : HE w6 w.heap.size gv := by rw [hgv]; exact HE.call hb6 HH3.out
    clear hgv
    have hg16 : B16 (gblk l xv) := gblk_lt l HL.out xv
    have hl3 : w.heap.size < W.heap.size := (Array.getElem?_eq_some_iff.1 HH3.out).1
    clear hbA d8 P1 hw6
    refine wpIn_round_held (S := (fun w' => w'.rangeAt W.heap.size 0 (vl 16 (gblk l xv)) ∧ w'.rangeAt (w.heap.size + 1) 0 (eL key) ∧ w'.there w.heap.size 0 2 ∧ KeptBut w.heap.size W w' ∧ Below w.heap.size w w')) (by kernel_rfl) (by rfl) ?_ (fun hHeld => ?_)
    · exact ⟨row16_range h8, HE.range g5, HE.there g3, hkb, hbb.drew⟩
    refine wpAnyH_take (i := 1) rfl (by kernel_rfl) (by kernel_rfl) (by kernel_rfl) (fun _ _ _ h => h) (yieldsIf_load_mid (by rfl) 35 (.tmp 8) rfl (W.heap.size) (0) rfl (vl 16 (gblk l xv)) (.array 16 5) (fun _ h => h.1) Try.underlying35 rfl (by rw [vl_len]; exact blk_size)) hHeld ?_
    try simp only [Act.put, zq1, zq2, zq3, zq4, zq5, zq6]
    refine wpAnyH_take (i := 4) rfl (by kernel_rfl) (by kernel_rfl) (by kernel_rfl) (fun _ _ _ h => h) (yieldsIf_load_mid (by rfl) 77 (.tmp 5) rfl (w.heap.size + 1) (0) rfl (eL key) elD (fun _ h => h.2.1) hElD hRow el_info) hHeld ?_
    try simp only [Act.put, zq1, zq2, zq3, zq4, zq5, zq6]
    refine wpAnyH_ready (rs := [0, 2]) (by kernel_rfl) (by simp) ?_
    refine AllReadyH.cons rfl (fun K hK => ?_) (AllReadyH.cons rfl (fun K hK => ?_) (AllReadyH.nil))
    · try simp only [zq1, zq2, zq3]
      rw [if_pos (by rfl)]
      have hrange := (HE.range g3)
      have hinfo : (Try.prog.info? 77).map (·.size) = some (eL (gv)).length := el_info
      refine wp_load_mid 77 (.tmp 3) ?hop (w.heap.size) (0) ?hx (eL (gv)) elD ?hr ?hu hRow ?hi ?_
      case hop => rfl
      case hx => rfl
      case hr => exact hrange
      case hu => exact hElD
      case hi => exact hinfo
      clear hrange hinfo
      try simp only [Act.put, zq1, zq2, zq3, zq4, zq5, zq6]
      refine hK.out _ _ ?_ (fun hHeld => ?_)
      · exact hHeld
      clear hK K
      try simp only [Act.put, zq1, zq2, zq3, zq4, zq5, zq6]
      refine wpAnyH_ready (rs := [2]) (by kernel_rfl) (by simp) ?_
      refine AllReadyH.cons rfl (fun K hK => ?_) (AllReadyH.nil)
      try simp only [zq1, zq2, zq3]
      go_simp
      refine (gwords_d (gblk l xv) _ hg16).mono ?_
      rintro e wa ⟨rfl, hbwa⟩
      refine hK.out _ _ ?_ (fun hHeld => ?_)
      · exact over_keep hbwa hHeld.2.2.2.2.size hHeld
      clear hK K
      try simp only [Act.put, zq1, zq2, zq3, zq4, zq5, zq6]
      refine wpAnyH_ready (rs := [3]) (by kernel_rfl) (by simp) ?_
      refine AllReadyH.cons rfl (fun K hK => ?_) (AllReadyH.nil)
      try simp only [zq1, zq2, zq3]
      go_simp
      refine (gplus_d (gv) (hof (gblk l xv)) _ hgl (hof_lt _ hg16)).mono ?_
      rintro e wc ⟨rfl, hbwc⟩
      refine hK.out _ _ ?_ (fun hHeld => ?_)
      · exact over_keep hbwc hHeld.2.2.2.2.size hHeld
      clear hK K
      try simp only [Act.put, zq1, zq2, zq3, zq4, zq5, zq6]
      refine wpAnyH_ready (rs := [5]) (by kernel_rfl) (by simp) ?_
      refine AllReadyH.cons rfl (fun K hK => ?_) (AllReadyH.nil)
      try simp only [zq1, zq2, zq3]
      go_simp
      refine (gtimes_d (gv ^^^ hof (gblk l xv)) key _ (Nat.xor_lt_two_pow hgl (hof_lt _ hg16)) HK.out).mono ?_
      rintro e wd ⟨rfl, hbwd⟩
      refine hK.out _ _ ?_ (fun hHeld => ?_)
      · exact over_keep hbwd hHeld.2.2.2.2.size hHeld
      clear hK K
      try simp only [Act.put, zq1, zq2, zq3, zq4, zq5, zq6]
      refine wpAnyH_ready (rs := [6]) (by kernel_rfl) (by simp) ?_
      refine AllReadyH.cons rfl (fun K hK => ?_) (AllReadyH.nil)
      try simp only [zq1, zq2, zq3]
      rw [if_pos (by rfl)]
      refine wp_store_mid 77 (.tmp 3) (.tmp 20) rfl (w.heap.size) (0) (eL (hm (gv ^^^ hof (gblk l xv)) key)).toArray rfl rfl hHeld.2.2.1 el_info (el_one _) ?_
      simp only [Act.put, zq1, zq2, zq3, zq4, zq5, zq6, List.toList_toArray]
      refine hK.out _ _ ?_ (fun hHeld => ?_)
      · exact over_store _ (by omega) (by omega) (Nat.le_refl _) hHeld
      clear hK K
      try simp only [Act.put, zq1, zq2, zq3, zq4, zq5, zq6]
      refine wpAnyH_done (by kernel_rfl) ?_ _
      refine OnlyN.normal ?_
      have hz : HE (wd.setCells w.heap.size 0 (eL (hm (gv ^^^ hof (gblk l xv)) key))) w.heap.size (hm (gv ^^^ hof (gblk l xv)) key) := HE.store (HE.call hbwd (HE.call hbwc (HE.call hbwa g3))) _
      have hkz := hHeld.2.2.2.1
      have hbz := hHeld.2.2.2.2
      clear hHeld
      refine ⟨⟨hkz.1, fun k o hk ho => ?_⟩, ⟨hkz.2 _ (by omega) (by omega), hkz.2 _ (by omega) (by omega)⟩, ⟨?_, (hkz.2 _ (by omega) (by omega)).trans HH5.out, (hkz.2 _ (by omega) (by omega)).trans HH6.out⟩, hbz, (by have := hkz.1; omega)⟩
      · refine (hkz.2 k (Array.getElem?_eq_some_iff.1 hk).1 (fun e => ?_)).trans hk
        subst e
        rw [(HH3.out : W.heap[w.heap.size]? = _)] at hk
        cases hk
        cases ho
      · have e9 : gpre key a l ((pre ++ [(⟨xv, hxv⟩ : Chk len)]).map (·.1)) = hm (gv ^^^ hof (gblk l xv)) key := by
          rw [List.map_append, List.map_cons, List.map_nil, gpre_snoc, ← HGV.out]
        show HE _ _ (gpre key a l ((pre ++ [(⟨xv, hxv⟩ : Chk len)]).map (·.1)))
        rw [e9]
        exact hz
    · try simp only [zq1, zq2, zq3]
      go_simp
      refine (gwords_d (gblk l xv) _ hg16).mono ?_
      rintro e wa ⟨rfl, hbwa⟩
      refine hK.out _ _ ?_ (fun hHeld => ?_)
      · exact over_keep hbwa hHeld.2.2.2.2.size hHeld
      clear hK K
      try simp only [Act.put, zq1, zq2, zq3, zq4, zq5, zq6]
      refine wpAnyH_ready (rs := [0]) (by kernel_rfl) (by simp) ?_
      refine AllReadyH.cons rfl (fun K hK => ?_) (AllReadyH.nil)
      try simp only [zq1, zq2, zq3]
      rw [if_pos (by rfl)]
      have hrange := (HE.range (HE.call hbwa g3))
      have hinfo : (Try.prog.info? 77).map (·.size) = some (eL (gv)).length := el_info
      refine wp_load_mid 77 (.tmp 3) ?hop (w.heap.size) (0) ?hx (eL (gv)) elD ?hr ?hu hRow ?hi ?_
      case hop => rfl
      case hx => rfl
      case hr => exact hrange
      case hu => exact hElD
      case hi => exact hinfo
      clear hrange hinfo
      try simp only [Act.put, zq1, zq2, zq3, zq4, zq5, zq6]
      refine hK.out _ _ ?_ (fun hHeld => ?_)
      · exact hHeld
      clear hK K
      try simp only [Act.put, zq1, zq2, zq3, zq4, zq5, zq6]
      refine wpAnyH_ready (rs := [3]) (by kernel_rfl) (by simp) ?_
      refine AllReadyH.cons rfl (fun K hK => ?_) (AllReadyH.nil)
      try simp only [zq1, zq2, zq3]
      go_simp
      refine (gplus_d (gv) (hof (gblk l xv)) _ hgl (hof_lt _ hg16)).mono ?_
      rintro e wc ⟨rfl, hbwc⟩
      refine hK.out _ _ ?_ (fun hHeld => ?_)
      · exact over_keep hbwc hHeld.2.2.2.2.size hHeld
      clear hK K
      try simp only [Act.put, zq1, zq2, zq3, zq4, zq5, zq6]
      refine wpAnyH_ready (rs := [5]) (by kernel_rfl) (by simp) ?_
      refine AllReadyH.cons rfl (fun K hK => ?_) (AllReadyH.nil)
      try simp only [zq1, zq2, zq3]
      go_simp
      refine (gtimes_d (gv ^^^ hof (gblk l xv)) key _ (Nat.xor_lt_two_pow hgl (hof_lt _ hg16)) HK.out).mono ?_
      rintro e wd ⟨rfl, hbwd⟩
      refine hK.out _ _ ?_ (fun hHeld => ?_)
      · exact over_keep hbwd hHeld.2.2.2.2.size hHeld
      clear hK K
      try simp only [Act.put, zq1, zq2, zq3, zq4, zq5, zq6]
      refine wpAnyH_ready (rs := [6]) (by kernel_rfl) (by simp) ?_
      refine AllReadyH.cons rfl (fun K hK => ?_) (AllReadyH.nil)
      try simp only [zq1, zq2, zq3]
      rw [if_pos (by rfl)]
      refine wp_store_mid 77 (.tmp 3) (.tmp 20) rfl (w.heap.size) (0) (eL (hm (gv ^^^ hof (gblk l xv)) key)).toArray rfl rfl hHeld.2.2.1 el_info (el_one _) ?_
      simp only [Act.put, zq1, zq2, zq3, zq4, zq5, zq6, List.toList_toArray]
      refine hK.out _ _ ?_ (fun hHeld => ?_)
      · exact over_store _ (by omega) (by omega) (Nat.le_refl _) hHeld
      clear hK K
      try simp only [Act.put, zq1, zq2, zq3, zq4, zq5, zq6]
      refine wpAnyH_done (by kernel_rfl) ?_ _
      refine OnlyN.normal ?_
      have hz : HE (wd.setCells w.heap.size 0 (eL (hm (gv ^^^ hof (gblk l xv)) key))) w.heap.size (hm (gv ^^^ hof (gblk l xv)) key) := HE.store (HE.call hbwd (HE.call hbwc (HE.call hbwa g3))) _
      have hkz := hHeld.2.2.2.1
      have hbz := hHeld.2.2.2.2
      clear hHeld
      refine ⟨⟨hkz.1, fun k o hk ho => ?_⟩, ⟨hkz.2 _ (by omega) (by omega), hkz.2 _ (by omega) (by omega)⟩, ⟨?_, (hkz.2 _ (by omega) (by omega)).trans HH5.out, (hkz.2 _ (by omega) (by omega)).trans HH6.out⟩, hbz, (by have := hkz.1; omega)⟩
      · refine (hkz.2 k (Array.getElem?_eq_some_iff.1 hk).1 (fun e => ?_)).trans hk
        subst e
        rw [(HH3.out : W.heap[w.heap.size]? = _)] at hk
        cases hk
        cases ho
      · have e9 : gpre key a l ((pre ++ [(⟨xv, hxv⟩ : Chk len)]).map (·.1)) = hm (gv ^^^ hof (gblk l xv)) key := by
          rw [List.map_append, List.map_cons, List.map_nil, gpre_snoc, ← HGV.out]
        show HE _ _ (gpre key a l ((pre ++ [(⟨xv, hxv⟩ : Chk len)]).map (·.1)))
        rw [e9]
        exact hz
  case done =>
    rintro D ys W hD hys ⟨⟨h3, h5, h6⟩, hB, _⟩ hK
    have h3' : HE W w.heap.size (gfrom key a l ((len + 15) / 16)) := by
      have e : gfrom key a l ((len + 15) / 16) = gpre key a l (ys.map (·.1)) := by rw [hys]; rfl
      rw [e]
      exact h3
    clear h3 h5 hys
    have h3 : W.heap[w.heap.size]? = some (Obj.cells #[.int .u64 (g1 : Int), .int .u64 (g2 : Int)] 77 (0, 0)) := by rw [HG.out.1, HG.out.2]; exact h3'
    clear h3'
    have c1 : W.cell? ⟨w.heap.size, 0, none⟩ = some (.int .u64 (g1 : Int)) := by rw [cell_of_row _ _ _ _ _ _ h3]; rfl
    have c2 : W.cell? ⟨w.heap.size, 1, none⟩ = some (.int .u64 (g2 : Int)) := by rw [cell_of_row _ _ _ _ _ _ h3]; rfl
    have c3 : W.cell? ⟨w.heap.size + 1 + 1, 0, none⟩ = some (.int .u64 0) := by rw [cell_of_row _ _ _ _ _ _ h6]; rfl
    have c4 : W.cell? ⟨w.heap.size + 1 + 1, 1, none⟩ = some (.int .u64 0) := by rw [cell_of_row _ _ _ _ _ _ h6]; rfl
    have c5 : W.frozen? ⟨w.heap.size + 1 + 1, 0, none⟩ = false := frozen_of_row _ _ _ _ _ h6
    have c6 : W.frozen? ⟨w.heap.size + 1 + 1, 1, none⟩ = false := frozen_of_row _ _ _ _ _ h6
    have hDk : w.heap.size + 1 + 1 ≠ D := by omega
    gi_wp2
    have hK' := ((KeepsOthers.setCell W ⟨w.heap.size + 1 + 1, 0, none⟩ (.int .u64 (g1 : Int))).trans (KeepsOthers.setCell _ ⟨w.heap.size + 1 + 1, 1, none⟩ (.int .u64 (g2 : Int)))).same D _ hK rfl
    refine ⟨by simp, .inl ⟨_, _, rfl, run_takeDeferred hK', ?_⟩⟩
    refine ⟨_, el_ret (p := 6) (by kernel_rfl) _ _ (w.heap.size + 1 + 1) g1 g2 rfl ?_, rfl, ?_⟩
    · exact (World.putObj_heap_other hDk).trans (el_set h6)
    · exact ((hB.setCell (p := ⟨w.heap.size + 1 + 1, 0, none⟩) (by simp; omega) _).setCell (p := ⟨w.heap.size + 1 + 1, 1, none⟩) (by simp; omega) _).trans (belowK_b (w := w) (Nat.le_refl _) _ D _ _ (by omega) hK' rfl rfl)
  case stop =>
    rintro D c pre W _ _ h _
    exact h.elim
end Go.Proofs.Ytkfmgjipocmkjaa
namespace Go.Proofs.Ytkfmgjipocmkjaa
open Go Go.RowKit
set_option linter.unusedVariables false
set_option linter.unusedSimpArgs false

theorem mul_keep {w w1 w' : World} {a b c : Nat} {f g : Nat → Nat} {B0 : Nat} (hb : Below w1.heap.size w1 w') (h : w1.rangeAt a 0 (vl 16 f) ∧ w1.rangeAt b 0 (vl 16 g) ∧ w1.there c 0 16 ∧ Below B0 w w1) (hB : B0 ≤ w1.heap.size) :
    w'.rangeAt a 0 (vl 16 f) ∧ w'.rangeAt b 0 (vl 16 g) ∧ w'.there c 0 16 ∧ Below B0 w w' :=
  ⟨range_callw hb h.1, range_callw hb h.2.1, there_callw hb h.2.2.1, h.2.2.2.trans (hb.mono hB)⟩
theorem mul_store {w w1 : World} {a b c : Nat} {f g : Nat → Nat} {B0 : Nat} (vs : List Value) (ha : a ≠ c) (hb : b ≠ c) (hc : B0 ≤ c) (h : w1.rangeAt a 0 (vl 16 f) ∧ w1.rangeAt b 0 (vl 16 g) ∧ w1.there c 0 16 ∧ Below B0 w w1) :
    (w1.setCells c 0 vs).rangeAt a 0 (vl 16 f) ∧ (w1.setCells c 0 vs).rangeAt b 0 (vl 16 g) ∧ (w1.setCells c 0 vs).there c 0 16 ∧ Below B0 w (w1.setCells c 0 vs) :=
  ⟨World.rangeAt_setCells_apart h.1 _ _ _ (.inl ha), World.rangeAt_setCells_apart h.2.1 _ _ _ (.inl hb), World.there_setCells h.2.2.1 _ _ _, below_store h.2.2.2 hc _ 0⟩

end Go.Proofs.Ytkfmgjipocmkjaa
