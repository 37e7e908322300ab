/-
  AES on numbers: states of sixteen bytes as functions, key words as a list, to encipher and to decipher, there and back. Plain mathematics, behind the field of 256.
-/
import Derived.Test.YtfgigoheaoanpaaGfC
import Derived.Test.YtfgigoheaoanpaaRow
namespace Go.Proofs.Ytfgigoheaoanpaa

/-- Each byte by a table. -/
def sMap (t : Nat → Nat) (f : Nat → Nat) (i : Nat) : Nat := t (f i)
/-- Of row p each byte so many columns to the left. -/
def sMov (y : Nat → Nat) (f : Nat → Nat) (i : Nat) : Nat := f (4 * ((i / 4 + y (i % 4)) % 4) + i % 4)
/-- Each column by rows. -/
def sMix (m : Nat → Nat) (f : Nat → Nat) (i : Nat) : Nat := mixd m (fun q => f (4 * (i / 4) + q)) (i % 4)
def sAdd (f k : Nat → Nat) (i : Nat) : Nat := f i ^^^ k i
/-- The round key j. -/
def rk (w : Nat → Nat) (j i : Nat) : Nat := w (16 * j + i)
def up (p : Nat) : Nat := p
def dn (p : Nat) : Nat := (4 - p) % 4

theorem sMap_eq {f g : Nat → Nat} (t : Nat → Nat) (h : E16 f g) : E16 (sMap t f) (sMap t g) := fun i hi => by unfold sMap; rw [h i hi]
theorem sMov_eq {f g : Nat → Nat} (y : Nat → Nat) (h : E16 f g) : E16 (sMov y f) (sMov y g) := fun i hi => h _ (by omega)
theorem sMix_eq {f g : Nat → Nat} (m : Nat → Nat) (h : E16 f g) : E16 (sMix m f) (sMix m g) := fun i hi => by
  unfold sMix mixd
  rw [dotp4, dotp4, h _ (by omega), h _ (by omega), h _ (by omega), h _ (by omega)]
theorem sAdd_eq {f g : Nat → Nat} (k : Nat → Nat) (h : E16 f g) : E16 (sAdd f k) (sAdd g k) := fun i hi => by unfold sAdd; rw [h i hi]
theorem sMap_lt {f : Nat → Nat} (t : Nat → Nat) (ht : ∀ a, a < 256 → t a < 256) (h : B16 f) : B16 (sMap t f) := fun i hi => ht _ (h i hi)
theorem sMov_lt {f : Nat → Nat} (y : Nat → Nat) (h : B16 f) : B16 (sMov y f) := fun i hi => h _ (by omega)
theorem sMix_lt {f : Nat → Nat} (m : Nat → Nat) (h : B16 f) : B16 (sMix m f) := fun i hi => mixd_lt _ _ (fun q hq => h _ (by omega)) _
theorem sAdd_lt {f k : Nat → Nat} (h : B16 f) (hk : B16 k) : B16 (sAdd f k) := fun i hi => Nat.xor_lt_two_pow (n := 8) (h i hi) (hk i hi)

theorem sAdd_back (f k : Nat → Nat) : E16 (sAdd (sAdd f k) k) f := fun i _ => by unfold sAdd; rw [Nat.xor_assoc, Nat.xor_self, Nat.xor_zero]
theorem sMov_back (f : Nat → Nat) : E16 (sMov dn (sMov up f)) f := fun i hi => by
  unfold sMov up dn
  congr 1
  omega
theorem sMov_forth (f : Nat → Nat) : E16 (sMov up (sMov dn f)) f := fun i hi => by
  unfold sMov up dn
  congr 1
  omega
theorem col_of (m : Nat → Nat) (f : Nat → Nat) (i q : Nat) (hq : q < 4) : sMix m f (4 * (i / 4) + q) = mixd m (fun q => f (4 * (i / 4) + q)) q := by
  unfold sMix
  rw [show (4 * (i / 4) + q) / 4 = i / 4 from by omega, show (4 * (i / 4) + q) % 4 = q from by omega]
theorem mixd_eq (m c d : Nat → Nat) (h : ∀ q, q < 4 → c q = d q) (j : Nat) : mixd m c j = mixd m d j := by
  unfold mixd
  rw [dotp4, dotp4, h 0 (by omega), h 1 (by omega), h 2 (by omega), h 3 (by omega)]
theorem sMix_back (f : Nat → Nat) (h : B16 f) : E16 (sMix unmixR (sMix mixR f)) f := fun i hi => by
  show mixd unmixR (fun q => sMix mixR f (4 * (i / 4) + q)) (i % 4) = f i
  rw [mixd_eq _ _ _ (fun q hq => col_of mixR f i q hq), unmix_mix _ (fun q hq => h _ (by omega)) _ (by omega)]
  congr 1
  omega
theorem sMix_forth (f : Nat → Nat) (h : B16 f) : E16 (sMix mixR (sMix unmixR f)) f := fun i hi => by
  show mixd mixR (fun q => sMix unmixR f (4 * (i / 4) + q)) (i % 4) = f i
  rw [mixd_eq _ _ _ (fun q hq => col_of unmixR f i q hq), mix_unmix _ (fun q hq => h _ (by omega)) _ (by omega)]
  congr 1
  omega
theorem sMap_back (f : Nat → Nat) (h : B16 f) : E16 (sMap gb (sMap gs f)) f := fun i hi => gb_gs _ (h i hi)
theorem sMap_forth (f : Nat → Nat) (h : B16 f) : E16 (sMap gs (sMap gb f)) f := fun i hi => gs_gb _ (h i hi)

/-- A round forth, the key last: 'last' has no columns mixed. -/
def eRnd (w : Nat → Nat) (r j : Nat) (f : Nat → Nat) : Nat → Nat :=
  sAdd (if j < r then sMix mixR (sMov up (sMap gs f)) else sMov up (sMap gs f)) (rk w j)
/-- A round back. -/
def dRnd (w : Nat → Nat) (r j : Nat) (f : Nat → Nat) : Nat → Nat :=
  sMap gb (sMov dn (if j < r then sMix unmixR (sAdd f (rk w j)) else sAdd f (rk w j)))
/-- Enciphered, n rounds. -/
def eN (w : Nat → Nat) (r : Nat) (b : Nat → Nat) : Nat → Nat → Nat
  | 0 => sAdd b (rk w 0)
  | n + 1 => eRnd w r (n + 1) (eN w r b n)
/-- Deciphered, n rounds from the last one on. -/
def dN (w : Nat → Nat) (r : Nat) (b : Nat → Nat) : Nat → Nat → Nat
  | 0 => b
  | n + 1 => dRnd w r (r - n) (dN w r b n)
def enc (w : Nat → Nat) (r : Nat) (b : Nat → Nat) : Nat → Nat := eN w r b r
def dec (w : Nat → Nat) (r : Nat) (b : Nat → Nat) : Nat → Nat := sAdd (dN w r b r) (rk w 0)

def BK (w : Nat → Nat) (r : Nat) : Prop := ∀ j, j ≤ r → B16 (rk w j)
theorem eRnd_eq {f g : Nat → Nat} (w : Nat → Nat) (r j : Nat) (h : E16 f g) : E16 (eRnd w r j f) (eRnd w r j g) := by
  unfold eRnd
  refine sAdd_eq _ ?_
  split
  · exact sMix_eq _ (sMov_eq _ (sMap_eq _ h))
  · exact sMov_eq _ (sMap_eq _ h)
theorem dRnd_eq {f g : Nat → Nat} (w : Nat → Nat) (r j : Nat) (h : E16 f g) : E16 (dRnd w r j f) (dRnd w r j g) := by
  unfold dRnd
  refine sMap_eq _ (sMov_eq _ ?_)
  split
  · exact sMix_eq _ (sAdd_eq _ h)
  · exact sAdd_eq _ h
theorem eRnd_lt {f : Nat → Nat} (w : Nat → Nat) (r j : Nat) (h : B16 f) (hk : B16 (rk w j)) : B16 (eRnd w r j f) := by
  unfold eRnd
  refine sAdd_lt ?_ hk
  split
  · exact sMix_lt _ (sMov_lt _ (sMap_lt _ gs_lt h))
  · exact sMov_lt _ (sMap_lt _ gs_lt h)
theorem dRnd_lt {f : Nat → Nat} (w : Nat → Nat) (r j : Nat) (h : B16 f) (hk : B16 (rk w j)) : B16 (dRnd w r j f) := by
  unfold dRnd
  refine sMap_lt _ gb_lt (sMov_lt _ ?_)
  split
  · exact sMix_lt _ (sAdd_lt h hk)
  · exact sAdd_lt h hk
theorem dRnd_eRnd (w : Nat → Nat) (r j : Nat) (f : Nat → Nat) (h : B16 f) : E16 (dRnd w r j (eRnd w r j f)) f := by
  have h1 := sMap_lt _ gs_lt h
  unfold dRnd eRnd
  by_cases hj : j < r
  · simp only [hj, if_true]
    refine (sMap_eq _ (sMov_eq _ ((sMix_eq _ (sAdd_back _ _)).trans (sMix_back _ (sMov_lt _ h1))))).trans ?_
    exact (sMap_eq _ (sMov_back _)).trans (sMap_back f h)
  · simp only [hj, if_false]
    refine (sMap_eq _ (sMov_eq _ (sAdd_back _ _))).trans ?_
    exact (sMap_eq _ (sMov_back _)).trans (sMap_back f h)
theorem eRnd_dRnd (w : Nat → Nat) (r j : Nat) (f : Nat → Nat) (h : B16 f) (hk : B16 (rk w j)) : E16 (eRnd w r j (dRnd w r j f)) f := by
  have h1 := sAdd_lt h hk
  unfold dRnd eRnd
  by_cases hj : j < r
  · simp only [hj, if_true]
    refine (sAdd_eq _ (sMix_eq _ (sMov_eq _ (sMap_forth _ (sMov_lt _ (sMix_lt _ h1)))))).trans ?_
    refine (sAdd_eq _ (sMix_eq _ (sMov_forth _))).trans ?_
    exact (sAdd_eq _ (sMix_forth _ h1)).trans (sAdd_back _ _)
  · simp only [hj, if_false]
    refine (sAdd_eq _ (sMov_eq _ (sMap_forth _ (sMov_lt _ h1)))).trans ?_
    exact (sAdd_eq _ (sMov_forth _)).trans (sAdd_back _ _)

theorem eN_lt (w : Nat → Nat) (r : Nat) (b : Nat → Nat) (hb : B16 b) (hk : BK w r) (n : Nat) (hn : n ≤ r) : B16 (eN w r b n) := by
  induction n with
  | zero => exact sAdd_lt hb (hk 0 (by omega))
  | succ n ih => exact eRnd_lt w r _ (ih (by omega)) (hk _ hn)
theorem dN_lt (w : Nat → Nat) (r : Nat) (b : Nat → Nat) (hb : B16 b) (hk : BK w r) (n : Nat) (hn : n ≤ r) : B16 (dN w r b n) := by
  induction n with
  | zero => exact hb
  | succ n ih => exact dRnd_lt w r _ (ih (by omega)) (hk _ (by omega))
theorem enc_lt (w : Nat → Nat) (r : Nat) (b : Nat → Nat) (hb : B16 b) (hk : BK w r) : B16 (enc w r b) := eN_lt w r b hb hk r (Nat.le_refl r)
theorem dec_lt (w : Nat → Nat) (r : Nat) (b : Nat → Nat) (hb : B16 b) (hk : BK w r) : B16 (dec w r b) := sAdd_lt (dN_lt w r b hb hk r (Nat.le_refl r)) (hk 0 (by omega))
theorem eN_eq {b d : Nat → Nat} (w : Nat → Nat) (r : Nat) (h : E16 b d) (n : Nat) : E16 (eN w r b n) (eN w r d n) := by
  induction n with
  | zero => exact sAdd_eq _ h
  | succ n ih => exact eRnd_eq _ _ _ ih
theorem dN_eq {b d : Nat → Nat} (w : Nat → Nat) (r : Nat) (h : E16 b d) (n : Nat) : E16 (dN w r b n) (dN w r d n) := by
  induction n with
  | zero => exact h
  | succ n ih => exact dRnd_eq _ _ _ ih
theorem enc_eq {b d : Nat → Nat} (w : Nat → Nat) (r : Nat) (h : E16 b d) : E16 (enc w r b) (enc w r d) := eN_eq w r h r
theorem dec_eq {b d : Nat → Nat} (w : Nat → Nat) (r : Nat) (h : E16 b d) : E16 (dec w r b) (dec w r d) := sAdd_eq _ (dN_eq w r h r)

/-- What was enciphered is deciphered to what it was. -/
theorem dec_enc (w : Nat → Nat) (r : Nat) (b : Nat → Nat) (hb : B16 b) (hk : BK w r) : E16 (dec w r (enc w r b)) b := by
  have key : ∀ n, n ≤ r → E16 (dN w r (enc w r b) n) (eN w r b (r - n)) := by
    intro n
    induction n with
    | zero => intro _; exact E16.refl _
    | succ n ih =>
      intro hn
      have h1 := ih (by omega)
      rw [show r - n = (r - (n + 1)) + 1 from by omega] at h1
      show E16 (dRnd w r (r - n) (dN w r (enc w r b) n)) _
      rw [show r - n = (r - (n + 1)) + 1 from by omega]
      exact (dRnd_eq _ _ _ h1).trans (dRnd_eRnd w r _ _ (eN_lt w r b hb hk _ (by omega)))
  have h := key r (Nat.le_refl r)
  rw [Nat.sub_self] at h
  exact (sAdd_eq _ h).trans (sAdd_back _ _)
/-- What was deciphered is enciphered to what it was. -/
theorem enc_dec (w : Nat → Nat) (r : Nat) (b : Nat → Nat) (hb : B16 b) (hk : BK w r) : E16 (enc w r (dec w r b)) b := by
  have key : ∀ n, n ≤ r → E16 (eN w r (dec w r b) n) (dN w r b (r - n)) := by
    intro n
    induction n with
    | zero => intro _; exact sAdd_back _ _
    | succ n ih =>
      intro hn
      have h1 := ih (by omega)
      rw [show r - n = (r - (n + 1)) + 1 from by omega] at h1
      refine (eRnd_eq _ _ _ h1).trans ?_
      show E16 (eRnd w r (n + 1) (dRnd w r (r - (r - (n + 1))) (dN w r b (r - (n + 1))))) _
      rw [show r - (r - (n + 1)) = n + 1 from by omega]
      exact eRnd_dRnd w r _ _ (dN_lt w r b hb hk _ (by omega)) (hk _ hn)
  have h := key r (Nat.le_refl r)
  rw [Nat.sub_self] at h
  exact h

/- The words of a key, as bytes one behind the other. -/
/-- What the word ahead becomes. -/
def kT (k i : Nat) (t : Nat → Nat) (p : Nat) : Nat :=
  if i % k = 0 then (if p = 0 then gs (t ((p + 1) % 4)) ^^^ gp 2 (i / k - 1) else gs (t ((p + 1) % 4)))
  else if k = 8 ∧ i % 8 = 4 then gs (t p) else t p
/-- The word i behind those ahead. -/
def kW (k i : Nat) (w : List Nat) (p : Nat) : Nat := kT k i (fun p => w.getD (4 * (i - 1) + p) 0) p ^^^ w.getD (4 * (i - k) + p) 0
def kX (k : Nat) (key : List Nat) : Nat → List Nat
  | 0 => key
  | n + 1 => kX k key n ++ [kW k (k + n) (kX k key n) 0, kW k (k + n) (kX k key n) 1, kW k (k + n) (kX k key n) 2, kW k (k + n) (kX k key n) 3]
/-- All of them. -/
def kAll (key : List Nat) : List Nat := kX (key.length / 4) key (3 * (key.length / 4) + 28)
theorem kX_len (k : Nat) (key : List Nat) (n : Nat) : (kX k key n).length = key.length + 4 * n := by
  induction n with
  | zero => rfl
  | succ n ih => rw [kX, List.length_append, ih]; simp; omega
theorem getD_lt (l : List Nat) (h : ∀ x ∈ l, x < 256) (i : Nat) : l.getD i 0 < 256 := by
  rw [List.getD_eq_getElem?_getD]
  cases hl : l[i]? with
  | none => simp
  | some x => simpa using h x (List.mem_of_getElem? hl)
theorem kT_lt (k i : Nat) (t : Nat → Nat) (ht : ∀ p, t p < 256) (p : Nat) : kT k i t p < 256 := by
  unfold kT
  split
  · split
    · exact Nat.xor_lt_two_pow (n := 8) (gs_lt _ (ht _)) (gp_lt 2 _ (by omega))
    · exact gs_lt _ (ht _)
  · split
    · exact gs_lt _ (ht _)
    · exact ht _
theorem kW_lt (k i : Nat) (w : List Nat) (h : ∀ x ∈ w, x < 256) (p : Nat) : kW k i w p < 256 :=
  Nat.xor_lt_two_pow (n := 8) (kT_lt k i _ (fun _ => getD_lt w h _) p) (getD_lt w h _)
theorem kX_lt (k : Nat) (key : List Nat) (h : ∀ x ∈ key, x < 256) (n : Nat) : ∀ x ∈ kX k key n, x < 256 := by
  induction n with
  | zero => exact h
  | succ n ih =>
    intro x hx
    rw [kX, List.mem_append] at hx
    rcases hx with hx | hx
    · exact ih x hx
    · simp only [List.mem_cons, List.not_mem_nil, or_false] at hx
      rcases hx with rfl | rfl | rfl | rfl <;> exact kW_lt _ _ _ ih _
/-- The bytes of a key's words, by their place. -/
def kF (key : List Nat) (i : Nat) : Nat := (kAll key).getD i 0
theorem kF_lt (key : List Nat) (h : ∀ x ∈ key, x < 256) (i : Nat) : kF key i < 256 := getD_lt _ (kX_lt _ _ h _) i
theorem kF_bk (key : List Nat) (h : ∀ x ∈ key, x < 256) (r : Nat) : BK (kF key) r := fun _ _ _ _ => kF_lt key h _
end Go.Proofs.Ytfgigoheaoanpaa
