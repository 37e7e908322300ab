/-
  The standard's examples, on numbers. (Printed by wip/gen/aesknown.py.)
-/
import Derived.Test.YtljmkleppoacaaaAesK
namespace Go.Proofs.Ytljmkleppoacaaa
set_option maxRecDepth 100000

theorem all_below {p : Nat → Bool} (n : Nat) (h : (List.range n).all p = true) (a : Nat) (ha : a < n) : p a = true := List.all_eq_true.mp h a (List.mem_range.mpr ha)

/-- The cipher hangs on the key's words alone that it uses. -/
theorem rk_eq {w v : Nat → Nat} {r : Nat} (h : ∀ i, i < 16 * (r + 1) → w i = v i) (j : Nat) (hj : j ≤ r) : E16 (rk w j) (rk v j) := fun i hi => h _ (by omega)
theorem sAdd_key (f : Nat → Nat) {k l : Nat → Nat} (h : E16 k l) : E16 (sAdd f k) (sAdd f l) := fun i hi => by unfold sAdd; rw [h i hi]
theorem eN_key {w v : Nat → Nat} {r : Nat} (h : ∀ i, i < 16 * (r + 1) → w i = v i) (b : Nat → Nat) (n : Nat) (hn : n ≤ r) : E16 (eN w r b n) (eN v r b n) := by
  induction n with
  | zero => exact sAdd_key b (rk_eq h 0 (by omega))
  | succ n ih =>
    refine (eRnd_eq w r (n + 1) (ih (by omega))).trans ?_
    exact sAdd_key _ (rk_eq h (n + 1) hn)
/-- A table of states is what the rounds come to. -/
theorem eN_table (w : Nat → Nat) (r : Nat) (b s : Nat → Nat) (h0 : ∀ i, i < 16 → s i = sAdd b (rk w 0) i) (hn : ∀ j i, j < r → i < 16 → s (16 * (j + 1) + i) = eRnd w r (j + 1) (fun i => s (16 * j + i)) i) :
    ∀ n, n ≤ r → E16 (eN w r b n) (fun i => s (16 * n + i)) := by
  intro n
  induction n with
  | zero => exact fun _ i hi => by show sAdd b (rk w 0) i = s (16 * 0 + i); rw [Nat.mul_zero, Nat.zero_add, h0 i hi]
  | succ n ih =>
    intro hn'
    refine (eRnd_eq w r (n + 1) (ih (by omega))).trans fun i hi => ?_
    exact (hn n i (by omega) hi).symm

def blkF (i : Nat) : Nat := 17 * i

def keyA : List Nat := [0, 1, 2, 3, 4, 5, 6, 7, 8, 9, 10, 11, 12, 13, 14, 15]
def wdsA : List Nat := [0, 1, 2, 3, 4, 5, 6, 7, 8, 9, 10, 11, 12, 13, 14, 15, 214, 170, 116, 253, 210, 175, 114, 250, 218, 166, 120, 241, 214, 171, 118, 254, 182, 146, 207, 11, 100, 61, 189, 241, 190, 155, 197, 0, 104, 48, 179, 254, 182, 255, 116, 78, 210, 194, 201, 191, 108, 89, 12, 191, 4, 105, 191, 65, 71, 247, 247, 188, 149, 53, 62, 3, 249, 108, 50, 188, 253, 5, 141, 253, 60, 170, 163, 232, 169, 159, 157, 235, 80, 243, 175, 87, 173, 246, 34, 170, 94, 57, 15, 125, 247, 166, 146, 150, 167, 85, 61, 193, 10, 163, 31, 107, 20, 249, 112, 26, 227, 95, 226, 140, 68, 10, 223, 77, 78, 169, 192, 38, 71, 67, 135, 53, 164, 28, 101, 185, 224, 22, 186, 244, 174, 191, 122, 210, 84, 153, 50, 209, 240, 133, 87, 104, 16, 147, 237, 156, 190, 44, 151, 78, 19, 17, 29, 127, 227, 148, 74, 23, 243, 7, 167, 139, 77, 43, 48, 197]
theorem wdsA_next : ((List.range 44).all fun i => (List.range 4).all fun p => i < 4 || wdsA.getD (4 * i + p) 0 == kT 4 i (fun p => wdsA.getD (4 * (i - 1) + p) 0) p ^^^ wdsA.getD (4 * (i - 4) + p) 0) = true := by decide +kernel
theorem wdsA_first : ((List.range 16).all fun i => wdsA.getD i 0 == keyA.getD i 0) = true := by decide +kernel
theorem keyA_words : ∀ j, j < 176 → kF keyA j = wdsA.getD j 0 := by
  refine kF_uniq keyA 4 rfl (by omega) (fun j => wdsA.getD j 0) (fun j hj => ?_) (fun i p h1 h2 hp => ?_)
  · exact eq_of_beq (all_below 16 wdsA_first j hj)
  · have h := all_below 4 (all_below 44 wdsA_next i (by omega)) p hp
    simp only [Bool.or_eq_true, decide_eq_true_eq] at h
    rcases h with h | h
    · omega
    · exact eq_of_beq h

def stsA : List Nat := [0, 16, 32, 48, 64, 80, 96, 112, 128, 144, 160, 176, 192, 208, 224, 240, 137, 216, 16, 232, 133, 90, 206, 104, 45, 24, 67, 216, 203, 18, 143, 228, 73, 21, 89, 143, 85, 229, 215, 160, 218, 202, 148, 250, 31, 10, 99, 247, 250, 99, 106, 40, 37, 179, 57, 201, 64, 102, 138, 49, 87, 36, 77, 23, 36, 114, 64, 35, 105, 102, 179, 250, 110, 210, 117, 50, 136, 66, 91, 108, 200, 22, 119, 188, 155, 122, 201, 59, 37, 2, 121, 146, 176, 38, 25, 150, 198, 47, 225, 9, 247, 94, 237, 195, 204, 121, 57, 93, 132, 249, 207, 93, 209, 135, 108, 15, 121, 196, 48, 10, 180, 85, 148, 173, 214, 111, 244, 31, 253, 227, 186, 210, 5, 229, 208, 215, 53, 71, 150, 78, 241, 254, 55, 241, 189, 110, 124, 61, 242, 181, 119, 158, 11, 97, 33, 110, 139, 16, 182, 137, 105, 196, 224, 216, 106, 123, 4, 48, 216, 205, 183, 128, 112, 180, 197, 90]
theorem stsA_first : ((List.range 16).all fun i => stsA.getD i 0 == sAdd blkF (rk (fun i => wdsA.getD i 0) 0) i) = true := by decide +kernel
theorem stsA_next : ((List.range 10).all fun j => (List.range 16).all fun i => stsA.getD (16 * (j + 1) + i) 0 == eRnd (fun i => wdsA.getD i 0) 10 (j + 1) (fun i => stsA.getD (16 * j + i) 0) i) = true := by decide +kernel
def outA (i : Nat) : Nat := ([105, 196, 224, 216, 106, 123, 4, 48, 216, 205, 183, 128, 112, 180, 197, 90] : List Nat).getD i 0
theorem outA_last : ((List.range 16).all fun i => stsA.getD (160 + i) 0 == outA i) = true := by decide +kernel
theorem knownA : E16 (enc (kF keyA) 10 blkF) outA := by
  refine (eN_key (v := fun i => wdsA.getD i 0) (r := 10) (fun i hi => keyA_words i hi) blkF 10 (Nat.le_refl _)).trans ?_
  refine (eN_table (fun i => wdsA.getD i 0) 10 blkF (fun i => stsA.getD i 0) (fun i hi => ?_) (fun j i hj hi => ?_) 10 (Nat.le_refl _)).trans fun i hi => ?_
  · exact eq_of_beq (all_below 16 stsA_first i hi)
  · exact eq_of_beq (all_below 16 (all_below 10 stsA_next j hj) i hi)
  · exact eq_of_beq (all_below 16 outA_last i hi)

def keyB : List Nat := [0, 1, 2, 3, 4, 5, 6, 7, 8, 9, 10, 11, 12, 13, 14, 15, 16, 17, 18, 19, 20, 21, 22, 23, 24, 25, 26, 27, 28, 29, 30, 31]
def wdsB : List Nat := [0, 1, 2, 3, 4, 5, 6, 7, 8, 9, 10, 11, 12, 13, 14, 15, 16, 17, 18, 19, 20, 21, 22, 23, 24, 25, 26, 27, 28, 29, 30, 31, 165, 115, 194, 159, 161, 118, 196, 152, 169, 127, 206, 147, 165, 114, 192, 156, 22, 81, 168, 205, 2, 68, 190, 218, 26, 93, 164, 193, 6, 64, 186, 222, 174, 135, 223, 240, 15, 241, 27, 104, 166, 142, 213, 251, 3, 252, 21, 103, 109, 225, 241, 72, 111, 165, 79, 146, 117, 248, 235, 83, 115, 184, 81, 141, 198, 86, 130, 127, 201, 167, 153, 23, 111, 41, 76, 236, 108, 213, 89, 139, 61, 226, 58, 117, 82, 71, 117, 231, 39, 191, 158, 180, 84, 7, 207, 57, 11, 220, 144, 95, 194, 123, 9, 72, 173, 82, 69, 164, 193, 135, 28, 47, 69, 245, 166, 96, 23, 178, 211, 135, 48, 13, 77, 51, 100, 10, 130, 10, 124, 207, 247, 28, 190, 180, 254, 84, 19, 230, 187, 240, 210, 97, 167, 223, 240, 26, 250, 254, 231, 168, 41, 121, 215, 165, 100, 74, 179, 175, 230, 64, 37, 65, 254, 113, 155, 245, 0, 37, 136, 19, 187, 213, 90, 114, 28, 10, 78, 90, 102, 153, 169, 242, 79, 224, 126, 87, 43, 170, 205, 248, 205, 234, 36, 252, 121, 204, 191, 9, 121, 233, 55, 26, 194, 60, 109, 104, 222, 54]
theorem wdsB_next : ((List.range 60).all fun i => (List.range 4).all fun p => i < 8 || wdsB.getD (4 * i + p) 0 == kT 8 i (fun p => wdsB.getD (4 * (i - 1) + p) 0) p ^^^ wdsB.getD (4 * (i - 8) + p) 0) = true := by decide +kernel
theorem wdsB_first : ((List.range 32).all fun i => wdsB.getD i 0 == keyB.getD i 0) = true := by decide +kernel
theorem keyB_words : ∀ j, j < 240 → kF keyB j = wdsB.getD j 0 := by
  refine kF_uniq keyB 8 rfl (by omega) (fun j => wdsB.getD j 0) (fun j hj => ?_) (fun i p h1 h2 hp => ?_)
  · exact eq_of_beq (all_below 32 wdsB_first j hj)
  · have h := all_below 4 (all_below 60 wdsB_next i (by omega)) p hp
    simp only [Bool.or_eq_true, decide_eq_true_eq] at h
    rcases h with h | h
    · omega
    · exact eq_of_beq h

def stsB : List Nat := [0, 16, 32, 48, 64, 80, 96, 112, 128, 144, 160, 176, 192, 208, 224, 240, 79, 99, 118, 6, 67, 224, 170, 133, 239, 167, 33, 50, 1, 164, 231, 5, 24, 89, 251, 194, 138, 28, 0, 160, 120, 237, 138, 173, 196, 47, 97, 9, 151, 92, 102, 193, 203, 159, 63, 168, 169, 58, 40, 223, 142, 225, 15, 99, 28, 5, 242, 113, 164, 23, 224, 79, 249, 33, 197, 193, 4, 112, 21, 84, 195, 87, 170, 225, 27, 69, 183, 176, 162, 199, 189, 40, 168, 220, 153, 250, 127, 7, 65, 67, 203, 78, 36, 62, 193, 12, 129, 93, 131, 117, 213, 76, 214, 83, 164, 105, 108, 160, 188, 15, 90, 202, 171, 93, 185, 108, 94, 125, 90, 168, 88, 57, 95, 210, 141, 125, 5, 225, 163, 136, 104, 243, 185, 197, 74, 130, 72, 81, 197, 126, 126, 71, 100, 61, 229, 12, 42, 243, 232, 201, 193, 73, 7, 246, 202, 59, 58, 160, 112, 233, 170, 49, 59, 82, 181, 236, 95, 156, 106, 191, 186, 198, 52, 170, 80, 64, 159, 167, 102, 103, 118, 83, 81, 102, 4, 149, 67, 83, 149, 3, 20, 251, 134, 228, 1, 146, 37, 33, 98, 123, 206, 185, 153, 157, 90, 170, 201, 69, 236, 244, 35, 245, 109, 165, 142, 162, 183, 202, 81, 103, 69, 191, 234, 252, 73, 144, 75, 73, 96, 137]
theorem stsB_first : ((List.range 16).all fun i => stsB.getD i 0 == sAdd blkF (rk (fun i => wdsB.getD i 0) 0) i) = true := by decide +kernel
theorem stsB_next : ((List.range 14).all fun j => (List.range 16).all fun i => stsB.getD (16 * (j + 1) + i) 0 == eRnd (fun i => wdsB.getD i 0) 14 (j + 1) (fun i => stsB.getD (16 * j + i) 0) i) = true := by decide +kernel
def outB (i : Nat) : Nat := ([142, 162, 183, 202, 81, 103, 69, 191, 234, 252, 73, 144, 75, 73, 96, 137] : List Nat).getD i 0
theorem outB_last : ((List.range 16).all fun i => stsB.getD (224 + i) 0 == outB i) = true := by decide +kernel
theorem knownB : E16 (enc (kF keyB) 14 blkF) outB := by
  refine (eN_key (v := fun i => wdsB.getD i 0) (r := 14) (fun i hi => keyB_words i hi) blkF 14 (Nat.le_refl _)).trans ?_
  refine (eN_table (fun i => wdsB.getD i 0) 14 blkF (fun i => stsB.getD i 0) (fun i hi => ?_) (fun j i hj hi => ?_) 14 (Nat.le_refl _)).trans fun i hi => ?_
  · exact eq_of_beq (all_below 16 stsB_first i hi)
  · exact eq_of_beq (all_below 16 (all_below 14 stsB_next j hj) i hi)
  · exact eq_of_beq (all_below 16 outB_last i hi)

def keyC : List Nat := [43, 126, 21, 22, 40, 174, 210, 166, 171, 247, 21, 136, 9, 207, 79, 60]
def wdsC : List Nat := [43, 126, 21, 22, 40, 174, 210, 166, 171, 247, 21, 136, 9, 207, 79, 60, 160, 250, 254, 23, 136, 84, 44, 177, 35, 163, 57, 57, 42, 108, 118, 5, 242, 194, 149, 242, 122, 150, 185, 67, 89, 53, 128, 122, 115, 89, 246, 127, 61, 128, 71, 125, 71, 22, 254, 62, 30, 35, 126, 68, 109, 122, 136, 59, 239, 68, 165, 65, 168, 82, 91, 127, 182, 113, 37, 59, 219, 11, 173, 0, 212, 209, 198, 248, 124, 131, 157, 135, 202, 242, 184, 188, 17, 249, 21, 188, 109, 136, 163, 122, 17, 11, 62, 253, 219, 249, 134, 65, 202, 0, 147, 253, 78, 84, 247, 14, 95, 95, 201, 243, 132, 166, 79, 178, 78, 166, 220, 79, 234, 210, 115, 33, 181, 141, 186, 210, 49, 43, 245, 96, 127, 141, 41, 47, 172, 119, 102, 243, 25, 250, 220, 33, 40, 209, 41, 65, 87, 92, 0, 110, 208, 20, 249, 168, 201, 238, 37, 137, 225, 63, 12, 200, 182, 99, 12, 166]
theorem wdsC_next : ((List.range 44).all fun i => (List.range 4).all fun p => i < 4 || wdsC.getD (4 * i + p) 0 == kT 4 i (fun p => wdsC.getD (4 * (i - 1) + p) 0) p ^^^ wdsC.getD (4 * (i - 4) + p) 0) = true := by decide +kernel
theorem wdsC_first : ((List.range 16).all fun i => wdsC.getD i 0 == keyC.getD i 0) = true := by decide +kernel
theorem keyC_words : ∀ j, j < 176 → kF keyC j = wdsC.getD j 0 := by
  refine kF_uniq keyC 4 rfl (by omega) (fun j => wdsC.getD j 0) (fun j hj => ?_) (fun i p h1 h2 hp => ?_)
  · exact eq_of_beq (all_below 16 wdsC_first j hj)
  · have h := all_below 4 (all_below 44 wdsC_next i (by omega)) p hp
    simp only [Bool.or_eq_true, decide_eq_true_eq] at h
    rcases h with h | h
    · omega
    · exact eq_of_beq h

end Go.Proofs.Ytljmkleppoacaaa
