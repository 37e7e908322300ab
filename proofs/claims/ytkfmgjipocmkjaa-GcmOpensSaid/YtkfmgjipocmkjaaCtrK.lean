/-
  Noughts enciphered under noughts: the first block of the stream. (Printed by wip/gen/ctrknown.py.)
-/
import Derived.Test.YtkfmgjipocmkjaaFoldD
import Derived.Test.YtkfmgjipocmkjaaCtrB
namespace Go.Proofs.Ytkfmgjipocmkjaa
set_option maxRecDepth 100000

def blkF (i : Nat) : Nat := if i = 15 then 2 else 0

def keyZ : List Nat := [0, 0, 0, 0, 0, 0, 0, 0, 0, 0, 0, 0, 0, 0, 0, 0]
def wdsZ : List Nat := [0, 0, 0, 0, 0, 0, 0, 0, 0, 0, 0, 0, 0, 0, 0, 0, 98, 99, 99, 99, 98, 99, 99, 99, 98, 99, 99, 99, 98, 99, 99, 99, 155, 152, 152, 201, 249, 251, 251, 170, 155, 152, 152, 201, 249, 251, 251, 170, 144, 151, 52, 80, 105, 108, 207, 250, 242, 244, 87, 51, 11, 15, 172, 153, 238, 6, 218, 123, 135, 106, 21, 129, 117, 158, 66, 178, 126, 145, 238, 43, 127, 46, 43, 136, 248, 68, 62, 9, 141, 218, 124, 187, 243, 75, 146, 144, 236, 97, 75, 133, 20, 37, 117, 140, 153, 255, 9, 55, 106, 180, 155, 167, 33, 117, 23, 135, 53, 80, 98, 11, 172, 175, 107, 60, 198, 27, 240, 155, 14, 249, 3, 51, 59, 169, 97, 56, 151, 6, 10, 4, 81, 29, 250, 159, 177, 212, 216, 226, 138, 125, 185, 218, 29, 123, 179, 222, 76, 102, 73, 65, 180, 239, 91, 203, 62, 146, 226, 17, 35, 233, 81, 207, 111, 143, 24, 142]
theorem wdsZ_next : ((List.range 44).all fun i => (List.range 4).all fun p => i < 4 || wdsZ.getD (4 * i + p) 0 == kT 4 i (fun p => wdsZ.getD (4 * (i - 1) + p) 0) p ^^^ wdsZ.getD (4 * (i - 4) + p) 0) = true := by decide +kernel
theorem wdsZ_first : ((List.range 16).all fun i => wdsZ.getD i 0 == keyZ.getD i 0) = true := by decide +kernel
theorem keyZ_words : ∀ j, j < 176 → kF keyZ j = wdsZ.getD j 0 := by
  refine kF_uniq keyZ 4 rfl (by omega) (fun j => wdsZ.getD j 0) (fun j hj => ?_) (fun i p h1 h2 hp => ?_)
  · exact eq_of_beq (all_below 16 wdsZ_first j hj)
  · have h := all_below 4 (all_below 44 wdsZ_next i (by omega)) p hp
    simp only [Bool.or_eq_true, decide_eq_true_eq] at h
    rcases h with h | h
    · omega
    · exact eq_of_beq h

def stsZ : List Nat := [0, 0, 0, 0, 0, 0, 0, 0, 0, 0, 0, 0, 0, 0, 0, 2, 21, 20, 60, 40, 1, 0, 0, 0, 1, 0, 0, 0, 1, 0, 0, 0, 140, 193, 193, 228, 243, 208, 126, 70, 78, 103, 239, 3, 20, 174, 30, 113, 180, 202, 123, 14, 252, 143, 24, 200, 185, 218, 130, 106, 228, 112, 94, 241, 200, 249, 250, 206, 246, 55, 164, 8, 227, 225, 36, 243, 159, 254, 180, 77, 212, 80, 11, 218, 105, 234, 3, 183, 100, 225, 220, 126, 170, 111, 85, 44, 25, 220, 0, 190, 69, 127, 110, 54, 126, 35, 84, 56, 84, 192, 156, 157, 129, 32, 179, 174, 243, 165, 100, 6, 226, 147, 235, 225, 143, 145, 122, 236, 59, 23, 137, 79, 96, 150, 40, 250, 38, 95, 120, 133, 206, 38, 171, 21, 32, 139, 34, 65, 157, 10, 245, 15, 96, 166, 145, 214, 233, 221, 248, 54, 3, 136, 218, 206, 96, 182, 163, 146, 243, 40, 194, 185, 113, 178, 254, 120]
theorem stsZ_first : ((List.range 16).all fun i => stsZ.getD i 0 == sAdd blkF (rk (fun i => wdsZ.getD i 0) 0) i) = true := by decide +kernel
theorem stsZ_next : ((List.range 10).all fun j => (List.range 16).all fun i => stsZ.getD (16 * (j + 1) + i) 0 == eRnd (fun i => wdsZ.getD i 0) 10 (j + 1) (fun i => stsZ.getD (16 * j + i) 0) i) = true := by decide +kernel
def outZ (i : Nat) : Nat := ([3, 136, 218, 206, 96, 182, 163, 146, 243, 40, 194, 185, 113, 178, 254, 120] : List Nat).getD i 0
theorem outZ_last : ((List.range 16).all fun i => stsZ.getD (160 + i) 0 == outZ i) = true := by decide +kernel
theorem knownZ : E16 (enc (kF keyZ) 10 blkF) outZ := by
  refine (eN_key (v := fun i => wdsZ.getD i 0) (r := 10) (fun i hi => keyZ_words i hi) blkF 10 (Nat.le_refl _)).trans ?_
  refine (eN_table (fun i => wdsZ.getD i 0) 10 blkF (fun i => stsZ.getD i 0) (fun i hi => ?_) (fun j i hj hi => ?_) 10 (Nat.le_refl _)).trans fun i hi => ?_
  · exact eq_of_beq (all_below 16 stsZ_first i hi)
  · exact eq_of_beq (all_below 16 (all_below 10 stsZ_next j hj) i hi)
  · exact eq_of_beq (all_below 16 outZ_last i hi)

theorem blkZ_eq : ((List.range 16).all fun i => cB (stF (List.replicate 12 0)) 1 i == blkF i) = true := by decide +kernel
theorem stream_Z : E16 (enc (kF keyZ) 10 (cB (stF (List.replicate 12 0)) 1)) outZ :=
  (enc_eq (kF keyZ) 10 (fun i hi => eq_of_beq (all_below 16 blkZ_eq i hi))).trans knownZ
theorem crL_Z : crL (enc (kF keyZ) 10) (stF (List.replicate 12 0)) (List.replicate 16 0) 16 = (List.range 16).map outZ := by
  unfold crL
  apply List.map_congr_left
  intro i hi
  have h := List.mem_range.mp hi
  have e : (List.replicate 16 0).getD i 0 = 0 := by
    rw [List.getD_eq_getElem?_getD, List.getElem?_replicate, if_pos h]; rfl
  rw [e, Nat.zero_xor]
  unfold ksB
  rw [show i / 16 + 1 = 1 from by omega, show i % 16 = i from by omega]
  exact stream_Z i h
end Go.Proofs.Ytkfmgjipocmkjaa
