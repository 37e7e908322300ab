/-
  Noughts sealed under noughts: what the cipher and the hash come to. (Printed by wip/gen/gcmknown.py.)
-/
import Derived.Test.YtkfmgjipocmkjaaCtrK
import Derived.Test.YtkfmgjipocmkjaaFoldH
namespace Go.Proofs.Ytkfmgjipocmkjaa
set_option maxRecDepth 100000

def stsH : List Nat := [0, 0, 0, 0, 0, 0, 0, 0, 0, 0, 0, 0, 0, 0, 0, 0, 1, 0, 0, 0, 1, 0, 0, 0, 1, 0, 0, 0, 1, 0, 0, 0, 198, 228, 228, 139, 164, 135, 135, 232, 198, 228, 228, 139, 164, 135, 135, 232, 40, 45, 243, 196, 106, 243, 134, 37, 74, 78, 144, 167, 8, 144, 229, 70, 171, 210, 205, 254, 55, 90, 181, 73, 80, 160, 175, 192, 117, 154, 106, 95, 212, 111, 79, 108, 85, 184, 150, 51, 126, 5, 187, 61, 121, 121, 222, 35, 4, 242, 202, 151, 7, 120, 40, 69, 226, 47, 1, 150, 73, 197, 215, 16, 183, 170, 228, 197, 29, 37, 45, 79, 108, 146, 15, 129, 148, 229, 129, 80, 35, 231, 140, 60, 19, 33, 99, 219, 170, 192, 198, 87, 46, 3, 203, 149, 127, 254, 14, 149, 81, 165, 102, 53, 14, 52, 124, 71, 41, 41, 236, 203, 102, 233, 75, 212, 239, 138, 44, 59, 136, 76, 250, 89, 202, 52, 43, 46]
theorem stsH_first : ((List.range 16).all fun i => stsH.getD i 0 == sAdd (fun _ => 0) (rk (fun i => wdsZ.getD i 0) 0) i) = true := by decide +kernel
theorem stsH_next : ((List.range 10).all fun j => (List.range 16).all fun i => stsH.getD (16 * (j + 1) + i) 0 == eRnd (fun i => wdsZ.getD i 0) 10 (j + 1) (fun i => stsH.getD (16 * j + i) 0) i) = true := by decide +kernel
def outH (i : Nat) : Nat := ([102, 233, 75, 212, 239, 138, 44, 59, 136, 76, 250, 89, 202, 52, 43, 46] : List Nat).getD i 0
theorem outH_last : ((List.range 16).all fun i => stsH.getD (160 + i) 0 == outH i) = true := by decide +kernel
theorem knownH : E16 (enc (kF keyZ) 10 (fun _ => 0)) outH := by
  refine (eN_key (v := fun i => wdsZ.getD i 0) (r := 10) (fun i hi => keyZ_words i hi) (fun _ => 0) 10 (Nat.le_refl _)).trans ?_
  refine (eN_table (fun i => wdsZ.getD i 0) 10 (fun _ => 0) (fun i => stsH.getD i 0) (fun i hi => ?_) (fun j i hj hi => ?_) 10 (Nat.le_refl _)).trans fun i hi => ?_
  · exact eq_of_beq (all_below 16 stsH_first i hi)
  · exact eq_of_beq (all_below 16 (all_below 10 stsH_next j hj) i hi)
  · exact eq_of_beq (all_below 16 outH_last i hi)

def stsJ : List Nat := [0, 0, 0, 0, 0, 0, 0, 0, 0, 0, 0, 0, 0, 0, 0, 1, 30, 31, 33, 62, 1, 0, 0, 0, 1, 0, 0, 0, 1, 0, 0, 0, 218, 234, 234, 153, 117, 86, 239, 81, 88, 93, 195, 21, 90, 218, 36, 75, 107, 120, 64, 75, 68, 221, 91, 251, 137, 115, 23, 228, 120, 135, 219, 170, 20, 71, 112, 136, 49, 23, 38, 231, 31, 3, 241, 64, 146, 108, 39, 163, 48, 221, 102, 216, 232, 254, 86, 127, 35, 221, 233, 210, 104, 84, 147, 4, 222, 216, 197, 211, 220, 57, 47, 229, 84, 30, 4, 241, 188, 21, 162, 105, 38, 184, 247, 169, 232, 26, 72, 30, 120, 21, 53, 10, 27, 34, 38, 25, 68, 36, 6, 182, 217, 81, 56, 157, 64, 77, 99, 196, 149, 251, 52, 133, 131, 247, 93, 208, 136, 243, 141, 226, 47, 131, 137, 25, 89, 53, 127, 54, 88, 226, 252, 206, 250, 126, 48, 97, 54, 127, 29, 87, 164, 231, 69, 90]
theorem stsJ_first : ((List.range 16).all fun i => stsJ.getD i 0 == sAdd (stF (List.replicate 12 0)) (rk (fun i => wdsZ.getD i 0) 0) i) = true := by decide +kernel
theorem stsJ_next : ((List.range 10).all fun j => (List.range 16).all fun i => stsJ.getD (16 * (j + 1) + i) 0 == eRnd (fun i => wdsZ.getD i 0) 10 (j + 1) (fun i => stsJ.getD (16 * j + i) 0) i) = true := by decide +kernel
def outJ (i : Nat) : Nat := ([88, 226, 252, 206, 250, 126, 48, 97, 54, 127, 29, 87, 164, 231, 69, 90] : List Nat).getD i 0
theorem outJ_last : ((List.range 16).all fun i => stsJ.getD (160 + i) 0 == outJ i) = true := by decide +kernel
theorem knownJ : E16 (enc (kF keyZ) 10 (stF (List.replicate 12 0))) outJ := by
  refine (eN_key (v := fun i => wdsZ.getD i 0) (r := 10) (fun i hi => keyZ_words i hi) (stF (List.replicate 12 0)) 10 (Nat.le_refl _)).trans ?_
  refine (eN_table (fun i => wdsZ.getD i 0) 10 (stF (List.replicate 12 0)) (fun i => stsJ.getD i 0) (fun i hi => ?_) (fun j i hj hi => ?_) 10 (Nat.le_refl _)).trans fun i hi => ?_
  · exact eq_of_beq (all_below 16 stsJ_first i hi)
  · exact eq_of_beq (all_below 16 (all_below 10 stsJ_next j hj) i hi)
  · exact eq_of_beq (all_below 16 outJ_last i hi)

open Go Go.RowKit
theorem encZ (b : Nat → Nat) : encK (List.replicate 16 0) b = enc (kF keyZ) 10 b := rfl
theorem hofH : hof (encK (List.replicate 16 0) fun _ => 0) = hof outH := hof_congr fun i hi => knownH i hi
theorem sumZ0 : gS (hof outH) [] [] = 0 := by decide +kernel
theorem sumZ1 : gS (hof outH) [] ((List.range 16).map outZ) = 323733119472864005843474405660461955205 := by decide +kernel
theorem byF_congr (f g : Nat → Nat) (h : ∀ i, i < 16 → f i = g i) : byF f 0 16 = byF g 0 16 := by
  unfold byF
  apply List.map_congr_left
  intro i hi
  rw [Nat.zero_add, h i (List.mem_range.mp hi)]
theorem nmZ (n : Nat) : (List.replicate n (0 : UInt8)).map UInt8.toNat = List.replicate n 0 := by simp
def tag0 : List UInt8 := [88, 226, 252, 206, 250, 126, 48, 97, 54, 127, 29, 87, 164, 231, 69, 90]
def tag1 : List UInt8 := [171, 110, 71, 212, 44, 236, 19, 189, 245, 58, 103, 178, 18, 87, 189, 223]
def outc : List UInt8 := [3, 136, 218, 206, 96, 182, 163, 146, 243, 40, 194, 185, 113, 178, 254, 120]
theorem tagZ0 : tagb (List.replicate 16 0) (List.replicate 12 0) [] [] = tag0 := by
  unfold tagb
  rw [nmZ, nmZ]
  have e : ∀ i, i < 16 → tagF (List.replicate 16 0) (List.replicate 12 0) [] [] i = outJ i := fun i hi => by
    have hj : encK (List.replicate 16 0) (stF (List.replicate 12 0)) i = outJ i := knownJ i hi
    unfold tagF
    rw [hofH, sumZ0, hj, show hby 0 i = 0 from by unfold hby; simp, Nat.zero_xor]
  refine (byF_congr _ _ e).trans ?_
  decide +kernel
theorem nmC : outc.map UInt8.toNat = (List.range 16).map outZ := by decide +kernel
theorem tagZ1 : tagb (List.replicate 16 0) (List.replicate 12 0) [] outc = tag1 := by
  unfold tagb
  rw [nmZ, nmZ, nmC]
  have e : ∀ i, i < 16 → tagF (List.replicate 16 0) (List.replicate 12 0) [] ((List.range 16).map outZ) i = hby 323733119472864005843474405660461955205 i ^^^ outJ i := fun i hi => by
    have hj : encK (List.replicate 16 0) (stF (List.replicate 12 0)) i = outJ i := knownJ i hi
    unfold tagF
    rw [hofH, sumZ1, hj]
  refine (byF_congr _ _ e).trans ?_
  decide +kernel
theorem cryZ0 : cryb (List.replicate 16 0) (List.replicate 12 0) [] = [] := List.eq_nil_of_length_eq_zero (cryb_len _ _ _)
theorem cryZ1 : cryb (List.replicate 16 0) (List.replicate 12 0) (List.replicate 16 0) = outc := by
  unfold cryb
  rw [nmZ, nmZ, List.length_replicate]
  have e : crL (encK (List.replicate 16 0)) (stF (List.replicate 12 0)) (List.replicate 16 0) 16 = (List.range 16).map outZ := crL_Z
  rw [e]
  decide +kernel
/-- Nothing, sealed under noughts; noughts, sealed so. -/
theorem sealZ0 : sealb (List.replicate 16 0) (List.replicate 12 0) [] [] = tag0 := by
  unfold sealb
  rw [cryZ0, tagZ0]
  rfl
theorem sealZ1 : sealb (List.replicate 16 0) (List.replicate 12 0) [] (List.replicate 16 0) = outc ++ tag1 := by
  unfold sealb
  rw [cryZ1, tagZ1]
theorem selZ0 : selR (List.replicate 16 0) (List.replicate 12 0) [] [] = 0 := by decide +kernel
theorem selZ1 : selR (List.replicate 16 0) (List.replicate 12 0) [] (List.replicate 16 0) = 0 := by decide +kernel
/-- The last byte another one; the last one gone. -/
def badT : List UInt8 := [3, 136, 218, 206, 96, 182, 163, 146, 243, 40, 194, 185, 113, 178, 254, 120, 171, 110, 71, 212, 44, 236, 19, 189, 245, 58, 103, 178, 18, 87, 189, 222]
theorem opnZbad : opnR (List.replicate 16 0) (List.replicate 12 0) [] badT = 60 := by
  have e1 : opnE (List.replicate 16 (0 : UInt8)).length (List.replicate 12 (0 : UInt8)).length ([] : List UInt8).length badT.length = 0 := by decide +kernel
  have e2 : badT.take (badT.length - 16) = outc := by decide +kernel
  have e3 : badT.drop (badT.length - 16) ≠ tag1 := by decide +kernel
  unfold opnR
  rw [if_pos e1, e2, tagZ1, if_neg (Ne.symm e3)]
theorem opnZshort : opnR (List.replicate 16 0) (List.replicate 12 0) [] (badT.take 15) = 4 := by
  have e1 : opnE (List.replicate 16 (0 : UInt8)).length (List.replicate 12 (0 : UInt8)).length ([] : List UInt8).length (badT.take 15).length = 4 := by decide +kernel
  unfold opnR
  rw [e1]
  rfl
end Go.Proofs.Ytkfmgjipocmkjaa
