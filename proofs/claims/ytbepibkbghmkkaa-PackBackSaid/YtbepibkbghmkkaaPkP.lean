/-
  The code's text at the beginning of bytes (layer 7).
-/
import Derived.Test.YtbepibkbghmkkaaPkO
namespace Go.Proofs.Ytbepibkbghmkkaa
open Go Go.RowKit
set_option linter.unusedVariables false
set_option linter.unusedSimpArgs false

/-- Where the rest of a slice lies. -/
def tailA (A : Option Addr) (cap n : Nat) : Option Addr := if cap = n then A else A.map (·.add n)
theorem run_tailQ {P : Program} (t e : TypeId) (i : TypeInfo) (ht : P.underlying t = some (.slice e)) (hi : P.info? e = some i) (hs : i.size = 1) (A : Option Addr) (len cap n : Nat) (hn : n ≤ len) (hl : len ≤ cap) (w : World) :
    (Instr.slice t (.slice A len cap) (some (.int .i64 (n : Int))) none none).run P w = .ok (.slice (tailA A cap n) (len - n) (cap - n)) w := by
  have h2 : ¬ len < n := by omega
  have h3 : ¬ cap < len := by omega
  simp [Instr.slice, run_underlying ht, Instr.sliceBounds, Instr.sliceBound, asIntOf, sizeOf, typeInfo, hi, hs, tailA]
  omega
theorem run_cutQ {P : Program} (t e : TypeId) (i : TypeInfo) (ht : P.underlying t = some (.slice e)) (hi : P.info? e = some i) (hs : i.size = 1) (A : Option Addr) (len cap n m : Nat) (hn : n ≤ m) (hm : m ≤ cap) (w : World) :
    (Instr.slice t (.slice A len cap) (some (.int .i64 (n : Int))) (some (.int .i64 (m : Int))) none).run P w = .ok (.slice (tailA A cap n) (m - n) (cap - n)) w := by
  have h2 : ¬ m < n := by omega
  have h3 : ¬ cap < m := by omega
  simp [Instr.slice, run_underlying ht, Instr.sliceBounds, Instr.sliceBound, asIntOf, sizeOf, typeInfo, hi, hs, tailA]
  rw [if_pos hm, if_pos hn]
theorem Rd.tailQ {w : World} {B cap n : Nat} {A : Option Addr} {xs : List Value} (h : Rd w B A xs) (hc : xs.length ≤ cap) : Rd w B (tailA A cap n) (xs.drop n) := fun h0 => by
  rw [List.length_drop] at h0
  obtain ⟨ad, e, hb, hc'⟩ := h (by omega)
  subst e
  refine ⟨ad.add n, ?_, by rw [add_block]; exact hb, fun j v hj => ?_⟩
  · unfold tailA
    rw [if_neg (by omega)]
    rfl
  · rw [List.getElem?_drop] at hj
    rw [add_add]
    exact hc' _ _ hj

set_option maxRecDepth 100000 in
set_option maxHeartbeats 8000000 in
theorem ctxt_err (A : Option Addr) (l : List Nat) (n cap : Nat) (most : Int) (hm : -9223372036854775808 ≤ most ∧ most ≤ 9223372036854775807) (hn : l.length = n) (hl : ∀ x ∈ l, x < 256) (hle : n ≤ 1000000) (hc : n ≤ cap) (w : World) (h : Rd w w.heap.size A (vn l))
    (v k e0 : Nat) (hk : tk l = (v, k, e0)) (hkb : k ≤ 10) (hkn : k ≤ n) (hv : v < 18446744073709551616) (he : txE most v (n - k) e0 ≠ 0) :
    Calls Try.prog 31 #[.slice A n cap, .int .i64 most] w fun e w' => e = .returned (.tuple #[.slice none 0 0, .int .i64 0, .int .i64 (txE most v (n - k) e0 : Int)]) ∧ w' = w := by
  have ht := cnumber_any A l n cap hn hl (by omega) w h
  simp only [hk] at ht
  have s1 : IntKind.i64.wrap ((n : Int) - (k : Int)) = ((n - k : Nat) : Int) := by rw [IntWalk.i64_in _ (by omega)]; omega
  obtain ⟨r2, hr2⟩ : ∃ r2, r2 = n - k := ⟨_, rfl⟩
  rw [← hr2] at s1 he
  rw [← hr2]
  have s3 : IntKind.u64.wrap (r2 : Int) = (r2 : Int) := IntWalk.u64_in _ (by omega)
  have HT := Lib.hid ht; clear ht hk hl h
  have HV := Lib.hid hv; clear hv hr2 hn
  by_cases h0 : e0 = 0
  · subst h0
    rw [show ((0 : Nat) : Int) = 0 from rfl] at *
    by_cases hmp : most ≤ 0
    · by_cases hv0 : 0 < v
      · have e : txE most v r2 0 = 3 := by unfold txE; rw [if_neg (by omega), if_pos (.inl ⟨hmp, hv0⟩)]
        rw [e]
        clear he e
        have hvi : (0 : Int) < (v : Int) := by omega
        go_enter Try.func31, Try.ntmps31
        go_wp2_with fail
        refine HT.out.mono ?_
        rintro e w1 ⟨rfl, rfl⟩
        clear HT
        go_wp2_with fail
        all_goals (go_ret3; exact ⟨rfl, rfl⟩)
      · have e : txE most v r2 0 = 0 := by unfold txE; rw [if_neg (by omega), if_neg (by omega), if_neg (by omega)]
        exact (he e).elim
    · have hmp2 : 0 < most := by omega
      have hmw : IntKind.u64.wrap most = most := IntWalk.u64_in _ (by omega)
      by_cases hlv : most < (v : Int)
      · have e : txE most v r2 0 = 3 := by unfold txE; rw [if_neg (by omega), if_pos (.inr ⟨hmp2, hlv⟩)]
        rw [e]
        clear he e
        go_enter Try.func31, Try.ntmps31
        go_wp2_with fail
        refine HT.out.mono ?_
        rintro e w1 ⟨rfl, rfl⟩
        clear HT
        go_wp2_with fail
        all_goals (go_ret3; exact ⟨rfl, rfl⟩)
      · have hsh : r2 < v := by
          unfold txE at he
          rw [if_neg (by omega), if_neg (by omega)] at he
          by_cases hsh : r2 < v
          · exact hsh
          · rw [if_neg hsh] at he; exact (he rfl).elim
        have e : txE most v r2 0 = 4 := by
          unfold txE
          rw [if_neg (by omega), if_neg (by omega), if_pos hsh]
        rw [e]
        clear he e
        have hsi : (r2 : Int) < (v : Int) := by omega
        go_enter Try.func31, Try.ntmps31
        go_wp2_with fail
        refine HT.out.mono ?_
        rintro e w1 ⟨rfl, rfl⟩
        clear HT
        go_wp2_with fail
        all_goals (go_ret3; exact ⟨rfl, rfl⟩)
  · have e : txE most v r2 e0 = e0 := by unfold txE; rw [if_pos h0]
    rw [e]
    clear he e
    have hei : ¬ (e0 : Int) = 0 := by omega
    go_enter Try.func31, Try.ntmps31
    go_wp2_with fail
    refine HT.out.mono ?_
    rintro e w1 ⟨rfl, rfl⟩
    clear HT
    go_wp2_with fail
    go_ret3
    exact ⟨rfl, rfl⟩

set_option maxRecDepth 100000 in
set_option maxHeartbeats 8000000 in
theorem ctxt_ok (A : Option Addr) (l : List Nat) (n cap : Nat) (most : Int) (hm : -9223372036854775808 ≤ most ∧ most ≤ 9223372036854775807) (hn : l.length = n) (hl : ∀ x ∈ l, x < 256) (hle : n ≤ 1000000) (hc : n ≤ cap) (w : World) (h : Rd w w.heap.size A (vn l))
    (v k e0 : Nat) (hk : tk l = (v, k, e0)) (hkb : k ≤ 10) (hkn : k ≤ n) (hv : v < 18446744073709551616) (he : txE most v (n - k) e0 = 0) :
    Calls Try.prog 31 #[.slice A n cap, .int .i64 most] w fun e w' => ∃ u, e = .returned (.tuple #[u, .int .i64 ((k + v : Nat) : Int), .int .i64 0]) ∧ w'.ownsRow w.heap.size 5 1 u v (vn ((l.drop k).take v)) ∧ Below w.heap.size w w' := by
  have ht := cnumber_any A l n cap hn hl (by omega) w h
  simp only [hk] at ht
  obtain ⟨j0, hi, hz0, hz1, hz2⟩ := info_parts info_b
  have s1 : IntKind.i64.wrap ((n : Int) - (k : Int)) = ((n - k : Nat) : Int) := by rw [IntWalk.i64_in _ (by omega)]; omega
  obtain ⟨r2, hr2⟩ : ∃ r2, r2 = n - k := ⟨_, rfl⟩
  rw [← hr2] at s1 he
  have s3 : IntKind.u64.wrap (r2 : Int) = (r2 : Int) := IntWalk.u64_in _ (by omega)
  have h0 : e0 = 0 := by
    unfold txE at he
    by_cases h0 : e0 = 0
    · exact h0
    · rw [if_pos h0] at he; exact (h0 he).elim
  subst h0
  have hnl : ¬ ((most ≤ 0 ∧ 0 < v) ∨ (0 < most ∧ most < (v : Int))) := fun hh => by
    unfold txE at he
    rw [if_neg (by omega), if_pos hh] at he
    cases he
  have hsh : ¬ r2 < v := fun hh => by
    unfold txE at he
    rw [if_neg (by omega), if_neg hnl, if_pos hh] at he
    cases he
  clear he
  rw [show ((0 : Nat) : Int) = 0 from rfl] at *
  have hv2 : k + v ≤ n := by omega
  have hsi : ¬ (r2 : Int) < (v : Int) := by omega
  have s4 : IntKind.i64.wrap (v : Int) = (v : Int) := IntWalk.i64_in _ (by omega)
  have s5 : IntKind.i64.wrap ((k : Int) + (v : Int)) = ((k + v : Nat) : Int) := by rw [IntWalk.i64_in _ (by omega)]; omega
  have q1 := run_cutQ (P := Try.prog) 24 5 j0 Try.underlying24 hi hz1 A n cap k (k + v) (by omega) (by omega)
  have hrd : Rd w w.heap.size (tailA A cap k) (vn ((l.drop k).take v)) := by
    have h1 := (h.tailQ (n := k) (cap := cap) (by rw [vn_len]; omega)).take v
    have e1 : (vn l).drop k = vn (l.drop k) := by simp [vn, List.map_drop]
    have e2 : (vn (l.drop k)).take v = vn ((l.drop k).take v) := by simp [vn, List.map_take]
    rw [e1, e2] at h1
    exact h1
  have hcl := cclone_any (tailA A cap k) ((l.drop k).take v) v (cap - k) (by rw [List.length_take, List.length_drop]; omega) (by omega) w hrd
  have e5 : k + v - k = v := by omega
  rw [e5] at q1
  obtain ⟨a2, ha2⟩ : ∃ a2, a2 = k + v := ⟨_, rfl⟩
  rw [← ha2] at s5 q1
  rw [← ha2]
  obtain ⟨T, hT⟩ : ∃ T, T = tailA A cap k := ⟨_, rfl⟩
  obtain ⟨c2, hc2⟩ : ∃ c2, c2 = cap - k := ⟨_, rfl⟩
  rw [← hT, ← hc2] at q1 hcl
  have HT := Lib.hid ht
  have HC := Lib.hid hcl
  clear ht hcl hk hl h hrd hT hc2 ha2 e5 hi hz0 hz1 hz2 hsh hr2 hn
  have HNL := Lib.hid hnl; clear hnl
  by_cases hmp : most ≤ 0
  · have hv0 : v = 0 := by have := HNL.out; omega
    have hvi : ¬ (0 : Int) < (v : Int) := by omega
    clear hv0
    go_enter Try.func31, Try.ntmps31
    go_wp2_with fail
    refine HT.out.mono ?_
    rintro e w1 ⟨rfl, rfl⟩
    clear HT
    go_wp2_with fail
    all_goals (refine HC.out.mono ?_)
    all_goals (rintro e w2 ⟨u, rfl, hown, hb⟩)
    all_goals (have HO := Lib.hid hown; have HB := Lib.hid hb; clear hown hb HC)
    all_goals (go_wp2_with fail)
    all_goals go_ret3
    all_goals exact ⟨_, rfl, HO.out, HB.out⟩
  · have hmp2 : 0 < most := by omega
    have hmw : IntKind.u64.wrap most = most := IntWalk.u64_in _ (by omega)
    have hlv : ¬ most < (v : Int) := by have := HNL.out; omega
    go_enter Try.func31, Try.ntmps31
    go_wp2_with fail
    refine HT.out.mono ?_
    rintro e w1 ⟨rfl, rfl⟩
    clear HT
    go_wp2_with fail
    all_goals (refine HC.out.mono ?_)
    all_goals (rintro e w2 ⟨u, rfl, hown, hb⟩)
    all_goals (have HO := Lib.hid hown; have HB := Lib.hid hb; clear hown hb HC)
    all_goals (go_wp2_with fail)
    all_goals go_ret3
    all_goals exact ⟨_, rfl, HO.out, HB.out⟩
end Go.Proofs.Ytbepibkbghmkkaa
