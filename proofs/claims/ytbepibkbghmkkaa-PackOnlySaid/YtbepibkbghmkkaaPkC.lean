/-
  The document's number at the beginning of bytes (layer 7).
-/
import Derived.Test.YtbepibkbghmkkaaPkB
import Derived.OwnWalk
namespace Go.Proofs.Ytbepibkbghmkkaa
open Go Go.RowKit
set_option linter.unusedVariables false
set_option linter.unusedSimpArgs false

theorem tkL_drop (l : List Nat) (k a y x : Nat) (hx : l[k]? = some x) : tkL (l.drop k) k a y =
    if k = 9 ∧ 1 < x then (0, 0, 6) else if 128 ≤ x then tkL (l.drop (k + 1)) (k + 1) (a + x % 128 * y) (y * 128) else if x = 0 ∧ 0 < k then (0, 0, 5) else (a + x % 128 * y, k + 1, 0) := by
  have hk : k < l.length := (List.getElem?_eq_some_iff.1 hx).1
  rw [List.drop_eq_getElem_cons hk, show l[k] = x from by rw [List.getElem?_eq_getElem hk] at hx; exact Option.some.inj hx, tkL]

set_option maxRecDepth 100000 in
set_option maxHeartbeats 8000000 in
theorem rptaken_any (A : Option Addr) (l : List Nat) (n cap : Nat) (hn : l.length = n) (hl : ∀ x ∈ l, x < 256) (hle : n ≤ 140737488351360) (w : World) {BB : Nat} (h : Rd w BB A (vn l)) :
    Calls Try.prog 30 #[.slice A n cap] w fun e w' => e = .returned (.tuple #[.int .u64 ((tk l).1 : Int), .int .i64 ((tk l).2.1 : Int), .int .i64 ((tk l).2.2 : Int)]) ∧ w' = w := by
  have HN := Lib.hid hn; clear hn
  have H := Lib.hid h; clear h
  have HL := Lib.hid hl; clear hl
  go_enter Try.func30, Try.ntmps30
  go_wp2_with fail
  go_loopw [5, 6, 7] (fun a y i wr => ∃ k acc Y : Nat, k ≤ n ∧ k ≤ 9 ∧ i = .int .i64 (k : Int) ∧ a = .int .u64 (acc : Int) ∧ y = .int .u64 (Y : Int) ∧ Hid (tk l = tkL (l.drop k) k acc Y) ∧ Hid (Y = 128 ^ k ∧ acc < 128 ^ k) ∧ w = wr) (fun _ _ i _ => n - (intOf i).toNat)
  case atStart => exact ⟨0, 0, 1, by omega, by omega, rfl, rfl, rfl, Lib.hid rfl, Lib.hid ⟨rfl, by decide⟩, rfl⟩
  case round =>
    obtain ⟨k, acc, Y, hk, hk9, rfl, rfl, rfl, HT, HY, rfl⟩ := hrel
    by_cases hlt : k < n
    · have hki : (k : Int) < (n : Int) := by omega
      obtain ⟨ad, rfl, hbd, hck⟩ := H.out.num (k := k) (by rw [HN.out]; exact hlt)
      have hgx : l[k]? = some (l.getD k 0) := by rw [List.getD_eq_getElem?_getD, List.getElem?_eq_getElem (by rw [HN.out]; exact hlt)]; rfl
      obtain ⟨x, hx⟩ : ∃ x, x = l.getD k 0 := ⟨_, rfl⟩
      rw [← hx] at hck hgx
      have hx256 : x < 256 := HL.out x (List.mem_of_getElem? hgx)
      have hd := tkL_drop l k acc Y x hgx
      obtain ⟨m, hm⟩ : ∃ m, m = x % 128 := ⟨_, rfl⟩
      obtain ⟨p, hp⟩ : ∃ p, p = m * Y := ⟨_, rfl⟩
      obtain ⟨s, hs⟩ : ∃ s, s = acc + p := ⟨_, rfl⟩
      have hdt := HT.out.trans hd
      rw [← hm, ← hp, ← hs] at hdt
      have q1 : (x : Int).tmod 128 = (m : Int) := by rw [Int.tmod_eq_emod_of_nonneg (by omega)]; omega
      have q2 : (x : Int) % 128 = (m : Int) := by omega
      have q3 : IntKind.u64.wrap (m : Int) = (m : Int) := IntWalk.u64_in _ (by omega)
      have q4 : IntKind.u8.wrap (m : Int) = (m : Int) := IntWalk.u8_in _ (by omega)
      have hwr : IntKind.i64.wrap ((k : Int) + 1) = (k : Int) + 1 := IntWalk.i64_in _ (by omega)
      have HD := Lib.hid hdt; clear hdt hd hgx hx HT
      by_cases h9 : k = 9
      · have hb : 1 < x ∨ x = 1 ∨ x = 0 := by omega
        subst h9
        have hY9 : Y = 9223372036854775808 := HY.out.1.trans (by decide)
        have hacc : acc < 9223372036854775808 := by have := HY.out.2; have e : (128 : Nat) ^ 9 = 9223372036854775808 := by decide
                                                    omega
        rw [show ((9 : Nat) : Int) = 9 from rfl] at *
        have hck9 : w.cell? ⟨ad.block, ad.off + 9, none⟩ = some (.int .u8 (x : Int)) := hck
        have hy2 : IntKind.u64.wrap ((Y : Int) * 128) = 0 := by rw [hY9]; rfl
        clear hck
        rcases hb with hb | hb | hb
        · have e1 : (1 : Int) < (x : Int) := by omega
          have e0 : tk l = (0, 0, 6) := by rw [HD.out, if_pos ⟨rfl, hb⟩]
          have HE := Lib.hid e0; clear e0 HD
          go_wp2_with fail
          go_ret3
          refine ⟨?_, rfl⟩
          rw [HE.out]; rfl
        · have hm1 : m = 1 := by omega
          have e1 : ¬ (1 : Int) < (x : Int) := by omega
          have e2 : ¬ (128 : Int) ≤ (x : Int) := by omega
          have e3 : ¬ (x : Int) = 0 := by omega
          have hs2 : s = acc + 9223372036854775808 := by rw [hs, hp, hm1, hY9]
          have e0 : tk l = (s, 10, 0) := by rw [HD.out, if_neg (by omega), if_neg (by omega), if_neg (by omega)]
          have q5 : IntKind.u64.wrap ((m : Int) * (Y : Int)) = (Y : Int) := by rw [hm1]; exact (congrArg _ (Int.one_mul _)).trans (IntWalk.u64_in _ (by omega))
          have q8 : IntKind.u64.wrap (Y : Int) = (Y : Int) := IntWalk.u64_in _ (by omega)
          have q6 : IntKind.u64.wrap ((acc : Int) + (Y : Int)) = (s : Int) := by rw [IntWalk.u64_in _ (by omega)]; omega
          have HE := Lib.hid e0; clear e0 hm1 hs2 hY9 hm hp hs HD
          go_wp2_with fail
          go_ret3
          refine ⟨?_, rfl⟩
          rw [HE.out]; rfl
        · have hm1 : m = 0 := by omega
          have e1 : ¬ (1 : Int) < (x : Int) := by omega
          have e2 : ¬ (128 : Int) ≤ (x : Int) := by omega
          have e3 : (x : Int) = 0 := by omega
          have e0 : tk l = (0, 0, 5) := by rw [HD.out, if_neg (by omega), if_neg (by omega), if_pos ⟨hb, by omega⟩]
          have q5 : IntKind.u64.wrap ((m : Int) * (Y : Int)) = 0 := by rw [hm1]; exact (congrArg _ (Int.zero_mul _)).trans rfl
          have q6 : IntKind.u64.wrap ((acc : Int) + 0) = (acc : Int) := by rw [IntWalk.u64_in _ (by omega)]; omega
          have HE := Lib.hid e0; clear e0 hm1 hY9 hm hp hs HD
          go_wp2_with fail
          go_ret3
          refine ⟨?_, rfl⟩
          rw [HE.out]; rfl
      · have h9i : ¬ (k : Int) = 9 := by omega
        have hp8 : (128 : Nat) ^ k ≤ 128 ^ 8 := Nat.pow_le_pow_right (by omega) (by omega)
        have e8 : (128 : Nat) ^ 8 = 72057594037927936 := by decide
        have hYb : Y ≤ 72057594037927936 := by rw [HY.out.1]; omega
        have hab : acc < 72057594037927936 := by have := HY.out; omega
        have hmb : m ≤ 127 := by omega
        have hpb : p ≤ 127 * Y := by rw [hp]; exact Nat.mul_le_mul_right _ hmb
        have q5 : IntKind.u64.wrap ((m : Int) * (Y : Int)) = (p : Int) := by rw [hp, ← Int.natCast_mul]; exact IntWalk.u64_in _ (by rw [← hp]; omega)
        have q6 : IntKind.u64.wrap ((acc : Int) + (p : Int)) = (s : Int) := by rw [IntWalk.u64_in _ (by omega)]; omega
        have q7 : IntKind.u64.wrap ((Y : Int) * 128) = ((Y * 128 : Nat) : Int) := by rw [IntWalk.u64_in _ (by omega)]; omega
        obtain ⟨Y2, hY2⟩ : ∃ Y2, Y2 = Y * 128 := ⟨_, rfl⟩
        rw [← hY2] at q7
        have HY2 : Hid (Y2 = 128 ^ (k + 1) ∧ s < 128 ^ (k + 1)) := Lib.hid (by
          have h1 := HY.out
          have e1 : (128 : Nat) ^ (k + 1) = 128 * 128 ^ k := by rw [Nat.pow_succ, Nat.mul_comm]
          refine ⟨by rw [hY2, h1.1, e1, Nat.mul_comm], ?_⟩
          rw [e1]
          have h2 : p ≤ 127 * 128 ^ k := by rw [← h1.1]; exact hpb
          omega)
        have HDD : Hid (tk l = if k = 9 ∧ 1 < x then (0, 0, 6) else if 128 ≤ x then tkL (l.drop (k + 1)) (k + 1) s Y2 else if x = 0 ∧ 0 < k then (0, 0, 5) else (s, k + 1, 0)) := Lib.hid (by rw [hY2]; exact HD.out)
        have HS0 : Hid (x = 0 → s = acc) := Lib.hid fun e => by
          have h1 : m = 0 := by omega
          rw [hs, hp, h1, Nat.zero_mul, Nat.add_zero]
        clear hp8 e8 hpb hmb hm hp hs hY2 HD
        by_cases hx128 : 128 ≤ x
        · have x1 : (128 : Int) ≤ (x : Int) := by omega
          have e0 : tk l = tkL (l.drop (k + 1)) (k + 1) s Y2 := by rw [HDD.out, if_neg (by omega), if_pos hx128]
          have HE := Lib.hid e0; clear e0 HDD
          go_wp2_with fail
          go_roundw
          case rel => exact ⟨k + 1, s, Y2, by omega, by omega, by go_num, rfl, rfl, HE, HY2, by first | rfl | trivial⟩
          case measure => simp [intOf]; omega
        · have x1 : ¬ (128 : Int) ≤ (x : Int) := by omega
          by_cases hx0 : x = 0 ∧ 0 < k
          · have x2 : (x : Int) = 0 := by omega
            have x3 : (0 : Int) < (k : Int) := by omega
            have e0 : tk l = (0, 0, 5) := by rw [HDD.out, if_neg (by omega), if_neg hx128, if_pos hx0]
            have HE := Lib.hid e0; clear e0 HDD hx0
            go_wp2_with fail
            go_ret3
            refine ⟨?_, rfl⟩
            rw [HE.out]; rfl
          · have e0 : tk l = (s, k + 1, 0) := by rw [HDD.out, if_neg (by omega), if_neg hx128, if_neg hx0]
            have HE := Lib.hid e0; clear e0 HDD
            have hx3 : decide ((x : Int) = 0) = true → (k : Int) ≤ 0 := fun h => by
              have := of_decide_eq_true h
              omega
            by_cases hxz : x = 0
            · have x2 : (x : Int) = 0 := by omega
              have x3 : ¬ (0 : Int) < (k : Int) := by omega
              have HS1 := Lib.hid (HS0.out hxz)
              clear hx3 hx0 HS0
              go_wp2_with fail
              go_ret3
              refine ⟨?_, rfl⟩
              rw [HE.out, HS1.out]
              rfl
            · have x2 : ¬ (x : Int) = 0 := by omega
              clear hx3 hx0
              go_wp2_with fail
              go_ret3
              refine ⟨?_, rfl⟩
              rw [HE.out]
              rfl
    · obtain rfl : k = n := by omega
      have e0 : tk l = (0, 0, 4) := by
        rw [HT.out, List.drop_eq_nil_of_le (by rw [HN.out]; omega)]; rfl
      go_wp2_with fail
      go_ret3
      refine ⟨?_, rfl⟩
      rw [e0]; rfl
end Go.Proofs.Ytbepibkbghmkkaa
