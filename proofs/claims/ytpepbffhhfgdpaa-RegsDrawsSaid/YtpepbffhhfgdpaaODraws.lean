/-
  Draws are told in their order, each one's beginning, each once; what is too short stays: RegsDraws, for every input.
-/
import Derived.Test.YtpepbffhhfgdpaaFoldD
import Derived.Test.YtpepbffhhfgdpaaFoldA
namespace Go.Proofs.Ytpepbffhhfgdpaa
open Go Go.RowKit Go.ChangeShapes Go.WideShapes Go.ChangeAt Go.Deep
set_option linter.unusedVariables false
set_option linter.unusedSimpArgs false

theorem getD_drop9 (ls : List (List UInt8)) (a : Nat) : (ls.drop a).getD 0 [] = ls.getD a [] := by simp [List.getD_eq_getElem?_getD, List.getElem?_drop]
theorem drw_yes (ls : List (List UInt8)) (a : Nat) (s : Int) (h : (Rg.mk 0 0 0 (ls.drop a)).drwE s = 0) :
    1 ≤ s ∧ s ≤ 64 ∧ a < ls.length ∧ s ≤ ((ls.getD a []).length : Int) ∧ (Rg.mk 0 0 0 (ls.drop a)).drwB s = (ls.getD a []).take s.toNat ∧ (Rg.mk 0 0 0 (ls.drop a)).drwG s = Rg.mk 0 0 0 (ls.drop (a + 1)) := by
  have h0 := h
  unfold Rg.drwE at h
  split at h
  · cases h
  · rename_i h1
    split at h
    · cases h
    · rename_i h2
      have h3 : ls.drop a ≠ [] := fun e => h2 (.inl e)
      have h4 : ¬ (((ls.drop a).getD 0 []).length : Int) < s := fun e => h2 (.inr e)
      rw [getD_drop9] at h4
      have h5 : a < ls.length := by
        rcases Nat.lt_or_ge a ls.length with h | h
        · exact h
        · exact absurd (List.drop_eq_nil_of_le h) h3
      refine ⟨by omega, by omega, h5, by omega, ?_, ?_⟩
      · unfold Rg.drwB; rw [if_pos h0]; show ((ls.drop a).getD 0 []).take _ = _; rw [getD_drop9]
      · unfold Rg.drwG; rw [if_pos h0]; show Rg.mk 0 0 0 ((ls.drop a).drop 1) = _; rw [List.drop_drop]
theorem drw_not (ls : List (List UInt8)) (a : Nat) (s : Int) (h : (Rg.mk 0 0 0 (ls.drop a)).drwE s ≠ 0) :
    (s < 1 ∨ 64 < s ∨ ls.length ≤ a ∨ ((ls.getD a []).length : Int) < s) ∧ (Rg.mk 0 0 0 (ls.drop a)).drwB s = [] ∧ (Rg.mk 0 0 0 (ls.drop a)).drwG s = Rg.mk 0 0 0 (ls.drop a) := by
  refine ⟨?_, by unfold Rg.drwB; rw [if_neg h], by unfold Rg.drwG; rw [if_neg h]⟩
  unfold Rg.drwE at h
  by_cases h1 : s < 1
  · exact .inl h1
  by_cases h2 : 64 < s
  · exact .inr (.inl h2)
  rw [if_neg (by omega)] at h
  by_cases h3 : ls.length ≤ a
  · exact .inr (.inr (.inl h3))
  by_cases h4 : ((ls.getD a []).length : Int) < s
  · exact .inr (.inr (.inr h4))
  rw [if_neg] at h
  · exact absurd rfl h
  · rintro (e | e)
    · exact h3 (by have := congrArg List.length e; simp at this; omega)
    · rw [show (Rg.mk 0 0 0 (ls.drop a)).draws = ls.drop a from rfl, getD_drop9] at e; exact h4 e
theorem xor_255 (x : UInt8) : bits .xor .u8 (x.toNat : Int) 255 = ((x ^^^ 255).toNat : Int) := bits_xor x 255

set_option maxRecDepth 100000 in
set_option maxHeartbeats 40000000 in
theorem odraws_any (A : Option Addr) (ls : List (List UInt8)) (cap : Nat) (S0 : Option Addr) (sl scap : Nat) (Sz : Nat → Int) (w : World) (hle : ls.length ≤ 140737488351360) (hlc : ls.length ≤ cap) (hlb : ∀ i, i < ls.length → (ls.getD i []).length ≤ 140737488351232) (hrd : RdS w (fun b => b < w.heap.size) A ls)
    (hsl : sl ≤ 140737488351360) (hS : ∀ i, i < sl → -9223372036854775808 ≤ Sz i ∧ Sz i ≤ 9223372036854775807 ∧ ∃ ad, S0 = some ad ∧ ad.block < w.heap.size ∧ w.cell? (ad.add i) = some (.int .i64 (Sz i))) :
    Calls Try.prog 6 #[.slice A ls.length cap, .slice S0 sl scap] w fun e w' => e = .returned (.bool true) ∧ Below w.heap.size w w' := by
  have HRD := Lib.hid hrd; clear hrd
  have HLB := Lib.hid hlb; clear hlb
  have HS := Lib.hid hS; clear hS
  obtain ⟨n, hn⟩ : ∃ n, n = ls.length := ⟨_, rfl⟩
  rw [← hn] at hle hlc
  rw [← hn]
  have HN := Lib.hid hn; clear hn
  by_cases h200 : 200 < n
  · have hi : (200 : Int) < (n : Int) := by omega
    go_enter Try.func6, Try.ntmps6
    go_wp2_with fail
    refine (known09_any w).mono ?_
    rintro e wk ⟨rfl, hbk⟩
    go_wp2_with fail
    go_ret
    exact ⟨rfl, hbk⟩
  · have hi : ¬ (200 : Int) < (n : Int) := by omega
    go_enter Try.func6, Try.ntmps6
    go_wp2_with fail
    go_loopw [22] (fun i wr => ∃ j : Nat, j ≤ n ∧ i = .int .i64 (j : Int) ∧ w = wr) (fun i _ => n - (intOf i).toNat)
    case atStart => exact ⟨0, Nat.zero_le _, rfl, rfl⟩
    case round =>
      obtain ⟨j, hj, rfl, rfl⟩ := hrel
      by_cases hlt : j < n
      · have hji : (j : Int) < (n : Int) := by omega
        obtain ⟨ad, B, c, rfl, _, hadl, hc0, _, hl2, _, _⟩ := HRD.out.at_ (show j < ls.length by have := HN.out; omega)
        obtain ⟨ln, hln⟩ : ∃ ln, ln = (ls.getD j []).length := ⟨_, rfl⟩
        rw [← hln] at hc0 hl2
        clear hln
        by_cases h80 : 80 < ln
        · have h8 : (80 : Int) < (ln : Int) := by omega
          go_wp2_with fail
          refine (known09_any w).mono ?_
          rintro e wk ⟨rfl, hbk⟩
          go_wp2_with fail
          go_ret
          exact ⟨rfl, hbk⟩
        · have h8 : ¬ (80 : Int) < (ln : Int) := by omega
          go_wp2_with fail
          go_roundw
          case rel => exact ⟨j + 1, by omega, by go_num, trivial⟩
          case measure => simp [intOf]; omega
      · have hji : ¬ (j : Int) < (n : Int) := by omega
        clear hlt
        have hnew := cdnew_any w 8 (by decide) (by decide)
        rw [show ((8 : Nat) : Int) = 8 from rfl] at hnew
        have HNW := Lib.hid hnew; clear hnew
        go_wp2_with fail
        refine HNW.out.mono ?_
        rintro e w1 ⟨d, rfl, hcd, hb1⟩
        have hgn := cgnew_any w1 d 8 _ _ hcd 0 (by decide) A ls n cap HN.out.symm hlc (by omega) ((HRD.out.below hb1).more fun b h => Nat.lt_of_lt_of_le h hb1.size) HLB.out
        rw [show ((0 : Nat) : Int) = 0 from rfl] at hgn
        have HGN := Lib.hid hgn
        have HC1 := Lib.hid (And.intro hcd hb1); clear hgn hcd hb1 HNW
        go_wp2_with fail
        refine HGN.out.mono ?_
        rintro e w2 ⟨r, rfl, hcg, hb2⟩
        obtain ⟨L, hLe⟩ : ∃ L : Nat → Prop, L = fun b => w.heap.size ≤ b ∧ b < w1.heap.size := ⟨_, rfl⟩
        obtain ⟨R, hRe⟩ : ∃ R : Nat → Prop, R = fun b => w1.heap.size ≤ b ∧ b < w2.heap.size := ⟨_, rfl⟩
        have hdis : ∀ b, L b → ¬ R b := fun b h h2 => by rw [hLe] at h; rw [hRe] at h2; omega
        have hRw : ∀ b, R b → w.heap.size ≤ b := fun b h => by rw [hRe] at h; exact Nat.le_trans HC1.out.2.size h.1
        have hcd2 : CD w2 d L 8 (Dev.new 8) := by rw [hLe]; exact HC1.out.1.call hb2
        have hcg2 : CG w2 r d R (Rg.mk 0 0 0 (ls.drop 0)) := by rw [hRe]; exact hcg
        have HX := Lib.hid (And.intro hcg2 (And.intro hcd2 (HC1.out.2.trans (hb2.mono HC1.out.2.size))))
        have HDR := Lib.hid (And.intro hdis hRw)
        clear hcg hb2 hdis hRw hcd2 hcg2 hLe hRe HGN HC1
        go_wp2_with fail
        go_loopw [10, 59] (fun t i wr => ∃ j a : Nat, j ≤ sl ∧ i = .int .i64 (j : Int) ∧ t = .int .i64 (a : Int) ∧ a ≤ n ∧ CG wr r d R (Rg.mk 0 0 0 (ls.drop a)) ∧ CD wr d L 8 (Dev.new 8) ∧ Below w.heap.size w wr) (fun _ i _ => sl - (intOf i).toNat)
        case atStart => exact ⟨0, 0, Nat.zero_le _, rfl, rfl, Nat.zero_le _, HX.out⟩
        case round =>
          rename World => wr
          obtain ⟨j, a, hj, rfl, rfl, ha, hcg, hcd, hB⟩ := hrel
          clear HX
          by_cases hlt : j < sl
          · have hji : (j : Int) < (sl : Int) := by omega
            obtain ⟨hs1, hs2, ads, hse, hsb, hsc⟩ := HS.out j hlt
            subst hse
            obtain ⟨s, hs⟩ : ∃ s, s = Sz j := ⟨_, rfl⟩
            rw [← hs] at hs1 hs2 hsc
            have hsc' : wr.cell? (ads.add j) = some (.int .i64 s) := (hB.cell (by rw [add_block]; exact hsb)).trans hsc
            clear hs hsc hsb
            have hdr := cgdraw_any wr r d R _ s ⟨hs1, hs2⟩ hcg
            obtain ⟨E, hE⟩ : ∃ E, E = (Rg.mk 0 0 0 (ls.drop a)).drwE s := ⟨_, rfl⟩
            rw [← hE] at hdr
            have HB := Lib.hid hB
            have HCD := Lib.hid hcd
            have HCG := Lib.hid hcg
            clear hB hcd hcg
            by_cases hE0 : E = 0
            · subst hE0
              obtain ⟨y1, y2, y3, y4, y5, y6⟩ := drw_yes ls a s hE.symm
              rw [y5, y6] at hdr
              obtain ⟨m, rfl⟩ : ∃ m : Nat, s = (m : Int) := ⟨s.toNat, by omega⟩
              rw [show ((m : Int)).toNat = m from rfl] at hdr
              obtain ⟨ad, B, c, hA, _, hadl, hc0, hlc2, hl2, hrB, _⟩ := HRD.out.at_ y3
              have HA := Lib.hid hA
              obtain ⟨l, hl⟩ : ∃ l, l = ls.getD a [] := ⟨_, rfl⟩
              rw [← hl] at hdr y4 hc0 hlc2 hl2 hrB
              have htk : (l.take m).length = m := by rw [List.length_take]; omega
              rw [htk] at hdr
              have HDW := Lib.hid hdr
              have HRB := Lib.hid hrB
              have HAL := Lib.hid (And.intro htk (And.intro hadl hc0))
              clear hdr y5 y6 hE hl hrB htk hc0 hadl
              go_wp2_with fail
              refine HDW.out.mono ?_
              rintro e w7 ⟨v, rfl, ho, hcg7, hk7⟩
              have hB7 := Keep.toBelow HB.out hk7 HDR.out.2 HB.out.size
              have hcd7 := HCD.out.keep hk7 (fun b hb => HDR.out.1 b hb)
              obtain ⟨et, ho⟩ := ho
              obtain ⟨A7, c7, rfl, _, hr7⟩ := Rd.of_own ho
              obtain ⟨gv, hgv, hgb⟩ : ∃ gv, A7 = some ⟨gv, 0, none⟩ ∧ wr.heap.size ≤ gv := by
                rcases ho.2 with ⟨e1, e2⟩ | ⟨g, cc, cur, e1, hg, _⟩
                · omega
                · injection e1 with e1 _ _; exact ⟨g, e1, hg⟩
              subst hgv
              have hcA : w7.cell? (ad.add a) = some (.slice B l.length c) := (hB7.cell (by rw [add_block]; exact HAL.out.2.1)).trans HAL.out.2.2
              have hl7 := l.length
              obtain ⟨ll, hll⟩ : ∃ ll, ll = l.length := ⟨_, rfl⟩
              rw [← hll] at hcA y4 hlc2 hl2
              obtain ⟨j0, hi0, hz0, hz1, hz2⟩ := info_parts info_b
              have q1 := run_head (P := Try.prog) 31 5 j0 Try.underlying31 hi0 B ll c m (by omega)
              have s1 := fun (w' : World) (hb : Below w7.heap.size w7 w') => run_str (P := Try.prog) 31 9 5 Try.underlying31 Try.underlying5 Try.underlying9 (l := l.take m) (n := m) HAL.out.1 c7 (hr7.go hb)
              have hrB7 : Rd w7 w.heap.size B (vb (l.take m)) := by
                have := (HRB.out.take m).below hB7
                simpa [vb, List.map_take] using this
              have s2 := fun (w' : World) (hb : Below w7.heap.size w7 w') => run_str (P := Try.prog) 31 9 5 Try.underlying31 Try.underlying5 Try.underlying9 (l := l.take m) (n := m) HAL.out.1 c ((hrB7.more hB7.size).go hb)
              have hca := fun (w' : World) (hb : Below w7.heap.size w7 w') => (hb.cell (show (ad.add a).block < w7.heap.size by rw [add_block]; have := hB7.size; have := HAL.out.2.1; omega)).trans hcA
              obtain ⟨tx, htx⟩ : ∃ tx, tx = (l.take m).toArray := ⟨_, rfl⟩
              rw [← htx] at s1 s2
              have HS1 := Lib.hid s1
              have HS2 := Lib.hid s2
              have HCA := Lib.hid hca
              have hai : (a : Int) < (n : Int) := by have := HN.out; omega
              have d1 : decide ((n : Int) ≤ (a : Int)) = false := decide_eq_false (by omega)
              have d2 : decide ((m : Int) < 1) = false := decide_eq_false (by omega)
              have d3 : decide ((64 : Int) < (m : Int)) = false := decide_eq_false (by omega)
              have d4 : decide ((ll : Int) < (m : Int)) = false := decide_eq_false (by omega)
              clear s1 s2 hca hcA
              have HL7 := Lib.hid (And.intro ho (And.intro hcg7 (And.intro hcd7 (And.intro hB7 hgb))))
              clear ho hcg7 hcd7 hB7 hk7 hr7 hrB7 htx hi0 hz0 hz1 hz2 hll hgb
              go_upto_region 19 with fail
              refine wp_region_noPanic ?_
              refine wp_region_held_drew (S := (fun w' => Below w7.heap.size w7 w')) (by kernel_rfl) ?_ (fun hHeld => ?_)
              · exact (Below.refl w7.heap.size w7).drew
              have hs2 : Below w7.heap.size w7 w7.drew := (Below.refl w7.heap.size w7).drew
              generalize w7.drew = ws1 at *
              refine wpAnyH_take (i := 0) (v := ?_) rfl (by kernel_rfl) (by kernel_rfl) (by kernel_rfl) (fun _ _ _ h => h) (Or.inl ⟨by rfl, ?_⟩) hHeld ?_
              rotate_left
              · intro w' hSw
                (try dsimp only at hSw)
                go_simp
                try with_reducible rfl
              try simp only [Act.put, zq1, zq2, zq3, zq4, zq5, zq6]
              refine wpAnyH_take (i := 1) (v := ?_) rfl (by kernel_rfl) (by kernel_rfl) (by kernel_rfl) (fun _ _ _ h => h) (Or.inl ⟨by rfl, ?_⟩) hHeld ?_
              rotate_left
              · intro w' hSw
                (try dsimp only at hSw)
                go_simp
                try with_reducible rfl
              try simp only [Act.put, zq1, zq2, zq3, zq4, zq5, zq6]
              refine wpAnyH_take (i := 2) (v := ?_) rfl (by kernel_rfl) (by kernel_rfl) (by kernel_rfl) (fun _ _ _ h => h) (Or.inl ⟨by rfl, ?_⟩) hHeld ?_
              rotate_left
              · intro w' hSw
                (try dsimp only at hSw)
                go_simp
                try with_reducible rfl
              try simp only [Act.put, zq1, zq2, zq3, zq4, zq5, zq6]
              refine wpAnyH_take (i := 3) (v := .bool false) rfl (by kernel_rfl) (by kernel_rfl) (by kernel_rfl) (fun _ _ _ h => h) (Or.inl ⟨by rfl, ?_⟩) hHeld ?_
              · intro w' hSw
                (try dsimp only at hSw)
                go_simp
                all_goals (first | omega | (simp; omega))
              try simp only [Act.put, zq1, zq2, zq3, zq4, zq5, zq6]
              refine wpAnyH_take (i := 4) (v := ?_) rfl (by kernel_rfl) (by kernel_rfl) (by kernel_rfl) (fun _ _ _ h => h) (Or.inl ⟨by rfl, ?_⟩) hHeld ?_
              rotate_left
              · intro w' hSw
                (try dsimp only at hSw)
                go_simp
                try with_reducible rfl
              try simp only [Act.put, zq1, zq2, zq3, zq4, zq5, zq6]
              refine wpAnyH_take (i := 5) (v := ?_) rfl (by kernel_rfl) (by kernel_rfl) (by kernel_rfl) (fun _ _ _ h => h) (Or.inl ⟨by rfl, ?_⟩) hHeld ?_
              rotate_left
              · intro w' hSw
                (try dsimp only at hSw)
                go_simp
                try with_reducible rfl
              try simp only [Act.put, zq1, zq2, zq3, zq4, zq5, zq6]
              refine wpAnyH_take (i := 6) (v := .bool false) rfl (by kernel_rfl) (by kernel_rfl) (by kernel_rfl) (fun _ _ _ h => h) (Or.inl ⟨by rfl, ?_⟩) hHeld ?_
              · intro w' hSw
                (try dsimp only at hSw)
                go_simp
                all_goals (first | omega | (simp; omega))
              try simp only [Act.put, zq1, zq2, zq3, zq4, zq5, zq6]
              refine wpAnyH_take (i := 7) (v := ?_) rfl (by kernel_rfl) (by kernel_rfl) (by kernel_rfl) (fun _ _ _ h => h) (Or.inl ⟨by rfl, ?_⟩) hHeld ?_
              rotate_left
              · intro w' hSw
                (try dsimp only at hSw)
                go_simp
                try with_reducible rfl
              try simp only [Act.put, zq1, zq2, zq3, zq4, zq5, zq6]
              refine wpAnyH_take (i := 8) (v := ?_) rfl (by kernel_rfl) (by kernel_rfl) (by kernel_rfl) (fun _ _ _ h => h) (Or.inl ⟨by rfl, ?_⟩) hHeld ?_
              rotate_left
              · intro w' hSw
                (try dsimp only at hSw)
                go_simp
                try with_reducible rfl
              try simp only [Act.put, zq1, zq2, zq3, zq4, zq5, zq6]
              refine wpAnyH_take (i := 9) (v := ?_) rfl (by kernel_rfl) (by kernel_rfl) (by kernel_rfl) (fun _ _ _ h => h) (Or.inl ⟨by rfl, ?_⟩) hHeld ?_
              rotate_left
              · intro w' hSw
                (try dsimp only at hSw)
                go_simp
                try with_reducible rfl
              try simp only [Act.put, zq1, zq2, zq3, zq4, zq5, zq6]
              refine wpAnyH_take (i := 10) (v := .bool false) rfl (by kernel_rfl) (by kernel_rfl) (by kernel_rfl) (fun _ _ _ h => h) (Or.inl ⟨by rfl, ?_⟩) hHeld ?_
              · intro w' hSw
                (try dsimp only at hSw)
                go_simp
                all_goals (first | omega | (simp; omega))
              try simp only [Act.put, zq1, zq2, zq3, zq4, zq5, zq6]
              refine wpAnyH_take (i := 11) (v := ?_) rfl (by kernel_rfl) (by kernel_rfl) (by kernel_rfl) (fun _ _ _ h => h) (Or.inl ⟨by rfl, ?_⟩) hHeld ?_
              rotate_left
              · intro w' hSw
                (try dsimp only at hSw)
                go_simp
                try with_reducible rfl
              try simp only [Act.put, zq1, zq2, zq3, zq4, zq5, zq6]
              refine wpAnyH_take (i := 12) (v := ?_) rfl (by kernel_rfl) (by kernel_rfl) (by kernel_rfl) (fun _ _ _ h => h) (Or.inl ⟨by rfl, ?_⟩) hHeld ?_
              rotate_left
              · intro w' hSw
                (try dsimp only at hSw)
                go_simp
                try with_reducible rfl
              try simp only [Act.put, zq1, zq2, zq3, zq4, zq5, zq6]
              refine wpAnyH_take (i := 13) (v := ?_) rfl (by kernel_rfl) (by kernel_rfl) (by kernel_rfl) (fun _ _ _ h => h) (Or.inl ⟨by rfl, ?_⟩) hHeld ?_
              rotate_left
              · intro w' hSw
                (try dsimp only at hSw)
                go_simp
                try with_reducible rfl
              try simp only [Act.put, zq1, zq2, zq3, zq4, zq5, zq6]
              refine wpAnyH_take (i := 14) (v := ?_) rfl (by kernel_rfl) (by kernel_rfl) (by kernel_rfl) (fun _ _ _ h => h) (Or.inl ⟨by rfl, ?_⟩) hHeld ?_
              rotate_left
              · intro w' hSw
                (try dsimp only at hSw)
                go_simp
                try with_reducible rfl
              try simp only [Act.put, zq1, zq2, zq3, zq4, zq5, zq6]
              refine wpAnyH_take (i := 15) (v := ?_) rfl (by kernel_rfl) (by kernel_rfl) (by kernel_rfl) (fun _ _ _ h => h) (Or.inl ⟨by rfl, ?_⟩) hHeld ?_
              rotate_left
              · intro w' hSw
                (try dsimp only at hSw)
                go_simp
                try with_reducible rfl
              try simp only [Act.put, zq1, zq2, zq3, zq4, zq5, zq6]
              refine wpAnyH_take (i := 16) (v := ?_) rfl (by kernel_rfl) (by kernel_rfl) (by kernel_rfl) (fun _ _ _ h => h) (Or.inl ⟨by rfl, ?_⟩) hHeld ?_
              rotate_left
              · intro w' hSw
                (try dsimp only at hSw)
                go_simp
                try with_reducible rfl
              try simp only [Act.put, zq1, zq2, zq3, zq4, zq5, zq6]
              refine wpAnyH_take (i := 17) (v := ?_) rfl (by kernel_rfl) (by kernel_rfl) (by kernel_rfl) (fun _ _ _ h => h) (Or.inl ⟨by rfl, ?_⟩) hHeld ?_
              rotate_left
              · intro w' hSw
                (try dsimp only at hSw)
                have cf := HCA.out w' hSw
                go_simp
                try with_reducible rfl
              try simp only [Act.put, zq1, zq2, zq3, zq4, zq5, zq6]
              refine wpAnyH_take (i := 18) (v := ?_) rfl (by kernel_rfl) (by kernel_rfl) (by kernel_rfl) (fun _ _ _ h => h) (Or.inl ⟨by rfl, ?_⟩) hHeld ?_
              rotate_left
              · intro w' hSw
                (try dsimp only at hSw)
                go_simp
                try with_reducible rfl
              try simp only [Act.put, zq1, zq2, zq3, zq4, zq5, zq6]
              refine wpAnyH_take (i := 19) (v := .bool false) rfl (by kernel_rfl) (by kernel_rfl) (by kernel_rfl) (fun _ _ _ h => h) (Or.inl ⟨by rfl, ?_⟩) hHeld ?_
              · intro w' hSw
                (try dsimp only at hSw)
                go_simp
                all_goals (first | omega | (simp; omega))
              try simp only [Act.put, zq1, zq2, zq3, zq4, zq5, zq6]
              refine wpAnyH_take (i := 20) (v := ?_) rfl (by kernel_rfl) (by kernel_rfl) (by kernel_rfl) (fun _ _ _ h => h) (Or.inl ⟨by rfl, ?_⟩) hHeld ?_
              rotate_left
              · intro w' hSw
                (try dsimp only at hSw)
                go_simp
                try with_reducible rfl
              try simp only [Act.put, zq1, zq2, zq3, zq4, zq5, zq6]
              refine wpAnyH_take (i := 21) (v := ?_) rfl (by kernel_rfl) (by kernel_rfl) (by kernel_rfl) (fun _ _ _ h => h) (Or.inl ⟨by rfl, ?_⟩) hHeld ?_
              rotate_left
              · intro w' hSw
                (try dsimp only at hSw)
                go_simp
                try with_reducible rfl
              try simp only [Act.put, zq1, zq2, zq3, zq4, zq5, zq6]
              refine wpAnyH_take (i := 22) (v := ?_) rfl (by kernel_rfl) (by kernel_rfl) (by kernel_rfl) (fun _ _ _ h => h) (Or.inl ⟨by rfl, ?_⟩) hHeld ?_
              rotate_left
              · intro w' hSw
                (try dsimp only at hSw)
                go_simp
                try with_reducible rfl
              try simp only [Act.put, zq1, zq2, zq3, zq4, zq5, zq6]
              refine wpAnyH_take (i := 23) (v := ?_) rfl (by kernel_rfl) (by kernel_rfl) (by kernel_rfl) (fun _ _ _ h => h) (Or.inl ⟨by rfl, ?_⟩) hHeld ?_
              rotate_left
              · intro w' hSw
                (try dsimp only at hSw)
                have cf := HS1.out w' hSw
                go_simp
                try with_reducible rfl
              try simp only [Act.put, zq1, zq2, zq3, zq4, zq5, zq6]
              refine wpAnyH_take (i := 24) (v := ?_) rfl (by kernel_rfl) (by kernel_rfl) (by kernel_rfl) (fun _ _ _ h => h) (Or.inl ⟨by rfl, ?_⟩) hHeld ?_
              rotate_left
              · intro w' hSw
                (try dsimp only at hSw)
                go_simp
                try with_reducible rfl
              try simp only [Act.put, zq1, zq2, zq3, zq4, zq5, zq6]
              refine wpAnyH_take (i := 25) (v := ?_) rfl (by kernel_rfl) (by kernel_rfl) (by kernel_rfl) (fun _ _ _ h => h) (Or.inl ⟨by rfl, ?_⟩) hHeld ?_
              rotate_left
              · intro w' hSw
                (try dsimp only at hSw)
                go_simp
                try with_reducible rfl
              try simp only [Act.put, zq1, zq2, zq3, zq4, zq5, zq6]
              refine wpAnyH_take (i := 26) (v := ?_) rfl (by kernel_rfl) (by kernel_rfl) (by kernel_rfl) (fun _ _ _ h => h) (Or.inl ⟨by rfl, ?_⟩) hHeld ?_
              rotate_left
              · intro w' hSw
                (try dsimp only at hSw)
                go_simp
                try with_reducible rfl
              try simp only [Act.put, zq1, zq2, zq3, zq4, zq5, zq6]
              refine wpAnyH_take (i := 27) (v := ?_) rfl (by kernel_rfl) (by kernel_rfl) (by kernel_rfl) (fun _ _ _ h => h) (Or.inl ⟨by rfl, ?_⟩) hHeld ?_
              rotate_left
              · intro w' hSw
                (try dsimp only at hSw)
                have cf := HCA.out w' hSw
                go_simp
                try with_reducible rfl
              try simp only [Act.put, zq1, zq2, zq3, zq4, zq5, zq6]
              refine wpAnyH_take (i := 28) (v := ?_) rfl (by kernel_rfl) (by kernel_rfl) (by kernel_rfl) (fun _ _ _ h => h) (Or.inl ⟨by rfl, ?_⟩) hHeld ?_
              rotate_left
              · intro w' hSw
                (try dsimp only at hSw)
                go_simp
                try with_reducible rfl
              try simp only [Act.put, zq1, zq2, zq3, zq4, zq5, zq6]
              refine wpAnyH_take (i := 29) (v := ?_) rfl (by kernel_rfl) (by kernel_rfl) (by kernel_rfl) (fun _ _ _ h => h) (Or.inl ⟨by rfl, ?_⟩) hHeld ?_
              rotate_left
              · intro w' hSw
                (try dsimp only at hSw)
                go_simp
                try with_reducible rfl
              try simp only [Act.put, zq1, zq2, zq3, zq4, zq5, zq6]
              refine wpAnyH_take (i := 30) (v := ?_) rfl (by kernel_rfl) (by kernel_rfl) (by kernel_rfl) (fun _ _ _ h => h) (Or.inl ⟨by rfl, ?_⟩) hHeld ?_
              rotate_left
              · intro w' hSw
                (try dsimp only at hSw)
                have cf := HS2.out w' hSw
                go_simp
                try with_reducible rfl
              try simp only [Act.put, zq1, zq2, zq3, zq4, zq5, zq6]
              refine wpAnyH_take (i := 31) (v := ?_) rfl (by kernel_rfl) (by kernel_rfl) (by kernel_rfl) (fun _ _ _ h => h) (Or.inl ⟨by rfl, ?_⟩) hHeld ?_
              rotate_left
              · intro w' hSw
                (try dsimp only at hSw)
                go_simp
                try with_reducible rfl
              try simp only [Act.put, zq1, zq2, zq3, zq4, zq5, zq6]
              refine wpAnyH_take (i := 32) (v := ?_) rfl (by kernel_rfl) (by kernel_rfl) (by kernel_rfl) (fun _ _ _ h => h) (Or.inl ⟨by rfl, ?_⟩) hHeld ?_
              rotate_left
              · intro w' hSw
                (try dsimp only at hSw)
                go_simp
                try with_reducible rfl
              try simp only [Act.put, zq1, zq2, zq3, zq4, zq5, zq6]
              refine wpAnyH_done (by kernel_rfl) ?_ _
              refine NoPanic.normal ?_
              have HLW := Lib.hid (And.intro (own_below HL7.out.1 hs2) (And.intro (HL7.out.2.1.call hs2) (And.intro (HL7.out.2.2.1.call hs2) (And.intro (HL7.out.2.2.2.1.trans (hs2.mono HL7.out.2.2.2.1.size)) (And.intro HL7.out.2.2.2.2 HAL.out.1)))))
              clear HL7 hs2 HS1 HS2 HCA d1 d2 d3 d4 hHeld hA
              have ham : a + 1 ≤ n := by omega
              go_wp2_with fail
              go_loopw [106] (fun i wz => ∃ (k : Nat) (l' : List UInt8), k ≤ m ∧ i = .int .i64 (k : Int) ∧ l'.length = m ∧ wz.ownsRow wr.heap.size et 1 (.slice (some ⟨gv, 0, none⟩) m c7) m (vb l') ∧ Keep (fun b => b = gv) ws1 wz) (fun i _ => m - (intOf i).toNat)
              case atStart => exact ⟨0, _, Nat.zero_le _, rfl, HLW.out.2.2.2.2.2, HLW.out.1, Keep.refl _ _⟩
              case round =>
                rename World => wz
                obtain ⟨k, l', hk, rfl, hl', hown, hkp⟩ := hrel
                by_cases hkm : k < m
                · have hki : (k : Int) < (m : Int) := by omega
                  have hfz := hown.frozenAt k
                  have hce := (hown.cellAt k (by omega)).trans (List.getElem?_eq_getElem (by rw [List.length_map, hl']; exact hkm))
                  rw [List.getElem_map] at hce
                  obtain ⟨x, hx⟩ : ∃ x, x = l'[k]'(by omega) := ⟨_, rfl⟩
                  rw [← hx] at hce
                  have hxr := xor_255 x
                  have hst := hown.stored k (.int .u8 ((x ^^^ 255).toNat : Int))
                  have hse : (vb l').set k (.int .u8 ((x ^^^ 255).toNat : Int)) = vb (l'.set k (x ^^^ 255)) := by simp [vb, List.map_set]
                  rw [hse] at hst
                  obtain ⟨x2, hx2⟩ : ∃ x2, x2 = (x ^^^ 255).toNat := ⟨_, rfl⟩
                  rw [← hx2] at hxr hst
                  obtain ⟨x1, hx1⟩ : ∃ x1, x1 = x.toNat := ⟨_, rfl⟩
                  rw [← hx1] at hce hxr
                  have hk2 := hkp.setCell (a := ⟨gv, k, none⟩) (fun _ => rfl) (.int .u8 (x2 : Int))
                  have HST := Lib.hid (And.intro hst.1 (And.intro hk2 hl')); clear hst hse hown hkp hx hx2 hx1 hk2 hl'
                  go_wp2_with fail
                  go_roundw
                  case rel => exact ⟨k + 1, _, by omega, by go_num, by rw [List.length_set]; exact HST.out.2.2, HST.out.1, HST.out.2.1⟩
                  case measure => simp [intOf]; omega
                · have hki : ¬ (k : Int) < (m : Int) := by omega
                  have hgw : w.heap.size ≤ gv := Nat.le_trans HB.out.size HLW.out.2.2.2.2.1
                  have hq1 := HLW.out.2.1.keep hkp (fun b hb e => by have := HCG.out.lt b hb; have := HLW.out.2.2.2.2.1; omega)
                  have hq2 := HLW.out.2.2.1.keep hkp (fun b hb e => by have := HCD.out.lt b hb; have := HLW.out.2.2.2.2.1; omega)
                  have hq3 := Keep.toBelow HLW.out.2.2.2.1 hkp (fun b e => by rw [e]; exact hgw) HLW.out.2.2.2.1.size
                  have HQ := Lib.hid (And.intro hq1 (And.intro hq2 hq3)); clear hq1 hq2 hq3 hown hkp HLW HB HCD HCG hgw
                  have hwr1 : IntKind.i64.wrap ((a : Int) + 1) = (a : Int) + 1 := IntWalk.i64_in _ (by omega)
                  rename World => wq
                  have hlf := cgleft_any wq r d R _ HQ.out.1
                  rw [show (Rg.mk 0 0 0 (ls.drop (a + 1))).draws.length = n - (a + 1) from by show (ls.drop (a + 1)).length = _; rw [List.length_drop, ← HN.out]] at hlf
                  have HLF := Lib.hid hlf; clear hlf
                  have hsub : IntKind.i64.wrap ((n : Int) - ((a : Int) + 1)) = ((n - (a + 1) : Nat) : Int) := by rw [IntWalk.i64_in _ (by omega)]; omega
                  obtain ⟨df, hdf⟩ : ∃ df, df = n - (a + 1) := ⟨_, rfl⟩
                  rw [← hdf] at HLF hsub
                  clear hdf
                  go_wp2_with fail
                  refine HLF.out.mono ?_
                  rintro e wy ⟨rfl, hby⟩
                  (try clear hA)
                  have HF := Lib.hid (And.intro (HQ.out.1.call hby) (And.intro (HQ.out.2.1.call hby) (HQ.out.2.2.trans (hby.mono HQ.out.2.2.size)))); clear hby HLF HQ
                  go_wp2_with fail
                  rw [← HA.out]
                  go_roundw
                  case rel => exact ⟨j + 1, a + 1, by omega, by go_num, by go_num, by omega, HF.out⟩
                  case measure => simp [intOf]; omega
            · obtain ⟨x1, x2, x3⟩ := drw_not ls a s (by rw [← hE]; exact hE0)
              rw [x2, x3] at hdr
              have HDW := Lib.hid hdr; clear hdr x2 x3 hE
              have hEi : ¬ (E : Int) = 0 := by omega
              have hEb : ((E : Int) == 0) = false := by rw [beq_eq_false_iff_ne]; exact hEi
              go_wp2_with fail
              refine HDW.out.mono ?_
              rintro e wq ⟨v, rfl, ho, hcg7, hk7⟩
              have hB7 := Keep.toBelow HB.out hk7 HDR.out.2 HB.out.size
              have hcd7 := HCD.out.keep hk7 (fun b hb => HDR.out.1 b hb)
              obtain ⟨et, ho⟩ := ho
              obtain ⟨A7, c7, hv7, _, _⟩ := Rd.of_own ho
              rw [show ([] : List UInt8).length = 0 from rfl] at hv7
              subst hv7
              clear ho hk7 HDW
              by_cases z1 : s < 1
              · have z1' : ¬ (1 : Int) ≤ s := by omega
                clear x1
                have HQ := Lib.hid (And.intro hcg7 (And.intro hcd7 hB7)); clear hcg7 hcd7 hB7 HB HCD HCG
                have hlf := cgleft_any wq r d R _ HQ.out.1
                rw [show (Rg.mk 0 0 0 (ls.drop (a))).draws.length = n - (a) from by show (ls.drop (a)).length = _; rw [List.length_drop, ← HN.out]] at hlf
                have HLF := Lib.hid hlf; clear hlf
                have hsub : IntKind.i64.wrap ((n : Int) - ((a : Int))) = ((n - (a) : Nat) : Int) := by rw [IntWalk.i64_in _ (by omega)]; omega
                obtain ⟨df, hdf⟩ : ∃ df, df = n - (a) := ⟨_, rfl⟩
                rw [← hdf] at HLF hsub
                clear hdf
                go_wp2_with fail
                refine HLF.out.mono ?_
                rintro e wy ⟨rfl, hby⟩
                (try clear hA)
                have HF := Lib.hid (And.intro (HQ.out.1.call hby) (And.intro (HQ.out.2.1.call hby) (HQ.out.2.2.trans (hby.mono HQ.out.2.2.size)))); clear hby HLF HQ
                go_wp2_with fail
                go_roundw
                case rel => exact ⟨j + 1, a, by omega, by go_num, by go_num, by omega, HF.out⟩
                case measure => simp [intOf]; omega
              by_cases z2 : 64 < s
              · have z2' : ¬ s ≤ 64 := by omega
                have z1' : (1 : Int) ≤ s := by omega
                clear x1
                have HQ := Lib.hid (And.intro hcg7 (And.intro hcd7 hB7)); clear hcg7 hcd7 hB7 HB HCD HCG
                have hlf := cgleft_any wq r d R _ HQ.out.1
                rw [show (Rg.mk 0 0 0 (ls.drop (a))).draws.length = n - (a) from by show (ls.drop (a)).length = _; rw [List.length_drop, ← HN.out]] at hlf
                have HLF := Lib.hid hlf; clear hlf
                have hsub : IntKind.i64.wrap ((n : Int) - ((a : Int))) = ((n - (a) : Nat) : Int) := by rw [IntWalk.i64_in _ (by omega)]; omega
                obtain ⟨df, hdf⟩ : ∃ df, df = n - (a) := ⟨_, rfl⟩
                rw [← hdf] at HLF hsub
                clear hdf
                go_wp2_with fail
                refine HLF.out.mono ?_
                rintro e wy ⟨rfl, hby⟩
                (try clear hA)
                have HF := Lib.hid (And.intro (HQ.out.1.call hby) (And.intro (HQ.out.2.1.call hby) (HQ.out.2.2.trans (hby.mono HQ.out.2.2.size)))); clear hby HLF HQ
                go_wp2_with fail
                go_roundw
                case rel => exact ⟨j + 1, a, by omega, by go_num, by go_num, by omega, HF.out⟩
                case measure => simp [intOf]; omega
              by_cases z3 : n ≤ a
              · have z3' : ¬ (a : Int) < (n : Int) := by omega
                have z1' : (1 : Int) ≤ s := by omega
                have z2' : s ≤ 64 := by omega
                clear x1
                have HQ := Lib.hid (And.intro hcg7 (And.intro hcd7 hB7)); clear hcg7 hcd7 hB7 HB HCD HCG
                have hlf := cgleft_any wq r d R _ HQ.out.1
                rw [show (Rg.mk 0 0 0 (ls.drop (a))).draws.length = n - (a) from by show (ls.drop (a)).length = _; rw [List.length_drop, ← HN.out]] at hlf
                have HLF := Lib.hid hlf; clear hlf
                have hsub : IntKind.i64.wrap ((n : Int) - ((a : Int))) = ((n - (a) : Nat) : Int) := by rw [IntWalk.i64_in _ (by omega)]; omega
                obtain ⟨df, hdf⟩ : ∃ df, df = n - (a) := ⟨_, rfl⟩
                rw [← hdf] at HLF hsub
                clear hdf
                go_wp2_with fail
                refine HLF.out.mono ?_
                rintro e wy ⟨rfl, hby⟩
                (try clear hA)
                have HF := Lib.hid (And.intro (HQ.out.1.call hby) (And.intro (HQ.out.2.1.call hby) (HQ.out.2.2.trans (hby.mono HQ.out.2.2.size)))); clear hby HLF HQ
                go_wp2_with fail
                go_roundw
                case rel => exact ⟨j + 1, a, by omega, by go_num, by go_num, by omega, HF.out⟩
                case measure => simp [intOf]; omega
              have z4 : ((ls.getD a []).length : Int) < s := by have := HN.out; omega
              obtain ⟨ad, B, c, hA, _, hadl, hc0, hlc2, hl2, _, _⟩ := HRD.out.at_ (show a < ls.length by have := HN.out; omega)
              have HA := Lib.hid hA
              obtain ⟨ll, hll⟩ : ∃ ll, ll = (ls.getD a []).length := ⟨_, rfl⟩
              rw [← hll] at z4 hc0 hlc2 hl2
              have hcA : wq.cell? (ad.add a) = some (.slice B ll c) := (hB7.cell (by rw [add_block]; exact hadl)).trans hc0
              have z3' : (a : Int) < (n : Int) := by omega
              have z1' : (1 : Int) ≤ s := by omega
              have z2' : s ≤ 64 := by omega
              have z4' : ¬ s ≤ (ll : Int) := by omega
              clear x1 hc0 hll hadl
              have HQ := Lib.hid (And.intro hcg7 (And.intro hcd7 hB7)); clear hcg7 hcd7 hB7 HB HCD HCG
              have hlf := cgleft_any wq r d R _ HQ.out.1
              rw [show (Rg.mk 0 0 0 (ls.drop (a))).draws.length = n - (a) from by show (ls.drop (a)).length = _; rw [List.length_drop, ← HN.out]] at hlf
              have HLF := Lib.hid hlf; clear hlf
              have hsub : IntKind.i64.wrap ((n : Int) - ((a : Int))) = ((n - (a) : Nat) : Int) := by rw [IntWalk.i64_in _ (by omega)]; omega
              obtain ⟨df, hdf⟩ : ∃ df, df = n - (a) := ⟨_, rfl⟩
              rw [← hdf] at HLF hsub
              clear hdf
              go_wp2_with fail
              refine HLF.out.mono ?_
              rintro e wy ⟨rfl, hby⟩
              (try clear hA)
              have HF := Lib.hid (And.intro (HQ.out.1.call hby) (And.intro (HQ.out.2.1.call hby) (HQ.out.2.2.trans (hby.mono HQ.out.2.2.size)))); clear hby HLF HQ
              go_wp2_with fail
              rw [← HA.out]
              go_roundw
              case rel => exact ⟨j + 1, a, by omega, by go_num, by go_num, by omega, HF.out⟩
              case measure => simp [intOf]; omega
          · have hji : ¬ (j : Int) < (sl : Int) := by omega
            have hst := cdsteps_any wr d 8 L _ hcd
            rw [show (Dev.new 8).steps = 0 from rfl] at hst
            have HST := Lib.hid hst
            have HB := Lib.hid hB
            clear hst hcd hcg hB
            go_wp2_with fail
            refine HST.out.mono ?_
            rintro e w3 ⟨rfl, hb3⟩
            have HB3 := Lib.hid (HB.out.trans (hb3.mono HB.out.size)); clear hb3 HST HB
            go_wp2_with fail
            refine (known09_any w3).mono ?_
            rintro e w4 ⟨rfl, hb4⟩
            have HB4 := Lib.hid (HB3.out.trans (hb4.mono HB3.out.size)); clear hb4 HB3
            go_wp2_with fail
            go_ret
            exact ⟨rfl, HB4.out⟩
set_option maxRecDepth 100000 in
theorem odraws_lifted (os : Os) (started : os.Started) (H : Type) (enc : TypeId × Value → H) :
    ReturnsInHanded {} Try.checked os 6 .any (Rows.regsDrawsSpec.pre6 enc Try.prog Try.f6 Rows.regsDrawsRow.domain false) (Rows.regsDrawsSpec.post enc Try.prog Try.f6 false true false false) := by
  refine returnsInHanded_of_change_sized (C := Try.checked) Try.own started (by kernel_rfl) Try.func6
    (ChangeSpec.witness6 (enc := enc) (C := Try.checked) false ⟨#[], #[.slice none 0 0, .slice none 0 0], []⟩ 8 (by kernel_rfl) (by kernel_rfl) (by kernel_rfl) (by kernel_rfl)) ?_
  intro W base args ds gs before hval0 hW _ hsz0 _
  have hsz : (DataW.weightsEach Try.prog (Try.f6.params.toList ++ Rows.regsDrawsSpec.plain.varTypes Try.prog) (ds ++ gs)).all (· ≤ reachBytes) = true := hsz0
  have hval : ∀ (j : Nat) t v, Try.f6.params[j]? = some t → args[j]? = some v → Value.okWide Try.prog W .any base t v := hval0
  have hW' := hW
  obtain ⟨p, q, hA0, hV, rfl, _, _⟩ := hW
  have hA : DataW.TrodAll enc Try.prog W 0 (fun _ => true) true Try.f6.params.toList args.toList ds p := hA0
  rw [Try.params6] at hA hval hsz
  have hlt := hW'.lt
  clear hA0 hval0 hsz0
  obtain ⟨v0, vs0, d0, ds0, p0, q0, hv0, rfl, rfl, h0, r0⟩ := trodAll_cons hA
  obtain ⟨v1, vs1, d1, ds1, p1, q1, hv1, rfl, rfl, h1, r1⟩ := trodAll_cons r0
  subst hv1
  obtain ⟨rfl, rfl, rfl⟩ := trodAll_nil r1
  obtain rfl : args = #[v0, v1] := by cases args; simp_all
  obtain ⟨rfl, rfl⟩ := trodVars_none hV
  obtain ⟨A0, ls0, cap0, rfl, le0, lc0, lb0, hk0⟩ := open_bytess Try.underlying23 Try.underlying31 Try.underlying5 (by kernel_rfl) Try.cellsU8 Try.bytesU8 (of_decide_eq_true (by kernel_rfl)) (hval 0 23 v0 rfl rfl) h0 (fun m hm => by have := List.all_eq_true.1 hsz m (DataW.weights_mem_each (j := 0) (t := 23) rfl rfl m hm); simpa using this)
  obtain ⟨A1, len1, cap1, S1, rfl, le1, hk1⟩ := open_ints9 Try.underlying64 Try.underlying3 (by kernel_rfl) (of_decide_eq_true (by kernel_rfl)) (hval 1 64 v1 rfl rfl) h1 (fun m hm => by have := List.all_eq_true.1 hsz m (DataW.weights_mem_each (j := 1) (t := 64) rfl rfl m hm); simpa using this)
  refine (odraws_any A0 ls0 cap0 A1 len1 cap1 S1 W (by unfold reachBytes at le0; omega) lc0 lb0 hk0 (by unfold reachBytes at le1; omega) hk1).mono fun e W' ⟨he, hb⟩ => ⟨_, he, ?_⟩
  exact law_post 4 Try.underlying4 (by kernel_rfl) rfl Try.laidOut (by kernel_rfl) hW' ⟨rfl, rfl, rfl⟩ hb

theorem odraws_holds : Rows.RegsDrawsSaid :=
  OpenClaim.holds_of_wide 6 Try.f6 rfl rfl rfl rfl rfl rfl rfl ⟨rfl, rfl, rfl, rfl, rfl⟩ rfl rfl rfl rfl rfl (by kernel_rfl) Try.func6 (by kernel_rfl)
    (of_decide_eq_true (by kernel_rfl)) (by unfold Func.isWrapper; first | (rw [if_pos (by decide +kernel)]; kernel_rfl) | (rw [if_neg (by decide +kernel)]; exact ⟨rfl, rfl⟩))
    (fun os started H enc _ => odraws_lifted os started H enc)
end Go.Proofs.Ytpepbffhhfgdpaa
