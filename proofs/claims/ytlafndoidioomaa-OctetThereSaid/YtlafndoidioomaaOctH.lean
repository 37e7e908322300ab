/-
  octet: digits as bytes: Unhex, and the document's Digit and Unhex.
-/
import Derived.Test.YtlafndoidioomaaProg
import Derived.Test.YtlafndoidioomaaBase
import Derived.Test.YtlafndoidioomaaOctC
import Derived.Test.YtlafndoidioomaaOctF
import Derived.Lib.Bytealg
namespace Go.Proofs.Ytlafndoidioomaa
open Go Go.RowKit
set_option linter.unusedVariables false

/-- Where a byte stands among the digits; -1: nowhere. -/
def dig (c : UInt8) : Int := Lib.indexByte dgs c
set_option maxRecDepth 100000 in
theorem dig_all : ∀ k : Fin 256, dig (UInt8.ofNat k.val) = -1 ∨ (0 ≤ dig (UInt8.ofNat k.val) ∧ dig (UInt8.ofNat k.val) < 16) := by decide
theorem dig_cases (c : UInt8) : dig c = -1 ∨ (0 ≤ dig c ∧ dig c < 16) := by
  have := dig_all ⟨c.toNat, c.toNat_lt⟩
  simpa using this

theorem index_any (c : UInt8) (w : World) :
    Calls Try.prog 31 #[.string ⟨#[48, 49, 50, 51, 52, 53, 54, 55, 56, 57, 97, 98, 99, 100, 101, 102]⟩, .int .u8 (c.toNat : Int)] w fun e w' => e = .returned (.int .i64 (dig c)) ∧ w' = w := by
  have hr := fun w => Lib.run_indexByteString (P := Try.prog) ⟨#[48, 49, 50, 51, 52, 53, 54, 55, 56, 57, 97, 98, 99, 100, 101, 102]⟩ (c.toNat : Int) w
  have e : Lib.indexByte (⟨#[48, 49, 50, 51, 52, 53, 54, 55, 56, 57, 97, 98, 99, 100, 101, 102]⟩ : ByteArray).data.toList ((c.toNat : Int).toNat).toUInt8 = dig c := by
    rw [Int.toNat_natCast]
    show Lib.indexByte dgs (UInt8.ofNat c.toNat) = dig c
    rw [UInt8.ofNat_toNat]
    rfl
  rw [e] at hr
  clear e
  have hcf : ∀ w, (callFunc 34 #[.string ⟨#[48, 49, 50, 51, 52, 53, 54, 55, 56, 57, 97, 98, 99, 100, 101, 102]⟩, .int .u8 (c.toNat : Int)]).run Try.prog w = .ok (.value (.int .i64 (dig c))) w := fun w => by
    rw [run_callFunc_extern Try.func34 (by kernel_rfl) (by kernel_rfl) (by kernel_rfl) (e := Extern.BytealgIndexByte.indexByte) (by kernel_rfl), hr]
    rfl
  clear hr
  generalize dig c = d at *
  go_enter Try.func31, Try.ntmps31
  go_wp2_with go_in
  go_ret
  exact ⟨rfl, rfl⟩

/-- The number of a digit. -/
def dv (c : UInt8) : UInt8 := UInt8.ofNat (dig c).toNat
theorem dig_dv (c : UInt8) (h : dig c ≠ -1) : dig c = ((dv c).toNat : Int) ∧ (dv c).toNat < 16 := by
  rcases dig_cases c with h' | ⟨h0, h1⟩
  · exact absurd h' h
  · have e : (dv c).toNat = (dig c).toNat := by
      rw [dv, UInt8.toNat_ofNat']
      omega
    omega

theorem dg_nat (k : Nat) (hk : k < 16) (h : k < (⟨#[48, 49, 50, 51, 52, 53, 54, 55, 56, 57, 97, 98, 99, 100, 101, 102]⟩ : ByteArray).size) :
    (⟨#[48, 49, 50, 51, 52, 53, 54, 55, 56, 57, 97, 98, 99, 100, 101, 102]⟩ : ByteArray)[k]'h = dg k := dg_at k hk (k : Int) rfl h

set_option maxHeartbeats 1000000 in
theorem rdigit_any (c : UInt8) (w : World) :
    Calls Try.prog 32 #[.int .u8 (c.toNat : Int)] w fun e w' => e = .returned (.int .i64 (dig c)) ∧ w' = w := by
  have key : ∀ k : Nat, k < 16 → (∀ j, j < k → dg j ≠ c) → dg k = c → dig c = k := by
    intro k hk hj he
    have e : ∀ (l : List UInt8) (k : Nat), k < l.length → (∀ j, j < k → l.getD j 0 ≠ c) → l.getD k 0 = c → Lib.indexByte l c = k := by
      intro l
      induction l with
      | nil => intro k hk; simp at hk
      | cons b l ih =>
        intro k hk hj he
        unfold Lib.indexByte
        cases k with
        | zero => simp at he; simp [he]
        | succ k =>
          have hb : (b == c) = false := by
            have := hj 0 (by omega)
            rw [beq_eq_false_iff_ne]; simpa using this
          have := ih k (by simpa using hk) (fun j h => by have := hj (j + 1) (by omega); simpa using this) (by simpa using he)
          rw [hb, this]
          simp <;> omega
    exact e dgs k (by simpa [dgs] using hk) hj he
  have none_ : (∀ j, j < 16 → dg j ≠ c) → dig c = -1 := by
    intro hj
    have e : ∀ (l : List UInt8), (∀ j, j < l.length → l.getD j 0 ≠ c) → Lib.indexByte l c = -1 := by
      intro l
      induction l with
      | nil => intro _; rfl
      | cons b l ih =>
        intro hj
        unfold Lib.indexByte
        have hb : (b == c) = false := by
          have := hj 0 (by simp)
          rw [beq_eq_false_iff_ne]; simpa using this
        have := ih (fun j h => by have := hj (j + 1) (by simpa using h); simpa using this)
        rw [hb, this]
        simp
    exact e dgs (fun j h => hj j (by simpa [dgs] using h))
  have KEY := Lib.hid key; clear key
  have NONE := Lib.hid none_; clear none_
  go_enter Try.func32, Try.ntmps32
  go_wp2
  go_loop [3] (fun i => ∃ k : Nat, k ≤ 16 ∧ i = .int .i64 k ∧ ∀ j, j < k → dg j ≠ c) (fun i => 16 - (intOf i).toNat)
  case atStart => exact ⟨0, Nat.zero_le _, rfl, fun j h => by omega⟩
  case round =>
    obtain ⟨k, hk, rfl, hj⟩ := hrel
    have HJ := Lib.hid hj; clear hj
    by_cases hlt : k < 16
    · have i1 : (0 : Int) ≤ (k : Int) := by omega
      have i2 : (k : Int) < 16 := by omega
      by_cases he : dg k = c
      · have hb : ∀ h : k < (⟨#[48, 49, 50, 51, 52, 53, 54, 55, 56, 57, 97, 98, 99, 100, 101, 102]⟩ : ByteArray).size, ((((⟨#[48, 49, 50, 51, 52, 53, 54, 55, 56, 57, 97, 98, 99, 100, 101, 102]⟩ : ByteArray)[k]'h).toNat : Int) == (c.toNat : Int)) = true := fun h => by
          rw [byte_beq, dg_nat k hlt h, he, beq_self_eq_true]
        have HE := Lib.hid he; clear he
        go_wp2
        go_ret
        exact ⟨ret_int (KEY.out k hlt HJ.out HE.out).symm, rfl⟩
      · have hb : ∀ h : k < (⟨#[48, 49, 50, 51, 52, 53, 54, 55, 56, 57, 97, 98, 99, 100, 101, 102]⟩ : ByteArray).size, ((((⟨#[48, 49, 50, 51, 52, 53, 54, 55, 56, 57, 97, 98, 99, 100, 101, 102]⟩ : ByteArray)[k]'h).toNat : Int) == (c.toNat : Int)) = false := fun h => by
          rw [byte_beq, dg_nat k hlt h, beq_eq_false_iff_ne]; exact he
        have HE := Lib.hid he; clear he
        go_wp2
        go_round
        case rel =>
          refine ⟨k + 1, by omega, by go_num, fun j hj => ?_⟩
          rcases Nat.lt_or_ge j k with h | h
          · exact HJ.out j h
          · obtain rfl : j = k := by omega
            exact HE.out
        case measure => simp [intOf]; omega
    · go_wp2
      go_ret
      exact ⟨ret_int (NONE.out fun j h => HJ.out j (by omega)).symm, rfl⟩

/-- Sixteen times the number of a digit. -/
def hiB (c : UInt8) : UInt8 := UInt8.ofNat ((dv c).toNat * 16)
theorem hi_val (c : UInt8) (h : (dv c).toNat < 16) : ((dv c).toNat : Int) * 16 = ((hiB c).toNat : Int) := by
  rw [hiB, UInt8.toNat_ofNat']; omega
theorem hi_or (c d : UInt8) (h : (dv c).toNat < 16) (h' : (dv d).toNat < 16) : ((hiB c ||| dv d).toNat : Int) = 16 * ((dv c).toNat : Int) + ((dv d).toNat : Int) := by
  have h1 := hi_val c h
  rw [UInt8.toNat_or]
  have h2 := Nat.shiftLeft_add_eq_or_of_lt (i := 4) (b := (dv d).toNat) (by simpa using h') (dv c).toNat
  rw [Nat.shiftLeft_eq] at h2
  have h3 : (hiB c).toNat = (dv c).toNat * 2 ^ 4 := by omega
  rw [h3, ← h2]
  omega

/-- The bytes of the digits, of an odd last one the higher half. -/
def ubp : List UInt8 → List UInt8
  | [] => []
  | [c] => [hiB c]
  | c :: d :: r => (hiB c ||| dv d) :: ubp r
theorem ubp_len : ∀ s : List UInt8, (ubp s).length = (s.length + 1) / 2
  | [] => rfl
  | [c] => by simp [ubp]
  | c :: d :: r => by have := ubp_len r; simp only [ubp, List.length_cons]; omega
theorem ubp_even (c : UInt8) : ∀ s : List UInt8, s.length % 2 = 0 → ubp (s ++ [c]) = ubp s ++ [hiB c]
  | [], _ => rfl
  | [x], h => by simp at h
  | x :: y :: r, h => by
    have := ubp_even c r (by simp at h; omega)
    simp only [List.cons_append, ubp, this]
theorem ubp_odd (c : UInt8) : ∀ (s : List UInt8) (h : s.length % 2 = 1), ubp (s ++ [c]) = (ubp s).set (s.length / 2) ((ubp s).getD (s.length / 2) 0 ||| dv c)
  | [], h => by simp at h
  | [x], _ => by simp [ubp]
  | x :: y :: r, h => by
    have := ubp_odd c r (by simp at h; omega)
    have e : (x :: y :: r).length / 2 = r.length / 2 + 1 := by simp only [List.length_cons]; omega
    rw [e]
    simp only [List.cons_append, ubp, this, List.set_cons_succ, List.getD_cons_succ]
theorem ubp_two (c d : UInt8) : ∀ s : List UInt8, s.length % 2 = 0 → ubp (s ++ [c, d]) = ubp s ++ [hiB c ||| dv d]
  | [], _ => rfl
  | [x], h => by simp at h
  | x :: y :: r, h => by
    have := ubp_two c d r (by simp at h; omega)
    simp only [List.cons_append, ubp, this]

/-- What Unhex answers: the bytes, the error, the place. -/
def unhexOut (s : List UInt8) : List UInt8 × Int × Int :=
  match s.findIdx? (fun c => dig c == -1) with
  | some i => ([], 5, i)
  | none => if s.length % 2 = 0 then (ubp s, 0, 0) else ([], 4, s.length)
theorem unhexOut_form (s : List UInt8) (k : Nat) (hk : k < s.length) (h : ∀ j (hj : j < k), dig (s[j]'(by omega)) ≠ -1) (he : dig s[k] = -1) : unhexOut s = ([], 5, (k : Int)) := by
  have : s.findIdx? (fun c => dig c == -1) = some k := by
    rw [List.findIdx?_eq_some_iff_getElem]
    exact ⟨hk, by simpa using he, fun j hj => by simpa using h j hj⟩
  simp [unhexOut, this]
theorem unhexOut_all (s : List UInt8) (h : ∀ j (hj : j < s.length), dig s[j] ≠ -1) : unhexOut s = if s.length % 2 = 0 then (ubp s, 0, 0) else ([], 4, (s.length : Int)) := by
  have : s.findIdx? (fun c => dig c == -1) = none := by
    rw [List.findIdx?_eq_none_iff]
    intro x hx
    obtain ⟨j, hj, rfl⟩ := List.mem_iff_getElem.mp hx
    simpa using h j hj
  simp [unhexOut, this]

/-- An answer of Unhex: bytes that can be read, an error, a place; all older memory as it was. -/
def Gives3 (o : List UInt8 × Int × Int) (w : World) (e : Ending) (w' : World) : Prop :=
  ∃ A n cap, n = o.1.length ∧ e = .returned (.tuple #[.slice A n cap, .int .i64 o.2.1, .int .i64 o.2.2]) ∧ Rd w' w'.heap.size A (vb o.1) ∧ Below w.heap.size w w'
theorem Gives3.own {o : List UInt8 × Int × Int} {n base e : Nat} {v : Value} {w w' : World} (hn : o.1.length = n) (h : w'.ownsRow base e 1 v n (vb o.1)) (hb : Below w.heap.size w w') : Gives3 o w (.returned (.tuple #[v, .int .i64 o.2.1, .int .i64 o.2.2])) w' := by
  obtain ⟨A, c, rfl, _, hrd⟩ := Rd.of_own h
  exact ⟨A, n, c, hn.symm, rfl, hrd, hb⟩
theorem Gives3.none_ {a b : Int} {w w' : World} (h : Below w.heap.size w w') : Gives3 ([], a, b) w (.returned (.tuple #[.slice none 0 0, .int .i64 a, .int .i64 b])) w' :=
  ⟨none, 0, 0, rfl, rfl, Rd.nil _ _ _, h⟩

theorem unhex_step (s : List UInt8) (k : Nat) (c : UInt8) {ha : k < s.length} (h : ∀ j (hj : j < k) (hj' : j < s.length), dig s[j] ≠ -1) (hc : s[k]'ha = c) (he : ¬ dig c = -1) : ∀ j (hj : j < k + 1) (hj' : j < s.length), dig s[j] ≠ -1 := by
  intro j hj hj'
  rcases Nat.lt_or_ge j k with h1 | h1
  · exact h j h1 hj'
  · obtain rfl : j = k := by omega
    rw [hc]; exact he

set_option maxHeartbeats 2000000 in
theorem unhex_any (s : List UInt8) (n : Nat) (hn : s.length = n) (w : World) (hl : n ≤ 140737488351232) :
    Calls Try.prog 25 #[.string ⟨s.toArray⟩] w (Gives3 (unhexOut s) w) := by
  obtain ⟨i0, hi, hz0, hz1, hz2⟩ := info_parts info_u8
  have hsz : (⟨s.toArray⟩ : ByteArray).size = n := by rw [str_size, hn]
  have HN := Lib.hid hn; clear hn
  go_enter Try.func25, Try.ntmps25
  go_wp2
  go_loopw [2, 9] (fun v i wr => ∃ k : Nat, k ≤ n ∧ i = .int .i64 k ∧ wr.ownsRow w.heap.size 5 1 v ((k + 1) / 2) (vb (ubp (s.take k))) ∧ Below w.heap.size w wr ∧ Hid (∀ j (hj : j < k) (hj' : j < s.length), dig s[j] ≠ -1)) (fun _ i _ => n - (intOf i).toNat)
  case atStart => exact ⟨0, Nat.zero_le _, rfl, World.ownsRow_nil _ _ _ _, Below.refl _ _, Lib.hid (fun j h => by omega)⟩
  case round =>
    obtain ⟨k, hk, rfl, hown, hb, HJ⟩ := hrel
    by_cases hlt : k < n
    · have ha : k < s.length := by have := HN.out; omega
      have i1 : (0 : Int) ≤ (k : Int) := by omega
      have i2 : (k : Int) < (n : Int) := by omega
      obtain ⟨c, hc⟩ : ∃ c, s[k] = c := ⟨_, rfl⟩
      have hcc : ∀ h : k < (⟨s.toArray⟩ : ByteArray).size, (⟨s.toArray⟩ : ByteArray)[k]'h = c := fun h => hc
      have HC := Lib.hid hc; clear hc
      by_cases he : dig c = -1
      · go_wp2_with (go_at_call 31; refine (index_any c _).mono ?_; rintro e w' ⟨rfl, rfl⟩)
        go_ret3
        rw [unhexOut_form s k ha (fun j hj => HJ.out j hj _) (by rw [HC.out]; exact he)]
        exact Gives3.none_ hb
      · have HJ' := Lib.hid (unhex_step s k c HJ.out HC.out he)
        obtain ⟨hd, hd16⟩ := dig_dv c he
        clear he HJ
        obtain ⟨x, hx⟩ : ∃ x, dv c = x := ⟨_, rfl⟩
        rw [hx] at hd hd16
        have CI := index_any c
        rw [hd] at CI
        have HCI := Lib.hid CI
        have HX := Lib.hid hx
        clear hd CI hx
        have h16 : ((x.toNat : Int)) < 16 := by omega
        have hv := hi_val c (by rw [HX.out]; exact hd16)
        rw [HX.out] at hv
        have HV := Lib.hid hv; clear hv
        have htl : (s.take k).length = k := by simp; omega
        have HTL := Lib.hid htl; clear htl
        by_cases hev : k % 2 = 0
        · have hev' : (((k : Int)) % 2 == 0) = true := by rw [beq_iff_eq]; omega
          have HEV := Lib.hid hev; clear hev
          go_wp2_with (first
            | (go_at_call 31; refine (HCI.out _).mono ?_; rintro e w' ⟨rfl, rfl⟩)
            | (at_builtin; go_loud (refine wpList_append_lies _ rfl (.tmp 22) (.tmp 26) _ rfl w.heap.size 5 i0 _ 1 1 Try.underlying23 hi hz0 hz1 hz2 rfl (by omega) u2 ((k + 1) / 2) _ rfl (hown.alloc _) ⟨_, 0, none⟩ 1 1 [.int .u8 ((x.toNat : Int) * 16)] rfl rfl (World.news_of_block (cs := #[.int .u8 ((x.toNat : Int) * 16)]) (t := 5) (fr := (0, 0)) (heap_alloc_new _ _)) (by simp [Value.oneCell']) (by omega) (by unfold maxLen; omega) (by omega) (by have := hb.size; simp; omega) _ rfl ?_); intro gg cap w1 hown1 hgrow hat hlt1))
          have hb1 : Below w.heap.size w w1 := ((hb.alloc hb.size _).grown hgrow (by have := hb.size; simp; omega) (fun k hk => (hown.lt k hk).1))
          have hown2 : w1.ownsRow w.heap.size 5 1 (.slice (some ⟨gg, 0, none⟩) ((k + 1) / 2 + 1) cap) ((k + 1 + 1) / 2) (vb (ubp (s.take (k + 1)))) := by
            rw [take_snoc _ _ ha, HC.out, ubp_even c _ (by rw [HTL.out]; exact HEV.out), show (k + 1 + 1) / 2 = (k + 1) / 2 + 1 from by have := HEV.out; omega]
            rw [HV.out] at hown1
            simpa [vb] using hown1
          go_roundw
          case rel => exact ⟨k + 1, by omega, by go_num, hown2, hb1, HJ'⟩
          case measure => simp [intOf]; omega
        · have hev' : (((k : Int)) % 2 == 0) = false := by rw [beq_eq_false_iff_ne]; omega
          have hlt2 : k / 2 < (k + 1) / 2 := by omega
          have HEV := Lib.hid hev; clear hev
          obtain ⟨g, cap, hv, hg, hgs⟩ := hown.form (by omega)
          subst hv
          have hidx : k / 2 < (ubp (s.take k)).length := by have := HTL.out; rw [ubp_len, this]; omega
          obtain ⟨y, hy⟩ : ∃ y, (ubp (s.take k))[k / 2] = y := ⟨_, rfl⟩
          have hce : _ = some (Value.int .u8 (y.toNat : Int)) := (hown.cellAt (k / 2) (by omega)).trans (by rw [List.getElem?_eq_getElem (by simpa using hidx)]; simp [hy])
          have hfz := hown.frozenAt (k / 2)
          have hst := hown.stored (k / 2) (.int .u8 ((y ||| x).toNat : Int))
          have hset : (vb (ubp (s.take k))).set (k / 2) (.int .u8 ((y ||| x).toNat : Int)) = vb (ubp (s.take (k + 1))) := by
            rw [take_snoc _ _ ha, HC.out, ubp_odd c _ (by rw [HTL.out]; have := HEV.out; omega), HTL.out, HX.out, List.getD_eq_getElem?_getD, List.getElem?_eq_getElem hidx, hy]
            simp [vb, List.map_set]
          rw [hset] at hst
          have HST := Lib.hid hst
          have hor := bits_or y x
          have HOR := Lib.hid hor
          have i3 : (0 : Int) ≤ (k : Int) / 2 := by omega
          have i4 : (k : Int) / 2 < (((k + 1) / 2 : Nat) : Int) := by omega
          clear hst hset hidx hy hor
          go_wp2_with (go_at_call 31; refine (HCI.out _).mono ?_; rintro e w' ⟨rfl, rfl⟩)
          go_roundw
          case rel =>
            rw [HOR.out]
            exact ⟨k + 1, by omega, by go_num, by rw [show (k + 1 + 1) / 2 = (k + 1) / 2 from by have := HEV.out; omega]; exact HST.out.1, hb.grown HST.out.2 hb.size (by simp [hg]), HJ'⟩
          case measure => simp [intOf]; omega
    · obtain rfl : k = n := by omega
      have htk : s.take k = s := List.take_of_length_le (by have := HN.out; omega)
      rw [htk] at hown
      have hall := unhexOut_all s (fun j hj => HJ.out j (by have := HN.out; omega) hj)
      rw [HN.out] at hall
      clear htk
      by_cases hev : k % 2 = 0
      · have hev' : (((k : Int)) % 2 != 0) = false := by rw [bne_eq_false_iff_eq]; omega
        rw [if_pos hev] at hall
        have HA := Lib.hid hall
        clear hall
        have e : (k + 1) / 2 = k / 2 := by omega
        rw [e] at hown
        have hul : (ubp s).length = k / 2 := by rw [ubp_len, HN.out]; omega
        have HUL := Lib.hid hul
        clear e hev hul
        go_wp2
        go_ret3
        rw [HA.out]
        exact Gives3.own (o := (ubp s, 0, 0)) HUL.out hown hb
      · have hev' : (((k : Int)) % 2 != 0) = true := by rw [bne_iff_ne]; omega
        rw [if_neg hev] at hall
        have HA := Lib.hid hall
        clear hall hev
        go_wp2
        go_ret3
        rw [HA.out]
        exact Gives3.none_ hb

set_option maxHeartbeats 2000000 in
theorem runhex_any (s : List UInt8) (n : Nat) (hn : s.length = n) (w : World) (hl : n ≤ 140737488351232) :
    Calls Try.prog 26 #[.string ⟨s.toArray⟩] w (Gives3 (unhexOut s) w) := by
  obtain ⟨i0, hi, hz0, hz1, hz2⟩ := info_parts info_u8
  have hsz : (⟨s.toArray⟩ : ByteArray).size = n := by rw [str_size, hn]
  have HN := Lib.hid hn; clear hn
  go_enter Try.func26, Try.ntmps26
  go_wp2
  go_loopw [5] (fun i wr => ∃ k : Nat, k ≤ n ∧ i = .int .i64 k ∧ wr = w ∧ Hid (∀ j (hj : j < k) (hj' : j < s.length), dig s[j] ≠ -1)) (fun i _ => n - (intOf i).toNat)
  case atStart => exact ⟨0, Nat.zero_le _, rfl, rfl, Lib.hid (fun j h => by omega)⟩
  case round =>
    obtain ⟨k, hk, rfl, rfl, HJ⟩ := hrel
    by_cases hlt : k < n
    · have ha : k < s.length := by have := HN.out; omega
      have i1 : (0 : Int) ≤ (k : Int) := by omega
      have i2 : (k : Int) < (n : Int) := by omega
      obtain ⟨c, hc⟩ : ∃ c, s[k] = c := ⟨_, rfl⟩
      have hcc : ∀ h : k < (⟨s.toArray⟩ : ByteArray).size, (⟨s.toArray⟩ : ByteArray)[k]'h = c := fun h => hc
      have HC := Lib.hid hc; clear hc
      by_cases he : dig c = -1
      · go_wp2_with (go_at_call 32; refine (rdigit_any c _).mono ?_; rintro e w' ⟨rfl, rfl⟩)
        go_ret3
        rw [unhexOut_form s k ha (fun j hj => HJ.out j hj _) (by rw [HC.out]; exact he)]
        exact Gives3.none_ (Below.refl _ _)
      · have HJ' := Lib.hid (unhex_step s k c HJ.out HC.out he)
        obtain ⟨hd, hd16⟩ := dig_dv c he
        clear he HJ
        have CI := rdigit_any c
        rw [hd] at CI
        have HCI := Lib.hid CI
        clear hd CI
        have h16 : (((dv c).toNat : Int)) < 16 := by omega
        go_wp2_with (go_at_call 32; refine (HCI.out _).mono ?_; rintro e w' ⟨rfl, rfl⟩)
        go_roundw
        case rel => exact ⟨k + 1, by omega, by go_num, by first | rfl | trivial, HJ'⟩
        case measure => simp [intOf]; omega
    · obtain rfl : k = n := by omega
      have hall := unhexOut_all s (fun j hj => HJ.out j (by have := HN.out; omega) hj)
      rw [HN.out] at hall
      by_cases hev : k % 2 = 0
      · have hev' : (((k : Int)) % 2 == 1) = false := by rw [beq_eq_false_iff_ne]; omega
        rw [if_pos hev] at hall
        have HA := Lib.hid hall
        obtain ⟨h, hkh⟩ : ∃ h, k = 2 * h := ⟨k / 2, by omega⟩
        have hk1 : k ≤ 2 * h := by omega
        have hk2 : 2 * h ≤ k := by omega
        clear hall hev hkh
        have HJ' : Hid (∀ j (hj' : j < s.length), dig s[j] ≠ -1) := Lib.hid (fun j hj' => HJ.out j (by have := HN.out; omega) hj')
        clear HJ
        obtain ⟨wo, rfl⟩ : ∃ wo : World, wo = wr := ⟨_, rfl⟩
        go_wp2
        go_loopw [6, 7] (fun v i w2 => ∃ m : Nat, m ≤ h ∧ i = .int .i64 (2 * (m : Int)) ∧ w2.ownsRow wo.heap.size 5 1 v m (vb (ubp (s.take (2 * m)))) ∧ Below wo.heap.size wo w2) (fun _ i _ => k - (intOf i).toNat)
        case atStart => exact ⟨0, Nat.zero_le _, rfl, World.ownsRow_nil _ _ _ _, Below.refl _ _⟩
        case round =>
          obtain ⟨m, hm, rfl, hown, hb⟩ := hrel
          by_cases hlt : m < h
          · have ha : 2 * m < s.length := by have := HN.out; omega
            have ha1 : 2 * m + 1 < s.length := by have := HN.out; omega
            obtain ⟨c, hc⟩ : ∃ c, s[2 * m] = c := ⟨_, rfl⟩
            obtain ⟨d, hd⟩ : ∃ d, s[2 * m + 1] = d := ⟨_, rfl⟩
            have hcc : ∀ h : 2 * m < (⟨s.toArray⟩ : ByteArray).size, (⟨s.toArray⟩ : ByteArray)[2 * m]'h = c := fun h => hc
            have hdd : ∀ h : 2 * m + 1 < (⟨s.toArray⟩ : ByteArray).size, (⟨s.toArray⟩ : ByteArray)[2 * m + 1]'h = d := fun h => hd
            obtain ⟨e1, c16⟩ := dig_dv c (by rw [← hc]; exact HJ'.out _ ha)
            obtain ⟨e2, d16⟩ := dig_dv d (by rw [← hd]; exact HJ'.out _ ha1)
            have HO := Lib.hid (hi_or c d c16 d16)
            have HC := Lib.hid hc; clear hc
            have HD := Lib.hid hd; clear hd
            obtain ⟨x, hx⟩ : ∃ x, (dv c).toNat = x := ⟨_, rfl⟩
            obtain ⟨y, hy⟩ : ∃ y, (dv d).toNat = y := ⟨_, rfl⟩
            rw [hx] at e1 c16 HO
            rw [hy] at e2 d16 HO
            clear hx hy
            have i1 : (0 : Int) ≤ 2 * (m : Int) := by omega
            have i2 : 2 * (m : Int) < (k : Int) := by omega
            have i3 : 2 * (m : Int) + 1 < (k : Int) := by omega
            have i4 : (0 : Int) ≤ 2 * (m : Int) + 1 := by omega
            have i5 : (2 * (m : Int) + 1).toNat = 2 * m + 1 := by omega
            have i6 : (2 * (m : Int)).toNat = 2 * m := by omega
            have q1 : IntKind.i64.wrap (2 * (m : Int) + 1) = 2 * (m : Int) + 1 := IntWalk.i64_in _ (by omega)
            have q2 : IntKind.i64.wrap (16 * (x : Int)) = 16 * (x : Int) := IntWalk.i64_in _ (by omega)
            have q3 : IntKind.i64.wrap (16 * (x : Int) + (y : Int)) = 16 * (x : Int) + (y : Int) := IntWalk.i64_in _ (by omega)
            have q4 : IntKind.u8.wrap (16 * (x : Int) + (y : Int)) = 16 * (x : Int) + (y : Int) := IntWalk.u8_in _ (by omega)
            have sz := hb.size
            go_wp2
            go_region_held3 (fun _ => True) (trivial)
              (first
                | (go_at_call 32; refine (rdigit_any _ _).mono ?_; rintro e w' ⟨rfl, rfl⟩)
                | (refine step_append_lies _ (by rfl) _ _ _ (by rfl) wo.heap.size 5 i0 _ 1 1 Try.underlying23 hi hz0 hz1 hz2 rfl (by omega) u6 m _ (by rfl) (by exact hown.alloc _) ⟨_, 0, none⟩ 1 1 _ (by rfl) (by rfl) (World.news_of_block (t := 5) (fr := (0, 0)) (heap_alloc_new _ _)) (by simp [Value.oneCell']) (by omega) (by unfold maxLen; omega) (by omega) (by simp; omega) _ (by rfl) ?_; intro gg cap w1 hown1 hgrow hat hlt1))
            all_goals
              have hown2 : w1.ownsRow wo.heap.size 5 1 (.slice (some ⟨gg, 0, none⟩) (m + 1) cap) (m + 1) (vb (ubp (s.take (2 * (m + 1))))) := by
                have e3 : s.take (2 * (m + 1)) = s.take (2 * m) ++ [c, d] := by
                  rw [show 2 * (m + 1) = 2 * m + 1 + 1 from by omega, take_snoc _ _ ha1, take_snoc _ _ ha, HC.out, HD.out, List.append_assoc]
                  rfl
                rw [e3, ubp_two c d _ (by simp; omega)]
                rw [← HO.out] at hown1
                simpa [vb] using hown1
              have hb1 : Below wo.heap.size wo w1 := (((hb.alloc sz _).drew).grown hgrow (by simp; omega) (fun k hk => (hown.lt k hk).1))
              clear hown1 hgrow hat hlt1 hcc hdd e1 e2 q1 q2 q3 q4 i5 i6
              go_wp2
              go_roundw
              case rel => exact ⟨m + 1, by omega, val_int (by omega), hown2, hb1⟩
              case measure => simp [intOf]; omega
          · obtain rfl : m = h := by omega
            have htk : s.take (2 * m) = s := List.take_of_length_le (by have := HN.out; omega)
            rw [htk] at hown
            clear htk
            have i7 : (k : Int) ≤ 2 * (m : Int) := by omega
            have hul : (ubp s).length = m := by rw [ubp_len, HN.out]; omega
            have HUL := Lib.hid hul; clear hul
            go_wp2
            go_ret3
            rw [HA.out]
            exact Gives3.own (o := (ubp s, 0, 0)) HUL.out hown hb
      · have hev' : (((k : Int)) % 2 == 1) = true := by rw [beq_iff_eq]; omega
        rw [if_neg hev] at hall
        have HA := Lib.hid hall
        clear hall hev
        go_wp2
        go_ret3
        rw [HA.out]
        exact Gives3.none_ (Below.refl _ _)
end Go.Proofs.Ytlafndoidioomaa
