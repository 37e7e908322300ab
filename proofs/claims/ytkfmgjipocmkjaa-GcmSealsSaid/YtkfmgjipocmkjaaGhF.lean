/-
  The field of 2^128, on numbers: the coefficient of x^i is the bit 127 - i. It is a field: its powers of two are reckoned, and what is its own square is 0 or 1. Plain mathematics, no program.
-/
import Derived.Test.YtkfmgjipocmkjaaFoldA
namespace Go.Proofs.Ytkfmgjipocmkjaa

def hR : Nat := 0xE1 <<< 120
/-- x times an element. -/
def hX (b : Nat) : Nat := if b.testBit 0 then b >>> 1 ^^^ hR else b >>> 1
def hbit (a i : Nat) : Bool := a.testBit (127 - i)
/-- The product. -/
def hm (a b : Nat) : Nat := gL hX hbit 128 a b
def he : Nat := 2 ^ 127

theorem hX_add (a b : Nat) : hX (a ^^^ b) = hX a ^^^ hX b := by
  unfold hX
  simp only [Nat.testBit_xor, Nat.shiftRight_xor_distrib]
  generalize a >>> 1 = p
  generalize b >>> 1 = q
  generalize hR = r
  cases a.testBit 0 <;> cases b.testBit 0 <;> simp
  · exact Nat.xor_assoc _ _ _
  · rw [Nat.xor_assoc, Nat.xor_comm q, ← Nat.xor_assoc]
  · rw [xor4]; simp
theorem hbit_add (a b i : Nat) : hbit (a ^^^ b) i = (hbit a i ^^ hbit b i) := Nat.testBit_xor ..
theorem hm_add_r (a b c : Nat) : hm a (b ^^^ c) = hm a b ^^^ hm a c := gL_add_r hX_add 128 a b c
theorem hm_add_l (a b c : Nat) : hm (a ^^^ b) c = hm a c ^^^ hm b c := gL_add_l hbit_add 128 a b c
theorem hm_nought_l (b : Nat) : hm 0 b = 0 := gL_nought_l hbit_add 128 b
theorem hm_nought_r (a : Nat) : hm a 0 = 0 := gL_nought_r hX_add 128 a

theorem hX_lt (b : Nat) (hb : b < 2 ^ 128) : hX b < 2 ^ 128 := by
  have h1 : b >>> 1 < 2 ^ 128 := Nat.lt_of_le_of_lt (Nat.shiftRight_le b 1) hb
  unfold hX
  split
  · exact Nat.xor_lt_two_pow h1 (by decide)
  · exact h1
theorem hit_lt (k b : Nat) (hb : b < 2 ^ 128) : it hX k b < 2 ^ 128 := by
  induction k with
  | zero => exact hb
  | succ k ih => exact hX_lt _ ih
theorem hgL_lt (k a b : Nat) (hb : b < 2 ^ 128) : gL hX hbit k a b < 2 ^ 128 := by
  induction k with
  | zero => exact Nat.two_pow_pos 128
  | succ k ih =>
    refine Nat.xor_lt_two_pow ih ?_
    split
    · exact hit_lt k b hb
    · exact Nat.two_pow_pos 128
theorem hm_lt (a b : Nat) (hb : b < 2 ^ 128) : hm a b < 2 ^ 128 := hgL_lt 128 a b hb

theorem hit_e (k : Nat) (hk : k ≤ 127) : it hX k he = 2 ^ (127 - k) := by
  induction k with
  | zero => rfl
  | succ k ih =>
    rw [it, ih (by omega)]
    unfold hX
    have h0 : (2 ^ (127 - k)).testBit 0 = false := by
      rw [Nat.testBit_two_pow]; simp; omega
    rw [h0, if_neg (by simp), Nat.shiftRight_eq_div_pow, Nat.pow_one, show 127 - k = (127 - (k + 1)) + 1 from by omega, Nat.pow_succ, Nat.mul_div_cancel _ (by omega)]
theorem hgL_e (a k : Nat) (hk : k ≤ 128) (j : Nat) : (gL hX hbit k a he).testBit j = (decide (j < 128 ∧ 128 - k ≤ j) && a.testBit j) := by
  induction k with
  | zero => simp [gL]; omega
  | succ k ih =>
    rw [gL, Nat.testBit_xor, ih (by omega), hit_e k (by omega)]
    unfold hbit
    by_cases hj : j = 127 - k
    · subst hj
      have h1 : ¬ (127 - k < 128 ∧ 128 - k ≤ 127 - k) := by omega
      have h2 : (127 - k < 128 ∧ 128 - (k + 1) ≤ 127 - k) := by omega
      simp only [decide_eq_false h1, decide_eq_true h2, Bool.false_and, Bool.true_and, Bool.false_xor]
      cases h : a.testBit (127 - k)
      · simp
      · simp
    · have h3 : (if a.testBit (127 - k) = true then 2 ^ (127 - k) else 0).testBit j = false := by
        split
        · rw [Nat.testBit_two_pow]; simp; omega
        · simp
      rw [h3, Bool.xor_false]
      congr 1
      rw [decide_eq_decide]
      omega
theorem hm_one (a : Nat) (ha : a < 2 ^ 128) : hm a he = a := by
  apply Nat.eq_of_testBit_eq
  intro j
  rw [hm, hgL_e a 128 (by omega)]
  by_cases hj : j < 128
  · simp [hj]
  · simp [hj]
    rw [Nat.testBit_lt_two_pow (Nat.lt_of_lt_of_le ha (Nat.pow_le_pow_right (by omega) (by omega)))]
theorem he_lt : he < 2 ^ 128 := by decide
theorem hm_comm (a b : Nat) (ha : a < 2 ^ 128) (hb : b < 2 ^ 128) : hm a b = hm b a := gL_comm hX_add 128 a b he (hm_one a ha) (hm_one b hb)
theorem hm_assoc (a b c : Nat) (hb : b < 2 ^ 128) (hc : c < 2 ^ 128) : hm (hm a b) c = hm a (hm b c) :=
  gL_assoc hX_add 128 a b c he (by
    intro x hx
    rcases hx with h | h | h <;> subst h
    · exact hm_one _ (hm_lt _ _ hb)
    · exact hm_one _ hc
    · exact hm_one _ hb)

/- Squares. -/
def hs (a : Nat) : Nat := hm a a
theorem hs_lt (a : Nat) (ha : a < 2 ^ 128) : hs a < 2 ^ 128 := hm_lt a a ha
theorem hs_mul (a b : Nat) (ha : a < 2 ^ 128) (hb : b < 2 ^ 128) : hs (hm a b) = hm (hs a) (hs b) := by
  unfold hs
  rw [hm_assoc a b _ hb (hm_lt _ _ hb), ← hm_assoc b a b ha hb, hm_comm b a hb ha, hm_assoc a b b hb hb, ← hm_assoc a a _ ha (hm_lt _ _ hb)]

/-- The sum of a list's numbers at the bits that a has, from i on. -/
def hlin : List Nat → Nat → Nat → Nat
  | [], _, _ => 0
  | t :: l, a, i => (if hbit a i then t else 0) ^^^ hlin l a (i + 1)
theorem hlin_add (l : List Nat) (a b i : Nat) : hlin l (a ^^^ b) i = hlin l a i ^^^ hlin l b i := by
  induction l generalizing i with
  | nil => simp [hlin]
  | cons t l ih =>
    simp only [hlin, ih, hbit_add]
    rw [xor4]
    congr 1
    cases hbit a i <;> cases hbit b i <;> simp
/-- What is added bit by bit is known by its values at single bits. -/
theorem hbasis {f g : Nat → Nat} (hf : ∀ a b, a < 2 ^ 128 → b < 2 ^ 128 → f (a ^^^ b) = f a ^^^ f b) (hg : ∀ a b, g (a ^^^ b) = g a ^^^ g b)
    (h : ∀ i, i < 128 → f (2 ^ i) = g (2 ^ i)) (a : Nat) (ha : a < 2 ^ 128) : f a = g a := by
  have key : ∀ k, k ≤ 128 → ∀ x, x < 2 ^ k → f x = g x := by
    intro k
    induction k with
    | zero =>
      intro _ x hx
      obtain rfl : x = 0 := by omega
      have h0 := hf 0 0 (Nat.two_pow_pos 128) (Nat.two_pow_pos 128)
      rw [add_nought hg]
      simpa using h0
    | succ k ih =>
      intro hk x hx
      by_cases hb : x < 2 ^ k
      · exact ih (by omega) x hb
      · have h2 : x - 2 ^ k < 2 ^ k := by have := Nat.pow_succ (n := 2) (m := k); omega
        have he : x = 2 ^ k ^^^ (x - 2 ^ k) := by
          have h3 := Nat.two_pow_add_eq_or_of_lt h2 1
          rw [Nat.mul_one] at h3
          have h4 : 2 ^ k ^^^ (x - 2 ^ k) = 2 ^ k ||| (x - 2 ^ k) := by
            apply Nat.eq_of_testBit_eq
            intro i
            rw [Nat.testBit_xor, Nat.testBit_or, Nat.testBit_two_pow]
            by_cases hi : k = i
            · subst hi
              rw [Nat.testBit_lt_two_pow h2]; simp
            · simp [hi]
          rw [h4, ← h3]
          omega
        have l1 : 2 ^ k < 2 ^ 128 := Nat.pow_lt_pow_right (by omega) (by omega)
        have l2 : x - 2 ^ k < 2 ^ 128 := Nat.lt_trans h2 l1
        rw [he, hf _ _ l1 l2, hg, h k (by omega), ih (by omega) _ h2]
  exact key 128 (Nat.le_refl _) a ha

theorem hs_add (a b : Nat) (ha : a < 2 ^ 128) (hb : b < 2 ^ 128) : hs (a ^^^ b) = hs a ^^^ hs b := by
  unfold hs
  rw [hm_add_l, hm_add_r, hm_add_r, hm_comm b a hb ha]
  rw [Nat.xor_assoc, ← Nat.xor_assoc (hm a b), Nat.xor_self, Nat.zero_xor]

/-- The elements x to the 0, 2, 4 .. -/
def hsq : Nat → Nat → List Nat
  | 0, _ => []
  | k + 1, b => b :: hsq k (hX (hX b))
theorem hsq_len (k b : Nat) : (hsq k b).length = k := by
  induction k generalizing b with
  | zero => rfl
  | succ k ih => simp [hsq, ih]
theorem hgL_single (k i b : Nat) (hi : i ≤ 127) (hk : k ≤ 128) : gL hX hbit k (2 ^ (127 - i)) b = if i < k then it hX i b else 0 := by
  induction k with
  | zero => simp [gL]
  | succ k ih =>
    rw [gL, ih (by omega)]
    unfold hbit
    rw [Nat.testBit_two_pow]
    by_cases h : i = k
    · subst h; simp
    · have : ¬ (127 - i = 127 - k) := by omega
      simp only [decide_eq_false this]
      by_cases h' : i < k
      · rw [if_pos h', if_pos (show i < k + 1 by omega)]; simp
      · rw [if_neg h', if_neg (show ¬ i < k + 1 by omega)]; simp
theorem it_it (X : Nat → Nat) (i j b : Nat) : it X i (it X j b) = it X (i + j) b := by
  induction i with
  | zero => simp [it]
  | succ i ih => rw [Nat.succ_add, it, it, ih]
theorem hs_single (i : Nat) (hi : i ≤ 127) : hs (2 ^ (127 - i)) = it hX (2 * i) he := by
  unfold hs hm
  rw [hgL_single 128 i _ hi (by omega), if_pos (by omega)]
  conv => lhs; rw [← hit_e i hi]
  rw [it_it, Nat.two_mul]
def hT : List Nat := hsq 128 he
theorem hs_lin (a : Nat) (ha : a < 2 ^ 128) : hs a = hlin hT a 0 := by
  refine hbasis (f := hs) (g := fun a => hlin hT a 0) hs_add (fun a b => hlin_add _ _ _ _) ?_ a ha
  intro i hi
  have h1 := hs_single (127 - i) (by omega)
  rw [show 127 - (127 - i) = i from by omega] at h1
  rw [h1]
  have key : ((List.range 128).all fun i => it hX (2 * (127 - i)) he == hlin hT (2 ^ i) 0) = true := by decide +kernel
  have := List.all_eq_true.mp key i (List.mem_range.mpr hi)
  simpa using this

/-- Squared, k times. -/
def hsn : Nat → Nat → Nat
  | 0, a => a
  | k + 1, a => hs (hsn k a)
theorem hsn_lt (k a : Nat) (ha : a < 2 ^ 128) : hsn k a < 2 ^ 128 := by
  induction k with
  | zero => exact ha
  | succ k ih => exact hs_lt _ ih
def hsl : Nat → Nat → Nat
  | 0, a => a
  | k + 1, a => hlin hT (hsl k a) 0
theorem hsn_lin (k a : Nat) (ha : a < 2 ^ 128) : hsn k a = hsl k a := by
  induction k with
  | zero => rfl
  | succ k ih => rw [hsn, hsl, hs_lin _ (hsn_lt k a ha), ih]
theorem hsl_add (k a b : Nat) : hsl k (a ^^^ b) = hsl k a ^^^ hsl k b := by
  induction k with
  | zero => rfl
  | succ k ih => rw [hsl, hsl, hsl, ih, hlin_add]
theorem hsn_mul (k a b : Nat) (ha : a < 2 ^ 128) (hb : b < 2 ^ 128) : hsn k (hm a b) = hm (hsn k a) (hsn k b) := by
  induction k with
  | zero => rfl
  | succ k ih => rw [hsn, hsn, hsn, ih, hs_mul _ _ (hsn_lt k a ha) (hsn_lt k b hb)]
theorem hX_mul (b : Nat) : hX b = hm (hX he) b := by
  have h1 : hX he = 2 ^ (127 - 1) := hit_e 1 (by omega)
  rw [h1, hm, hgL_single 128 1 b (by omega) (by omega), if_pos (by omega)]
  rfl
theorem hsn_x : hsl 128 (hX he) = hX he := by decide +kernel
theorem hsn_e : hsl 128 he = he := by decide +kernel
theorem hsn_fix (n : Nat) (nx : hsl n (hX he) = hX he) (ne : hsl n he = he) (a : Nat) (ha : a < 2 ^ 128) : hsl n a = a := by
  have hx : hX he < 2 ^ 128 := hX_lt _ he_lt
  -- on numbers below 2^128 it goes along with X
  have step : ∀ k b, b < 2 ^ 128 → hsl n (it hX k b) = it hX k (hsl n b) := by
    intro k b hb
    induction k with
    | zero => rfl
    | succ k ih =>
      rw [it, it, ← ih, hX_mul, ← hsn_lin n _ (hm_lt _ _ (hit_lt k b hb)), hsn_mul n _ _ hx (hit_lt k b hb), hsn_lin n _ hx, nx, hsn_lin n _ (hit_lt k b hb), ← hX_mul]
  have key : ∀ k, hsl n (gL hX hbit k a he) = gL hX hbit k a he := by
    intro k
    induction k with
    | zero => exact add_nought (hsl_add n)
    | succ k ih =>
      rw [gL, hsl_add, ih]
      congr 1
      split
      · rw [step k he he_lt, ne]
      · exact add_nought (hsl_add n)
  have h1 := key 128
  have h2 : gL hX hbit 128 a he = a := hm_one a ha
  rwa [h2] at h1

/-- Squared 128 times, each element is itself. -/
theorem hsn_all (a : Nat) (ha : a < 2 ^ 128) : hsl 128 a = a := hsn_fix 128 hsn_x hsn_e a ha

/- Powers. -/
def hp (a : Nat) : Nat → Nat
  | 0 => he
  | n + 1 => hm (hp a n) a
theorem hp_lt (a n : Nat) (ha : a < 2 ^ 128) : hp a n < 2 ^ 128 := by
  cases n with
  | zero => exact he_lt
  | succ n => exact hm_lt _ _ ha
theorem hp_add (a m n : Nat) (ha : a < 2 ^ 128) : hp a (m + n) = hm (hp a m) (hp a n) := by
  induction n with
  | zero => exact (hm_one _ (hp_lt a m ha)).symm
  | succ n ih =>
    show hm (hp a (m + n)) a = hm (hp a m) (hm (hp a n) a)
    rw [ih, hm_assoc _ _ _ (hp_lt a n ha) ha]
theorem hp_one (a : Nat) (ha : a < 2 ^ 128) : hp a 1 = a := by
  show hm he a = a
  rw [hm_comm _ _ he_lt ha, hm_one a ha]
theorem hp_two (a k : Nat) (ha : a < 2 ^ 128) : hp a (2 ^ k) = hsn k a := by
  induction k with
  | zero => exact hp_one a ha
  | succ k ih => rw [Nat.pow_succ, Nat.mul_two, hp_add _ _ _ ha, ih]; rfl

/-- What sends what an element and its square differ by to that element, less its part at 1. -/
def hC : List Nat := [22349210433241643211303706255459310228, 42781086895802961305837899807692839847, 127851678626037577171681551665634892711, 64161864867486123575827494532326627698, 85316382760920269238759725736663866279, 114910088095513088234682618273958557012, 42894216934927469609366581567841114482, 32564043359013102798989312672802603315, 95950206727199596221990182218906622887, 46326064391129892899928697286047832434, 109593176112373424743067390032837178708, 142223934881672753734463413618344281941, 45552672926497301355174195688401803634, 94354540392079830942767997527157175399, 33893271354798018671893119733082947891, 133492860460135582475628106552095754965, 96614820725092054158442085749046795175, 123504943270841248069084356367027567956, 45993757392183663931702745520977746290, 84108166368187411435240813705953482624, 109427022612900310258954414150302135636, 65334698174074460006561831602428846656, 142140858131936196492406925677076760405, 26944648382676130012539518143993095923, 45594211301365579976202439659035564402, 34751615226583747878589791662865156403, 94333771204645691632253875541840295015, 58594332839845026287895736368243621554, 33882886761080949016636058740424507699, 49689517202507746048320574050840187699, 133487668163277047647999576055766534869, 87518597506017800282691648887090017190, 96617416873521321572256350997211405223, 123492369287794167071922631989304127700, 123506241345055881775991488991109872980, 88394181544543220452557894239097387942, 45994406429290980785156311833018898802, 49921000057622566873658450198655872755, 84108490886741069861967596861974058880, 35809052500604244266195401481916326771, 109427184872177139472317805728312423764, 79569572989071969373811419141996187585, 65334779303712874613243527391433990720, 4726979706471076424241489524707209152, 142140898696755403795747773571579332437, 58275656592714443450777541729474286387, 26944628100266526360869094196741809907, 140308235276560358896028355552301283989, 45594221442570381802037651632661207410, 44935323831971706514111515550899780402, 34751610155981346965672185676052334899, 115575792119390803779456185938199600469, 94333773739946892088712678535246705767, 159324042485362573657552647614603385767, 58594334107495626516125137864946826930, 153238470225796900814681174335121648678, 33882886127255648902521357992072905011, 59792954277794325190837842541115644722, 49689517519420396105377924425015989043, 72978216601350599591347508359916847681, 133487668004820722619470900868678634197, 163309321578052146805450802438263305319, 87518597585245962796955986480633967526, 6161591008139076220601646446843146177, 96617416833907240315124182200439430055, 67288019353279926038130604499846823936, 123492369307601207700488716387690115284, 72992884249465865451566362034747193217, 123506241354959402090274531190302866772, 93226277353508642900164249188457535015, 88394181539591460295416373139500891046, 6116654749483988959971426010360459777, 45994406431766860863727072382817147250, 113870918609522322281985099445019275925, 49921000058860506912943830473554996979, 161537358671016203777973217828391545831, 84108490886122099842324906724524496768, 63089105448741488643398279942380763954, 35809052500294759256374056413191545715, 96504253903287235160744645914913229863, 109427184872331881977228478262674814292, 9537274821874957483351388617584152641, 79569572988994598121356082874814992321, 122557457634345817322758110469731963540, 65334779303751560239471195525024588352, 161542955870533464563010084267448332775, 4726979706490419237355323591502507968, 53639910565545342273528145980335791795, 142140898696765075202304690604976981845, 51613027339492204128265575524803459891, 58275656592719279154056000246173111091, 81071795988965022717357904530596407232, 26944628100264108509229864938392397555, 92325303522414418149753570460923091879, 140308235276559149970208740923126577813, 100983558286137050684044238585428660711, 45594221442569777339127844318073854322, 132003651752985294974180122299820886164, 44935323831972008745566419208193456946, 100972845268357601278728964017462078439, 34751610155981195849944733847405496627, 133436244703473040169882794575366898389, 115575792119390728221592460023876181333, 161752945482599484730126084874801441767, 94333773739946854309780815578084996199, 149021274876537960721224429182834492454, 159324042485362592547018579093184240551, 5725366257701666555538562805218717057, 58594334107495617071392172125656399538, 127777348636302309636952298273557535380, 153238470225796905537047657204766862374, 133385434108064708788808215410435911893, 33882886127255646541338116557250298163, 275464514806027128612938827324864, 59792954277794326371429463258526948146, 12764899024296983899235621676887115841, 49689517519420395515082114066310337331, 126976600203468727039316187211004055892, 72978216601350599296199603180564021825, 108887185710678174598840578861931466132, 133487668004820722767044853458355047125, 126814247099887467207929949960147586332, 163309321578052146879237778733101511783, 72921817864677867521778898634038080609, 87518597585245962833849474628053070758, 71430717218983613641036104277415506289, 6161591008139076202154902373133594561, 0]
/-- What is its own square is 0 or 1. -/
theorem hs_own (a : Nat) (ha : a < 2 ^ 128) (h : hs a = a) : a = 0 ∨ a = he := by
  have lin : hlin hC (hlin hT a 0 ^^^ a) 0 = hlin ((List.range 128).map fun i => if i = 0 then 0 else 2 ^ (127 - i)) a 0 := by
    refine hbasis (f := fun a => hlin hC (hlin hT a 0 ^^^ a) 0) (g := fun a => hlin ((List.range 128).map fun i => if i = 0 then 0 else 2 ^ (127 - i)) a 0) ?_ (fun a b => hlin_add _ _ _ _) ?_ a ha
    · intro a b _ _
      show hlin hC (hlin hT (a ^^^ b) 0 ^^^ (a ^^^ b)) 0 = _
      rw [hlin_add hT, xor4, hlin_add hC]
    · intro i hi
      have key : ((List.range 128).all fun i => hlin hC (hlin hT (2 ^ i) 0 ^^^ 2 ^ i) 0 == hlin ((List.range 128).map fun i => if i = 0 then 0 else 2 ^ (127 - i)) (2 ^ i) 0) = true := by decide +kernel
      have := List.all_eq_true.mp key i (List.mem_range.mpr hi)
      simpa using this
  rw [← hs_lin a ha, h, Nat.xor_self, add_nought (T := fun a => hlin hC a 0) (fun a b => hlin_add hC a b 0)] at lin
  have rest : hlin ((List.range 128).map fun i => if i = 0 then 0 else 2 ^ (127 - i)) a 0 = a % 2 ^ 127 := by
    refine hbasis (f := fun a => hlin ((List.range 128).map fun i => if i = 0 then 0 else 2 ^ (127 - i)) a 0) (g := fun a => a % 2 ^ 127) (fun a b _ _ => hlin_add _ _ _ _) (fun a b => Nat.xor_mod_two_pow) ?_ a ha
    intro i hi
    have key : ((List.range 128).all fun i => hlin ((List.range 128).map fun i => if i = 0 then 0 else 2 ^ (127 - i)) (2 ^ i) 0 == 2 ^ i % 2 ^ 127) = true := by decide +kernel
    have := List.all_eq_true.mp key i (List.mem_range.mpr hi)
    simpa using this
  rw [rest] at lin
  unfold he
  have p : (2 : Nat) ^ 128 = 2 * 2 ^ 127 := by rw [show 128 = 127 + 1 from rfl, Nat.pow_succ, Nat.mul_comm]
  rw [p] at ha
  generalize (2 : Nat) ^ 127 = t at *
  have h1 := Nat.div_add_mod a t
  have h2 : a / t < 2 := Nat.div_lt_of_lt_mul (by rw [Nat.mul_comm]; exact ha)
  rw [← lin, Nat.add_zero] at h1
  generalize a / t = q at *
  have : q = 0 ∨ q = 1 := by omega
  rcases this with h3 | h3
  · left; rw [← h1, h3, Nat.mul_zero]
  · right; rw [← h1, h3, Nat.mul_one]

/-- Each element but 0 has an inverse. -/
theorem h_inv (a : Nat) (ha : a < 2 ^ 128) (h0 : a ≠ 0) : ∃ b, b < 2 ^ 128 ∧ hm a b = he := by
  obtain ⟨n, hn⟩ : ∃ n, 2 ^ 128 = n + 2 := ⟨2 ^ 128 - 2, by decide⟩
  have full : hp a (n + 2) = a := by
    rw [← hn, hp_two a 128 ha, hsn_lin 128 a ha, hsn_all a ha]
  refine ⟨hp a n, hp_lt a n ha, ?_⟩
  have e1 : hm a (hp a n) = hp a (n + 1) := by rw [hm_comm _ _ ha (hp_lt a n ha)]; rfl
  have e2 : hs (hp a (n + 1)) = hp a (n + 1) := by
    unfold hs
    rw [← hp_add _ _ _ ha, show n + 1 + (n + 1) = (n + 2) + n from by omega, hp_add _ _ _ ha, full, e1]
  have e3 : hm (hp a (n + 1)) a = a := full
  rw [e1]
  rcases hs_own _ (hp_lt a (n + 1) ha) e2 with h | h
  · rw [h, hm_nought_l] at e3
    exact absurd e3.symm h0
  · exact h
theorem hm_zero (a b : Nat) (ha : a < 2 ^ 128) (hb : b < 2 ^ 128) (h : hm a b = 0) : a = 0 ∨ b = 0 := by
  by_cases h0 : a = 0
  · exact .inl h0
  · right
    obtain ⟨i, hi, e⟩ := h_inv a ha h0
    have h2 : hm i (hm a b) = 0 := by rw [h, hm_nought_r]
    rw [← hm_assoc _ _ _ ha hb, hm_comm i a hi ha, e, hm_comm _ _ he_lt hb, hm_one b hb] at h2
    exact h2
end Go.Proofs.Ytkfmgjipocmkjaa
