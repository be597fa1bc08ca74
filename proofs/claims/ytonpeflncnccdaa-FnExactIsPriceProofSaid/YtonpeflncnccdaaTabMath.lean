/- Rates, spans, tables of costs and last orders, claims and prices as numbers. -/
import Derived.Test.YtonpeflncnccdaaLotMath
namespace Go.Proofs.Ytonpeflncnccdaa
set_option linter.unusedVariables false
set_option linter.unusedSimpArgs false

theorem sumTo_g (l : List Int) (k : Nat) : sumTo l (k + 1) = sumTo l k + l.getD k 0 := by
  by_cases h : k < l.length
  · rw [sumTo_succ (List.getElem?_eq_getElem h), List.getD_eq_getElem?_getD, List.getElem?_eq_getElem h]; rfl
  · rw [sumTo_all (by omega), sumTo_all (by omega), List.getD_eq_getElem?_getD, List.getElem?_eq_none (by omega)]; simp
/-- The sum of the numbers from i on, before j. -/
def sumR (l : List Int) (i j : Nat) : Int := sumTo l j - sumTo l i
theorem sumR_self (l : List Int) (i : Nat) : sumR l i i = 0 := by unfold sumR; omega
theorem sumR_s (l : List Int) (i j : Nat) : sumR l i (j + 1) = sumR l i j + l.getD j 0 := by unfold sumR; rw [sumTo_g]; omega
theorem sumR_h (l : List Int) (i j : Nat) : sumR l i j = l.getD i 0 + sumR l (i + 1) j := by unfold sumR; rw [sumTo_g]; omega
theorem sumR_add (l : List Int) (i j h : Nat) : sumR l i j + sumR l j h = sumR l i h := by unfold sumR; omega
theorem sumR_in {l : List Int} {m : Int} (hm : 0 ≤ m) (h : ∀ x ∈ l, 0 ≤ x ∧ x ≤ m) (i d : Nat) : 0 ≤ sumR l i (i + d) ∧ sumR l i (i + d) ≤ m * d := by
  induction d with
  | zero => rw [Nat.add_zero, sumR_self]; simp
  | succ d ih =>
    have := getD_bound hm h (i + d)
    rw [← Nat.add_assoc, sumR_s]
    have : m * ((d + 1 : Nat) : Int) = m * d + m := by rw [Int.natCast_add, Int.mul_add]; simp
    omega
theorem sumR_nn {l : List Int} {m : Int} (hm : 0 ≤ m) (h : ∀ x ∈ l, 0 ≤ x ∧ x ≤ m) {i j : Nat} (hij : i ≤ j) : 0 ≤ sumR l i j := by
  have := (sumR_in hm h i (j - i)).1
  rwa [Nat.add_sub_cancel' hij] at this
theorem sumR_le8 {l : List Int} {m : Int} (hm : 0 ≤ m) (h : ∀ x ∈ l, 0 ≤ x ∧ x ≤ m) {i j : Nat} (hij : i ≤ j) (h8 : j ≤ 8) : sumR l i j ≤ m * 8 := by
  have := (sumR_in hm h i (j - i)).2
  rw [Nat.add_sub_cancel' hij] at this
  have h2 : m * ((j - i : Nat) : Int) ≤ m * 8 := Int.mul_le_mul_of_nonneg_left (by omega) hm
  omega

/-- The rate from a period to a later one. -/
def rateF (k : Cs) (i t : Nat) : Int := k.unit.getD i 0 + sumR k.hold i t
theorem rateF_self (k : Cs) (i : Nat) : rateF k i i = k.unit.getD i 0 := by unfold rateF; rw [sumR_self]; omega
theorem rateF_s (k : Cs) (i t : Nat) : rateF k i (t + 1) = rateF k i t + k.hold.getD t 0 := by unfold rateF; rw [sumR_s]; omega
theorem rateF_in {k : Cs} (hg : Good k) {i t : Nat} (hit : i ≤ t) (h8 : t ≤ 8) : 0 ≤ rateF k i t ∧ rateF k i t ≤ 81 := by
  have h1 := getD_bound (m := 9) (by omega) hg.unit i
  have h2 := sumR_nn (m := 9) (by omega) hg.hold hit
  have h3 := sumR_le8 (m := 9) (by omega) hg.hold hit h8
  unfold rateF
  omega
/-- A need times a rate. -/
theorem nr_in {k : Cs} (hg : Good k) {i t : Nat} (hit : i ≤ t) (h8 : t ≤ 8) : 0 ≤ k.need.getD t 0 * rateF k i t ∧ k.need.getD t 0 * rateF k i t ≤ 1620 := by
  have h1 := getD_bound (m := 20) (by omega) hg.need t
  have h2 := rateF_in hg hit h8
  have := mul_bound h1.1 h1.2 h2.1 h2.2
  omega
/-- Needs times rates from i, for the periods before t. -/
def spanS (k : Cs) (i : Nat) : Nat → Int
  | 0 => 0
  | t + 1 => if i ≤ t then spanS k i t + k.need.getD t 0 * rateF k i t else 0
theorem spanS_self (k : Cs) (i : Nat) : spanS k i i = 0 := by
  cases i with
  | zero => rfl
  | succ i => rw [spanS, if_neg (by omega)]
theorem spanS_s (k : Cs) {i t : Nat} (h : i ≤ t) : spanS k i (t + 1) = spanS k i t + k.need.getD t 0 * rateF k i t := by rw [spanS, if_pos h]
theorem spanS_in {k : Cs} (hg : Good k) (i d : Nat) (h8 : i + d ≤ 8) : 0 ≤ spanS k i (i + d) ∧ spanS k i (i + d) ≤ 1620 * d := by
  induction d with
  | zero => rw [Nat.add_zero, spanS_self]; simp
  | succ d ih =>
    have h1 := nr_in hg (i := i) (t := i + d) (by omega) (by omega)
    have := ih (by omega)
    rw [← Nat.add_assoc, spanS_s k (by omega)]
    omega
theorem spanS_in' {k : Cs} (hg : Good k) {i j : Nat} (hij : i ≤ j) (h8 : j ≤ 8) : 0 ≤ spanS k i j ∧ spanS k i j ≤ 12960 := by
  have := spanS_in hg i (j - i) (by omega)
  rw [Nat.add_sub_cancel' hij] at this
  omega
/-- The cost of the span from i, before j. -/
def spanF (k : Cs) (i j : Nat) : Int := if 0 < sumR k.need i j then k.setup.getD i 0 + spanS k i j else 0
theorem spanF_in {k : Cs} (hg : Good k) {i j : Nat} (hij : i ≤ j) (h8 : j ≤ 8) : 0 ≤ spanF k i j ∧ spanF k i j ≤ 13059 := by
  have h1 := spanS_in' hg hij h8
  have h2 := getD_bound (m := 99) (by omega) hg.setup i
  unfold spanF
  split <;> omega
/-- Holds times what is still needed before j, for the periods from i, before t. -/
def holdS (k : Cs) (i j : Nat) : Nat → Int
  | 0 => 0
  | t + 1 => if i ≤ t then holdS k i j t + k.hold.getD t 0 * sumR k.need (t + 1) j else 0
theorem holdS_self (k : Cs) (i j : Nat) : holdS k i j i = 0 := by
  cases i with
  | zero => rfl
  | succ i => rw [holdS, if_neg (by omega)]
theorem holdS_s (k : Cs) {i j t : Nat} (h : i ≤ t) : holdS k i j (t + 1) = holdS k i j t + k.hold.getD t 0 * sumR k.need (t + 1) j := by rw [holdS, if_pos h]
theorem holdS_span (k : Cs) (i j d : Nat) : holdS k i j (i + d) = spanS k i (i + d) - k.unit.getD i 0 * sumR k.need i (i + d) + sumR k.hold i (i + d) * sumR k.need (i + d) j := by
  induction d with
  | zero => rw [Nat.add_zero, holdS_self, spanS_self, sumR_self, sumR_self]; simp
  | succ d ih =>
    rw [← Nat.add_assoc, holdS_s k (by omega), spanS_s k (by omega), ih, sumR_s k.need, sumR_s k.hold, sumR_h k.need (i + d) j]
    unfold rateF
    generalize sumR k.need (i + d + 1) j = A
    generalize sumR k.need i (i + d) = B
    generalize sumR k.hold i (i + d) = C
    generalize k.need.getD (i + d) 0 = x
    generalize k.hold.getD (i + d) 0 = y
    generalize k.unit.getD i 0 = u
    generalize spanS k i (i + d) = S
    simp only [Int.mul_add, Int.add_mul]
    rw [Int.mul_comm x u, Int.mul_comm x C]
    omega
/-- What an order costs, as the program adds it up. -/
theorem spanF_order (k : Cs) {i j : Nat} (hij : i ≤ j) (hpos : 0 < sumR k.need i j) : spanF k i j = k.setup.getD i 0 + k.unit.getD i 0 * sumR k.need i j + holdS k i j j := by
  have := holdS_span k i j (j - i)
  rw [Nat.add_sub_cancel' hij, sumR_self, Int.mul_zero] at this
  unfold spanF
  rw [if_pos hpos, this]
  omega
theorem spanF_zero (k : Cs) {i j : Nat} (h : sumR k.need i j = 0) : spanF k i j = 0 := by unfold spanF; rw [h]; rfl
theorem holdS_in {k : Cs} (hg : Good k) (i j d : Nat) (h1 : i + d ≤ j) (h8 : j ≤ 8) : 0 ≤ holdS k i j (i + d) ∧ holdS k i j (i + d) ≤ 1440 * d := by
  induction d with
  | zero => rw [Nat.add_zero, holdS_self]; simp
  | succ d ih =>
    have b1 := getD_bound (m := 9) (by omega) hg.hold (i + d)
    have b2 := sumR_nn (m := 20) (by omega) hg.need (i := i + d + 1) (j := j) (by omega)
    have b3 := sumR_le8 (m := 20) (by omega) hg.need (i := i + d + 1) (j := j) (by omega) h8
    have := mul_bound b1.1 b1.2 b2 b3
    have := ih (by omega)
    rw [← Nat.add_assoc, holdS_s k (by omega)]
    omega
theorem holdS_in' {k : Cs} (hg : Good k) {i j t : Nat} (h0 : i ≤ t) (h1 : t ≤ j) (h8 : j ≤ 8) : 0 ≤ holdS k i j t ∧ holdS k i j t ≤ 11520 := by
  have := holdS_in hg i j (t - i) (by omega) h8
  rw [Nat.add_sub_cancel' h0] at this
  omega

/-! Forward costs and last orders. -/
def valF (k : Cs) (cs : List Int) (j i : Nat) : Int := cs.getD i 0 + spanF k i j
/-- The last place of the least of the first values. -/
def lastB (f : Nat → Int) : Nat → Nat
  | 0 => 0
  | n + 1 => if f n ≤ f (lastB f n) then n else lastB f n
theorem lastB_one (f : Nat → Int) : lastB f 1 = 0 := by simp [lastB]
theorem lastB_lt (f : Nat → Int) (n : Nat) : lastB f (n + 1) ≤ n := by
  induction n with
  | zero => rw [lastB_one]; omega
  | succ n ih => rw [lastB]; split <;> omega
theorem lastB_le (f : Nat → Int) (n : Nat) : ∀ i, i < n → f (lastB f n) ≤ f i := by
  induction n with
  | zero => intro i hi; omega
  | succ n ih =>
    intro i hi
    rw [lastB]
    by_cases hc : f n ≤ f (lastB f n)
    · rw [if_pos hc]
      by_cases he : i = n
      · rw [he]; exact Int.le_refl _
      · exact Int.le_trans hc (ih i (by omega))
    · rw [if_neg hc]
      by_cases he : i = n
      · rw [he]; omega
      · exact ih i (by omega)
def fwdC (k : Cs) : Nat → List Int
  | 0 => [0]
  | j + 1 => fwdC k j ++ [valF k (fwdC k j) (j + 1) (lastB (valF k (fwdC k j) (j + 1)) (j + 1))]
def fwdB (k : Cs) (j : Nat) : Nat := lastB (valF k (fwdC k j) (j + 1)) (j + 1)
def fwdL (k : Cs) : Nat → List Int
  | 0 => []
  | j + 1 => fwdL k j ++ [(fwdB k j : Int)]
theorem fwdC_len (k : Cs) (j : Nat) : (fwdC k j).length = j + 1 := by
  induction j with
  | zero => rfl
  | succ j ih => rw [fwdC, List.length_append, ih]; rfl
theorem fwdL_len (k : Cs) (j : Nat) : (fwdL k j).length = j := by
  induction j with
  | zero => rfl
  | succ j ih => rw [fwdL, List.length_append, ih]; rfl
theorem getD_app {l : List Int} {x : Int} {i : Nat} : (l ++ [x]).getD i 0 = if i < l.length then l.getD i 0 else if i = l.length then x else 0 := by
  rw [List.getD_eq_getElem?_getD]
  by_cases h : i < l.length
  · rw [List.getElem?_append_left h, if_pos h, List.getD_eq_getElem?_getD]
  · rw [List.getElem?_append_right (by omega), if_neg h]
    by_cases h2 : i = l.length
    · rw [if_pos h2, h2]; simp
    · rw [if_neg h2, List.getElem?_eq_none (by simp; omega)]; rfl
theorem fwdL_at (k : Cs) {j n : Nat} (h : j < n) : (fwdL k n).getD j 0 = (fwdB k j : Int) := by
  induction n with
  | zero => omega
  | succ n ih =>
    rw [fwdL, getD_app, fwdL_len]
    by_cases h2 : j < n
    · rw [if_pos h2, ih h2]
    · obtain rfl : j = n := by omega
      simp
theorem fwdB_le (k : Cs) (j : Nat) : fwdB k j ≤ j := lastB_lt _ _
theorem fwdC_at0 (k : Cs) (j : Nat) : (fwdC k j).getD 0 0 = 0 := by
  induction j with
  | zero => rfl
  | succ j ih => rw [fwdC, getD_app, fwdC_len, if_pos (by omega), ih]
theorem fwdC_keep (k : Cs) {i j n : Nat} (hi : i ≤ j) (hj : j ≤ n) : (fwdC k n).getD i 0 = (fwdC k j).getD i 0 := by
  induction n with
  | zero => obtain rfl : j = 0 := by omega
            rfl
  | succ n ih =>
    by_cases h : j = n + 1
    · rw [h]
    · rw [fwdC, getD_app, fwdC_len, if_pos (by omega), ih (by omega)]
theorem fwdC_in {k : Cs} (hg : Good k) (j : Nat) (h8 : j ≤ 8) : ∀ x ∈ fwdC k j, 0 ≤ x ∧ x ≤ 13059 * 9 := by
  have key : ∀ j : Nat, j ≤ 8 → ∀ x ∈ fwdC k j, 0 ≤ x ∧ x ≤ 13059 * (j : Int) := by
    intro j
    induction j with
    | zero => intro _ x hx; simp [fwdC] at hx; subst hx; simp
    | succ j ih =>
      intro h8 x hx
      rw [fwdC] at hx
      rcases List.mem_append.1 hx with h | h
      · have := ih (by omega) x h
        omega
      · simp at h
        subst h
        have hb := lastB_lt (valF k (fwdC k j) (j + 1)) j
        generalize lastB (valF k (fwdC k j) (j + 1)) (j + 1) = b at *
        have h1 := spanF_in hg (i := b) (j := j + 1) (by omega) h8
        have h2 : 0 ≤ (fwdC k j).getD b 0 ∧ (fwdC k j).getD b 0 ≤ 13059 * (j : Int) := getD_bound (by omega) (ih (by omega)) b
        unfold valF
        omega
  intro x hx
  have := key j h8 x hx
  omega
theorem valF_in {k : Cs} (hg : Good k) {i j : Nat} (hij : i ≤ j) (h8 : j + 1 ≤ 8) : 0 ≤ valF k (fwdC k j) (j + 1) i ∧ valF k (fwdC k j) (j + 1) i ≤ 13059 * 10 := by
  have h1 := spanF_in hg (i := i) (j := j + 1) (by omega) h8
  have h2 := getD_bound (m := 13059 * 9) (by omega) (fwdC_in hg j (by omega)) i
  unfold valF
  omega

/-! Backward costs. -/
def bmin (k : Cs) (n i : Nat) (tail : List Int) : Nat → Int
  | 0 => spanF k i n
  | x + 1 => min (bmin k n i tail x) (spanF k i (i + 1 + x) + tail.getD x 0)
/-- The backward costs of the last m periods. -/
def bwdF (k : Cs) (n : Nat) : Nat → List Int
  | 0 => [0]
  | m + 1 => bmin k n (n - (m + 1)) (bwdF k n m) m :: bwdF k n m
theorem bwdF_len (k : Cs) (n m : Nat) : (bwdF k n m).length = m + 1 := by
  induction m with
  | zero => rfl
  | succ m ih => rw [bwdF, List.length_cons, ih]
theorem bwdF_in {k : Cs} (hg : Good k) (n m : Nat) (hm : m ≤ n) (h8 : n ≤ 8) : ∀ x ∈ bwdF k n m, 0 ≤ x ∧ x ≤ 13059 := by
  induction m with
  | zero => intro x hx; simp [bwdF] at hx; subst hx; omega
  | succ m ih =>
    intro x hx
    rw [bwdF] at hx
    rcases List.mem_cons.1 hx with h | h
    · subst h
      have ih := ih (by omega)
      have : ∀ x, x ≤ m → 0 ≤ bmin k n (n - (m + 1)) (bwdF k n m) x ∧ bmin k n (n - (m + 1)) (bwdF k n m) x ≤ 13059 := by
        intro x
        induction x with
        | zero => intro _; exact spanF_in hg (by omega) h8
        | succ x ihx =>
          intro hx
          have h1 := ihx (by omega)
          have h2 := spanF_in hg (i := n - (m + 1)) (j := n - (m + 1) + 1 + x) (by omega) (by omega)
          have h3 := getD_bound (m := 13059) (by omega) ih x
          rw [bmin]
          omega
      exact this m (Nat.le_refl _)
    · exact ih (by omega) x h
theorem bmin_in {k : Cs} (hg : Good k) {n m x : Nat} (hm : m + 1 ≤ n) (h8 : n ≤ 8) (hx : x ≤ m) : 0 ≤ bmin k n (n - (m + 1)) (bwdF k n m) x ∧ bmin k n (n - (m + 1)) (bwdF k n m) x ≤ 13059 := by
  have ih := bwdF_in hg n m (by omega) h8
  induction x with
  | zero => exact spanF_in hg (by omega) h8
  | succ x ihx =>
    have h1 := ihx (by omega)
    have h2 := spanF_in hg (i := n - (m + 1)) (j := n - (m + 1) + 1 + x) (by omega) (by omega)
    have h3 := getD_bound (m := 13059) (by omega) ih x
    rw [bmin]
    omega
def bwdL (k : Cs) : List Int := bwdF k k.need.length k.need.length

/-! Order periods from the table, horizons. -/
/-- The order periods found from j down. -/
def tabP (k : Cs) (ls : List Int) : Nat → Nat → List Int
  | 0, _ => []
  | f + 1, j => if j = 0 then [] else
      (tabP k ls f (ls.getD (j - 1) 0).toNat) ++ (if 0 < sumR k.need (ls.getD (j - 1) 0).toNat j then [ls.getD (j - 1) 0] else [])
def horAt (k : Cs) (ls : List Int) (t : Nat) : Bool := (ls.getD t 0 == (t : Int)) && decide (0 < k.need.getD t 0)
def horP (k : Cs) (ls : List Int) : Nat → List Int
  | 0 => []
  | t + 1 => if horAt k ls t then horP k ls t ++ [((t : Int) + 1)] else horP k ls t
theorem horP_len (k : Cs) (ls : List Int) (t : Nat) : (horP k ls t).length ≤ t := by
  induction t with
  | zero => simp [horP]
  | succ t ih => rw [horP]; split <;> (try rw [List.length_append, List.length_singleton]) <;> omega
def turnAt (k : Cs) (t : Nat) : Bool := (fwdC k k.need.length).getD t 0 + (bwdL k).getD t 0 == (bwdL k).getD 0 0
def turnP (k : Cs) : Nat → List Int
  | 0 => []
  | t + 1 => if turnAt k t then turnP k t ++ [(t : Int)] else turnP k t
theorem turnP_len (k : Cs) (t : Nat) : (turnP k t).length ≤ t := by
  induction t with
  | zero => simp [turnP]
  | succ t ih => rw [turnP]; split <;> (try rw [List.length_append, List.length_singleton]) <;> omega

/-! Claims and prices. -/
def posP (x : Int) : Int := max 0 x
def claimT (k : Cs) (ps : List Int) (i t : Nat) : Int := max 0 (ps.getD t 0 - k.need.getD t 0 * rateF k i t)
def claimS (k : Cs) (ps : List Int) (i : Nat) : Nat → Int
  | 0 => 0
  | t + 1 => if i ≤ t then claimS k ps i t + claimT k ps i t else 0
theorem claimS_self (k : Cs) (ps : List Int) (i : Nat) : claimS k ps i i = 0 := by
  cases i with
  | zero => rfl
  | succ i => rw [claimS, if_neg (by omega)]
theorem claimS_s (k : Cs) (ps : List Int) {i t : Nat} (h : i ≤ t) : claimS k ps i (t + 1) = claimS k ps i t + claimT k ps i t := by rw [claimS, if_pos h]
theorem claimS_early (k : Cs) (ps : List Int) {i t : Nat} (h : t ≤ i) : claimS k ps i t = 0 := by
  cases t with
  | zero => rfl
  | succ t => rw [claimS, if_neg (by omega)]
theorem claimT_in {k : Cs} (hg : Good k) {ps : List Int} (hp : ∀ x ∈ ps, 0 ≤ x ∧ x ≤ 9999) {i t : Nat} (hit : i ≤ t) (h8 : t ≤ 8) : 0 ≤ claimT k ps i t ∧ claimT k ps i t ≤ 9999 ∧ -1620 ≤ ps.getD t 0 - k.need.getD t 0 * rateF k i t ∧ ps.getD t 0 - k.need.getD t 0 * rateF k i t ≤ 9999 := by
  have h1 := nr_in hg hit h8
  have h2 := getD_bound (m := 9999) (by omega) hp t
  unfold claimT
  omega
theorem claimS_in {k : Cs} (hg : Good k) {ps : List Int} (hp : ∀ x ∈ ps, 0 ≤ x ∧ x ≤ 9999) (i t : Nat) (h8 : t ≤ 9) : 0 ≤ claimS k ps i t ∧ claimS k ps i t ≤ 9999 * t := by
  induction t with
  | zero => simp [claimS]
  | succ t ih =>
    have ih := ih (by omega)
    rw [claimS]
    split
    · rename_i h
      have := claimT_in hg hp (i := i) (t := t) h (by omega)
      omega
    · omega
def claimF (k : Cs) (ps : List Int) (i : Nat) : Int := claimS k ps i ps.length
def claimsL (k : Cs) (ps : List Int) : Nat → List Int
  | 0 => []
  | i + 1 => claimsL k ps i ++ [claimF k ps i]
theorem claimsL_len (k : Cs) (ps : List Int) (n : Nat) : (claimsL k ps n).length = n := by
  induction n with
  | zero => rfl
  | succ n ih => rw [claimsL, List.length_append, ih]; rfl
theorem claimsL_at (k : Cs) (ps : List Int) {i n : Nat} (h : i < n) : (claimsL k ps n).getD i 0 = claimF k ps i := by
  induction n with
  | zero => omega
  | succ n ih =>
    rw [claimsL, getD_app, claimsL_len]
    by_cases h2 : i < n
    · rw [if_pos h2, ih h2]
    · obtain rfl : i = n := by omega
      simp
def fairAt (k : Cs) (ps : List Int) (i : Nat) : Bool := !(decide (k.setup.getD i 0 < claimF k ps i) || (k.need.getD i 0 == 0 && decide (0 < ps.getD i 0)))
def fairB (k : Cs) (ps : List Int) : Bool := (List.range ps.length).all (fairAt k ps)
theorem fair_yes {k : Cs} {ps : List Int} (h : ∀ j, j < ps.length → fairAt k ps j = true) : fairB k ps = true := by
  unfold fairB; rw [List.all_eq_true]; intro j hj; exact h j (List.mem_range.1 hj)
theorem fair_no {k : Cs} {ps : List Int} {j : Nat} (hj : j < ps.length) (h : fairAt k ps j = false) : fairB k ps = false := by
  cases hr : fairB k ps with
  | false => rfl
  | true => unfold fairB at hr; rw [List.all_eq_true] at hr; rw [hr j (List.mem_range.2 hj)] at h; cases h

/-- The least of the first values. -/
def minB (f : Nat → Int) : Nat → Int
  | 0 => f 0
  | n + 1 => min (minB f n) (f (n + 1))
/-- The same, the last of them first. -/
def minQ (f : Nat → Int) (t : Nat) : Nat → Int
  | 0 => f t
  | n + 1 => min (minQ f t n) (f n)
theorem minQ_eq (f : Nat → Int) (t : Nat) : minQ f t t = minB f t := by
  have key : ∀ n, minQ f t (n + 1) = min (f t) (minB f n) := by
    intro n
    induction n with
    | zero => rfl
    | succ n ih => rw [minQ, ih, minB]; omega
  cases t with
  | zero => rfl
  | succ t => rw [key, minB]; omega
theorem minB_le (f : Nat → Int) (n : Nat) : ∀ i, i ≤ n → minB f n ≤ f i := by
  induction n with
  | zero => intro i hi; obtain rfl : i = 0 := by omega
            exact Int.le_refl _
  | succ n ih =>
    intro i hi
    rw [minB]
    by_cases h : i = n + 1
    · subst h; omega
    · have := ih i (by omega)
      omega
theorem minB_mem (f : Nat → Int) (n : Nat) : ∃ i, i ≤ n ∧ minB f n = f i := by
  induction n with
  | zero => exact ⟨0, Nat.le_refl _, rfl⟩
  | succ n ih =>
    obtain ⟨i, hi, he⟩ := ih
    rw [minB]
    by_cases h : minB f n ≤ f (n + 1)
    · exact ⟨i, by omega, by omega⟩
    · exact ⟨n + 1, Nat.le_refl _, by omega⟩
/-- What period i would have the need of t cost. -/
def priceBy (k : Cs) (ps : List Int) (t i : Nat) : Int := k.need.getD t 0 * rateF k i t + k.setup.getD i 0 - claimF k ps i
def priceF (k : Cs) (ps : List Int) (t : Nat) : Int := if k.need.getD t 0 = 0 then 0 else minB (priceBy k ps t) t
def fairP (k : Cs) : Nat → List Int
  | 0 => []
  | t + 1 => fairP k t ++ [priceF k (fairP k t) t]
theorem fairP_len (k : Cs) (n : Nat) : (fairP k n).length = n := by
  induction n with
  | zero => rfl
  | succ n ih => rw [fairP, List.length_append, ih]; rfl
theorem fairP_keep (k : Cs) {i n : Nat} (h : i < n) : (fairP k n).getD i 0 = priceF k (fairP k i) i := by
  induction n with
  | zero => omega
  | succ n ih =>
    rw [fairP, getD_app, fairP_len]
    by_cases h2 : i < n
    · rw [if_pos h2, ih h2]
    · obtain rfl : i = n := by omega
      simp
theorem claimS_congr (k : Cs) {ps qs : List Int} (i : Nat) : ∀ t : Nat, (∀ s, s < t → ps.getD s 0 = qs.getD s 0) → claimS k ps i t = claimS k qs i t := by
  intro t
  induction t with
  | zero => intro _; rfl
  | succ t ih =>
    intro h
    rw [claimS, claimS, ih (fun s hs => h s (by omega))]
    unfold claimT
    rw [h t (by omega)]
/-- The claims by the prices found so far, one more price. -/
theorem claimF_more (k : Cs) (ps : List Int) (x : Int) {i : Nat} (hi : i ≤ ps.length) : claimF k (ps ++ [x]) i = claimF k ps i + max 0 (x - k.need.getD ps.length 0 * rateF k i ps.length) := by
  unfold claimF
  rw [List.length_append, List.length_singleton, claimS_s k _ hi, claimS_congr k (qs := ps) i ps.length (fun s hs => by rw [getD_app, if_pos hs])]
  unfold claimT
  rw [getD_app, if_neg (by omega), if_pos rfl]
theorem claimF_none (k : Cs) (ps : List Int) {i : Nat} (hi : ps.length ≤ i) : claimF k ps i = 0 := claimS_early k ps hi
/-- Fair prices: no claim is greater than its setup, no price greater than what its own period asks. -/
theorem fairP_inv {k : Cs} (hg : Good k) (n : Nat) (h8 : n ≤ 8) : (∀ i, claimF k (fairP k n) i ≤ k.setup.getD i 0) ∧ (∀ x ∈ fairP k n, 0 ≤ x ∧ x ≤ 1719) := by
  induction n with
  | zero =>
    refine ⟨fun i => ?_, fun x hx => by cases hx⟩
    rw [claimF_none k _ (Nat.zero_le _)]
    exact (getD_bound (m := 99) (by omega) hg.setup i).1
  | succ n ih =>
    obtain ⟨h1, h2⟩ := ih (by omega)
    have hl := fairP_len k n
    have hp : 0 ≤ priceF k (fairP k n) n ∧ priceF k (fairP k n) n ≤ 1719 ∧ ∀ i, i ≤ n → priceF k (fairP k n) n ≤ k.need.getD n 0 * rateF k i n + (k.setup.getD i 0 - claimF k (fairP k n) i) := by
      have hb : ∀ i, i ≤ n → 0 ≤ priceBy k (fairP k n) n i := fun i hi => by
        have b1 := nr_in hg (i := i) (t := n) hi (by omega)
        have b2 := h1 i
        unfold priceBy; omega
      unfold priceF
      by_cases h0 : k.need.getD n 0 = 0
      · rw [if_pos h0]
        refine ⟨by omega, by omega, fun i hi => ?_⟩
        have b1 := nr_in hg (i := i) (t := n) hi (by omega)
        have b2 := h1 i
        omega
      · rw [if_neg h0]
        obtain ⟨i, hi, he⟩ := minB_mem (priceBy k (fairP k n) n) n
        have b0 := hb i hi
        have b1 := nr_in hg (i := n) (t := n) (Nat.le_refl _) (by omega)
        have b2 := getD_bound (m := 99) (by omega) hg.setup n
        have b3 := minB_le (priceBy k (fairP k n) n) n n (Nat.le_refl _)
        have b4 : claimF k (fairP k n) n = 0 := claimF_none k _ (by omega)
        have b5 : priceBy k (fairP k n) n n = k.need.getD n 0 * rateF k n n + k.setup.getD n 0 := by unfold priceBy; rw [b4]; omega
        refine ⟨by omega, by omega, fun j hj => ?_⟩
        have := minB_le (priceBy k (fairP k n) n) n j hj
        unfold priceBy at this ⊢
        omega
    obtain ⟨p1, p2, p3⟩ := hp
    rw [fairP]
    refine ⟨fun i => ?_, fun x hx => ?_⟩
    · by_cases hi : i ≤ n
      · have e := claimF_more k (fairP k n) (priceF k (fairP k n) n) (i := i) (by omega)
        rw [hl] at e
        rw [e]
        have := p3 i hi
        have := h1 i
        omega
      · rw [claimF_none k _ (by rw [List.length_append, hl]; simp; omega)]
        exact (getD_bound (m := 99) (by omega) hg.setup i).1
    · rcases List.mem_append.1 hx with h | h
      · exact h2 x h
      · simp at h; subst h; exact ⟨p1, p2⟩

/-! Rules of thumb. -/
def goodR (k : Cs) (rule : Int) (i j : Nat) : Bool :=
  if rule = 1 then decide (spanF k i (j + 1) * ((j : Int) - i) ≤ spanF k i j * ((j : Int) + 1 - i))
  else if rule = 2 then decide (spanF k i (j + 1) * sumR k.need i j ≤ spanF k i j * sumR k.need i (j + 1))
  else decide (spanF k i (j + 1) - k.setup.getD i 0 - k.unit.getD i 0 * sumR k.need i (j + 1) ≤ k.setup.getD i 0)
/-- The end of the span from i, from j on. -/
def endR (k : Cs) (rule : Int) (i : Nat) : Nat → Nat → Nat
  | 0, j => j
  | f + 1, j => if j < k.need.length then (if goodR k rule i j then endR k rule i f (j + 1) else j) else j
/-- The first period from t on with a need. -/
def needF (k : Cs) : Nat → Nat → Nat
  | 0, t => t
  | f + 1, t => if t < k.need.length then (if k.need.getD t 0 = 0 then needF k f (t + 1) else t) else t
end Go.Proofs.Ytonpeflncnccdaa
