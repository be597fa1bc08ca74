/- Markets and contracts as numbers: sales, profits, orders. -/
import Derived.Test.YtdcheilmjooacaaChMath
namespace Go.Proofs.Ytdcheilmjooacaa
set_option linter.unusedVariables false

/-- A market: weights, price, what a piece costs, what one left is worth. -/
structure Mk where
  w : List Int
  price : Int
  make : Int
  left : Int
/-- A contract. -/
structure Ct where
  pay : Int
  back : Int
  share : Int
def inM (b x : Int) : Bool := decide (0 ≤ x) && decide (x ≤ b)
theorem inM_iff {b x : Int} : inM b x = true ↔ 0 ≤ x ∧ x ≤ b := by simp [inM]
def w9B (w : List Int) : Bool := decide (w.length ≤ 9) && rowB w w.length 4 && decide (0 < sumTo w w.length)
def Mk.good (k : Mk) : Bool := w9B k.w && (decide (1 ≤ k.price) && decide (k.price ≤ 99)) && inM k.price k.make && inM k.make k.left
def Ct.good (c : Ct) : Bool := inM 99 c.pay && inM 99 c.back && inM 100 c.share
structure GoodM (k : Mk) : Prop where
  l9 : k.w.length ≤ 9
  wt : ∀ x ∈ k.w, 0 ≤ x ∧ x ≤ 4
  pos : 0 < sumTo k.w k.w.length
  price : 1 ≤ k.price ∧ k.price ≤ 99
  make : 0 ≤ k.make ∧ k.make ≤ k.price
  left : 0 ≤ k.left ∧ k.left ≤ k.make
structure GoodC (c : Ct) : Prop where
  pay : 0 ≤ c.pay ∧ c.pay ≤ 99
  back : 0 ≤ c.back ∧ c.back ≤ 99
  share : 0 ≤ c.share ∧ c.share ≤ 100
theorem goodM_iff {k : Mk} : k.good = true ↔ GoodM k := by
  simp only [Mk.good, w9B, Bool.and_eq_true, decide_eq_true_eq, rowB_iff, inM_iff]
  constructor
  · rintro ⟨⟨⟨⟨⟨h1, h2, _⟩, h3⟩, h4, h5⟩, h6⟩, h7⟩
    exact ⟨h1, h2, h3, ⟨h4, h5⟩, h6, h7⟩
  · rintro ⟨h1, h2, h3, h4, h6, h7⟩
    exact ⟨⟨⟨⟨⟨h1, h2, by trivial⟩, h3⟩, h4⟩, h6⟩, h7⟩
theorem goodC_iff {c : Ct} : c.good = true ↔ GoodC c := by
  simp only [Ct.good, Bool.and_eq_true, inM_iff]
  exact ⟨fun h => ⟨h.1.1, h.1.2, h.2⟩, fun h => ⟨⟨h.pay, h.back⟩, h.share⟩⟩
theorem GoodM.dist {k : Mk} (h : GoodM k) : Dist k.w := ⟨by have := h.l9; omega, fun x hx => by have := h.wt x hx; omega, h.pos⟩
theorem GoodM.tot {k : Mk} (h : GoodM k) : 1 ≤ tot k.w ∧ tot k.w ≤ 36 := by
  have h1 := sumTo_bound (by decide) h.wt k.w.length
  have := h.l9
  have := h.pos
  unfold Go.Proofs.Ytdcheilmjooacaa.tot
  omega
/-! Sales. -/
def salF (w : List Int) (q : Nat) (k : Nat) : Int := wsum w (fun d => min (q : Int) d) k
def sal (w : List Int) (q : Nat) : Int := salF w q w.length
theorem sal_s (w : List Int) (q k : Nat) : salF w q (k + 1) = salF w q k + w.getD k 0 * min (q : Int) k := rfl
theorem at4 {k : Mk} (h : GoodM k) (j : Nat) : 0 ≤ k.w.getD j 0 ∧ k.w.getD j 0 ≤ 4 := getD_bound (by decide) h.wt j
theorem salF_in {k : Mk} (h : GoodM k) (q : Nat) : ∀ j, j ≤ k.w.length → 0 ≤ salF k.w q j ∧ salF k.w q j ≤ sumTo k.w j * q := by
  intro j
  induction j with
  | zero => intro _; simp [salF, wsum, sumTo]
  | succ j ih =>
    intro hj
    have := ih (by omega)
    have h1 := at4 h j
    rw [sal_s, sumTo_sD (by omega), Int.add_mul]
    have h2 : 0 ≤ k.w.getD j 0 * min (q : Int) j := Int.mul_nonneg h1.1 (by omega)
    have h3 : k.w.getD j 0 * min (q : Int) j ≤ k.w.getD j 0 * q := Int.mul_le_mul_of_nonneg_left (by omega) h1.1
    omega
theorem term_sal {k : Mk} (h : GoodM k) (q : Nat) (hq : q ≤ 8) (j : Nat) : 0 ≤ k.w.getD j 0 * min (q : Int) j ∧ k.w.getD j 0 * min (q : Int) j ≤ 32 := by
  have h1 := at4 h j
  exact mul_bound (m := 4) (n := 8) h1.1 h1.2 (by omega) (by omega)
theorem sal_in {k : Mk} (h : GoodM k) {q : Nat} (hq : q ≤ 8) : 0 ≤ sal k.w q ∧ sal k.w q ≤ tot k.w * q ∧ tot k.w * q ≤ 288 := by
  have h1 := salF_in h q k.w.length (Nat.le_refl _)
  have h2 := h.tot
  have h3 : tot k.w * (q : Int) ≤ 36 * 8 := (mul_bound (m := 36) (n := 8) (by omega) h2.2 (by omega) (by omega)).2
  exact ⟨h1.1, h1.2, by omega⟩
theorem salF_bd {k : Mk} (h : GoodM k) {q : Nat} (hq : q ≤ 8) {j : Nat} (hj : j ≤ k.w.length) : 0 ≤ salF k.w q j ∧ salF k.w q j ≤ 288 := by
  have h1 := salF_in h q j hj
  have h2 := sumTo_mono (l := k.w) (fun x hx => (h.wt x hx).1) hj
  have h3 := h.tot
  have h4 : sumTo k.w j * (q : Int) ≤ tot k.w * q := Int.mul_le_mul_of_nonneg_right h2 (by omega)
  have := (sal_in h hq).2.2
  omega
theorem salF_next (w : List Int) (q : Nat) (k : Nat) (hk : k ≤ w.length) : salF w (q + 1) k = salF w q k + (sumTo w k - sumTo w (min (q + 1) k)) := by
  induction k with
  | zero => simp [salF, wsum, sumTo]
  | succ k ih =>
    rw [sal_s, sal_s, ih (by omega), sumTo_sD (by omega)]
    by_cases hq : k ≤ q
    · have e1 : min (q + 1) k = k := by omega
      have e2 : min (q + 1) (k + 1) = k + 1 := by omega
      rw [e1, e2, sumTo_sD (by omega)]
      have e3 : min ((q + 1 : Nat) : Int) k = min (q : Int) k := by omega
      rw [e3]; omega
    · have e1 : min (q + 1) k = q + 1 := by omega
      have e2 : min (q + 1) (k + 1) = q + 1 := by omega
      rw [e1, e2]
      have e3 : min ((q + 1 : Nat) : Int) k = min (q : Int) k + 1 := by omega
      rw [e3, Int.mul_add]; omega
theorem sal_next (w : List Int) (q : Nat) : sal w (q + 1) = sal w q + (tot w - upF w q) := salF_next w q _ (Nat.le_refl _)
theorem sal_zero (w : List Int) : sal w 0 = 0 := by
  unfold sal
  generalize w.length = k
  induction k with
  | zero => rfl
  | succ k ih => rw [sal_s, ih]; have : min ((0 : Nat) : Int) k = 0 := by omega
                 rw [this]; simp
/-- The sales, piece by piece: the weights of all greater demands. -/
def salP : List Int → Nat → Int
  | _ :: y :: l, q + 1 => (y :: l).sum + salP (y :: l) q
  | _, _ => 0
theorem salP_zero (l : List Int) : salP l 0 = 0 := by unfold salP; split <;> simp_all
theorem salP_one (x : Int) (q : Nat) : salP [x] q = 0 := by unfold salP; rfl
theorem salP_nil (q : Nat) : salP [] q = 0 := by unfold salP; rfl
theorem salP_next (x y : Int) (l : List Int) (q : Nat) : salP (x :: y :: l) (q + 1) = (y :: l).sum + salP (y :: l) q := rfl
theorem salF_cons (x : Int) (l : List Int) (q : Nat) : ∀ k, salF (x :: l) (q + 1) (k + 1) = sumTo l k + salF l q k ∨ l.length < k := by
  intro k
  induction k with
  | zero => left; rw [sal_s]; have : min ((q + 1 : Nat) : Int) ((0 : Nat) : Int) = 0 := by omega
            rw [this]; simp [salF, wsum, sumTo]
  | succ k ih =>
    rcases ih with ih | ih
    · by_cases hk : k < l.length
      · left
        rw [sal_s, ih, sumTo_sD hk, sal_s, List.getD_cons_succ]
        have : min ((q + 1 : Nat) : Int) ((k + 1 : Nat) : Int) = min (q : Int) k + 1 := by omega
        rw [this, Int.mul_add]; omega
      · right; omega
    · right; omega
theorem sal_P : ∀ (l : List Int) (q : Nat), salP l q = sal l q
  | l, 0 => by rw [salP_zero, sal_zero]
  | [], q + 1 => by rw [salP_nil]; rfl
  | [x], q + 1 => by
    rw [salP_one]
    have := (salF_cons x [] q 0).resolve_right (by simp)
    simp only [sal, List.length_cons, List.length_nil, Nat.zero_add] at this ⊢
    rw [this]; simp [sumTo, salF, wsum]
  | x :: y :: l, q + 1 => by
    rw [salP_next, sal_P (y :: l) q]
    have := (salF_cons x (y :: l) q (y :: l).length).resolve_right (by omega)
    simp only [sal, List.length_cons] at this ⊢
    rw [this, sumTo_all (by simp)]
/-! Profits. -/
def selP (k : Mk) (c : Ct) (q : Nat) : Int := c.share * k.price * sal k.w q + 100 * ((k.left + c.back) * (tot k.w * q - sal k.w q) - c.pay * (tot k.w * q))
def makP (k : Mk) (c : Ct) (q : Nat) : Int := (100 - c.share) * k.price * sal k.w q + 100 * ((c.pay - k.make) * (tot k.w * q) - c.back * (tot k.w * q - sal k.w q))
def joiP (k : Mk) (q : Nat) : Int := 100 * (k.price * sal k.w q + k.left * (tot k.w * q - sal k.w q) - k.make * (tot k.w * q))
theorem both_P (k : Mk) (c : Ct) (q : Nat) : selP k c q + makP k c q = joiP k q := by
  unfold selP makP joiP
  generalize sal k.w q = S
  generalize tot k.w * (q : Int) = A
  grind
theorem mulI {a x A B : Int} (h1 : 0 ≤ a ∧ a ≤ A) (h2 : 0 ≤ x ∧ x ≤ B) : 0 ≤ a * x ∧ a * x ≤ A * B := mul_in h1 h2
/-- The parts of the profits. -/
structure ProB (k : Mk) (c : Ct) (S A : Int) : Prop where
  s : 0 ≤ S ∧ S ≤ 288
  u : 0 ≤ A - S ∧ A - S ≤ 288
  a : 0 ≤ A ∧ A ≤ 288
  p1 : 0 ≤ c.share * k.price ∧ c.share * k.price ≤ 9900
  p2 : 0 ≤ c.share * k.price * S ∧ c.share * k.price * S ≤ 2851200
  p3 : 0 ≤ (k.left + c.back) * (A - S) ∧ (k.left + c.back) * (A - S) ≤ 57024
  p4 : 0 ≤ c.pay * A ∧ c.pay * A ≤ 28512
  p5 : 0 ≤ (100 - c.share) * k.price ∧ (100 - c.share) * k.price ≤ 9900
  p6 : 0 ≤ (100 - c.share) * k.price * S ∧ (100 - c.share) * k.price * S ≤ 2851200
  p7 : -28512 ≤ (c.pay - k.make) * A ∧ (c.pay - k.make) * A ≤ 28512
  p8 : 0 ≤ c.back * (A - S) ∧ c.back * (A - S) ≤ 28512
  p9 : 0 ≤ k.price * S ∧ k.price * S ≤ 28512
  pa : 0 ≤ k.left * (A - S) ∧ k.left * (A - S) ≤ 28512
  pb : 0 ≤ k.make * A ∧ k.make * A ≤ 28512
  l : 0 ≤ k.left ∧ k.left ≤ 99
  b : 0 ≤ c.back ∧ c.back ≤ 99
  m : 0 ≤ k.make ∧ k.make ≤ 99
  pr : 0 ≤ k.price ∧ k.price ≤ 99
  sh : 0 ≤ c.share ∧ c.share ≤ 100
  py : 0 ≤ c.pay ∧ c.pay ≤ 99
theorem pro_bd {k : Mk} {c : Ct} (h : GoodM k) (hc : GoodC c) {q : Nat} (hq : q ≤ 8) : ProB k c (sal k.w q) (tot k.w * q) := by
  have h1 := sal_in h hq
  have h2 := h.price
  have h3 := h.make
  have h4 := h.left
  have h5 := hc.pay
  have h6 := hc.back
  have h7 := hc.share
  generalize sal k.w q = S at *
  generalize tot k.w * (q : Int) = A at *
  have p1 := mulI (a := c.share) (x := k.price) (A := 100) (B := 99) h7 (by omega)
  have p5 := mulI (a := 100 - c.share) (x := k.price) (A := 100) (B := 99) (by omega) (by omega)
  have py := mulI (a := c.pay) (x := A) (A := 99) (B := 288) h5 (by omega)
  have pm := mulI (a := k.make) (x := A) (A := 99) (B := 288) (by omega) (by omega)
  exact ⟨by omega, by omega, by omega, p1, mulI (A := 9900) (B := 288) p1 (by omega), mulI (A := 198) (B := 288) (by omega) (by omega), py, p5, mulI (A := 9900) (B := 288) p5 (by omega),
    by rw [Int.sub_mul]; omega, mulI (A := 99) (B := 288) h6 (by omega), mulI (A := 99) (B := 288) (by omega) (by omega), mulI (A := 99) (B := 288) (by omega) (by omega), pm, by omega, h6, by omega, by omega, h7, h5⟩
theorem joi_bd {k : Mk} (h : GoodM k) {q : Nat} (hq : q ≤ 8) : -5702400 ≤ joiP k q ∧ joiP k q ≤ 5702400 := by
  have := pro_bd (c := ⟨0, 0, 0⟩) h ⟨by simp, by simp, by simp⟩ hq
  have := this.p9
  have := ‹ProB k _ _ _›.pa
  have := ‹ProB k _ _ _›.pb
  unfold joiP
  omega
theorem sel_bd {k : Mk} {c : Ct} (h : GoodM k) (hc : GoodC c) {q : Nat} (hq : q ≤ 8) : -8553600 ≤ selP k c q ∧ selP k c q ≤ 8553600 := by
  have h0 := pro_bd h hc hq
  have := h0.p2
  have := h0.p3
  have := h0.p4
  unfold selP
  omega
theorem mak_bd {k : Mk} {c : Ct} (h : GoodM k) (hc : GoodC c) {q : Nat} (hq : q ≤ 8) : -8553600 ≤ makP k c q ∧ makP k c q ≤ 8553600 := by
  have h0 := pro_bd h hc hq
  have := h0.p6
  have := h0.p7
  have := h0.p8
  unfold makP
  omega
/-! The first greatest number. -/
def argG (f : Nat → Int) : Nat → Nat
  | 0 => 0
  | n + 1 => if f (argG f n) < f (n + 1) then n + 1 else argG f n
theorem argG_le (f : Nat → Int) (n : Nat) : argG f n ≤ n := by
  induction n with
  | zero => exact Nat.le_refl _
  | succ n ih => simp only [argG]; split <;> omega
theorem argG_max (f : Nat → Int) (n : Nat) : ∀ j, j ≤ n → f j ≤ f (argG f n) := by
  induction n with
  | zero => intro j hj; obtain rfl : j = 0 := by omega
            exact Int.le_refl _
  | succ n ih =>
    intro j hj
    simp only [argG]
    by_cases h : f (argG f n) < f (n + 1)
    · rw [if_pos h]
      by_cases e : j = n + 1
      · rw [e]; exact Int.le_refl _
      · have := ih j (by omega); omega
    · rw [if_neg h]
      by_cases e : j = n + 1
      · rw [e]; omega
      · exact ih j (by omega)
theorem argG_first (f : Nat → Int) (n : Nat) : ∀ j, j < argG f n → f j < f (argG f n) := by
  induction n with
  | zero => intro j hj; simp [argG] at hj
  | succ n ih =>
    intro j hj
    simp only [argG] at hj ⊢
    by_cases h : f (argG f n) < f (n + 1)
    · rw [if_pos h] at hj ⊢
      have := argG_max f n j (by omega)
      omega
    · rw [if_neg h] at hj ⊢
      exact ih j hj
theorem argG_uniq (f : Nat → Int) (n a : Nat) (h : a ≤ n) (h1 : ∀ j, j ≤ n → f j ≤ f a) (h2 : ∀ j, j < a → f j < f a) : argG f n = a := by
  have e1 := argG_le f n
  have e2 := argG_max f n a h
  have e3 := h1 _ e1
  rcases Nat.lt_trichotomy (argG f n) a with e | e | e
  · have := h2 _ e; omega
  · exact e
  · have := argG_first f n _ e; omega
theorem argG_congr {f g : Nat → Int} {n : Nat} (h : ∀ j, j ≤ n → f j = g j) : argG f n = argG g n := by
  induction n with
  | zero => rfl
  | succ n ih =>
    have := argG_le g n
    simp only [argG, ih (fun j hj => h j (by omega)), h (n + 1) (by omega), h (argG g n) (by omega)]
def joiO (k : Mk) : Nat := argG (joiP k) 8
def selO (k : Mk) (c : Ct) : Nat := argG (selP k c) 8
def lossP (k : Mk) (c : Ct) : Int := joiP k (joiO k) - joiP k (selO k c)
theorem joiO_le (k : Mk) : joiO k ≤ 8 := argG_le _ _
theorem selO_le (k : Mk) (c : Ct) : selO k c ≤ 8 := argG_le _ _
theorem loss_bd {k : Mk} (c : Ct) (h : GoodM k) : 0 ≤ lossP k c ∧ lossP k c ≤ 11404800 := by
  have h1 := argG_max (joiP k) 8 (selO k c) (selO_le k c)
  have h2 := joi_bd h (joiO_le k)
  have h3 := joi_bd h (selO_le k c)
  unfold lossP joiO at *
  omega
/-- The quotient order. -/
def quoO (k : Mk) : Nat := critF k.w (k.make - k.left) (k.price - k.make)
/-! Contracts in proportion. -/
def partP (k : Mk) (c : Ct) : Int := c.share * k.price - 100 * (k.left + c.back)
def propB (k : Mk) (c : Ct) : Bool := decide (0 < partP k c) && decide (partP k c * (k.left - k.make) = 100 * (k.left + c.back - c.pay) * (k.price - k.left))
theorem part_bd {k : Mk} {c : Ct} (h : GoodM k) (hc : GoodC c) : (0 ≤ c.share * k.price ∧ c.share * k.price ≤ 9900) ∧ (-19800 ≤ partP k c ∧ partP k c ≤ 9900) ∧ (-1960200 ≤ partP k c * (k.left - k.make) ∧ partP k c * (k.left - k.make) ≤ 1960200) ∧
    (-9900 ≤ 100 * (k.left + c.back - c.pay) ∧ 100 * (k.left + c.back - c.pay) ≤ 19800) ∧ (-1960200 ≤ 100 * (k.left + c.back - c.pay) * (k.price - k.left) ∧ 100 * (k.left + c.back - c.pay) * (k.price - k.left) ≤ 1960200) := by
  have h2 := h.price
  have h3 := h.make
  have h4 := h.left
  have h5 := hc.pay
  have h6 := hc.back
  have h7 := hc.share
  have p1 := mulI (a := c.share) (x := k.price) (A := 100) (B := 99) h7 (by omega)
  have p2 : -19800 ≤ partP k c ∧ partP k c ≤ 9900 := by unfold partP; omega
  have p3 := mulI (a := partP k c + 19800) (x := k.make - k.left) (A := 29700) (B := 99) (by omega) (by omega)
  have p4 := mulI (a := 9900 - partP k c) (x := k.make - k.left) (A := 29700) (B := 99) (by omega) (by omega)
  have p5 : -9900 ≤ 100 * (k.left + c.back - c.pay) ∧ 100 * (k.left + c.back - c.pay) ≤ 19800 := by omega
  have p6 := mulI (a := 100 * (k.left + c.back - c.pay) + 9900) (x := k.price - k.left) (A := 29700) (B := 99) (by omega) (by omega)
  have p7 := mulI (a := 19800 - 100 * (k.left + c.back - c.pay)) (x := k.price - k.left) (A := 29700) (B := 99) (by omega) (by omega)
  refine ⟨p1, p2, ?_, p5, ?_⟩
  · rw [show partP k c * (k.left - k.make) = -(partP k c * (k.make - k.left)) by rw [← Int.mul_neg]; congr 1; omega]
    rw [Int.add_mul] at p3
    rw [Int.sub_mul] at p4
    omega
  · rw [Int.add_mul] at p6
    rw [Int.sub_mul] at p7
    omega
theorem prop_price {k : Mk} {c : Ct} (h : GoodM k) (hc : GoodC c) (hp : propB k c = true) : k.left < k.price := by
  simp only [propB, Bool.and_eq_true, decide_eq_true_eq] at hp
  have h3 := h.make
  have h4 := h.left
  rcases Int.lt_or_le k.left k.price with e | e
  · exact e
  · have e1 : k.price = k.left := by omega
    have := hp.1
    unfold partP at this
    rw [e1] at this
    have h5 : c.share * k.left ≤ 100 * k.left := Int.mul_le_mul_of_nonneg_right hc.share.2 h4.1
    have := hc.back
    omega
theorem prop_uniq {k : Mk} {b s p q : Int} (hk : k.left < k.price) (h1 : propB k ⟨p, b, s⟩ = true) (h2 : propB k ⟨q, b, s⟩ = true) : p = q := by
  simp only [propB, Bool.and_eq_true, decide_eq_true_eq] at h1 h2
  have e : 100 * (k.left + b - p) * (k.price - k.left) = 100 * (k.left + b - q) * (k.price - k.left) := by
    rw [← h1.2, ← h2.2]; rfl
  have := Int.eq_of_mul_eq_mul_right (by omega) e
  omega
/-- The first pay below n that is in proportion. -/
def payN (k : Mk) (b s : Int) : Nat → Option Nat
  | 0 => none
  | n + 1 => match payN k b s n with
    | some p => some p
    | none => if propB k ⟨n, b, s⟩ then some n else none
theorem payN_some {k : Mk} {b s : Int} {n p : Nat} (h : payN k b s n = some p) : p < n ∧ propB k ⟨p, b, s⟩ = true := by
  induction n with
  | zero => cases h
  | succ n ih =>
    simp only [payN] at h
    cases e : payN k b s n with
    | some q => rw [e] at h; cases h; have := ih e; exact ⟨by omega, this.2⟩
    | none =>
      rw [e] at h
      by_cases hb : propB k ⟨n, b, s⟩
      · simp only [hb, if_true] at h; cases h; exact ⟨by omega, hb⟩
      · simp only [hb] at h; cases h
theorem payN_none {k : Mk} {b s : Int} {n : Nat} (h : payN k b s n = none) : ∀ j, j < n → propB k ⟨j, b, s⟩ = false := by
  induction n with
  | zero => intro j hj; omega
  | succ n ih =>
    simp only [payN] at h
    cases e : payN k b s n with
    | some q => rw [e] at h; cases h
    | none =>
      rw [e] at h
      intro j hj
      by_cases hb : propB k ⟨n, b, s⟩
      · simp only [hb, if_true] at h; cases h
      · by_cases ej : j = n
        · rw [ej]; simpa using hb
        · exact ih e j (by omega)
theorem payN_stay {k : Mk} {b s : Int} {n p : Nat} (h : payN k b s n = some p) : ∀ i, payN k b s (n + i) = some p := by
  intro i
  induction i with
  | zero => exact h
  | succ i ih => rw [← Nat.add_assoc]; simp only [payN, ih]
theorem payN_hit {k : Mk} {b s : Int} {n : Nat} (h : payN k b s n = none) (hb : propB k ⟨n, b, s⟩ = true) (i : Nat) : payN k b s (n + 1 + i) = some n := payN_stay (by simp only [payN, h, hb, if_true]) i
/-- All pays below n in proportion. -/
def paysL (k : Mk) (b s : Int) : Nat → List Ct
  | 0 => []
  | n + 1 => paysL k b s n ++ (if propB k ⟨n, b, s⟩ then [⟨n, b, s⟩] else [])
theorem paysL_is {k : Mk} {b s : Int} (hk : k.left < k.price ∨ ∀ p : Nat, propB k ⟨p, b, s⟩ = false) (n : Nat) : paysL k b s n = match payN k b s n with
    | some p => [⟨p, b, s⟩]
    | none => [] := by
  induction n with
  | zero => rfl
  | succ n ih =>
    simp only [paysL, payN]
    rw [ih]
    cases e : payN k b s n with
    | some p =>
      simp only
      have h1 := payN_some e
      have : propB k ⟨n, b, s⟩ = false := by
        cases hb : propB k ⟨n, b, s⟩ with
        | false => rfl
        | true =>
          rcases hk with hk | hk
          · have := prop_uniq hk h1.2 hb; omega
          · rw [hk n] at hb; cases hb
      rw [this]; rfl
    | none =>
      simp only [List.nil_append]
      by_cases hb : propB k ⟨n, b, s⟩ <;> simp [hb]
/-- All contracts in proportion with backs below n. -/
def backsL (k : Mk) : Nat → List Ct
  | 0 => []
  | n + 1 => backsL k n ++ paysL k n 100 100
theorem paysL_len {k : Mk} {b s : Int} (hk : k.left < k.price ∨ ∀ p : Nat, propB k ⟨p, b, s⟩ = false) (n : Nat) : (paysL k b s n).length ≤ 1 := by
  rw [paysL_is hk]
  split <;> simp
theorem no_prop {k : Mk} (h : GoodM k) {b s : Int} (hb : 0 ≤ b ∧ b ≤ 99) (hs : 0 ≤ s ∧ s ≤ 100) : k.left < k.price ∨ ∀ p : Nat, p < 100 → propB k ⟨p, b, s⟩ = false := by
  rcases Int.lt_or_le k.left k.price with e | e
  · exact .inl e
  · refine .inr fun p hp => ?_
    cases hb2 : propB k ⟨p, b, s⟩ with
    | false => rfl
    | true => have := prop_price h (c := ⟨p, b, s⟩) ⟨by simp; omega, hb, hs⟩ hb2; omega
/-- In proportion it never is where a piece left is worth the price: whatever the pay. -/
theorem no_prop' {k : Mk} (h : GoodM k) {b s : Int} (hb : 0 ≤ b ∧ b ≤ 99) (hs : 0 ≤ s ∧ s ≤ 100) : k.left < k.price ∨ ∀ p : Nat, propB k ⟨p, b, s⟩ = false := by
  rcases Int.lt_or_le k.left k.price with e | e
  · exact .inl e
  · refine .inr fun p => ?_
    have h3 := h.make
    have h4 := h.left
    have e1 : k.price = k.left := by omega
    have h5 : s * k.left ≤ 100 * k.left := Int.mul_le_mul_of_nonneg_right hs.2 h4.1
    have : ¬ (0 < partP k ⟨p, b, s⟩) := by
      simp only [partP]
      rw [e1]
      omega
    simp [propB, this]
theorem backsL_len {k : Mk} (h : GoodM k) (n : Nat) (hn : n ≤ 100) : (backsL k n).length ≤ n := by
  induction n with
  | zero => simp [backsL]
  | succ n ih =>
    have := ih (by omega)
    have := paysL_len (no_prop' h (b := (n : Int)) (s := 100) (by omega) (by omega)) 100
    simp only [backsL, List.length_append]
    omega
/-! Plain prices. -/
def plainC (p : Int) : Ct := ⟨p, 0, 100⟩
def plainP (k : Mk) (i : Nat) : Int × Int := ((selO k (plainC (k.make + i)) : Int), makP k (plainC (k.make + i)) (selO k (plainC (k.make + i))))
def plainsL (k : Mk) (n : Nat) : List (Int × Int) := (List.range n).map (plainP k)
def plainN (k : Mk) : Nat := (k.price - k.make + 1).toNat
def bestPl (k : Mk) : Int := k.make + (argG (fun i => (plainP k i).2) (plainN k - 1) : Int)
theorem plainsL_len (k : Mk) (n : Nat) : (plainsL k n).length = n := by simp [plainsL]
theorem plainsL_s (k : Mk) (n : Nat) : plainsL k (n + 1) = plainsL k n ++ [plainP k n] := by simp [plainsL, List.range_succ]
theorem plainsL_at {k : Mk} {n i : Nat} (h : i < n) : (plainsL k n).getD i (0, 0) = plainP k i := by simp [plainsL, List.getD_eq_getElem?_getD, h]
end Go.Proofs.Ytdcheilmjooacaa
