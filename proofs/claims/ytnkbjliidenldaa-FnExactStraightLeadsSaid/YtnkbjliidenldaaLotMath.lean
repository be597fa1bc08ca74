/- Lots and plans as lists of integers: cases, stocks, plans, the parts of a cost. -/
import Derived.WalkKit
namespace Go.Proofs.Ytnkbjliidenldaa
set_option linter.unusedVariables false

/-- n numbers of 0..most. -/
def rowB (l : List Int) (n : Nat) (most : Int) : Bool := l.all (fun x => decide (0 ≤ x) && decide (x ≤ most)) && decide (l.length = n)
theorem rowB_iff {l : List Int} {n : Nat} {most : Int} : rowB l n most = true ↔ (∀ x ∈ l, 0 ≤ x ∧ x ≤ most) ∧ l.length = n := by
  simp [rowB]

/-- A case: four lists. -/
structure Cs where
  need : List Int
  setup : List Int
  unit : List Int
  hold : List Int
def Cs.good (c : Cs) : Bool := decide (c.need.length ≤ 8) && rowB c.need c.need.length 20 && rowB c.setup c.need.length 99 && rowB c.unit c.need.length 9 && rowB c.hold c.need.length 9
structure Good (c : Cs) : Prop where
  n8 : c.need.length ≤ 8
  need : ∀ x ∈ c.need, 0 ≤ x ∧ x ≤ 20
  setup : ∀ x ∈ c.setup, 0 ≤ x ∧ x ≤ 99
  unit : ∀ x ∈ c.unit, 0 ≤ x ∧ x ≤ 9
  hold : ∀ x ∈ c.hold, 0 ≤ x ∧ x ≤ 9
  ls : c.setup.length = c.need.length
  lu : c.unit.length = c.need.length
  lh : c.hold.length = c.need.length
theorem good_iff {c : Cs} : c.good = true ↔ Good c := by
  simp only [Cs.good, Bool.and_eq_true, decide_eq_true_eq, rowB_iff]
  constructor
  · rintro ⟨⟨⟨⟨h1, h2, _⟩, h3, h4⟩, h5, h6⟩, h7, h8⟩
    exact ⟨h1, h2, h3, h5, h7, h4, h6, h8⟩
  · rintro ⟨h1, h2, h3, h5, h7, h4, h6, h8⟩
    exact ⟨⟨⟨⟨h1, h2, by trivial⟩, h3, h4⟩, h5, h6⟩, h7, h8⟩

theorem at_mem {α : Type} {l : List α} {P : α → Prop} (h : ∀ x ∈ l, P x) {k : Nat} {x : α} (hk : l[k]? = some x) : P x := h x (List.mem_of_getElem? hk)
theorem getD_at {l : List Int} {k : Nat} {x : Int} (h : l[k]? = some x) : l.getD k 0 = x := by
  rw [List.getD_eq_getElem?_getD, h]; rfl

/-- The sum of the first k numbers. -/
def sumTo (l : List Int) (k : Nat) : Int := (l.take k).sum
theorem sumTo_zero (l : List Int) : sumTo l 0 = 0 := rfl
theorem sumTo_succ {l : List Int} {k : Nat} {x : Int} (h : l[k]? = some x) : sumTo l (k + 1) = sumTo l k + x := by
  obtain ⟨hk, rfl⟩ := List.getElem?_eq_some_iff.1 h
  unfold sumTo
  rw [List.take_succ_eq_append_getElem hk, List.sum_append]
  simp
theorem sumTo_all {l : List Int} {k : Nat} (h : l.length ≤ k) : sumTo l k = l.sum := by
  unfold sumTo; rw [List.take_of_length_le h]
theorem sumTo_bound {l : List Int} {m : Int} (hm : 0 ≤ m) (h : ∀ x ∈ l, 0 ≤ x ∧ x ≤ m) (k : Nat) : 0 ≤ sumTo l k ∧ sumTo l k ≤ m * k := by
  induction k with
  | zero => simp [sumTo]
  | succ k ih =>
    by_cases hk : k < l.length
    · have h1 := sumTo_succ (List.getElem?_eq_getElem hk)
      have h2 := h _ (List.getElem_mem hk)
      rw [h1]
      have : m * ((k + 1 : Nat) : Int) = m * k + m := by rw [Int.natCast_add, Int.mul_add]; simp
      omega
    · have h1 : sumTo l (k + 1) = sumTo l k := by rw [sumTo_all (by omega), sumTo_all (by omega)]
      rw [h1]
      have : m * ((k + 1 : Nat) : Int) = m * k + m := by rw [Int.natCast_add, Int.mul_add]; simp
      omega
theorem sumTo_mono {l : List Int} (h : ∀ x ∈ l, 0 ≤ x) {j k : Nat} (hjk : j ≤ k) : sumTo l j ≤ sumTo l k := by
  induction k with
  | zero => obtain rfl : j = 0 := by omega
            exact Int.le_refl _
  | succ k ih =>
    rcases Nat.lt_or_ge j (k + 1) with h1 | h1
    · have := ih (by omega)
      by_cases hk : k < l.length
      · have h2 := sumTo_succ (List.getElem?_eq_getElem hk)
        have h3 := h _ (List.getElem_mem hk)
        omega
      · rw [show sumTo l (k + 1) = sumTo l k by rw [sumTo_all (by omega), sumTo_all (by omega)]]
        exact this
    · obtain rfl : j = k + 1 := by omega
      exact Int.le_refl _

/-- The stock after a period. -/
def stk (plan need : List Int) (t : Nat) : Int := sumTo plan (t + 1) - sumTo need (t + 1)
def stocksTo (plan need : List Int) (k : Nat) : List Int := (List.range k).map (stk plan need)
def stocksL (plan need : List Int) : List Int := stocksTo plan need plan.length
theorem stocksTo_zero (plan need : List Int) : stocksTo plan need 0 = [] := rfl
theorem stocksTo_succ (plan need : List Int) (k : Nat) : stocksTo plan need (k + 1) = stocksTo plan need k ++ [stk plan need k] := by
  simp [stocksTo, List.range_succ]
theorem stocksTo_len (plan need : List Int) (k : Nat) : (stocksTo plan need k).length = k := by simp [stocksTo]
theorem stocksTo_at {plan need : List Int} {k t : Nat} (h : t < k) : (stocksTo plan need k)[t]? = some (stk plan need t) := by
  simp [stocksTo, h]

def Plan (c : Cs) (plan : List Int) : Prop :=
  plan.length = c.need.length ∧ (∀ x ∈ plan, 0 ≤ x ∧ x ≤ 160) ∧ (∀ t, t < plan.length → 0 ≤ stk plan c.need t) ∧ sumTo plan plan.length = sumTo c.need plan.length
def planB (c : Cs) (plan : List Int) : Bool :=
  rowB plan c.need.length 160 && (stocksL plan c.need).all (fun x => decide (0 ≤ x)) && decide (sumTo plan plan.length = sumTo c.need plan.length)
theorem planB_iff {c : Cs} {plan : List Int} : planB c plan = true ↔ Plan c plan := by
  simp only [planB, Bool.and_eq_true, decide_eq_true_eq, rowB_iff, Plan, stocksL, stocksTo]
  constructor
  · rintro ⟨⟨⟨h1, h2⟩, h3⟩, h4⟩
    refine ⟨h2, h1, fun t ht => ?_, h4⟩
    rw [List.all_eq_true] at h3
    have := h3 (stk plan c.need t) (List.mem_map.2 ⟨t, List.mem_range.2 ht, rfl⟩)
    simpa using this
  · rintro ⟨h2, h1, h3, h4⟩
    refine ⟨⟨⟨h1, h2⟩, ?_⟩, h4⟩
    rw [List.all_eq_true]
    intro x hx
    obtain ⟨t, ht, rfl⟩ := List.mem_map.1 hx
    simpa using h3 t (List.mem_range.1 ht)
def two (c : Cs) (plan : List Int) : Bool := c.good && planB c plan

/-- A plan's numbers are no greater than all needs. -/
theorem plan_le {c : Cs} {plan : List Int} (h : Plan c plan) : ∀ x ∈ plan, x ≤ sumTo c.need c.need.length := by
  intro x hx
  obtain ⟨h1, h2, h3, h4⟩ := h
  obtain ⟨k, hk⟩ := List.mem_iff_getElem?.1 hx
  have hk2 : k < plan.length := (List.getElem?_eq_some_iff.1 hk).1
  have e := sumTo_succ hk
  have m1 := sumTo_mono (fun x hx => (h2 x hx).1) (j := k + 1) (k := plan.length) (by omega)
  have m0 := (sumTo_bound (by omega) h2 k).1
  rw [h1] at h4 m1
  omega

/-- The parts of the cost of the first k periods. -/
def cSet (c : Cs) (plan : List Int) : Nat → Int
  | 0 => 0
  | k + 1 => if 0 < plan.getD k 0 then cSet c plan k + c.setup.getD k 0 else cSet c plan k
def cUnit (c : Cs) (plan : List Int) : Nat → Int
  | 0 => 0
  | k + 1 => cUnit c plan k + c.unit.getD k 0 * plan.getD k 0
def cHold (c : Cs) (plan : List Int) : Nat → Int
  | 0 => 0
  | k + 1 => cHold c plan k + c.hold.getD k 0 * stk plan c.need k
theorem getD_bound {l : List Int} {m : Int} (hm : 0 ≤ m) (h : ∀ x ∈ l, 0 ≤ x ∧ x ≤ m) (k : Nat) : 0 ≤ l.getD k 0 ∧ l.getD k 0 ≤ m := by
  rw [List.getD_eq_getElem?_getD]
  cases hk : l[k]? with
  | none => simp [hm]
  | some x => simpa using at_mem h hk
theorem mul_bound {a b m n : Int} (ha : 0 ≤ a) (ha2 : a ≤ m) (hb : 0 ≤ b) (hb2 : b ≤ n) : 0 ≤ a * b ∧ a * b ≤ m * n :=
  ⟨Int.mul_nonneg ha hb, Int.le_trans (Int.mul_le_mul_of_nonneg_right ha2 hb) (Int.mul_le_mul_of_nonneg_left hb2 (by omega))⟩
theorem stk_bound {c : Cs} {plan : List Int} (hg : Good c) (hp : ∀ x ∈ plan, 0 ≤ x ∧ x ≤ 160) (k : Nat) (hk : k < 9) : -180 ≤ stk plan c.need k ∧ stk plan c.need k ≤ 1440 := by
  have h1 := sumTo_bound (m := 160) (by omega) hp (k + 1)
  have h2 := sumTo_bound (m := 20) (by omega) hg.need (k + 1)
  unfold stk
  omega
theorem cSet_bound {c : Cs} {plan : List Int} (hg : Good c) (k : Nat) : 0 ≤ cSet c plan k ∧ cSet c plan k ≤ 99 * k := by
  induction k with
  | zero => simp [cSet]
  | succ k ih =>
    have := getD_bound (m := 99) (by omega) hg.setup k
    rw [cSet]
    split <;> omega
theorem cUnit_bound {c : Cs} {plan : List Int} (hg : Good c) (hp : ∀ x ∈ plan, 0 ≤ x ∧ x ≤ 160) (k : Nat) : 0 ≤ cUnit c plan k ∧ cUnit c plan k ≤ 1440 * k := by
  induction k with
  | zero => simp [cUnit]
  | succ k ih =>
    have h1 := getD_bound (m := 9) (by omega) hg.unit k
    have h2 := getD_bound (m := 160) (by omega) hp k
    have := mul_bound h1.1 h1.2 h2.1 h2.2
    rw [cUnit]
    omega
theorem cHold_bound {c : Cs} {plan : List Int} (hg : Good c) (hp : ∀ x ∈ plan, 0 ≤ x ∧ x ≤ 160) (k : Nat) (hk : k ≤ 9) : -1620 * k ≤ cHold c plan k ∧ cHold c plan k ≤ 12960 * k := by
  induction k with
  | zero => simp [cHold]
  | succ k ih =>
    have h1 := getD_bound (m := 9) (by omega) hg.hold k
    have h2 := stk_bound hg hp k (by omega)
    have ih := ih (by omega)
    have h3 : -1620 ≤ c.hold.getD k 0 * stk plan c.need k ∧ c.hold.getD k 0 * stk plan c.need k ≤ 12960 := by
      rcases Int.le_total 0 (stk plan c.need k) with h | h
      · have := mul_bound h1.1 h1.2 h h2.2
        omega
      · have := mul_bound h1.1 h1.2 (b := - stk plan c.need k) (n := 180) (by omega) (by omega)
        rw [Int.mul_neg] at this
        omega
    rw [cHold]
    omega
/-- The cost of a plan. -/
def costOf (c : Cs) (plan : List Int) : Int := cSet c plan plan.length + cUnit c plan plan.length + cHold c plan plan.length
end Go.Proofs.Ytnkbjliidenldaa
