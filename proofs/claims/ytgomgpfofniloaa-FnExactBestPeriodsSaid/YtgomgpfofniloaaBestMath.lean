/- Plans from order periods, lists of order periods and their order. -/
import Derived.Test.YtgomgpfofniloaaTabMath
namespace Go.Proofs.Ytgomgpfofniloaa
set_option linter.unusedVariables false
set_option linter.unusedSimpArgs false

/-- Rising numbers below n. -/
structure Rising (ps : List Int) (n : Nat) : Prop where
  bd : ∀ i, i < ps.length → 0 ≤ ps.getD i 0 ∧ ps.getD i 0 < n
  up : ∀ i, i + 1 < ps.length → ps.getD i 0 < ps.getD (i + 1) 0
/-- Where the span of the i-th order ends. -/
def nxtP (n : Nat) (ps : List Int) (i : Nat) : Nat := if i + 1 < ps.length then (ps.getD (i + 1) 0).toNat else n
theorem nxtP_in {n : Nat} {ps : List Int} (h : Rising ps n) {i : Nat} (hi : i < ps.length) : (ps.getD i 0).toNat ≤ nxtP n ps i ∧ nxtP n ps i ≤ n := by
  have h1 := h.bd i hi
  unfold nxtP
  by_cases h2 : i + 1 < ps.length
  · rw [if_pos h2]
    have := h.bd (i + 1) h2
    have := h.up i h2
    omega
  · rw [if_neg h2]; omega
/-- The plan from the first i orders. -/
def fromI (need ps : List Int) : Nat → List Int
  | 0 => List.replicate need.length 0
  | i + 1 => (fromI need ps i).set (ps.getD i 0).toNat (sumR need (ps.getD i 0).toNat (nxtP need.length ps i))
def fromL (need ps : List Int) : List Int := fromI need ps ps.length
theorem fromI_len (need ps : List Int) (i : Nat) : (fromI need ps i).length = need.length := by
  induction i with
  | zero => simp [fromI]
  | succ i ih => rw [fromI, List.length_set, ih]
theorem fromI_in {need ps : List Int} (hn : ∀ x ∈ need, 0 ≤ x ∧ x ≤ 20) (h8 : need.length ≤ 8) (h : Rising ps need.length) (i : Nat) (hi : i ≤ ps.length) : ∀ x ∈ fromI need ps i, 0 ≤ x ∧ x ≤ 160 := by
  induction i with
  | zero => intro x hx; rw [fromI] at hx; have := List.eq_of_mem_replicate hx; omega
  | succ i ih =>
    intro x hx
    rw [fromI] at hx
    have h1 := nxtP_in h (i := i) (by omega)
    rcases List.mem_or_eq_of_mem_set hx with h2 | h2
    · exact ih (by omega) x h2
    · have a := sumR_nn (m := 20) (by omega) hn h1.1
      have b := sumR_le8 (m := 20) (by omega) hn h1.1 (by omega)
      omega
theorem fromL_len (need ps : List Int) : (fromL need ps).length = need.length := fromI_len _ _ _
theorem fromL_in {need ps : List Int} (hn : ∀ x ∈ need, 0 ≤ x ∧ x ≤ 20) (h8 : need.length ≤ 8) (h : Rising ps need.length) : ∀ x ∈ fromL need ps, 0 ≤ x ∧ x ≤ 160 := fromI_in hn h8 h _ (Nat.le_refl _)
/-- Nothing is needed before the first order. -/
def covers (need ps : List Int) : Bool := decide (∀ t, t < need.length → (t : Int) < ps.headD need.length → need.getD t 0 ≤ 0)
theorem covers_yes {need ps : List Int} {t : Nat} (ht : t ≤ need.length) (h : ∀ j, j < t → need.getD j 0 ≤ 0) (he : t = need.length ∨ (0 < ps.length ∧ ps.getD 0 0 ≤ t)) : covers need ps = true := by
  refine decide_eq_true fun j hj hl => ?_
  rcases he with he | ⟨h1, h2⟩
  · exact h j (by omega)
  · refine h j ?_
    cases ps with
    | nil => simp at h1
    | cons p ps =>
      have a : p ≤ t := h2
      have b : (j : Int) < p := hl
      omega
theorem covers_no {need ps : List Int} {t : Nat} (ht : t < need.length) (hn : 0 < need.getD t 0) (hf : ¬ (0 < ps.length ∧ ps.getD 0 0 ≤ t)) : covers need ps = false := by
  refine decide_eq_false fun h => ?_
  have := h t ht ?_
  · omega
  · cases ps with
    | nil => show (t : Int) < need.length; omega
    | cons p ps => exact Int.not_le.1 fun hh => hf ⟨by simp, hh⟩
/-- The numbers below x whose digits in the code are 1. -/
def bitsL (c : Nat) : Nat → List Int
  | 0 => []
  | x + 1 => if c / 2 ^ x % 2 = 1 then bitsL c x ++ [(x : Int)] else bitsL c x
theorem bitsL_len (c x : Nat) : (bitsL c x).length ≤ x := by
  induction x with
  | zero => simp [bitsL]
  | succ x ih =>
    rw [bitsL]
    split
    · rw [List.length_append]; simp only [List.length_cons, List.length_nil]; omega
    · omega
theorem bitsL_mem (c x : Nat) : ∀ y ∈ bitsL c x, 0 ≤ y ∧ y < (x : Int) := by
  induction x with
  | zero => intro y hy; simp [bitsL] at hy
  | succ x ih =>
    intro y hy
    rw [bitsL] at hy
    split at hy
    · rcases List.mem_append.1 hy with h | h
      · have := ih y h; omega
      · simp at h; omega
    · have := ih y hy; omega
theorem getD_app_l (l r : List Int) {i : Nat} (h : i < l.length) : (l ++ r).getD i 0 = l.getD i 0 := by
  rw [List.getD_eq_getElem?_getD, List.getElem?_append_left h, ← List.getD_eq_getElem?_getD]
theorem getD_app_one (l : List Int) (x : Int) : (l ++ [x]).getD l.length 0 = x := by simp [List.getD_eq_getElem?_getD]
theorem getD_mem {l : List Int} {i : Nat} (h : i < l.length) : l.getD i 0 ∈ l := by
  rw [List.getD_eq_getElem?_getD, List.getElem?_eq_getElem h]; exact List.getElem_mem h
theorem bitsL_rising (c x : Nat) : Rising (bitsL c x) x := by
  refine ⟨fun i hi => bitsL_mem c x _ (getD_mem hi), ?_⟩
  induction x with
  | zero => intro i hi; simp [bitsL] at hi
  | succ x ih =>
    intro i hi
    rw [bitsL] at hi ⊢
    by_cases hb : c / 2 ^ x % 2 = 1
    · rw [if_pos hb] at hi ⊢
      simp only [List.length_append, List.length_cons, List.length_nil] at hi
      rw [getD_app_l _ _ (by omega)]
      by_cases h2 : i + 1 < (bitsL c x).length
      · rw [getD_app_l _ _ h2]; exact ih i h2
      · have e : i + 1 = (bitsL c x).length := by omega
        rw [e, getD_app_one]
        exact (bitsL_mem c x _ (getD_mem (by omega))).2
    · rw [if_neg hb] at hi ⊢; exact ih i hi
/-- The first difference of two lists decides. -/
def lexB : List Int → List Int → Bool
  | x :: xs, y :: ys => if x = y then lexB xs ys else decide (x < y)
  | _, _ => false
def beforeB (a b : List Int) : Bool := if a.length = b.length then lexB a b else decide (a.length < b.length)
theorem lexB_drop {a b : List Int} {i : Nat} (ha : i < a.length) (hb : i < b.length) : lexB (a.drop i) (b.drop i) = if a.getD i 0 = b.getD i 0 then lexB (a.drop (i + 1)) (b.drop (i + 1)) else decide (a.getD i 0 < b.getD i 0) := by
  rw [List.drop_eq_getElem_cons ha, List.drop_eq_getElem_cons hb, lexB]
  simp [List.getD_eq_getElem?_getD, ha, hb]
/-- One more list against the best so far. -/
def stepB (k : Cs) (b : List Int × Int) (ps : List Int) : List Int × Int :=
  if covers k.need ps then
    (if b.2 < 0 ∨ costOf k (fromL k.need ps) < b.2 ∨ (costOf k (fromL k.need ps) = b.2 ∧ beforeB ps b.1 = true) then (ps, costOf k (fromL k.need ps)) else b)
  else b
def bestC (k : Cs) : Nat → List Int × Int
  | 0 => ([], -1)
  | c + 1 => stepB k (bestC k c) (bitsL c k.need.length)
def bestL (k : Cs) : List Int := (bestC k (2 ^ k.need.length)).1
theorem bestC_rising (k : Cs) (c : Nat) : Rising (bestC k c).1 k.need.length := by
  induction c with
  | zero => exact ⟨fun i hi => absurd hi (by simp [bestC]), fun i hi => absurd hi (by simp [bestC])⟩
  | succ c ih =>
    rw [bestC, stepB]
    split
    · split
      · exact bitsL_rising _ _
      · exact ih
    · exact ih
theorem bestC_len (k : Cs) (c : Nat) : (bestC k c).1.length ≤ k.need.length := by
  induction c with
  | zero => simp [bestC]
  | succ c ih =>
    rw [bestC, stepB]
    split
    · split
      · exact bitsL_len _ _
      · exact ih
    · exact ih
def bestCost (k : Cs) : Int := costOf k (fromL k.need (bestL k))
end Go.Proofs.Ytgomgpfofniloaa
