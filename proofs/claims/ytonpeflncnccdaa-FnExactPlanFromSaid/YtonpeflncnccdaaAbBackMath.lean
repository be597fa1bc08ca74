/- A plan filled from its last order on is the plan filled from its first. -/
import Derived.Test.YtonpeflncnccdaaBestMath
namespace Go.Proofs.Ytonpeflncnccdaa.Ab
open Go
/-- The plan when the k last orders are in. -/
def backI (need ps : List Int) : Nat → List Int
  | 0 => List.replicate need.length 0
  | k + 1 => (backI need ps k).set (ps.getD (ps.length - 1 - k) 0).toNat (sumR need (ps.getD (ps.length - 1 - k) 0).toNat (nxtP need.length ps (ps.length - 1 - k)))
theorem backI_len (need ps : List Int) (k : Nat) : (backI need ps k).length = need.length := by
  induction k with
  | zero => simp [backI]
  | succ k ih => rw [backI, List.length_set, ih]
/-- Where the order that was filled last begins. -/
def endB (n : Nat) (ps : List Int) (k : Nat) : Nat := if k = 0 then n else (ps.getD (ps.length - k) 0).toNat
theorem endB_nxt (n : Nat) (ps : List Int) {k : Nat} (h : k < ps.length) : endB n ps k = nxtP n ps (ps.length - 1 - k) := by
  unfold endB nxtP
  by_cases h0 : k = 0
  · rw [if_pos h0, if_neg (by omega)]
  · rw [if_neg h0, if_pos (by omega), show ps.length - 1 - k + 1 = ps.length - k by omega]
theorem endB_s (n : Nat) (ps : List Int) (k : Nat) : endB n ps (k + 1) = (ps.getD (ps.length - 1 - k) 0).toNat := by
  unfold endB
  rw [if_neg (by omega), show ps.length - (k + 1) = ps.length - 1 - k by omega]
theorem endB_in {n : Nat} {ps : List Int} (h : Rising ps n) {k : Nat} (hk : k ≤ ps.length) : endB n ps k ≤ n := by
  unfold endB
  split
  · omega
  · have := h.bd (ps.length - k) (by omega); omega
theorem backI_no {need ps : List Int} (h : Rising ps need.length) {t : Nat} : ∀ k, k ≤ ps.length → (∀ j, ps.length - k ≤ j → j < ps.length → ps.getD j 0 ≠ t) → (backI need ps k).getD t 0 = 0 := by
  intro k
  induction k with
  | zero => intro _ _; rw [backI, List.getD_eq_getElem?_getD, List.getElem?_replicate]; split <;> rfl
  | succ k ih =>
    intro hk hne
    have h1 := h.bd (ps.length - 1 - k) (by omega)
    have h2 := hne (ps.length - 1 - k) (by omega) (by omega)
    rw [backI, List.getD_eq_getElem?_getD, List.getElem?_set_ne (by omega), ← List.getD_eq_getElem?_getD]
    exact ih (by omega) fun j hj hj2 => hne j (by omega) hj2
theorem backI_at {need ps : List Int} (h : Rising ps need.length) {j : Nat} (hj : j < ps.length) : ∀ k, k ≤ ps.length → ps.length - k ≤ j → (backI need ps k).getD (ps.getD j 0).toNat 0 = sumR need (ps.getD j 0).toNat (nxtP need.length ps j) := by
  intro k
  induction k with
  | zero => intro _ hk; omega
  | succ k ih =>
    intro hk hkj
    have h1 := h.bd (ps.length - 1 - k) (by omega)
    rw [backI]
    by_cases e : j = ps.length - 1 - k
    · subst e
      rw [List.getD_eq_getElem?_getD, List.getElem?_set_self (by rw [backI_len]; omega)]
      rfl
    · have h2 := h.lt (i := ps.length - 1 - k) (j := j) (by omega) (by omega)
      have h3 := h.bd j (by omega)
      rw [List.getD_eq_getElem?_getD, List.getElem?_set_ne (by omega), ← List.getD_eq_getElem?_getD]
      exact ih (by omega) (by omega)
theorem back_from {need ps : List Int} (h : Rising ps need.length) : backI need ps ps.length = fromL need ps := by
  have key : ∀ t, t < need.length → (backI need ps ps.length).getD t 0 = (fromL need ps).getD t 0 := by
    intro t ht
    by_cases hex : ∃ j, j < ps.length ∧ ps.getD j 0 = (t : Int)
    · obtain ⟨j, hj, hjt⟩ := hex
      have hb : beg need.length ps j = t := by unfold beg; rw [if_pos hj]; omega
      have h1 := backI_at h hj ps.length (Nat.le_refl _) (by omega)
      have h2 := fromI_at h (j := j) ps.length (Nat.le_refl _) hj
      rw [hb] at h2
      rw [show (ps.getD j 0).toNat = t by omega] at h1
      rw [h1]
      unfold fromL
      rw [h2, nxt_beg]
    · have hno : ∀ j, j < ps.length → ps.getD j 0 ≠ (t : Int) := fun j hj e => hex ⟨j, hj, e⟩
      rw [backI_no h ps.length (Nat.le_refl _) fun j _ hj => hno j hj]
      exact (fromI_no h ps.length (Nat.le_refl _) hno).symm
  refine List.ext_getElem (by rw [backI_len, fromL_len]) fun i h1 h2 => ?_
  have := key i (by rw [backI_len] at h1; exact h1)
  rw [List.getD_eq_getElem?_getD, List.getD_eq_getElem?_getD, List.getElem?_eq_getElem h1, List.getElem?_eq_getElem h2] at this
  exact this
/-- The needs ahead of the first order. -/
theorem covers_end {need ps : List Int} {b : Int} (hb : 0 ≤ b) (hn : ∀ x ∈ need, 0 ≤ x ∧ x ≤ b) (h : Rising ps need.length) : (0 < sumR need 0 (endB need.length ps ps.length)) ↔ covers need ps = false := by
  have he := endB_in h (Nat.le_refl ps.length)
  obtain ⟨e, hee⟩ : ∃ e, e = endB need.length ps ps.length := ⟨_, rfl⟩
  have hhd : ∀ t : Nat, t < need.length → ((t : Int) < ps.headD need.length ↔ t < e) := by
    intro t ht
    rw [hee]
    unfold endB
    cases ps with
    | nil => simp
    | cons p ps =>
      have := h.bd 0 (by simp)
      simp at this
      simp
  rw [← hee]
  constructor
  · intro hs
    rw [← Bool.not_eq_true]
    intro hc
    have hc := of_decide_eq_true hc
    have hz : ∀ j, j ≤ e → sumR need 0 j = 0 := by
      intro j
      induction j with
      | zero => intro _; exact sumR_self _ _
      | succ j ih =>
        intro hj
        rw [sumR_s, ih (by omega)]
        have h1 := hc j (by omega) ((hhd j (by omega)).2 (by omega))
        have h2 := (hn (need.getD j 0) (by rw [List.getD_eq_getElem?_getD, List.getElem?_eq_getElem (by omega)]; exact List.getElem_mem _)).1
        omega
    have := hz e (Nat.le_refl _)
    omega
  · intro hc
    have hc := of_decide_eq_false hc
    have : ∃ t, t < need.length ∧ (t : Int) < ps.headD need.length ∧ ¬ need.getD t 0 ≤ 0 := by
      apply Classical.byContradiction
      intro hno
      exact hc fun t h1 h2 => Classical.byContradiction fun h3 => hno ⟨t, h1, h2, h3⟩
    obtain ⟨t, h1, h2, h3⟩ := this
    have ht := (hhd t h1).1 h2
    have e1 := sumR_add need 0 t e
    have e2 := sumR_h need t e
    have e3 := sumR_nn hb hn (i := 0) (j := t) (by omega)
    have e4 := sumR_nn hb hn (i := t + 1) (j := e) (by omega)
    omega
end Go.Proofs.Ytonpeflncnccdaa.Ab
