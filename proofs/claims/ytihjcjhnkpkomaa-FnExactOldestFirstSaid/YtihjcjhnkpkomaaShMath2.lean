/- Shelves: issues that take the oldest units first, or the newest ones. -/
import Derived.Test.YtihjcjhnkpkomaaShMath
namespace Go.Proofs.Ytihjcjhnkpkomaa
set_option linter.unusedVariables false

/-- The k-th period of arrival that is looked at. -/
def colO (newest : Bool) (t k : Nat) : Nat := if newest then t - k else k
theorem colO_le {newest : Bool} {t k : Nat} (h : k ≤ t) : colO newest t k ≤ t := by unfold colO; split <;> omega
theorem colO_inj {newest : Bool} {t j k : Nat} (hj : j < k) (hk : k ≤ t) : colO newest t j ≠ colO newest t k := by unfold colO; split <;> omega
/-- What there is of units and of the need, and the row. -/
structure Gs where
  A : List Int
  r : Int
  row : List Int
def takeG (life : Int) (t f : Nat) (g : Gs) : Int := if usB life f t then min (g.A.getD f 0) g.r else 0
def stepG (life : Int) (t f : Nat) (g : Gs) : Gs := ⟨g.A.set f (g.A.getD f 0 - takeG life t f g), g.r - takeG life t f g, g.row.set f (takeG life t f g)⟩
def rowG (life : Int) (newest : Bool) (t : Nat) (g : Gs) : Nat → Gs
  | 0 => g
  | k + 1 => stepG life t (colO newest t k) (rowG life newest t g k)
def allG (s : Sh) (newest : Bool) : Nat → List Int × List (List Int)
  | 0 => (s.arr, [])
  | t + 1 => ((rowG s.life newest t ⟨(allG s newest t).1, s.need.getD t 0, List.replicate s.need.length 0⟩ (t + 1)).A, (allG s newest t).2 ++ [(rowG s.life newest t ⟨(allG s newest t).1, s.need.getD t 0, List.replicate s.need.length 0⟩ (t + 1)).row])
/-- The state in period t when k periods of arrival are looked at. -/
def gAt (s : Sh) (newest : Bool) (t k : Nat) : Gs := rowG s.life newest t ⟨(allG s newest t).1, s.need.getD t 0, List.replicate s.need.length 0⟩ k
theorem gAt_s (s : Sh) (newest : Bool) (t k : Nat) : gAt s newest t (k + 1) = stepG s.life t (colO newest t k) (gAt s newest t k) := rfl
theorem allG_s (s : Sh) (newest : Bool) (t : Nat) : allG s newest (t + 1) = ((gAt s newest t (t + 1)).A, (allG s newest t).2 ++ [(gAt s newest t (t + 1)).row]) := rfl
theorem allG_len (s : Sh) (newest : Bool) (t : Nat) : (allG s newest t).2.length = t := by
  induction t with
  | zero => rfl
  | succ t ih => rw [allG_s]; simp [ih]
structure GsOk (n : Nat) (g : Gs) : Prop where
  la : g.A.length = n
  lr : g.row.length = n
  a : ∀ f, f < n → 0 ≤ g.A.getD f 0 ∧ g.A.getD f 0 ≤ 20
  r : 0 ≤ g.r ∧ g.r ≤ 20
  row : ∀ f, f < n → 0 ≤ g.row.getD f 0 ∧ g.row.getD f 0 ≤ 20
theorem takeG_bd {n : Nat} {g : Gs} (h : GsOk n g) {life : Int} {t f : Nat} (hf : f < n) : 0 ≤ takeG life t f g ∧ takeG life t f g ≤ g.A.getD f 0 ∧ takeG life t f g ≤ g.r := by
  have := h.a f hf
  have := h.r
  unfold takeG
  split <;> omega
theorem GsOk.step {n : Nat} {g : Gs} (h : GsOk n g) {life : Int} {t f : Nat} (hf : f < n) : GsOk n (stepG life t f g) := by
  have b := takeG_bd h (life := life) (t := t) hf
  have la := h.la
  have lr := h.lr
  have r := h.r
  refine ⟨by simp [stepG, la], by simp [stepG, lr], fun q hq => ?_, by simp only [stepG]; omega, fun q hq => ?_⟩
  · simp only [stepG]
    rw [setD9 (by omega)]
    have := h.a f hf
    have := h.a q hq
    split <;> omega
  · simp only [stepG]
    rw [setD9 (by omega)]
    have := h.a f hf
    have := h.row q hq
    split <;> omega
theorem rowG_ok {n : Nat} {g : Gs} (h : GsOk n g) {life : Int} {newest : Bool} {t : Nat} (ht : t < n) (k : Nat) (hk : k ≤ t + 1) : GsOk n (rowG life newest t g k) := by
  induction k with
  | zero => exact h
  | succ k ih =>
    have := colO_le (newest := newest) (t := t) (k := k) (by omega)
    exact (ih (by omega)).step (by omega)
theorem zeros_at (n f : Nat) : (List.replicate n (0 : Int)).getD f 0 = 0 := by
  rw [List.getD_eq_getElem?_getD, List.getElem?_replicate]
  split <;> rfl
theorem start_ok {s : Sh} (hg : GoodSh s) {A : List Int} (la : A.length = s.need.length) (ha : ∀ f, f < s.need.length → 0 ≤ A.getD f 0 ∧ A.getD f 0 ≤ 20) {t : Nat} (ht : t < s.need.length) : GsOk s.need.length ⟨A, s.need.getD t 0, List.replicate s.need.length 0⟩ := by
  refine ⟨la, by simp, ha, memD9 hg.need ht, fun f hf => ?_⟩
  show 0 ≤ (List.replicate s.need.length (0 : Int)).getD f 0 ∧ (List.replicate s.need.length (0 : Int)).getD f 0 ≤ 20
  rw [zeros_at]; omega
theorem allG_ok {s : Sh} (hg : GoodSh s) (newest : Bool) (t : Nat) (ht : t ≤ s.need.length) : (allG s newest t).1.length = s.need.length ∧ (∀ f, f < s.need.length → 0 ≤ (allG s newest t).1.getD f 0 ∧ (allG s newest t).1.getD f 0 ≤ 20) ∧ (∀ j, j < t → ((allG s newest t).2.getD j []).length = s.need.length) := by
  induction t with
  | zero => exact ⟨hg.la, fun f hf => memD9 hg.arr (by rw [hg.la]; exact hf), fun j hj => absurd hj (by omega)⟩
  | succ t ih =>
    obtain ⟨h1, h2, h3⟩ := ih (by omega)
    have ok := rowG_ok (start_ok hg h1 h2 (t := t) (by omega)) (life := s.life) (newest := newest) (t := t) (by omega) (t + 1) (Nat.le_refl _)
    refine ⟨ok.la, ok.a, fun j hj => ?_⟩
    rw [allG_s]
    by_cases e : j < t
    · rw [List.getD_eq_getElem?_getD, List.getElem?_append_left (by rw [allG_len]; exact e), ← List.getD_eq_getElem?_getD]
      exact h3 j e
    · rw [List.getD_eq_getElem?_getD, List.getElem?_append_right (by rw [allG_len]; omega), allG_len, show j - t = 0 by omega]
      exact ok.lr
theorem gAt_ok {s : Sh} (hg : GoodSh s) (newest : Bool) {t k : Nat} (ht : t < s.need.length) (hk : k ≤ t + 1) : GsOk s.need.length (gAt s newest t k) := by
  obtain ⟨h1, h2, h3⟩ := allG_ok hg newest t (by omega)
  exact rowG_ok (start_ok hg h1 h2 (t := t) ht) ht k hk
theorem gAt_row {s : Sh} (hg : GoodSh s) {newest : Bool} {t : Nat} (ht : t < s.need.length) {q : Nat} (k : Nat) (hk : k ≤ t + 1) (hq : ∀ j, j < k → colO newest t j ≠ q) : (gAt s newest t k).row.getD q 0 = 0 := by
  induction k with
  | zero => exact zeros_at _ _
  | succ k ih =>
    rw [gAt_s]
    have ok := gAt_ok hg newest ht (k := k) (by omega)
    have := colO_le (newest := newest) (t := t) (k := k) (by omega)
    simp only [stepG]
    rw [setD9 (by rw [ok.lr]; omega), if_neg (Ne.symm (hq k (by omega)))]
    exact ih (by omega) fun j hj => hq j (by omega)
theorem gAt_free {s : Sh} (hg : GoodSh s) {newest : Bool} {t k : Nat} (ht : t < s.need.length) (hk : k ≤ t) : (gAt s newest t k).row.getD (colO newest t k) 0 = 0 :=
  gAt_row hg ht k (by omega) fun j hj => colO_inj hj hk
theorem set_same9 {l : List Int} {i : Nat} {x : Int} (h : l.getD i 0 = x) (hi : i < l.length) : l.set i x = l := by
  subst h
  rw [List.getD_eq_getElem?_getD, List.getElem?_eq_getElem hi, Option.getD_some]
  exact List.set_getElem_self hi
/-- Where units can't be used nothing changes. -/
theorem gAt_skip {s : Sh} (hg : GoodSh s) {newest : Bool} {t k : Nat} (ht : t < s.need.length) (hk : k ≤ t) (hu : usB s.life (colO newest t k) t = false) : gAt s newest t (k + 1) = gAt s newest t k := by
  have ok := gAt_ok hg newest ht (k := k) (by omega)
  have hc := colO_le (newest := newest) (t := t) (k := k) hk
  have e : takeG s.life t (colO newest t k) (gAt s newest t k) = 0 := by unfold takeG; rw [hu]; rfl
  rw [gAt_s]
  unfold stepG
  rw [e, Int.sub_zero, Int.sub_zero, set_same9 rfl (by rw [ok.la]; omega), set_same9 (gAt_free hg ht hk) (by rw [ok.lr]; omega)]
def issA (s : Sh) (newest : Bool) : List (List Int) := if s.good then (allG s newest s.need.length).2 else []
end Go.Proofs.Ytihjcjhnkpkomaa
