/- Orders step by step, as lists. -/
import Derived.Test.YtghaogfhmbjlkaaChMath
namespace Go.Proofs.Ytghaogfhmbjlkaa
set_option linter.unusedVariables false
set_option linter.unusedSimpArgs false

/-- Goods: 1..3 distributions with the same total. -/
def gdsB (T : List (List Int)) : Bool := decide (1 ≤ T.length) && decide (T.length ≤ 3) && T.all fun w => distB w && decide (tot w = tot (T.getD 0 []))
structure Gds (T : List (List Int)) : Prop where
  l1 : 1 ≤ T.length
  l3 : T.length ≤ 3
  d : ∀ k, k < T.length → Dist (T.getD k [])
  t : ∀ k, k < T.length → tot (T.getD k []) = tot (T.getD 0 [])
theorem all_at {T : List (List Int)} {f : List Int → Bool} : T.all f = true ↔ ∀ k, k < T.length → f (T.getD k []) = true := by
  rw [List.all_eq_true]
  constructor
  · intro h k hk
    rw [List.getD_eq_getElem?_getD, List.getElem?_eq_getElem hk]
    exact h _ (List.getElem_mem hk)
  · intro h x hx
    obtain ⟨k, hk, rfl⟩ := List.getElem_of_mem hx
    have := h k hk
    rwa [List.getD_eq_getElem?_getD, List.getElem?_eq_getElem hk] at this
theorem gds_iff {T : List (List Int)} : gdsB T = true ↔ Gds T := by
  simp only [gdsB, Bool.and_eq_true, decide_eq_true_eq, all_at, dist_iff]
  exact ⟨fun h => ⟨h.1.1, h.1.2, fun k hk => (h.2 k hk).1, fun k hk => (h.2 k hk).2⟩, fun h => ⟨⟨h.l1, h.l3⟩, fun k hk => ⟨h.d k hk, h.t k hk⟩⟩⟩
/-- What one unit more makes less. -/
def lessF (T : List (List Int)) (o u : Int) (out : List Int) (k : Nat) : Int := costF (T.getD k []) o u (out.getD k 0).toNat - costF (T.getD k []) o u ((out.getD k 0).toNat + 1)
/-- The first good with the greatest one, and this one. -/
def scanF (f : Nat → Int) : Nat → Int × Int
  | 0 => (-1, 0)
  | k + 1 => if (scanF f k).2 < f k then ((k : Int), f k) else scanF f k
theorem scanF_in (f : Nat → Int) (n : Nat) : 0 ≤ (scanF f n).2 ∧ ((scanF f n).1 = -1 ∨ ∃ k : Nat, k < n ∧ (scanF f n).1 = k ∧ (scanF f n).2 = f k ∧ 0 < f k) := by
  induction n with
  | zero => exact ⟨by simp [scanF], .inl rfl⟩
  | succ n ih =>
    simp only [scanF]
    by_cases h : (scanF f n).2 < f n
    · rw [if_pos h]; exact ⟨by simp only; omega, .inr ⟨n, by omega, rfl, rfl, by omega⟩⟩
    · rw [if_neg h]
      refine ⟨ih.1, ih.2.imp id ?_⟩
      rintro ⟨k, hk, h1⟩
      exact ⟨k, by omega, h1⟩
/-- The orders behind some steps. -/
def oneStep (T : List (List Int)) (o u : Int) (out : List Int) : List Int :=
  if (scanF (lessF T o u out) T.length).1 < 0 then out else out.set (scanF (lessF T o u out) T.length).1.toNat (out.getD (scanF (lessF T o u out) T.length).1.toNat 0 + 1)
def steps (T : List (List Int)) (o u : Int) : Nat → List Int
  | 0 => List.replicate T.length 0
  | n + 1 => oneStep T o u (steps T o u n)
theorem oneStep_len (T : List (List Int)) (o u : Int) (out : List Int) : (oneStep T o u out).length = out.length := by
  unfold oneStep; split <;> simp
theorem steps_len (T : List (List Int)) (o u : Int) (n : Nat) : (steps T o u n).length = T.length := by
  induction n with
  | zero => simp [steps]
  | succ n ih => rw [steps, oneStep_len, ih]
/-- A unit behind the greatest demand makes nothing less. -/
theorem less_top {T : List (List Int)} {o u : Int} (h : Gds T) (ho : 0 ≤ o) (hu : 0 ≤ u) {out : List Int} {k : Nat} (hk : k < T.length) (h15 : 15 ≤ out.getD k 0) : lessF T o u out k ≤ 0 := by
  unfold lessF
  have hd := h.d k hk
  have hl := hd.l16
  have e := cost_next (T.getD k []) o u (out.getD k 0).toNat
  rw [up_all (by omega)] at e
  have := Int.mul_nonneg ho (by have := (tot_in hd).1; omega : (0 : Int) ≤ tot (T.getD k []))
  rw [Int.add_mul] at e
  omega
/-- Orders stay within the demands. -/
theorem steps_in {T : List (List Int)} {o u : Int} (h : Gds T) (ho : 0 ≤ o) (hu : 0 ≤ u) (n : Nat) : ∀ k, 0 ≤ (steps T o u n).getD k 0 ∧ (steps T o u n).getD k 0 ≤ 15 := by
  induction n with
  | zero => intro k; simp only [steps]; by_cases hk : k < T.length <;> simp [List.getD_eq_getElem?_getD, List.getElem?_replicate, hk]
  | succ n ih =>
    intro k
    have hl := steps_len T o u n
    simp only [steps, oneStep]
    by_cases hb : (scanF (lessF T o u (steps T o u n)) T.length).1 < 0
    · rw [if_pos hb]; exact ih k
    · rw [if_neg hb]
      rcases (scanF_in (lessF T o u (steps T o u n)) T.length).2 with e | ⟨j, hj, e1, e2, e3⟩
      · omega
      · rw [e1, Int.toNat_natCast]
        have i1 := ih j
        have i2 := ih k
        have i3 : ¬ 15 ≤ (steps T o u n).getD j 0 := fun h15 => by have := less_top h ho hu hj h15; omega
        rw [getD_set (by omega)]
        by_cases ek : k = j
        · rw [if_pos ek]; omega
        · rw [if_neg ek]; exact i2
theorem sum_set {l : List Int} {j : Nat} {x : Int} (hj : j < l.length) : (l.set j x).sum = l.sum - l.getD j 0 + x := by
  induction l generalizing j with
  | nil => simp at hj
  | cons a l ih =>
    cases j with
    | zero => simp [List.getD_cons_zero]; omega
    | succ j => simp only [List.set_cons_succ, List.sum_cons, List.getD_cons_succ]; rw [ih (by simpa using hj)]; omega
/-- Each step adds one unit, until none makes a cost less. -/
theorem steps_sum {T : List (List Int)} {o u : Int} (n : Nat) (h : ∀ j, j < n → 0 ≤ (scanF (lessF T o u (steps T o u j)) T.length).1) : (steps T o u n).sum = n := by
  induction n with
  | zero => simp [steps]
  | succ n ih =>
    have hl := steps_len T o u n
    have hn := h n (by omega)
    simp only [steps, oneStep]
    rw [if_neg (by omega)]
    rcases (scanF_in (lessF T o u (steps T o u n)) T.length).2 with e | ⟨j, hj, e1, e2, e3⟩
    · omega
    · rw [e1, Int.toNat_natCast, sum_set (by omega), ih (fun j hj => h j (by omega))]; omega
theorem steps_stop {T : List (List Int)} {o u : Int} {n : Nat} (h : (scanF (lessF T o u (steps T o u n)) T.length).1 < 0) : ∀ i, steps T o u (n + i) = steps T o u n := by
  intro i
  induction i with
  | zero => rfl
  | succ i ih =>
    rw [← Nat.add_assoc]
    simp only [steps]
    rw [ih, oneStep, if_pos h]
def stepOk (T : List (List Int)) (o u n : Int) (c : Bool) : Bool := gdsB T && c && (decide (0 ≤ n) && decide (n ≤ 60))
def stepA (T : List (List Int)) (o u n : Int) (c : Bool) : List Int := if stepOk T o u n c then steps T o u n.toNat else []
end Go.Proofs.Ytghaogfhmbjlkaa
