/- Order periods by rules of thumb. -/
import Derived.Test.YtonpeflncnccdaaTabMath
namespace Go.Proofs.Ytonpeflncnccdaa
set_option linter.unusedVariables false
set_option linter.unusedSimpArgs false

/-- The end of the span from i, from j on. -/
def endQ (k : Cs) (rule : Int) (i : Nat) : Nat → Nat → Nat
  | 0, j => j
  | f + 1, j => if goodR k rule i j then endQ k rule i f (j + 1) else j
def endN (k : Cs) (rule : Int) (i j : Nat) : Nat := endQ k rule i (k.need.length - j) j
theorem endN_good {k : Cs} {rule : Int} {i j : Nat} (h : j < k.need.length) (hg : goodR k rule i j = true) : endN k rule i j = endN k rule i (j + 1) := by
  unfold endN
  rw [show k.need.length - j = (k.need.length - (j + 1)) + 1 by omega, endQ, if_pos hg]
theorem endN_bad {k : Cs} {rule : Int} {i j : Nat} (hg : goodR k rule i j = false) : endN k rule i j = j := by
  unfold endN
  cases k.need.length - j with
  | zero => rfl
  | succ f => rw [endQ, if_neg (by rw [hg]; simp)]
theorem endN_end {k : Cs} {rule : Int} {i j : Nat} (h : k.need.length ≤ j) : endN k rule i j = j := by
  unfold endN
  rw [show k.need.length - j = 0 by omega, endQ]
theorem endQ_ge (k : Cs) (rule : Int) (i f : Nat) : ∀ j, j ≤ endQ k rule i f j := by
  induction f with
  | zero => intro j; exact Nat.le_refl _
  | succ f ih =>
    intro j
    rw [endQ]
    split
    · exact Nat.le_trans (Nat.le_succ j) (ih (j + 1))
    · exact Nat.le_refl _
theorem endQ_le (k : Cs) (rule : Int) (i f : Nat) : ∀ j, endQ k rule i f j ≤ j + f := by
  induction f with
  | zero => intro j; exact Nat.le_refl _
  | succ f ih =>
    intro j
    rw [endQ]
    split
    · have := ih (j + 1); omega
    · omega
theorem endN_ge (k : Cs) (rule : Int) (i j : Nat) : j ≤ endN k rule i j := endQ_ge _ _ _ _ _
theorem endN_le {k : Cs} {rule : Int} {i j : Nat} (h : j ≤ k.need.length) : endN k rule i j ≤ k.need.length := by
  have := endQ_le k rule i (k.need.length - j) j
  unfold endN; omega
/-- The first period from t on with a need. -/
def needQ (k : Cs) : Nat → Nat → Nat
  | 0, t => t
  | f + 1, t => if k.need.getD t 0 = 0 then needQ k f (t + 1) else t
def needN (k : Cs) (t : Nat) : Nat := needQ k (k.need.length - t) t
theorem needN_zero {k : Cs} {t : Nat} (h : t < k.need.length) (hz : k.need.getD t 0 = 0) : needN k t = needN k (t + 1) := by
  unfold needN
  rw [show k.need.length - t = (k.need.length - (t + 1)) + 1 by omega, needQ, if_pos hz]
theorem needN_some {k : Cs} {t : Nat} (hz : k.need.getD t 0 ≠ 0) : needN k t = t := by
  unfold needN
  cases k.need.length - t with
  | zero => rfl
  | succ f => rw [needQ, if_neg hz]
theorem needN_end {k : Cs} {t : Nat} (h : k.need.length ≤ t) : needN k t = t := by
  unfold needN
  rw [show k.need.length - t = 0 by omega, needQ]
theorem needQ_ge (k : Cs) (f : Nat) : ∀ t, t ≤ needQ k f t := by
  induction f with
  | zero => intro t; exact Nat.le_refl _
  | succ f ih =>
    intro t
    rw [needQ]
    split
    · exact Nat.le_trans (Nat.le_succ t) (ih (t + 1))
    · exact Nat.le_refl _
theorem needQ_le (k : Cs) (f : Nat) : ∀ t, needQ k f t ≤ t + f := by
  induction f with
  | zero => intro t; exact Nat.le_refl _
  | succ f ih =>
    intro t
    rw [needQ]
    split
    · have := ih (t + 1); omega
    · omega
theorem needN_ge (k : Cs) (t : Nat) : t ≤ needN k t := needQ_ge _ _ _
theorem needN_le {k : Cs} {t : Nat} (h : t ≤ k.need.length) : needN k t ≤ k.need.length := by
  have := needQ_le k (k.need.length - t) t
  unfold needN; omega
/-- The order periods by a rule, from i on. -/
def ruleP (k : Cs) (rule : Int) : Nat → Nat → List Int
  | 0, _ => []
  | f + 1, i => if i < k.need.length then (i : Int) :: ruleP k rule f (needN k (endN k rule i (i + 1))) else []
theorem ruleP_end {k : Cs} {rule : Int} {f i : Nat} (h : k.need.length ≤ i) : ruleP k rule f i = [] := by
  cases f with
  | zero => rfl
  | succ f => rw [ruleP, if_neg (by omega)]
theorem ruleP_go {k : Cs} {rule : Int} {f i : Nat} (h : i < k.need.length) : ruleP k rule (f + 1) i = (i : Int) :: ruleP k rule f (needN k (endN k rule i (i + 1))) := by
  rw [ruleP, if_pos h]
theorem ruleP_len (k : Cs) (rule : Int) (f : Nat) : ∀ i, (ruleP k rule f i).length ≤ f := by
  induction f with
  | zero => intro i; exact Nat.le_refl _
  | succ f ih =>
    intro i
    rw [ruleP]
    split
    · rw [List.length_cons]; have := ih (needN k (endN k rule i (i + 1))); omega
    · simp
def ruleL (k : Cs) (rule : Int) : List Int := ruleP k rule k.need.length (needN k 0)
end Go.Proofs.Ytonpeflncnccdaa
