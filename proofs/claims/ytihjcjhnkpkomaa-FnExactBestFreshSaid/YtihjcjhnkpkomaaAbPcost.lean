/- impl.PlanCost. -/
import Derived.Test.YtihjcjhnkpkomaaAbCost
namespace Go.Proofs.Ytihjcjhnkpkomaa.Ab
open Go Go.RowKit
set_option linter.unusedVariables false
set_option linter.unusedSimpArgs false

theorem parts_sum (k : Cs) (plan : List Int) : costA k plan = partA cSet k plan + partA cUnit k plan + partA cHold k plan := by
  cases hg : two k plan with
  | false => rw [partA_no _ hg, partA_no _ hg, partA_no _ hg, costA_no hg]; rfl
  | true => rw [partA_yes _ hg, partA_yes _ hg, partA_yes _ hg, costA_yes hg, costOf_def]
theorem parts_bound (k : Cs) (plan : List Int) : (0 ≤ partA cSet k plan ∧ partA cSet k plan ≤ 1000) ∧ (0 ≤ partA cUnit k plan ∧ partA cUnit k plan ≤ 20000) ∧ (-20000 ≤ partA cHold k plan ∧ partA cHold k plan ≤ 200000) := by
  cases hg : two k plan with
  | false => rw [partA_no _ hg, partA_no _ hg, partA_no _ hg]; omega
  | true =>
    obtain ⟨b1, b2, b3⟩ := two_bounds hg
    have h8 := b1.n8
    rw [partA_yes _ hg, partA_yes _ hg, partA_yes _ hg]
    exact cost_bounds b1 b3 plan.length (by omega)
end Go.Proofs.Ytihjcjhnkpkomaa.Ab
