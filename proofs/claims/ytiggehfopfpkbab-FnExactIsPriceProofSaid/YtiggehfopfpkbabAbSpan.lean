/- Spans: SpanCost. -/
import Derived.Test.YtiggehfopfpkbabAbRate
namespace Go.Proofs.Ytiggehfopfpkbab.Ab
open Go Go.RowKit
set_option linter.unusedVariables false
set_option linter.unusedSimpArgs false

theorem anyN_s {k : Cs} (hg : Good k) {i x : Nat} (h : i ≤ x) : decide (0 < sumR k.need i (x + 1)) = (decide (0 < sumR k.need i x) || decide (0 < k.need.getD x 0)) := by
  have h1 := sumR_nn (m := 20) (by omega) hg.need h
  have h2 := getD_bound (m := 20) (by omega) hg.need x
  rw [sumR_s]
  generalize k.need.getD x 0 = y at *
  generalize sumR k.need i x = z at *
  by_cases a : 0 < z <;> by_cases b : 0 < y <;> simp [a, b] <;> omega

def spanOk (k : Cs) (i j : Int) : Bool := k.good && (decide (0 ≤ i) && decide (i ≤ j - 1)) && (decide (1 ≤ j) && decide (j ≤ (k.need.length : Int)))
def spanA (k : Cs) (i j : Int) : Int := if spanOk k i j then spanF k i.toNat j.toNat else 0
theorem spanA_no {k : Cs} {i t : Int} (h : spanOk k i t = false) : spanA k i t = 0 := by unfold spanA; rw [h]; rfl
theorem spanA_yes {k : Cs} {i t : Int} (h : spanOk k i t = true) : spanA k i t = spanF k i.toNat t.toNat := by unfold spanA; rw [h]; rfl

end Go.Proofs.Ytiggehfopfpkbab.Ab
