/- One period with chances: TotalWeight, MeanSum, WeightUpTo, OverSum, ShortSum, CostSum, CriticalOrder. -/
import Derived.Test.YtghaogfhmbjlkaaAbChance
namespace Go.Proofs.Ytghaogfhmbjlkaa.Ab
open Go Go.RowKit
set_option linter.unusedVariables false
set_option linter.unusedSimpArgs false

/-! CostSum, CriticalOrder. -/
def costB (w : List Int) (o u q : Int) : Bool := (distB w && chB o u) && inB 15 q
theorem costB_swap (w : List Int) (o u q : Int) : costB w o u q = (ordB w q && chB o u) := by
  unfold costB ordB; cases distB w <;> cases chB o u <;> cases inB 15 q <;> rfl
theorem costB_yes {w : List Int} {o u q : Int} (h : costB w o u q = true) : Dist w ∧ (0 ≤ o ∧ o ≤ 20) ∧ (0 ≤ u ∧ u ≤ 20) ∧ ∃ n : Nat, q = n ∧ n ≤ 15 := by
  rw [costB_swap, Bool.and_eq_true] at h
  obtain ⟨a, b⟩ := ordB_yes h.1
  obtain ⟨c, d⟩ := chB_yes h.2
  exact ⟨a, c, d, b⟩
theorem dcB_yes {w : List Int} {o u : Int} (h : (distB w && chB o u) = true) : Dist w ∧ (0 ≤ o ∧ o ≤ 20) ∧ (0 ≤ u ∧ u ≤ 20) := by
  rw [Bool.and_eq_true, dist_iff] at h
  exact ⟨h.1, chB_yes h.2⟩
theorem quo_in {w : List Int} {o u : Int} (h : Dist w) (ho : 0 ≤ o ∧ o ≤ 20) (hu : 0 ≤ u ∧ u ≤ 20) (q : Nat) : (0 ≤ (o + u) * upF w q ∧ (o + u) * upF w q ≤ 640000) ∧ (0 ≤ u * tot w ∧ u * tot w ≤ 320000) := by
  have t := tot_in h
  have b := up_in h q
  exact ⟨mul_in (A := 40) (B := 16000) ⟨by omega, by omega⟩ ⟨b.1, by omega⟩, mul_in (A := 20) (B := 16000) hu ⟨by omega, t.2⟩⟩
end Go.Proofs.Ytghaogfhmbjlkaa.Ab
