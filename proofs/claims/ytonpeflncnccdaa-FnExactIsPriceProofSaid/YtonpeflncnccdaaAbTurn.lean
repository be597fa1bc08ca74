/- Turning periods: TurningPeriods. -/
import Derived.Test.YtonpeflncnccdaaAbBack
namespace Go.Proofs.Ytonpeflncnccdaa.Ab
open Go Go.RowKit
set_option linter.unusedVariables false
set_option linter.unusedSimpArgs false

theorem picks_turn {k : Cs} {f : Int → Bool} {L : List Int} (t : Nat) (h : ∀ i, i < t → f (L.getD i 0) = turnAt k i) : picks f L t = turnP k t := by
  induction t with
  | zero => rfl
  | succ t ih => rw [picks, turnP, ih (fun i hi => h i (by omega)), h t (by omega)]
theorem turnP_s (k : Cs) (t : Nat) : turnP k (t + 1) = if turnAt k t then turnP k t ++ [(t : Int)] else turnP k t := rfl
def turnA (k : Cs) : List Int := if k.good then turnP k (k.need.length + 1) else []
theorem turnA_no {k : Cs} (h : k.good = false) : turnA k = [] := by unfold turnA; rw [h]; rfl
theorem turnA_yes {k : Cs} (h : k.good = true) : turnA k = turnP k (k.need.length + 1) := by unfold turnA; rw [h]; rfl
theorem bwdL_in {k : Cs} (hg : Good k) : ∀ x ∈ bwdL k, 0 ≤ x ∧ x ≤ 13059 := bwdF_in hg _ _ (Nat.le_refl _) hg.n8
theorem bwdL_len (k : Cs) : (bwdL k).length = k.need.length + 1 := bwdF_len _ _ _

end Go.Proofs.Ytonpeflncnccdaa.Ab
