/- The parts of a plan's cost: PlanCost, CostParts. -/
import Derived.Test.YtihjcjhnkpkomaaAbEarly
namespace Go.Proofs.Ytihjcjhnkpkomaa.Ab
open Go Go.RowKit
set_option linter.unusedVariables false
set_option linter.unusedSimpArgs false

theorem cSet_s (k : Cs) (plan : List Int) (t : Nat) : cSet k plan (t + 1) = if 0 < plan.getD t 0 then cSet k plan t + k.setup.getD t 0 else cSet k plan t := rfl
theorem cUnit_s (k : Cs) (plan : List Int) (t : Nat) : cUnit k plan (t + 1) = cUnit k plan t + k.unit.getD t 0 * plan.getD t 0 := rfl
theorem cHold_s (k : Cs) (plan : List Int) (t : Nat) : cHold k plan (t + 1) = cHold k plan t + k.hold.getD t 0 * stk plan k.need t := rfl
/-- What keeps the sums small. -/
theorem cost_bounds {k : Cs} {plan : List Int} (hg : Good k) (hp : ∀ x ∈ plan, 0 ≤ x ∧ x ≤ 160) (t : Nat) (ht : t ≤ 8) :
    (0 ≤ cSet k plan t ∧ cSet k plan t ≤ 1000) ∧ (0 ≤ cUnit k plan t ∧ cUnit k plan t ≤ 20000) ∧ (-20000 ≤ cHold k plan t ∧ cHold k plan t ≤ 200000) := by
  have h1 := cSet_bound (plan := plan) hg t
  have h2 := cUnit_bound hg hp t
  have h3 := cHold_bound hg hp t (by omega)
  refine ⟨⟨h1.1, by omega⟩, ⟨h2.1, by omega⟩, by omega, by omega⟩
theorem prod_bounds {k : Cs} {plan : List Int} (hg : Good k) (hp : ∀ x ∈ plan, 0 ≤ x ∧ x ≤ 160) (t : Nat) (ht : t < 8) :
    (0 ≤ k.unit.getD t 0 * plan.getD t 0 ∧ k.unit.getD t 0 * plan.getD t 0 ≤ 1440) ∧ (-1620 ≤ k.hold.getD t 0 * stk plan k.need t ∧ k.hold.getD t 0 * stk plan k.need t ≤ 12960) := by
  have h1 := getD_bound (m := 9) (by omega) hg.unit t
  have h2 := getD_bound (m := 160) (by omega) hp t
  have h3 := getD_bound (m := 9) (by omega) hg.hold t
  have h4 := stk_bound hg hp t (by omega)
  refine ⟨mul_bound h1.1 h1.2 h2.1 h2.2, ?_⟩
  rcases Int.le_total 0 (stk plan k.need t) with h | h
  · have := mul_bound h3.1 h3.2 h h4.2
    omega
  · have := mul_bound h3.1 h3.2 (b := - stk plan k.need t) (n := 180) (by omega) (by omega)
    rw [Int.mul_neg] at this
    omega
/-- A block of three numbers. -/
theorem ld3 {m : Mem} {id : Nat} {a b c : Value} {e : TypeId} (h : m[id]? = some ⟨.own, e, [a, b, c]⟩) : ldA m (some 3) (.pointer (some ⟨id, 0, none⟩)) = some (.agg #[a, b, c]) := by
  simp [ldA, rdn, rdc, h]
theorem iada0 {id : Nat} : iadaA 1 3 (.pointer (some ⟨id, 0, none⟩)) (.int .i64 0) = some (.pointer (some ⟨id, 0, none⟩)) := rfl
theorem iada1 {id : Nat} : iadaA 1 3 (.pointer (some ⟨id, 0, none⟩)) (.int .i64 1) = some (.pointer (some ⟨id, 1, none⟩)) := rfl
theorem iada2 {id : Nat} : iadaA 1 3 (.pointer (some ⟨id, 0, none⟩)) (.int .i64 2) = some (.pointer (some ⟨id, 2, none⟩)) := rfl
theorem bld_nil (z : List Value) : bldA z [] = some (.agg z.toArray) := rfl

theorem costOf_def (k : Cs) (plan : List Int) : costOf k plan = cSet k plan plan.length + cUnit k plan plan.length + cHold k plan plan.length := rfl
def costA (k : Cs) (plan : List Int) : Int := if two k plan then costOf k plan else 0
def partA (f : Cs → List Int → Nat → Int) (k : Cs) (plan : List Int) : Int := if two k plan then f k plan plan.length else 0
theorem partA_no (f : Cs → List Int → Nat → Int) {k : Cs} {plan : List Int} (h : two k plan = false) : partA f k plan = 0 := by unfold partA; rw [h]; rfl
theorem partA_yes (f : Cs → List Int → Nat → Int) {k : Cs} {plan : List Int} (h : two k plan = true) : partA f k plan = f k plan plan.length := by unfold partA; rw [h]; rfl
theorem costA_no {k : Cs} {plan : List Int} (h : two k plan = false) : costA k plan = 0 := by unfold costA; rw [h]; rfl
theorem costA_yes {k : Cs} {plan : List Int} (h : two k plan = true) : costA k plan = costOf k plan := by unfold costA; rw [h]; rfl
end Go.Proofs.Ytihjcjhnkpkomaa.Ab
