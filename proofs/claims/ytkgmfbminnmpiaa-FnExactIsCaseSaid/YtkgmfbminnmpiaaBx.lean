/- Boxes of Cases in a law's walk; the forms in which the functions of a law answer. -/
import Derived.Test.YtkgmfbminnmpiaaCaseTo
import Derived.Test.YtkgmfbminnmpiaaCaseMark
import Derived.Test.YtkgmfbminnmpiaaShell
namespace Go.Proofs.Ytkgmfbminnmpiaa
open Go.RowKit
set_option linter.unusedVariables false

theorem OwnCase.form {w : World} {lo hi : Nat} {v : Value} {k : Cs} (h : OwnCase w lo hi v k) :
    ∃ A1 r1 A2 r2 A3 r3 A4 r4, v = .agg #[.slice A1 k.need.length r1, .slice A2 k.setup.length r2, .slice A3 k.unit.length r3, .slice A4 k.hold.length r4] := by
  obtain ⟨v1, v2, v3, v4, m1, m2, m3, rfl, _, _, _, _, h1, h2, h3, h4⟩ := h
  obtain ⟨A1, r1, rfl, _⟩ := h1.form
  obtain ⟨A2, r2, rfl, _⟩ := h2.form
  obtain ⟨A3, r3, rfl, _⟩ := h3.form
  obtain ⟨A4, r4, rfl, _⟩ := h4.form
  exact ⟨A1, r1, A2, r2, A3, r3, A4, r4, rfl⟩
theorem below_drew (n : Nat) (w : World) : Below n w w.drew := (Below.refl n w).drew

/-- One answer that is not memory. -/
def Ans (x : Value) (w : World) (e : Ending) (w' : World) : Prop := e = .returned x ∧ Below w.heap.size w w'
/-- A new slice of numbers and a Bool. -/
def AnsL (l : List Int) (ok : Bool) (w : World) (e : Ending) (w' : World) : Prop :=
  ∃ g, e = .returned (.tuple #[g, .bool ok]) ∧ OwnInts w' w.heap.size w'.heap.size g l ∧ Below w.heap.size w w'
/-- A new Case and a Bool. -/
def AnsC (k : Cs) (ok : Bool) (w : World) (e : Ending) (w' : World) : Prop :=
  ∃ g, e = .returned (.tuple #[g, .bool ok]) ∧ OwnCase w' w.heap.size w'.heap.size g k ∧ Below w.heap.size w w'
def noCase : Cs := ⟨[], [], [], []⟩
end Go.Proofs.Ytkgmfbminnmpiaa
