/- A shelf that came in, as blocks only to be read. -/
import Derived.Test.YtihjcjhnkpkomaaAbArg
import Derived.Test.YtihjcjhnkpkomaaAbSh
import Derived.Test.YtihjcjhnkpkomaaShIn
import Derived.Test.YtihjcjhnkpkomaaAbBox
namespace Go.Proofs.Ytihjcjhnkpkomaa.Ab
open Go Go.RowKit
set_option linter.unusedVariables false
theorem vr5s {ρ : Places} {a b l w o x y : Value} (ha : VR ρ a x) (hb : VR ρ b y) (hl : VR ρ l l) (hw : VR ρ w w) (ho : VR ρ o o) : VR ρ (.agg #[l, a, b, w, o]) (.agg #[l, x, y, w, o]) := by
  obtain ⟨h1, h2⟩ := (VL.cons hl (VL.cons ha (VL.cons hb (VL.cons hw (VL.cons ho (VL.nil ρ)))))).arr
  exact .agg h1 h2
theorem argShelf {W : World} {ρ : Places} {m : Mem} (h : MRel W W.heap.size ρ m W) {v : Value} {s : Sh} (hi : ShIn W v s) :
    ∃ ρ' m', Adds W ρ ρ' m m' ∧ ∃ x, VR ρ' x v ∧ ShA m' x s := by
  obtain ⟨u1, u2, rfl, h1, h2⟩ := hi
  obtain ⟨ρ1, m1, a1, x1, k1, A1⟩ := argI2 h h1
  obtain ⟨ρ2, m2, a2, x2, k2, A2⟩ := argI2 a1.2.1 h2
  obtain ⟨p2, q2, n2, e2⟩ := a2
  refine ⟨ρ2, m2, a1.trans ⟨p2, q2, n2, e2⟩, _, vr5s (k1.mono p2) k2 (.int _ _) (.int _ _) (.int _ _), ?_⟩
  subst e2
  exact ShA.mk (A1.ext _) A2
theorem ShA.one1 {m : Mem} {s : Sh} {a b : Value} (h : ShA m (shV s a b) s) (xs : List Value) : onesB (a :: xs) = onesB xs := by
  obtain ⟨a', b', e, h1, h2⟩ := h
  obtain ⟨rfl, rfl⟩ : a = a' ∧ b = b' := by simpa [shV] using e
  exact h1.one xs
theorem ShA.one2 {m : Mem} {s : Sh} {a b : Value} (h : ShA m (shV s a b) s) (xs : List Value) : onesB (b :: xs) = onesB xs := by
  obtain ⟨a', b', e, h1, h2⟩ := h
  obtain ⟨rfl, rfl⟩ : a = a' ∧ b = b' := by simpa [shV] using e
  exact h2.one xs
end Go.Proofs.Ytihjcjhnkpkomaa.Ab
