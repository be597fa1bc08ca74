/- A process that came in, as blocks only to be read; boxes. -/
import Derived.Test.YtddnedngjijpoaaAbArg
import Derived.Test.YtddnedngjijpoaaAbProc
import Derived.Test.YtddnedngjijpoaaProcIn
import Derived.Test.YtddnedngjijpoaaAbBox
namespace Go.Proofs.Ytddnedngjijpoaa.Ab
open Go Go.RowKit
set_option linter.unusedVariables false
theorem vr6 {ρ : Places} {a b c d e f x : Value} (h : VR ρ x b) (ha : VR ρ a a) (hc : VR ρ c c) (hd : VR ρ d d) (he : VR ρ e e) (hf : VR ρ f f) : VR ρ (.agg #[a, x, c, d, e, f]) (.agg #[a, b, c, d, e, f]) := by
  obtain ⟨h1, h2⟩ := (VL.cons ha (VL.cons h (VL.cons hc (VL.cons hd (VL.cons he (VL.cons hf (VL.nil ρ))))))).arr
  exact .agg h1 h2
theorem argProc {W : World} {ρ : Places} {m : Mem} (h : MRel W W.heap.size ρ m W) {v : Value} {p : Pr} (hi : ProcIn W v p) :
    ∃ ρ' m', Adds W ρ ρ' m m' ∧ ∃ x, VR ρ' x v ∧ ProcA m' x p := by
  obtain ⟨u, rfl, hu⟩ := hi
  obtain ⟨ρ', m', a, x, hx, hA⟩ := argI2 h hu
  exact ⟨ρ', m', a, _, vr6 hx (.int _ _) (.int _ _) (.int _ _) (.int _ _) (.int _ _), x, rfl, hA⟩
theorem ProcA.one {m : Mem} {p : Pr} {u : Value} (h : ProcA m (procV p u) p) (xs : List Value) : onesB (u :: xs) = onesB xs := by
  obtain ⟨u', e, hu⟩ := h
  have e' : u = u' := by simpa [procV] using e
  rw [e']; exact hu.one xs
end Go.Proofs.Ytddnedngjijpoaa.Ab
