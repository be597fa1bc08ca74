/- A chain that came in, as blocks only to be read. -/
import Derived.Test.YtamhhicnfpemeaaAbArg
import Derived.Test.YtamhhicnfpemeaaAbChain
import Derived.Test.YtamhhicnfpemeaaChainIn
import Derived.Test.YtamhhicnfpemeaaAbBox
namespace Go.Proofs.Ytamhhicnfpemeaa.Ab
open Go Go.RowKit
set_option linter.unusedVariables false
theorem vr3 {ρ : Places} {a b c x y z : Value} (ha : VR ρ a x) (hb : VR ρ b y) (hc : VR ρ c z) : VR ρ (.agg #[a, b, c]) (.agg #[x, y, z]) := by
  obtain ⟨h1, h2⟩ := (VL.cons ha (VL.cons hb (VL.cons hc (VL.nil ρ)))).arr
  exact .agg h1 h2
theorem argChain {W : World} {ρ : Places} {m : Mem} (h : MRel W W.heap.size ρ m W) {v : Value} {c : Ch} (hi : ChainIn W v c) :
    ∃ ρ' m', Adds W ρ ρ' m m' ∧ ∃ x, VR ρ' x v ∧ ChA m' x c := by
  obtain ⟨u1, u2, u3, rfl, h1, h2, h3⟩ := hi
  obtain ⟨ρ1, m1, a1, x1, k1, A1⟩ := argI2 h h1
  obtain ⟨ρ2, m2, a2, x2, k2, A2⟩ := argI2 a1.2.1 h2
  obtain ⟨ρ3, m3, a3, x3, k3, A3⟩ := argI2 a2.2.1 h3
  obtain ⟨p2, q2, n2, e2⟩ := a2
  obtain ⟨p3, q3, n3, e3⟩ := a3
  refine ⟨ρ3, m3, a1.trans (Adds.trans ⟨p2, q2, n2, e2⟩ ⟨p3, q3, n3, e3⟩), _, vr3 (k1.mono (p2.trans p3)) (k2.mono p3) k3, ?_⟩
  subst e2
  subst e3
  exact ChA.mk ((A1.ext _).ext _) (A2.ext _) A3
theorem ChA.one1 {m : Mem} {c : Ch} {a b d : Value} (h : ChA m (chV a b d) c) (xs : List Value) : onesB (a :: xs) = onesB xs := by
  obtain ⟨a', b', d', e, h1, h2, h3⟩ := h
  obtain ⟨rfl, rfl, rfl⟩ : a = a' ∧ b = b' ∧ d = d' := by simpa [chV] using e
  exact h1.one xs
theorem ChA.one2 {m : Mem} {c : Ch} {a b d : Value} (h : ChA m (chV a b d) c) (xs : List Value) : onesB (b :: xs) = onesB xs := by
  obtain ⟨a', b', d', e, h1, h2, h3⟩ := h
  obtain ⟨rfl, rfl, rfl⟩ : a = a' ∧ b = b' ∧ d = d' := by simpa [chV] using e
  exact h2.one xs
theorem ChA.one3 {m : Mem} {c : Ch} {a b d : Value} (h : ChA m (chV a b d) c) (xs : List Value) : onesB (d :: xs) = onesB xs := by
  obtain ⟨a', b', d', e, h1, h2, h3⟩ := h
  obtain ⟨rfl, rfl, rfl⟩ : a = a' ∧ b = b' ∧ d = d' := by simpa [chV] using e
  exact h3.one xs
end Go.Proofs.Ytamhhicnfpemeaa.Ab
