/- A market that came in, as blocks only to be read; boxes; a contract. -/
import Derived.Test.YtdcheilmjooacaaAbArg
import Derived.Test.YtdcheilmjooacaaAbMk
import Derived.Test.YtdcheilmjooacaaMkIn
import Derived.Test.YtdcheilmjooacaaAbBox
namespace Go.Proofs.Ytdcheilmjooacaa.Ab
open Go Go.RowKit
set_option linter.unusedVariables false
theorem vr4m {ρ : Places} {a b c d x : Value} (h : VR ρ x a) (hb : VR ρ b b) (hc : VR ρ c c) (hd : VR ρ d d) : VR ρ (.agg #[x, b, c, d]) (.agg #[a, b, c, d]) := by
  obtain ⟨h1, h2⟩ := (VL.cons h (VL.cons hb (VL.cons hc (VL.cons hd (VL.nil ρ))))).arr
  exact .agg h1 h2
theorem argMarket {W : World} {ρ : Places} {m : Mem} (h : MRel W W.heap.size ρ m W) {v : Value} {s : Mk} (hi : MkIn W v s) :
    ∃ ρ' m', Adds W ρ ρ' m m' ∧ ∃ x, VR ρ' x v ∧ MkA m' x s := by
  obtain ⟨u, rfl, hu⟩ := hi
  obtain ⟨ρ', m', a, x, hx, hA⟩ := argI2 h hu
  exact ⟨ρ', m', a, _, vr4m hx (.int _ _) (.int _ _) (.int _ _), x, rfl, hA⟩
theorem MkA.one {m : Mem} {s : Mk} {u : Value} (h : MkA m (mkV s u) s) (xs : List Value) : onesB (u :: xs) = onesB xs := by
  obtain ⟨u', e, hu⟩ := h
  have e' : u = u' := by simpa [mkV] using e
  rw [e']; exact hu.one xs
theorem ctV_rel (ρ : Places) (x : Ct) : VR ρ (ctV x) (ctV x) := by
  refine .agg rfl fun i a b ha hb => ?_
  rw [ha] at hb
  cases hb
  match i with
  | 0 => simp at ha; subst ha; exact .int _ _
  | 1 => simp at ha; subst ha; exact .int _ _
  | 2 => simp at ha; subst ha; exact .int _ _
  | n + 3 => simp at ha
theorem BoxA.mk4 {m : Mem} {id : Nat} {a b c d : Value} (h : BoxA m id [a, b, c, d]) : ldA m (some 4) (.pointer (some ⟨id, 0, none⟩)) = some (.agg #[a, b, c, d]) ∧ rdc m id 0 = some a ∧ rdc m id 1 = some b ∧ rdc m id 2 = some c ∧ rdc m id 3 = some d := by
  obtain ⟨_, h⟩ := h
  simp [ldA, rdn, rdc, h]
theorem BoxA.mk3 {m : Mem} {id : Nat} {a b c : Value} (h : BoxA m id [a, b, c]) : ldA m (some 3) (.pointer (some ⟨id, 0, none⟩)) = some (.agg #[a, b, c]) ∧ rdc m id 0 = some a ∧ rdc m id 1 = some b ∧ rdc m id 2 = some c := by
  obtain ⟨_, h⟩ := h
  simp [ldA, rdn, rdc, h]
end Go.Proofs.Ytdcheilmjooacaa.Ab
