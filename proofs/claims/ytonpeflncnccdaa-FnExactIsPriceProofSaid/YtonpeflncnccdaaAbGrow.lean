/- What a memory has grown to; boxes in it; rows that are written in place; sums of parts. -/
import Derived.Test.YtonpeflncnccdaaAbCut
import Derived.Test.YtonpeflncnccdaaTabMath
namespace Go.Proofs.Ytonpeflncnccdaa.Ab
open Go Go.RowKit
set_option linter.unusedVariables false
set_option linter.unusedSimpArgs false

/-- The sum of a part is the difference of sums. -/
theorem sumTo_cut {l : List Int} {lo hi : Nat} (h1 : lo ≤ hi) (h2 : hi ≤ l.length) (k : Nat) (hk : k ≤ hi - lo) : sumTo (cutL l lo hi) k = sumR l lo (lo + k) := by
  induction k with
  | zero => rw [Nat.add_zero, sumR_self]; rfl
  | succ k ih => rw [sumTo_g, ih (by omega), ← Nat.add_assoc, sumR_s, cutL_at (by omega)]
theorem sumTo_cut' {l : List Int} {lo hi : Nat} (h1 : lo ≤ hi) (h2 : hi ≤ l.length) : sumTo (cutL l lo hi) (cutL l lo hi).length = sumR l lo hi := by
  rw [cutL_len h2, sumTo_cut h1 h2 _ (Nat.le_refl _), Nat.add_sub_cancel' h1]
theorem sumOf_cut_rc (m : Mem) (v' : Value) (l : List Int) {lo hi : Nat} {b : Int} (h : IntsA m v' (cutL l lo hi)) (h1 : lo ≤ hi) (h2 : hi ≤ l.length) (hb0 : 0 ≤ b) (hb1 : b ≤ 1000000) (hb : ∀ x ∈ l, 0 ≤ x ∧ x ≤ b) (h8 : l.length ≤ 1000) :
    RC Try.prog 46 [v'] m fun r new => r = .int .i64 (sumR l lo hi) ∧ new = [] := by
  have hc := cutL_len h2 (lo := lo)
  have := sumOf_rc m v' (cutL l lo hi) h fun k hk => by
    rw [hc] at hk
    rw [sumTo_cut h1 h2 k hk]
    have := sumR_in hb0 hb lo k
    have h3 : b * (k : Int) ≤ 1000000 * (k : Int) := Int.mul_le_mul_of_nonneg_right hb1 (by omega)
    omega
  rw [sumTo_cut' h1 h2] at this
  exact this
/-- A box of four values, in a memory that has grown. -/
theorem Grow.box4 {m M : Mem} {e : TypeId} {v1 v2 v3 v4 : Value} (h : Grow (roM m ++ [⟨.own, e, [v1, v2, v3, v4]⟩]) M) :
    rdc M m.length 0 = some v1 ∧ rdc M m.length 1 = some v2 ∧ rdc M m.length 2 = some v3 ∧ rdc M m.length 3 = some v4 ∧ m.length < M.length := by
  have hl := h.len
  simp only [List.length_append, List.length_cons, List.length_nil, roM_len] at hl
  refine ⟨h.rd ?_, h.rd ?_, h.rd ?_, h.rd ?_, by omega⟩ <;> (rw [rdc_box (roM_len m).symm]; rfl)
theorem Grow.ext {m M : Mem} {e : TypeId} {cs : List Value} (h : Grow (roM m ++ [⟨.own, e, cs⟩]) M) : Ext m M := ((Ext.refl m).one _ _).grow h
theorem Grow.caseV {m M : Mem} {e : TypeId} {cs : List Value} {v : Value} {k : Cs} (h : Grow (roM m ++ [⟨.own, e, cs⟩]) M) (hk : CaseA (roM m) v k) : CaseA M v k := h.case (hk.ext _)
theorem Grow.intsV {m M : Mem} {e : TypeId} {cs : List Value} {v : Value} {l : List Int} (h : Grow (roM m ++ [⟨.own, e, cs⟩]) M) (hk : IntsA (roM m) v l) : IntsA M v l := h.ints (hk.ext _)
end Go.Proofs.Ytonpeflncnccdaa.Ab
