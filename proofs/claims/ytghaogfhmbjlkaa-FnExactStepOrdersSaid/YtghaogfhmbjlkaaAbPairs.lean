/- The laws' helpers over pairs: szIntA2S, toIntA2S, eqIntA2S, markIntA2S, heldIntA2S. -/
import Derived.Test.YtghaogfhmbjlkaaAbObj
namespace Go.Proofs.Ytghaogfhmbjlkaa.Ab
open Go Go.RowKit
set_option linter.unusedVariables false
set_option linter.unusedSimpArgs false

theorem iada_0 (id off n : Nat) : iadaA 1 (n + 1) (.pointer (some ⟨id, off, none⟩)) (.int .i64 0) = some (.pointer (some ⟨id, off, none⟩)) := by
  simp [iadaA]
theorem iada_1 (id off n : Nat) : iadaA 1 (n + 2) (.pointer (some ⟨id, off, none⟩)) (.int .i64 1) = some (.pointer (some ⟨id, off + 1, none⟩)) := by
  simp [iadaA]
  omega
theorem pairsC_ext {L : List (Int × Int)} {cs : List Value} (hl : cs.length = L.length * 2) (h : ∀ k, k < L.length → cs[k * 2]? = some (.int .i64 (L.getD k (0, 0)).1) ∧ cs[k * 2 + 1]? = some (.int .i64 (L.getD k (0, 0)).2)) : cs = pairsC L := by
  apply List.ext_getElem?
  intro i
  by_cases hi : i < L.length * 2
  · have p := pairsC_at L (i / 2) (by omega)
    have q := h (i / 2) (by omega)
    have ei : i = i / 2 * 2 ∨ i = i / 2 * 2 + 1 := by omega
    rcases ei with ei | ei
    · rw [← ei] at p q; rw [p.1, q.1]
    · rw [← ei] at p q; rw [p.2, q.2]
  · rw [List.getElem?_eq_none (by omega), List.getElem?_eq_none (by rw [pairsC_len]; omega)]
theorem pairC_ext' {L : List (Int × Int)} {k : Nat} : ((L.getD k (0, 0)).1, (L.getD k (0, 0)).2) = L.getD k (0, 0) := rfl
/-- Two cells of a pair set. -/
theorem set2_at {cs : List Value} {k j : Nat} {x y : Value} (h : k * 2 + 1 < cs.length) : ((cs.set (k * 2) x).set (k * 2 + 1) y)[j * 2]? = (if j = k then some x else cs[j * 2]?) ∧ ((cs.set (k * 2) x).set (k * 2 + 1) y)[j * 2 + 1]? = (if j = k then some y else cs[j * 2 + 1]?) := by
  constructor
  · rw [List.getElem?_set_ne (by omega)]
    by_cases e : j = k
    · subst e; rw [if_pos rfl, List.getElem?_set_self (by omega)]
    · rw [if_neg e, List.getElem?_set_ne (by omega)]
  · by_cases e : j = k
    · subst e; rw [if_pos rfl, List.getElem?_set_self (by rw [List.length_set]; omega)]
    · rw [if_neg e, List.getElem?_set_ne (by omega), List.getElem?_set_ne (by omega)]
end Go.Proofs.Ytghaogfhmbjlkaa.Ab
