/- Marks of pairs and tables. -/
import Derived.Test.YtmjnjhdacliieaaAbPairs
import Derived.Test.YtmjnjhdacliieaaAbTbl
namespace Go.Proofs.Ytmjnjhdacliieaa.Ab
open Go Go.RowKit
set_option linter.unusedVariables false
set_option linter.unusedSimpArgs false

theorem pm_first (k0 : Int) (n k : Nat) (h : k < n) : ((pmarks k0 n).getD k (0, 0)).1 = k0 + 2 * (k : Int) ∧ ((pmarks k0 n).getD k (0, 0)).2 = k0 + 2 * (k : Int) + 1 := by rw [pmarks_at h]; exact ⟨rfl, rfl⟩
theorem set1_at {cs : List Value} {a j : Nat} {x : Value} (h : a < cs.length) : (cs.set a x)[j]? = if j = a then some x else cs[j]? := by
  by_cases e : j = a
  · subst e; rw [if_pos rfl, List.getElem?_set_self h]
  · rw [if_neg e, List.getElem?_set_ne (by omega)]
end Go.Proofs.Ytmjnjhdacliieaa.Ab
