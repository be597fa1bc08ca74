/- Tables whose rows are written, and tables that grow by a row at their end. -/
import Derived.Test.YtihjcjhnkpkomaaAbTbl
import Derived.Test.YtihjcjhnkpkomaaAbObj2
namespace Go.Proofs.Ytihjcjhnkpkomaa.Ab
open Go Go.RowKit
set_option linter.unusedVariables false
set_option linter.unusedSimpArgs false

theorem rowsC_set9 {T : List (List Int)} {R F : Nat → Nat} {s : Nat} {r : List Int} (hs : s < T.length) (hl : r.length = (T.getD s []).length) : rowsC (T.set s r) R F = rowsC T R F := by
  apply List.ext_getElem?
  intro i
  by_cases hi : i < T.length
  · rw [rowsC_at hi, rowsC_at (by rw [List.length_set]; exact hi)]
    by_cases e : i = s
    · subst e
      rw [List.getD_eq_getElem?_getD, List.getElem?_set_self hi, Option.getD_some, hl]
    · rw [List.getD_eq_getElem?_getD, List.getElem?_set_ne (Ne.symm e), ← List.getD_eq_getElem?_getD]
  · rw [List.getElem?_eq_none (by rw [rowsC_len, List.length_set]; omega), List.getElem?_eq_none (by rw [rowsC_len]; omega)]
/-- A row of a table is written. -/
theorem tabX_put {T : List (List Int)} {lo hi : Nat} {M : Mem} {id : Nat} {R F : Nat → Nat} (h : TabX T lo hi M id R F) {s : Nat} {r : List Int} (hs : s < T.length) (hl : r.length = (T.getD s []).length) : TabX (T.set s r) lo hi (M.set (R s) (Ab.rowB r)) id R F := by
  have hne : R s ≠ id := fun e2 => by
    have c' : M[R s]? = some (Ab.rowB (T.getD s [])) := (h.2.2.2.1 s hs).2.2
    have d : M[id]? = some ⟨.own, 22, rowsC T R F⟩ := h.2.2.1
    rw [e2, d] at c'
    cases c'
  refine ⟨h.1, h.2.1, by rw [rowsC_set9 hs hl]; exact h.2.2.1.set_ne hne _, fun j hj => ?_, fun i j hi hj => h.2.2.2.2 i j (by simpa using hi) (by simpa using hj)⟩
  rw [List.length_set] at hj
  obtain ⟨a, b, c⟩ := h.2.2.2.1 j hj
  refine ⟨a, b, ?_⟩
  by_cases e : j = s
  · subst e
    rw [List.getD_eq_getElem?_getD, List.getElem?_set_self hj, Option.getD_some]
    exact c.set_self
  · rw [List.getD_eq_getElem?_getD, List.getElem?_set_ne (Ne.symm e), ← List.getD_eq_getElem?_getD]
    exact c.set_ne fun e2 => e (h.2.2.2.2 j s hj hs e2.symm)
theorem rowsC_snoc9 {T : List (List Int)} {r : List Int} {R F : Nat → Nat} {rid f : Nat} :
    rowsC (T ++ [r]) (fun j => if j < T.length then R j else rid) (fun j => if j < T.length then F j else f) = rowsC T R F ++ [.slice (some ⟨rid, 0, none⟩) r.length f] := by
  unfold rowsC
  rw [List.length_append, List.length_singleton, List.range_succ, List.map_append]
  congr 1
  · apply List.map_congr_left
    intro j hj
    have hj' := List.mem_range.1 hj
    simp [hj', List.getD_eq_getElem?_getD, List.getElem?_append_left hj']
  · simp [List.getD_eq_getElem?_getD]
theorem tabX_snoc {T : List (List Int)} {r : List Int} {lo hi hi' : Nat} {M M' : Mem} {id id' rid f : Nat} {R F : Nat → Nat} (h : TabX T lo hi M id R F) (hs : ∀ i, lo ≤ i → i < hi → i ≠ id → M'[i]? = M[i]?)
    (h1 : lo ≤ id') (h2 : id' < hi') (h3 : OwnB M' id' 22 (rowsC T R F ++ [.slice (some ⟨rid, 0, none⟩) r.length f])) (h4 : hi ≤ rid) (h5 : rid < hi') (h6 : OwnR M' rid r) (h7 : hi ≤ hi') :
    TabX (T ++ [r]) lo hi' M' id' (fun j => if j < T.length then R j else rid) (fun j => if j < T.length then F j else f) := by
  refine ⟨h1, h2, by rw [rowsC_snoc9]; exact h3, fun j hj => ?_, fun i j hi hj he => ?_⟩
  · by_cases e : j < T.length
    · obtain ⟨a, b, c⟩ := h.2.2.2.1 j e
      have hne : R j ≠ id := fun e2 => by
        have c' : M[R j]? = some (Ab.rowB (T.getD j [])) := c
        have d : M[id]? = some ⟨.own, 22, rowsC T R F⟩ := h.2.2.1
        rw [e2, d] at c'
        cases c'
      simp only [e, if_true]
      refine ⟨a, by omega, ?_⟩
      have e3 : (T ++ [r]).getD j [] = T.getD j [] := by simp [List.getD_eq_getElem?_getD, List.getElem?_append_left e]
      rw [e3]
      exact c.at_ (hs _ a b hne)
    · have e4 : j = T.length := by simp at hj; omega
      simp only [e, if_false]
      refine ⟨by have := h.1; have := h.2.1; omega, h5, ?_⟩
      have e3 : (T ++ [r]).getD j [] = r := by subst e4; simp [List.getD_eq_getElem?_getD]
      rw [e3]; exact h6
  · simp at hi hj he
    by_cases e1 : i < T.length <;> by_cases e2 : j < T.length
    · rw [if_pos e1, if_pos e2] at he
      exact h.2.2.2.2 i j e1 e2 he
    · rw [if_pos e1, if_neg e2] at he
      have := (h.2.2.2.1 i e1).2.1
      omega
    · rw [if_neg e1, if_pos e2] at he
      have := (h.2.2.2.1 j e2).2.1
      omega
    · omega
theorem tabX_nil {lo : Nat} {M : Mem} {id : Nat} (h : OwnB M id 22 []) (h1 : lo ≤ id) : TabX [] lo (id + 1) M id (fun _ => 0) (fun _ => 0) :=
  ⟨h1, by omega, h, fun j hj => absurd hj (by simp), fun i j hi => absurd hi (by simp)⟩
theorem tsz_bd9 {T : List (List Int)} {n : Nat} (h : ∀ j, j < T.length → (T.getD j []).length ≤ n) : tsz T T.length ≤ T.length * n := by
  have : ∀ k, k ≤ T.length → tsz T k ≤ k * n := by
    intro k
    induction k with
    | zero => intro _; simp [tsz]
    | succ k ih =>
      intro hk
      have h1 := ih (by omega)
      have h2 := h k (by omega)
      simp only [tsz]
      rw [Int.natCast_add, Int.add_mul]
      omega
  exact this _ (Nat.le_refl _)
end Go.Proofs.Ytihjcjhnkpkomaa.Ab
