/- Shelves: the way through all uses, step by step. -/
import Derived.Test.YtihjcjhnkpkomaaShMath2
namespace Go.Proofs.Ytihjcjhnkpkomaa
set_option linter.unusedVariables false

theorem allG_row {s : Sh} {nw : Bool} {j t : Nat} (h : j < t) : (allG s nw t).2.getD j [] = (gAt s nw j (j + 1)).row := by
  induction t with
  | zero => omega
  | succ t ih =>
    rw [allG_s]
    by_cases e : j < t
    · rw [List.getD_eq_getElem?_getD, List.getElem?_append_left (by rw [allG_len]; exact e), ← List.getD_eq_getElem?_getD]
      exact ih e
    · obtain rfl : j = t := by omega
      rw [List.getD_eq_getElem?_getD, List.getElem?_append_right (by rw [allG_len]; omega), allG_len, Nat.sub_self]
      rfl
theorem setD9l {T : List (List Int)} {i j : Nat} {x : List Int} (h : i < T.length) : (T.set i x).getD j [] = if j = i then x else T.getD j [] := by
  by_cases e : j = i
  · subst e
    rw [if_pos rfl, List.getD_eq_getElem?_getD, List.getElem?_set_self h, Option.getD_some]
  · rw [if_neg e, List.getD_eq_getElem?_getD, List.getElem?_set_ne (Ne.symm e), ← List.getD_eq_getElem?_getD]
structure GoAt (s : Sh) (nw : Bool) (t k : Nat) (U : List (List Int)) (A N : List Int) : Prop where
  ul : U.length = s.need.length
  u : ∀ j, j < s.need.length → U.getD j [] = if j < t then (allG s nw s.need.length).2.getD j [] else if j = t then (gAt s nw t k).row else List.replicate s.need.length 0
  a : A = (gAt s nw t k).A
  nl : N.length = s.need.length
  n1 : N.getD t 0 = (gAt s nw t k).r
  n2 : ∀ r, t < r → N.getD r 0 = s.need.getD r 0
theorem GoAt.zero (s : Sh) (nw : Bool) : GoAt s nw 0 0 (List.replicate s.need.length (List.replicate s.need.length 0)) s.arr s.need := by
  refine ⟨by simp, fun j hj => ?_, rfl, rfl, rfl, fun r _ => rfl⟩
  rw [if_neg (by omega)]
  have e : (List.replicate s.need.length (List.replicate s.need.length (0 : Int))).getD j [] = List.replicate s.need.length 0 := by
    rw [List.getD_eq_getElem?_getD, List.getElem?_replicate, if_pos hj]; rfl
  rw [e]
  split <;> rfl
theorem GoAt.len {s : Sh} {nw : Bool} {t k : Nat} {U : List (List Int)} {A N : List Int} (h : GoAt s nw t k U A N) (hg : GoodSh s) (ht : t ≤ s.need.length) (hk : t < s.need.length → k ≤ t + 1) : ∀ j, j < s.need.length → (U.getD j []).length = s.need.length := by
  intro j hj
  rw [h.u j hj]
  by_cases e : j < t
  · rw [if_pos e]
    exact (allG_ok hg nw s.need.length (Nat.le_refl _)).2.2 j hj
  · rw [if_neg e]
    by_cases e2 : j = t
    · rw [if_pos e2]
      exact (gAt_ok hg nw (t := t) (k := k) (by omega) (hk (by omega))).lr
    · rw [if_neg e2]; simp
theorem GoAt.take {s : Sh} {nw : Bool} {t k : Nat} {U : List (List Int)} {A N : List Int} (h : GoAt s nw t k U A N) (f : Nat) : most9 s.life A N t f = takeG s.life t f (gAt s nw t k) := by
  unfold most9 takeG
  rw [h.n1, h.a]
theorem GoAt.step {s : Sh} {nw : Bool} {t k : Nat} {U : List (List Int)} {A N : List Int} (h : GoAt s nw t k U A N) (hg : GoodSh s) (ht : t < s.need.length) (hk : k ≤ t) {u : Int} {f : Nat} (hf : f = colO nw t k) (hu : u = most9 s.life A N t f) :
    GoAt s nw t (k + 1) (U.set t ((U.getD t []).set f u)) (A.set f (A.getD f 0 - u)) (N.set t (N.getD t 0 - u)) := by
  have e : gAt s nw t (k + 1) = stepG s.life t f (gAt s nw t k) := by rw [gAt_s, hf]
  rw [h.take f] at hu
  have nl := h.nl
  have ul := h.ul
  refine ⟨by rw [List.length_set]; exact ul, fun j hj => ?_, ?_, by rw [List.length_set]; exact nl, ?_, fun r hr => ?_⟩
  · rw [setD9l (by omega)]
    by_cases e1 : j = t
    · subst e1
      rw [if_pos rfl, if_neg (by omega), if_pos rfl, e]
      have hr := h.u j hj
      rw [if_neg (by omega), if_pos rfl] at hr
      rw [hr, hu]; rfl
    · rw [if_neg e1, h.u j hj]
      by_cases e2 : j < t
      · rw [if_pos e2, if_pos e2]
      · rw [if_neg e2, if_neg e2, if_neg e1, if_neg e1]
  · rw [e, hu, h.a]; rfl
  · rw [setD9 (by omega), if_pos rfl, e, hu, h.n1]; rfl
  · rw [setD9 (by omega), if_neg (by omega)]
    exact h.n2 r hr
theorem GoAt.roll {s : Sh} {nw : Bool} {t : Nat} {U : List (List Int)} {A N : List Int} (h : GoAt s nw t (t + 1) U A N) (ht : t < s.need.length) : GoAt s nw (t + 1) 0 U A N := by
  refine ⟨h.ul, fun j hj => ?_, ?_, h.nl, h.n2 (t + 1) (by omega), fun r hr => h.n2 r (by omega)⟩
  · rw [h.u j hj]
    by_cases e1 : j < t
    · rw [if_pos e1, if_pos (by omega)]
    · rw [if_neg e1]
      by_cases e2 : j = t
      · subst e2
        rw [if_pos rfl, if_pos (by omega), allG_row hj]
      · rw [if_neg e2, if_neg (by omega)]
        by_cases e3 : j = t + 1
        · rw [if_pos e3]; rfl
        · rw [if_neg e3]
  · rw [h.a]; rfl
theorem GoAt.done {s : Sh} {nw : Bool} {k : Nat} {U : List (List Int)} {A N : List Int} (h : GoAt s nw s.need.length k U A N) : U = (allG s nw s.need.length).2 := by
  apply List.ext_getElem (by rw [h.ul, allG_len])
  intro i hi hj
  have hi' : i < s.need.length := by have := h.ul; omega
  have := h.u i hi'
  rw [if_pos hi', List.getD_eq_getElem?_getD, List.getD_eq_getElem?_getD, List.getElem?_eq_getElem hi, List.getElem?_eq_getElem hj] at this
  simpa using this
end Go.Proofs.Ytihjcjhnkpkomaa
