/- slices.Sort of at most twelve numbers: insertion, in the order in which they come. -/
import Derived.Test.YtnkbjliidenldaaAbFl13
import Derived.Test.YtnkbjliidenldaaShelf
namespace Go.Proofs.Ytnkbjliidenldaa.Ab
open Go Go.RowKit
set_option linter.unusedVariables false
set_option linter.unusedSimpArgs false

/-- The place behind all first numbers that are at most x. -/
def posP (l : List Int) (x : Int) : Nat := (l.takeWhile (fun y => decide (y ≤ x))).length
def insP (l : List Int) (x : Int) : List Int := l.take (posP l x) ++ x :: l.drop (posP l x)
theorem posP_uniq {l : List Int} {x : Int} : ∀ {j : Nat}, j ≤ l.length → (∀ a, a < j → l.getD a 0 ≤ x) → (j < l.length → x < l.getD j 0) → j = posP l x := by
  induction l with
  | nil => intro j hj _ _; simp at hj; simp [posP, hj]
  | cons y l ih =>
    intro j hj h1 h2
    cases j with
    | zero =>
      have := h2 (by simp)
      simp only [List.getD_cons_zero] at this
      simp only [posP, List.takeWhile_cons]
      rw [if_neg (by simp; omega)]; rfl
    | succ j =>
      have h0 := h1 0 (by omega)
      simp only [List.getD_cons_zero] at h0
      have := ih (j := j) (by simpa using hj) (fun a ha => by simpa using h1 (a + 1) (by omega)) (fun hl => by simpa using h2 (by simpa using hl))
      simp only [posP, List.takeWhile_cons]
      rw [if_pos (by simpa using h0), List.length_cons, this]; rfl
theorem posP_le (l : List Int) (x : Int) : posP l x ≤ l.length := by
  exact (List.takeWhile_sublist _).length_le
theorem posP_gt {l : List Int} {x : Int} (h : posP l x < l.length) : x < l.getD (posP l x) 0 := by
  induction l with
  | nil => simp at h
  | cons y l ih =>
    simp only [posP, List.takeWhile_cons] at h ⊢
    by_cases hy : y ≤ x
    · rw [if_pos (by simpa using hy)] at h ⊢
      simp only [List.length_cons] at h ⊢
      simp only [List.getD_cons_succ]
      exact ih (by simpa [posP] using h)
    · rw [if_neg (by simpa using hy)]
      simp only [List.length_nil, List.getD_cons_zero]; omega
theorem posP_lt {l : List Int} {x : Int} : ∀ a, a < posP l x → l.getD a 0 ≤ x := by
  induction l with
  | nil => intro a h; simp [posP] at h
  | cons y l ih =>
    intro a h
    simp only [posP, List.takeWhile_cons] at h
    by_cases hy : y ≤ x
    · rw [if_pos (by simpa using hy)] at h
      cases a with
      | zero => simpa using hy
      | succ a =>
        simp only [List.getD_cons_succ]
        exact ih a (by simp only [List.length_cons] at h; simp only [posP]; omega)
    · rw [if_neg (by simpa using hy)] at h
      simp at h
theorem insP_len (l : List Int) (x : Int) : (insP l x).length = l.length + 1 := by
  have := posP_le l x
  simp [insP, List.length_take, List.length_drop]; omega
theorem insP_at (l : List Int) (x : Int) (i : Nat) : (insP l x).getD i 0 = if i < posP l x then l.getD i 0 else if i = posP l x then x else l.getD (i - 1) 0 := by
  have hp := posP_le l x
  have htl : (l.take (posP l x)).length = posP l x := by rw [List.length_take]; omega
  unfold insP
  rw [List.getD_eq_getElem?_getD]
  by_cases h1 : i < posP l x
  · rw [if_pos h1, List.getElem?_append_left (by omega), List.getElem?_take, if_pos h1, List.getD_eq_getElem?_getD]
  · rw [if_neg h1, List.getElem?_append_right (by omega), htl]
    by_cases h2 : i = posP l x
    · rw [if_pos h2, h2, Nat.sub_self]; rfl
    · rw [if_neg h2]
      obtain ⟨d, hd⟩ : ∃ d, i - posP l x = d + 1 := ⟨i - posP l x - 1, by omega⟩
      rw [hd, List.getElem?_cons_succ, List.getElem?_drop, List.getD_eq_getElem?_getD]
      congr 2; omega
def ascL (l : List Int) : Prop := ∀ i, i + 1 < l.length → l.getD i 0 ≤ l.getD (i + 1) 0
theorem ascL_le {l : List Int} (h : ascL l) {j : Nat} : ∀ d, j + d < l.length → l.getD j 0 ≤ l.getD (j + d) 0
  | 0, _ => Int.le_refl _
  | d + 1, hd => Int.le_trans (ascL_le h d (by omega)) (h (j + d) (by omega))
theorem insP_asc {l : List Int} (h : ascL l) (x : Int) : ascL (insP l x) := fun i hi => by
  rw [insP_len] at hi
  rw [insP_at, insP_at]
  have h1 := @posP_lt l x
  have h2 := @posP_gt l x
  by_cases c1 : i + 1 < posP l x
  · rw [if_pos c1, if_pos (by omega)]; have := posP_le l x; exact h i (by omega)
  · by_cases c2 : i + 1 = posP l x
    · rw [if_neg c1, if_pos c2, if_pos (by omega)]; exact h1 i (by omega)
    · rw [if_neg c1, if_neg c2, if_neg (by omega)]
      by_cases c3 : i = posP l x
      · rw [if_pos c3, Nat.add_sub_cancel, c3]; have := h2 (by omega); omega
      · rw [if_neg c3, Nat.add_sub_cancel]
        have := h (i - 1) (by omega)
        rwa [show i - 1 + 1 = i by omega] at this
def insA (L : List Int) : Nat → List Int
  | 0 => []
  | i + 1 => insP (insA L i) (L.getD i 0)
theorem insA_len (L : List Int) : ∀ i, (insA L i).length = i
  | 0 => rfl
  | i + 1 => by simp only [insA]; rw [insP_len, insA_len L i]
theorem insA_asc (L : List Int) : ∀ i, ascL (insA L i)
  | 0 => fun i hi => absurd hi (by simp [insA])
  | i + 1 => insP_asc (insA_asc L i) _
/-- A number on its way down. -/
def rowJ (l : List Int) (x : Int) (t : List Int) (j : Nat) : List Int := l.take j ++ x :: (l.drop j ++ t)
theorem rowJ_len {l : List Int} {x : Int} {t : List Int} {j : Nat} (hj : j ≤ l.length) : (rowJ l x t j).length = l.length + 1 + t.length := by
  simp [rowJ]; omega
theorem rowJ_top (l : List Int) (x : Int) (t : List Int) : rowJ l x t l.length = l ++ x :: t := by simp [rowJ]
theorem rowJ_x {l : List Int} {x : Int} {t : List Int} {j : Nat} (hj : j ≤ l.length) : (rowJ l x t j).getD j 0 = x := by
  unfold rowJ
  rw [List.getD_eq_getElem?_getD, List.getElem?_append_right (by rw [List.length_take]; omega)]
  rw [List.length_take, Nat.min_eq_left hj, Nat.sub_self]; rfl
theorem rowJ_y {l : List Int} {x : Int} {t : List Int} {j : Nat} (hj : j + 1 ≤ l.length) : (rowJ l x t (j + 1)).getD j 0 = l.getD j 0 := by
  unfold rowJ
  rw [List.getD_eq_getElem?_getD, List.getElem?_append_left (by rw [List.length_take]; omega), List.getElem?_take, if_pos (by omega), List.getD_eq_getElem?_getD]
theorem rowJ_sw {l : List Int} {x : Int} {t : List Int} {j : Nat} (hj : j + 1 ≤ l.length) : ((rowJ l x t (j + 1)).set (j + 1) (l.getD j 0)).set j x = rowJ l x t j := by
  unfold rowJ
  have e1 : l.take (j + 1) = l.take j ++ [l.getD j 0] := by
    rw [List.take_succ_eq_append_getElem (by omega), List.getD_eq_getElem?_getD, List.getElem?_eq_getElem (by omega)]; rfl
  have e2 : l.drop j = l.getD j 0 :: l.drop (j + 1) := by
    rw [List.drop_eq_getElem_cons (by omega), List.getD_eq_getElem?_getD, List.getElem?_eq_getElem (by omega)]; rfl
  have hl : (l.take j).length = j := by rw [List.length_take]; omega
  rw [e1, e2]
  generalize hA : l.take j = A at *
  generalize l.getD j 0 = y
  generalize l.drop (j + 1) = B
  rw [List.append_assoc, List.set_append_right _ _ (by omega), List.set_append_right _ _ (by omega)]
  simp [hl]
theorem row_same {m : Mem} {id : Nat} {l : List Int} (h : OwnR m id l) : m.set id (rowB l) = m := by
  refine List.ext_getElem? fun i => ?_
  rw [List.getElem?_set]
  split
  · rename_i e
    subst e
    rw [if_pos h.lt]; exact (show m[id]? = some (rowB l) from h).symm
  · rfl
theorem isNaN11_rc (m : Mem) (x : Int) : RC Try.prog 158 [.int .i64 x] m fun r new => r = .bool false ∧ new = [] := by
  refine rc_of_run mixed ok_cmp_isNaN (by simp) (go_start _ _ _ ?_)
  simp (config := {implicitDefEqProofs := false, maxDischargeDepth := 20}) (disch := first | omega | (simp only [lenE]; done) | (simp only [lenE]; omega) | rfl | (simp only [lenE, markR_len]; done) | (simp only [lenE, markR_len]; omega)) only [runE, mapE, listE, initT_5, initT_6, initT_7, initT_8, resV, oneV, binA, unA, reduceCtorEq, Nat.reduceEqDiff, Nat.reduceAdd, Nat.reduceLT, Nat.reduceLeDiff, Nat.reduceMul, Nat.reduceSub, ↓reduceIte, decide_true, decide_false, Bool.true_eq_false, Bool.false_eq_true, Bool.not_true, Bool.not_false, if_true, if_false, and_true, true_and, memE, celE, w64, Nat.zero_add, Nat.add_zero, Nat.mul_one, putL, and_self, ldn, c_cmp_isNaN, r_cmp_isNaN, bne_self_eq_false]
  exact newQ_nil ⟨rfl, rfl⟩
theorem cmpLess11_rc (m : Mem) (x y : Int) : RC Try.prog 148 [.int .i64 x, .int .i64 y] m fun r new => r = .bool (decide (x < y)) ∧ new = [] := by
  refine rc_of_run mixed ok_cmp_Less (by simp) (go_start _ _ _ ?_)
  simp (config := {implicitDefEqProofs := false, maxDischargeDepth := 20}) (disch := first | omega | (simp only [lenE]; done) | (simp only [lenE]; omega) | rfl | (simp only [lenE, markR_len]; done) | (simp only [lenE, markR_len]; omega)) only [runE, mapE, listE, initT_5, initT_6, initT_7, initT_8, resV, oneV, binA, unA, reduceCtorEq, Nat.reduceEqDiff, Nat.reduceAdd, Nat.reduceLT, Nat.reduceLeDiff, Nat.reduceMul, Nat.reduceSub, ↓reduceIte, decide_true, decide_false, Bool.true_eq_false, Bool.false_eq_true, Bool.not_true, Bool.not_false, if_true, if_false, and_true, true_and, memE, celE, w64, Nat.zero_add, Nat.add_zero, Nat.mul_one, putL, and_self, ldn, c_cmp_Less, r_cmp_Less]
  refine callH_rc (isNaN11_rc _ x) ?_
  rintro r new ⟨rfl, rfl⟩
  simp (config := {implicitDefEqProofs := false, maxDischargeDepth := 20}) (disch := first | omega | (simp only [lenE]; done) | (simp only [lenE]; omega) | rfl | (simp only [lenE, markR_len]; done) | (simp only [lenE, markR_len]; omega)) only [runE, mapE, listE, initT_5, initT_6, initT_7, initT_8, resV, oneV, binA, unA, reduceCtorEq, Nat.reduceEqDiff, Nat.reduceAdd, Nat.reduceLT, Nat.reduceLeDiff, Nat.reduceMul, Nat.reduceSub, ↓reduceIte, decide_true, decide_false, Bool.true_eq_false, Bool.false_eq_true, Bool.not_true, Bool.not_false, if_true, if_false, and_true, true_and, memE, celE, w64, Nat.zero_add, Nat.add_zero, Nat.mul_one, putL, and_self, ldn, List.append_nil]
  exact newQ_nil ⟨rfl, rfl⟩
set_option maxHeartbeats 4000000 in
theorem insertSort_ac (m : Mem) (id fl : Nat) (L : List Int) (h : OwnR m id L) (hl : L.length ≤ 12) :
    AC Try.prog 142 [.slice (some ⟨id, 0, none⟩) L.length fl, .int .i64 0, .int .i64 L.length] m fun _ m' => m' = m.set id (rowB (insA L L.length)) := by
  refine ac_of_run mixed ok_slices_insertionSortOrdered (by simp) (go_start _ _ _ ?_)
  by_cases h0 : L.length = 0
  · have hL : L = [] := List.eq_nil_of_length_eq_zero h0
    subst hL
    simp (config := {implicitDefEqProofs := false, maxDischargeDepth := 20}) (disch := first | omega | (simp only [lenE]; done) | (simp only [lenE]; omega) | rfl | (simp only [lenE, markR_len]; done) | (simp only [lenE, markR_len]; omega)) only [runE, mapE, listE, initT_5, initT_6, initT_7, initT_8, resV, oneV, binA, unA, reduceCtorEq, Nat.reduceEqDiff, Nat.reduceAdd, Nat.reduceLT, Nat.reduceLeDiff, Nat.reduceMul, Nat.reduceSub, ↓reduceIte, decide_true, decide_false, Bool.true_eq_false, Bool.false_eq_true, Bool.not_true, Bool.not_false, if_true, if_false, and_true, true_and, memE, celE, w64, Nat.zero_add, Nat.add_zero, Nat.mul_one, putL, and_self, ldn, c_slices_insertionSortOrdered, r_slices_insertionSortOrdered]
    refine loop_inv mixed (fun s => s.m = m ∧ s.t 2 = .int .i64 0 ∧ s.t 6 = .int .i64 1) (fun s => 0) ⟨rfl, rfl, rfl⟩ ?_
    rintro s ⟨tm, t2, t6⟩
    have h10 : ¬ ((1 : Int) < 0) := by omega
    simp (config := {implicitDefEqProofs := false, maxDischargeDepth := 20}) (disch := first | omega | (simp only [lenE]; done) | (simp only [lenE]; omega) | rfl | (simp only [lenE, markR_len]; done) | (simp only [lenE, markR_len]; omega)) only [runE, mapE, listE, initT_5, initT_6, initT_7, initT_8, resV, oneV, binA, unA, reduceCtorEq, Nat.reduceEqDiff, Nat.reduceAdd, Nat.reduceLT, Nat.reduceLeDiff, Nat.reduceMul, Nat.reduceSub, ↓reduceIte, decide_true, decide_false, Bool.true_eq_false, Bool.false_eq_true, Bool.not_true, Bool.not_false, if_true, if_false, and_true, true_and, memE, celE, w64, Nat.zero_add, Nat.add_zero, Nat.mul_one, putL, and_self, ldn, tm, t2, t6, h10]
    exact (row_same h).symm
  · simp (config := {implicitDefEqProofs := false, maxDischargeDepth := 20}) (disch := first | omega | (simp only [lenE]; done) | (simp only [lenE]; omega) | rfl | (simp only [lenE, markR_len]; done) | (simp only [lenE, markR_len]; omega)) only [runE, mapE, listE, initT_5, initT_6, initT_7, initT_8, resV, oneV, binA, unA, reduceCtorEq, Nat.reduceEqDiff, Nat.reduceAdd, Nat.reduceLT, Nat.reduceLeDiff, Nat.reduceMul, Nat.reduceSub, ↓reduceIte, decide_true, decide_false, Bool.true_eq_false, Bool.false_eq_true, Bool.not_true, Bool.not_false, if_true, if_false, and_true, true_and, memE, celE, w64, Nat.zero_add, Nat.add_zero, Nat.mul_one, putL, and_self, ldn, c_slices_insertionSortOrdered, r_slices_insertionSortOrdered]
    refine loop_inv mixed (fun s => ∃ i : Nat, 1 ≤ i ∧ i ≤ L.length ∧ s.m = m.set id (rowB (insA L i ++ L.drop i)) ∧ s.t 0 = .slice (some ⟨id, 0, none⟩) L.length fl ∧ s.t 1 = .int .i64 0 ∧ s.t 2 = .int .i64 L.length ∧ s.t 6 = .int .i64 i) (fun s => L.length - (intOf (s.t 6)).toNat)
      ⟨1, by omega, by omega, ?_, rfl, rfl, rfl, rfl⟩ ?_
    · have e : insA L 1 ++ L.drop 1 = L := by
        cases L with
        | nil => simp at h0
        | cons x L => simp [insA, insP, posP]
      rw [e, row_same h]
      rfl
    rintro s ⟨i, hi1, hi, tm, t0, t1, t2, t6⟩
    by_cases hlt : i < L.length
    · have hlt' : (i : Int) < L.length := by omega
      obtain ⟨l, hll⟩ : ∃ l, l = insA L i := ⟨_, rfl⟩
      have hlen : l.length = i := by rw [hll]; exact insA_len L i
      have hasc : ascL l := by rw [hll]; exact insA_asc L i
      obtain ⟨x, hx⟩ : ∃ x, x = L.getD i 0 := ⟨_, rfl⟩
      obtain ⟨t, ht⟩ : ∃ t, t = L.drop (i + 1) := ⟨_, rfl⟩
      have htl : i + 1 + t.length = L.length := by rw [ht, List.length_drop]; omega
      have hd : L.drop i = x :: t := by
        rw [List.drop_eq_getElem_cons hlt, hx, ht, List.getD_eq_getElem?_getD, List.getElem?_eq_getElem hlt]; rfl
      have hS : insA L (i + 1) = insP l x := by rw [hll, hx]; rfl
      rw [← hll, hd] at tm
      simp (config := {implicitDefEqProofs := false, maxDischargeDepth := 20}) (disch := first | omega | (simp only [lenE]; done) | (simp only [lenE]; omega) | rfl | (simp only [lenE, markR_len]; done) | (simp only [lenE, markR_len]; omega)) only [runE, mapE, listE, initT_5, initT_6, initT_7, initT_8, resV, oneV, binA, unA, reduceCtorEq, Nat.reduceEqDiff, Nat.reduceAdd, Nat.reduceLT, Nat.reduceLeDiff, Nat.reduceMul, Nat.reduceSub, ↓reduceIte, decide_true, decide_false, Bool.true_eq_false, Bool.false_eq_true, Bool.not_true, Bool.not_false, if_true, if_false, and_true, true_and, memE, celE, w64, Nat.zero_add, Nat.add_zero, Nat.mul_one, putL, and_self, ldn, tm, t0, t1, t2, t6, hlt']
      refine loop_inv mixed (fun s => ∃ j : Nat, j ≤ i ∧ (∀ a, j ≤ a → a < i → x < l.getD a 0) ∧ s.m = m.set id (rowB (rowJ l x t j)) ∧ s.t 0 = .slice (some ⟨id, 0, none⟩) L.length fl ∧ s.t 1 = .int .i64 0 ∧ s.t 2 = .int .i64 L.length ∧ s.t 6 = .int .i64 i ∧ s.t 7 = .int .i64 j) (fun s => (intOf (s.t 7)).toNat)
        ⟨i, Nat.le_refl _, fun a h1 h2 => absurd h1 (by omega), by simp only [put_t, put_t', put_m, putT_t, putT_t', putT_m, init_t, init_m, initT_0, initT_1, initT_2, initT_3, initT_4, initT_5, initT_6, initT_7, initT_8, Nat.reduceEqDiff, ↓reduceIte, tm]; rw [← hlen, rowJ_top], by simp only [put_t, put_t', put_m, putT_t, putT_t', putT_m, init_t, init_m, initT_0, initT_1, initT_2, initT_3, initT_4, initT_5, initT_6, initT_7, initT_8, Nat.reduceEqDiff, ↓reduceIte, t0], by simp only [put_t, put_t', put_m, putT_t, putT_t', putT_m, init_t, init_m, initT_0, initT_1, initT_2, initT_3, initT_4, initT_5, initT_6, initT_7, initT_8, Nat.reduceEqDiff, ↓reduceIte, t1], by simp only [put_t, put_t', put_m, putT_t, putT_t', putT_m, init_t, init_m, initT_0, initT_1, initT_2, initT_3, initT_4, initT_5, initT_6, initT_7, initT_8, Nat.reduceEqDiff, ↓reduceIte, t2], by simp only [put_t, put_t', put_m, putT_t, putT_t', putT_m, init_t, init_m, initT_0, initT_1, initT_2, initT_3, initT_4, initT_5, initT_6, initT_7, initT_8, Nat.reduceEqDiff, ↓reduceIte, t6], by simp only [put_t, put_t', put_m, putT_t, putT_t', putT_m, init_t, init_m, initT_0, initT_1, initT_2, initT_3, initT_4, initT_5, initT_6, initT_7, initT_8, Nat.reduceEqDiff, ↓reduceIte, t6]⟩ ?_
      clear tm t0 t1 t2 t6
      rintro s ⟨j, hj, hgt, tm, t0, t1, t2, t6, t7⟩
      have hO : OwnR (m.set id (rowB (rowJ l x t j))) id (rowJ l x t j) := h.set_self
      have hRl : (rowJ l x t j).length = L.length := by rw [rowJ_len (by omega)]; omega
      have fin : (j = 0 ∨ l.getD (j - 1) 0 ≤ x) → rowJ l x t j = insA L (i + 1) ++ L.drop (i + 1) := fun hc => by
        have hp : j = posP l x := posP_uniq (by omega) (fun a ha => by
          rcases hc with hc | hc
          · omega
          · have := ascL_le hasc (j := a) (j - 1 - a) (by omega)
            rw [show a + (j - 1 - a) = j - 1 by omega] at this
            omega) (fun hl => hgt j (Nat.le_refl _) (by omega))
        rw [hS, ← ht]
        unfold rowJ insP
        rw [← hp, List.append_assoc, List.cons_append]
      by_cases hj0 : j = 0
      · subst hj0
        have hz : ¬ ((0 : Int) < ((0 : Nat) : Int)) := by omega
        simp (config := {implicitDefEqProofs := false, maxDischargeDepth := 20}) (disch := first | omega | (simp only [lenE]; done) | (simp only [lenE]; omega) | rfl | (simp only [lenE, markR_len]; done) | (simp only [lenE, markR_len]; omega)) only [runE, mapE, listE, initT_5, initT_6, initT_7, initT_8, resV, oneV, binA, unA, reduceCtorEq, Nat.reduceEqDiff, Nat.reduceAdd, Nat.reduceLT, Nat.reduceLeDiff, Nat.reduceMul, Nat.reduceSub, ↓reduceIte, decide_true, decide_false, Bool.true_eq_false, Bool.false_eq_true, Bool.not_true, Bool.not_false, if_true, if_false, and_true, true_and, memE, celE, w64, Nat.zero_add, Nat.add_zero, Nat.mul_one, putL, and_self, ldn, tm, t0, t1, t2, t6, t7, gt_iff_lt, hz]
        refine ⟨⟨i + 1, by omega, by omega, by rw [fin (.inl rfl)], by simp⟩, ?_⟩
        simp [intOf]; omega
      · obtain ⟨k, hk⟩ : ∃ k, j = k + 1 := ⟨j - 1, by omega⟩
        subst hk
        have hgt0 : (0 : Int) < ((k + 1 : Nat) : Int) := by omega
        have ek : ((k + 1 : Nat) : Int) - 1 = (k : Int) := by omega
        have q1 := iad0 (id := id) (n := L.length) (fl := fl) (z := ((k + 1 : Nat) : Int)) rfl (by omega)
        have q2 := iad0 (id := id) (n := L.length) (fl := fl) (z := (k : Int)) rfl (by omega)
        have r1 := hO.rd' (i := k + 1) (by omega)
        have r2 := hO.rd' (i := k) (by omega)
        rw [rowJ_x (by omega)] at r1
        rw [rowJ_y (by omega)] at r2
        simp (config := {implicitDefEqProofs := false, maxDischargeDepth := 20}) (disch := first | omega | (simp only [lenE]; done) | (simp only [lenE]; omega) | rfl | (simp only [lenE, markR_len]; done) | (simp only [lenE, markR_len]; omega)) only [runE, mapE, listE, initT_5, initT_6, initT_7, initT_8, resV, oneV, binA, unA, reduceCtorEq, Nat.reduceEqDiff, Nat.reduceAdd, Nat.reduceLT, Nat.reduceLeDiff, Nat.reduceMul, Nat.reduceSub, ↓reduceIte, decide_true, decide_false, Bool.true_eq_false, Bool.false_eq_true, Bool.not_true, Bool.not_false, if_true, if_false, and_true, true_and, memE, celE, w64, Nat.zero_add, Nat.add_zero, Nat.mul_one, putL, and_self, ldn, tm, t0, t1, t2, t6, t7, gt_iff_lt, hgt0, ek, q1, q2, r1, r2]
        refine rcallH_rc (cmpLess11_rc _ _ _) ?_
        rintro r new ⟨rfl, rfl⟩
        rw [List.append_nil]
        by_cases hc : x < l.getD k 0
        · have s1 := hO.st (off := k + 1) (x := l.getD k 0) (by omega)
          have hO2 : OwnR ((m.set id (rowB (rowJ l x t (k + 1)))).set id (rowB ((rowJ l x t (k + 1)).set (k + 1) (l.getD k 0)))) id ((rowJ l x t (k + 1)).set (k + 1) (l.getD k 0)) := hO.set_self
          have s2 := hO2.st (off := k) (x := x) (by rw [List.length_set]; omega)
          simp (config := {implicitDefEqProofs := false, maxDischargeDepth := 20}) (disch := first | omega | (simp only [lenE]; done) | (simp only [lenE]; omega) | rfl | (simp only [lenE, markR_len]; done) | (simp only [lenE, markR_len]; omega)) only [runE, mapE, listE, initT_5, initT_6, initT_7, initT_8, resV, oneV, binA, unA, reduceCtorEq, Nat.reduceEqDiff, Nat.reduceAdd, Nat.reduceLT, Nat.reduceLeDiff, Nat.reduceMul, Nat.reduceSub, ↓reduceIte, decide_true, decide_false, Bool.true_eq_false, Bool.false_eq_true, Bool.not_true, Bool.not_false, if_true, if_false, and_true, true_and, memE, celE, w64, Nat.zero_add, Nat.add_zero, Nat.mul_one, putL, and_self, ldn, tm, t0, t1, t2, t6, t7, hc, ek, q1, q2, r1, r2, s1, s2]
          refine ⟨⟨k, by omega, fun a h1 h2 => ?_, ?_, by simp⟩, ?_⟩
          · by_cases e : a = k
            · subst e; exact hc
            · exact hgt a (by omega) h2
          · rw [rowJ_sw (by omega)]; simp
          · simp [intOf]
        · simp (config := {implicitDefEqProofs := false, maxDischargeDepth := 20}) (disch := first | omega | (simp only [lenE]; done) | (simp only [lenE]; omega) | rfl | (simp only [lenE, markR_len]; done) | (simp only [lenE, markR_len]; omega)) only [runE, mapE, listE, initT_5, initT_6, initT_7, initT_8, resV, oneV, binA, unA, reduceCtorEq, Nat.reduceEqDiff, Nat.reduceAdd, Nat.reduceLT, Nat.reduceLeDiff, Nat.reduceMul, Nat.reduceSub, ↓reduceIte, decide_true, decide_false, Bool.true_eq_false, Bool.false_eq_true, Bool.not_true, Bool.not_false, if_true, if_false, and_true, true_and, memE, celE, w64, Nat.zero_add, Nat.add_zero, Nat.mul_one, putL, and_self, ldn, tm, t0, t1, t2, t6, t7, hc]
          refine ⟨⟨i + 1, by omega, by omega, by rw [fin (.inr (by rw [Nat.add_sub_cancel]; omega))], by simp⟩, ?_⟩
          simp [intOf]; omega
    · have hlt' : ¬ ((i : Int) < L.length) := by omega
      obtain rfl : i = L.length := by omega
      simp (config := {implicitDefEqProofs := false, maxDischargeDepth := 20}) (disch := first | omega | (simp only [lenE]; done) | (simp only [lenE]; omega) | rfl | (simp only [lenE, markR_len]; done) | (simp only [lenE, markR_len]; omega)) only [runE, mapE, listE, initT_5, initT_6, initT_7, initT_8, resV, oneV, binA, unA, reduceCtorEq, Nat.reduceEqDiff, Nat.reduceAdd, Nat.reduceLT, Nat.reduceLeDiff, Nat.reduceMul, Nat.reduceSub, ↓reduceIte, decide_true, decide_false, Bool.true_eq_false, Bool.false_eq_true, Bool.not_true, Bool.not_false, if_true, if_false, and_true, true_and, memE, celE, w64, Nat.zero_add, Nat.add_zero, Nat.mul_one, putL, and_self, ldn, tm, t0, t1, t2, t6, hlt']
      rw [List.drop_length, List.append_nil]
end Go.Proofs.Ytnkbjliidenldaa.Ab
