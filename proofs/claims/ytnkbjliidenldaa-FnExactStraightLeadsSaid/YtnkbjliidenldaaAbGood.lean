/- The contracts of the functions behind IsCase. -/
import Derived.Test.YtnkbjliidenldaaAbLaw
import Derived.Test.YtnkbjliidenldaaCodTwo
namespace Go.Proofs.Ytnkbjliidenldaa.Ab
open Go Go.RowKit
set_option linter.unusedVariables false
set_option linter.unusedSimpArgs false

def inB (most x : Int) : Bool := decide (0 ≤ x) && decide (x ≤ most)
theorem inB_iff {most x : Int} : inB most x = true ↔ 0 ≤ x ∧ x ≤ most := by simp [inB]
theorem rowB_all (l : List Int) (n : Nat) (most : Int) : Go.Proofs.Ytnkbjliidenldaa.rowB l n most = (decide (l.length = n) && l.all (inB most)) := by
  rw [Bool.and_comm]; rfl
/-- The first k numbers are all right. -/
def allTo (f : Int → Bool) (l : List Int) (k : Nat) : Prop := ∀ j, j < k → f (l.getD j 0) = true
theorem allTo_all {f : Int → Bool} {l : List Int} (h : allTo f l l.length) : l.all f = true := by
  rw [List.all_eq_true]
  intro x hx
  obtain ⟨k, hk, rfl⟩ := List.getElem_of_mem hx
  have := h k hk
  rwa [List.getD_eq_getElem?_getD, List.getElem?_eq_getElem hk] at this
theorem allTo_no {f : Int → Bool} {l : List Int} {k : Nat} (hk : k < l.length) (h : f (l.getD k 0) = false) : l.all f = false := by
  rw [List.getD_eq_getElem?_getD, List.getElem?_eq_getElem hk] at h
  cases hr : l.all f with
  | false => rfl
  | true => rw [Option.getD_some, List.all_eq_true.1 hr _ (List.getElem_mem hk)] at h; cases h
theorem allTo_s {f : Int → Bool} {l : List Int} {k : Nat} (h : allTo f l k) (h2 : f (l.getD k 0) = true) : allTo f l (k + 1) := fun j hj => by
  by_cases e : j = k
  · rw [e]; exact h2
  · exact h j (by omega)

theorem l1In_rc (m : Mem) (x lo hi : Int) : RC Try.prog 73 [.int .i64 x, .int .i64 lo, .int .i64 hi] m fun r new => r = .bool (decide (lo ≤ x) && decide (x ≤ hi)) ∧ new = [] := by
  refine rc_of_run mixed ok_spec_l1In (by simp) (go_start _ _ _ ?_)
  by_cases h1 : lo ≤ x <;> by_cases h2 : x ≤ hi
  all_goals
    simp (config := {implicitDefEqProofs := false, maxDischargeDepth := 20}) (disch := first | omega | (simp only [lenE]; done) | (simp only [lenE]; omega) | rfl | (simp only [lenE, markR_len]; done) | (simp only [lenE, markR_len]; omega)) only [runE, mapE, listE, initT_5, initT_6, initT_7, initT_8, resV, oneV, binA, unA, reduceCtorEq, Nat.reduceEqDiff, Nat.reduceAdd, Nat.reduceLT, Nat.reduceLeDiff, Nat.reduceMul, Nat.reduceSub, ↓reduceIte, decide_true, decide_false, Bool.true_eq_false, Bool.false_eq_true, Bool.not_true, Bool.not_false, if_true, if_false, and_true, true_and, memE, celE, w64, Nat.zero_add, Nat.add_zero, Nat.mul_one, putL, and_self, ldn, c_spec_l1In, r_spec_l1In, h1, h2, ge_iff_le]
    exact newQ_nil ⟨by simp, rfl⟩

theorem l2Row_rc (m : Mem) (v : Value) (l : List Int) (n : Nat) (most : Int) (h : IntsA m v l) :
    RC Try.prog 137 [v, .int .i64 n, .int .i64 most] m fun r new => r = .bool (Go.Proofs.Ytnkbjliidenldaa.rowB l n most) ∧ new = [] := by
  refine rc_of_run mixed ok_spec_l2Row (by simp) (go_start _ _ _ ?_)
  obtain ⟨e1, e2, e3, e4, -⟩ := h.ro
  rw [rowB_all]
  simp (config := {implicitDefEqProofs := false, maxDischargeDepth := 20}) (disch := first | omega | (simp only [lenE]; done) | (simp only [lenE]; omega) | rfl | (simp only [lenE, markR_len]; done) | (simp only [lenE, markR_len]; omega)) only [runE, mapE, listE, initT_5, initT_6, initT_7, initT_8, resV, oneV, binA, unA, reduceCtorEq, Nat.reduceEqDiff, Nat.reduceAdd, Nat.reduceLT, Nat.reduceLeDiff, Nat.reduceMul, Nat.reduceSub, ↓reduceIte, decide_true, decide_false, Bool.true_eq_false, Bool.false_eq_true, Bool.not_true, Bool.not_false, if_true, if_false, and_true, true_and, memE, celE, w64, Nat.zero_add, Nat.add_zero, Nat.mul_one, putL, and_self, ldn, c_spec_l2Row, r_spec_l2Row]
  refine loop_inv mixed (fun s => ∃ k : Nat, k ≤ l.length ∧ s.t 0 = v ∧ s.t 1 = .int .i64 n ∧ s.t 2 = .int .i64 most ∧ s.t 7 = .int .i64 k ∧ s.m = roM m ∧ allTo (inB most) l k) (fun s => l.length - (intOf (s.t 7)).toNat) ⟨0, by omega, rfl, rfl, rfl, rfl, rfl, fun j hj => absurd hj (by omega)⟩ ?_
  rintro s ⟨k, hk, t0, t1, t2, t7, tm, hall⟩
  by_cases hlt : k < l.length
  · have hlt' : (k : Int) < l.length := by omega
    simp (config := {implicitDefEqProofs := false, maxDischargeDepth := 20}) (disch := first | omega | (simp only [lenE]; done) | (simp only [lenE]; omega) | rfl | (simp only [lenE, markR_len]; done) | (simp only [lenE, markR_len]; omega)) only [runE, mapE, listE, initT_5, initT_6, initT_7, initT_8, resV, oneV, binA, unA, reduceCtorEq, Nat.reduceEqDiff, Nat.reduceAdd, Nat.reduceLT, Nat.reduceLeDiff, Nat.reduceMul, Nat.reduceSub, ↓reduceIte, decide_true, decide_false, Bool.true_eq_false, Bool.false_eq_true, Bool.not_true, Bool.not_false, if_true, if_false, and_true, true_and, memE, celE, w64, Nat.zero_add, Nat.add_zero, Nat.mul_one, putL, and_self, ldn, t0, t1, t2, t7, tm, e1, e3 k hlt, e4 k hlt, hlt']
    refine callH_rc (l1In_rc _ _ _ _) ?_
    rintro r new ⟨rfl, rfl⟩
    have hin : (decide (0 ≤ l.getD k 0) && decide (l.getD k 0 ≤ most)) = inB most (l.getD k 0) := rfl
    rw [hin]
    cases hb : inB most (l.getD k 0) with
    | true =>
      simp (config := {implicitDefEqProofs := false, maxDischargeDepth := 20}) (disch := first | omega | (simp only [lenE]; done) | (simp only [lenE]; omega) | rfl | (simp only [lenE, markR_len]; done) | (simp only [lenE, markR_len]; omega)) only [runE, mapE, listE, initT_5, initT_6, initT_7, initT_8, resV, oneV, binA, unA, reduceCtorEq, Nat.reduceEqDiff, Nat.reduceAdd, Nat.reduceLT, Nat.reduceLeDiff, Nat.reduceMul, Nat.reduceSub, ↓reduceIte, decide_true, decide_false, Bool.true_eq_false, Bool.false_eq_true, Bool.not_true, Bool.not_false, if_true, if_false, and_true, true_and, memE, celE, w64, Nat.zero_add, Nat.add_zero, Nat.mul_one, putL, and_self, ldn, t0, t1, t2, t7, tm]
      refine ⟨⟨k + 1, by omega, by simp, allTo_s hall hb⟩, ?_⟩
      simp [intOf]; omega
    | false =>
      simp (config := {implicitDefEqProofs := false, maxDischargeDepth := 20}) (disch := first | omega | (simp only [lenE]; done) | (simp only [lenE]; omega) | rfl | (simp only [lenE, markR_len]; done) | (simp only [lenE, markR_len]; omega)) only [runE, mapE, listE, initT_5, initT_6, initT_7, initT_8, resV, oneV, binA, unA, reduceCtorEq, Nat.reduceEqDiff, Nat.reduceAdd, Nat.reduceLT, Nat.reduceLeDiff, Nat.reduceMul, Nat.reduceSub, ↓reduceIte, decide_true, decide_false, Bool.true_eq_false, Bool.false_eq_true, Bool.not_true, Bool.not_false, if_true, if_false, and_true, true_and, memE, celE, w64, Nat.zero_add, Nat.add_zero, Nat.mul_one, putL, and_self, ldn, t0, t1, t2, t7, tm]
      exact newQ_nil ⟨by rw [allTo_no hlt hb]; simp, rfl⟩
  · have hlt' : ¬ ((k : Int) < l.length) := by omega
    have e : k = l.length := by omega
    simp (config := {implicitDefEqProofs := false, maxDischargeDepth := 20}) (disch := first | omega | (simp only [lenE]; done) | (simp only [lenE]; omega) | rfl | (simp only [lenE, markR_len]; done) | (simp only [lenE, markR_len]; omega)) only [runE, mapE, listE, initT_5, initT_6, initT_7, initT_8, resV, oneV, binA, unA, reduceCtorEq, Nat.reduceEqDiff, Nat.reduceAdd, Nat.reduceLT, Nat.reduceLeDiff, Nat.reduceMul, Nat.reduceSub, ↓reduceIte, decide_true, decide_false, Bool.true_eq_false, Bool.false_eq_true, Bool.not_true, Bool.not_false, if_true, if_false, and_true, true_and, memE, celE, w64, Nat.zero_add, Nat.add_zero, Nat.mul_one, putL, and_self, ldn, t0, t1, t2, t7, tm, e1, hlt']
    rw [e] at hall
    refine newQ_nil ⟨?_, rfl⟩
    rw [allTo_all hall]
    by_cases hq : l.length = n <;> simp [hq] <;> omega

/-- A function value that tests a number, anywhere behind a memory. -/
def TestA (m : Mem) (fv : Value) (f : Int → Bool) : Prop :=
  ∃ g cap, fv = .func (.func g) #[] cap ∧ ∀ x m', (∀ id k v, rdc m id k = some v → rdc m' id k = some v) → RC Try.prog g (.int .i64 x :: cap.toList) m' fun r new => r = .bool (f x) ∧ new = []

theorem isWithin_rc (m : Mem) (x most : Int) : RC Try.prog 96 [.int .i64 x, .int .i64 most] m fun r new => r = .bool (inB most x) ∧ new = [] := by
  refine rc_of_run mixed ok_impl_isWithin (by simp) (go_start _ _ _ ?_)
  by_cases h1 : 0 ≤ x <;> by_cases h2 : x ≤ most
  all_goals
    simp (config := {implicitDefEqProofs := false, maxDischargeDepth := 20}) (disch := first | omega | (simp only [lenE]; done) | (simp only [lenE]; omega) | rfl | (simp only [lenE, markR_len]; done) | (simp only [lenE, markR_len]; omega)) only [runE, mapE, listE, initT_5, initT_6, initT_7, initT_8, resV, oneV, binA, unA, reduceCtorEq, Nat.reduceEqDiff, Nat.reduceAdd, Nat.reduceLT, Nat.reduceLeDiff, Nat.reduceMul, Nat.reduceSub, ↓reduceIte, decide_true, decide_false, Bool.true_eq_false, Bool.false_eq_true, Bool.not_true, Bool.not_false, if_true, if_false, and_true, true_and, memE, celE, w64, Nat.zero_add, Nat.add_zero, Nat.mul_one, putL, and_self, ldn, c_impl_isWithin, r_impl_isWithin, h1, h2, ge_iff_le]
    exact newQ_nil ⟨by simp [inB, h1, h2], rfl⟩

/-- The first place at which a number is right. -/
def firstAt (f : Int → Bool) : List Int → Nat → Int
  | [], _ => -1
  | x :: l, k => if f x then k else firstAt f l (k + 1)
theorem firstAt_step {f : Int → Bool} {l : List Int} {k : Nat} (h : k < l.length) : firstAt f (l.drop k) k = if f (l.getD k 0) then (k : Int) else firstAt f (l.drop (k + 1)) (k + 1) := by
  rw [List.drop_eq_getElem_cons h, firstAt, List.getD_eq_getElem?_getD, List.getElem?_eq_getElem h]; rfl
theorem firstAt_any (f : Int → Bool) (l : List Int) : ∀ k : Nat, decide (0 ≤ firstAt f l k) = l.any f ∧ -1 ≤ firstAt f l k ∧ firstAt f l k ≤ k + l.length := by
  induction l with
  | nil => intro k; simp [firstAt]
  | cons x l ih =>
    intro k
    obtain ⟨h1, h2, h3⟩ := ih (k + 1)
    rw [firstAt]
    cases hx : f x
    · simp [hx, h1]; omega
    · simp [hx]; omega

theorem indexFunc_rc (m : Mem) (v fv : Value) (l : List Int) (f : Int → Bool) (h : IntsA m v l) (hf : TestA m fv f) :
    RC Try.prog 138 [v, fv] m fun r new => r = .int .i64 (firstAt f l 0) ∧ new = [] := by
  refine rc_of_run mixed ok_slices_IndexFunc (by simp) (go_start _ _ _ ?_)
  obtain ⟨e1, e2, e3, e4, -⟩ := h.ro
  obtain ⟨g, cap, rfl, hg⟩ := hf
  simp (config := {implicitDefEqProofs := false, maxDischargeDepth := 20}) (disch := first | omega | (simp only [lenE]; done) | (simp only [lenE]; omega) | rfl | (simp only [lenE, markR_len]; done) | (simp only [lenE, markR_len]; omega)) only [runE, mapE, listE, initT_5, initT_6, initT_7, initT_8, resV, oneV, binA, unA, reduceCtorEq, Nat.reduceEqDiff, Nat.reduceAdd, Nat.reduceLT, Nat.reduceLeDiff, Nat.reduceMul, Nat.reduceSub, ↓reduceIte, decide_true, decide_false, Bool.true_eq_false, Bool.false_eq_true, Bool.not_true, Bool.not_false, if_true, if_false, and_true, true_and, memE, celE, w64, Nat.zero_add, Nat.add_zero, Nat.mul_one, putL, and_self, ldn, c_slices_IndexFunc, r_slices_IndexFunc, e1]
  refine loop_inv mixed (fun s => ∃ k : Nat, k ≤ l.length ∧ s.t 0 = v ∧ s.t 1 = .func (.func g) #[] cap ∧ s.t 7 = .int .i64 l.length ∧ s.t 8 = .int .i64 k ∧ s.m = roM m ∧ firstAt f l 0 = firstAt f (l.drop k) k) (fun s => l.length - (intOf (s.t 8)).toNat) ⟨0, by omega, rfl, rfl, rfl, rfl, rfl, rfl⟩ ?_
  rintro s ⟨k, hk, t0, t1, t7, t8, tm, hall⟩
  by_cases hlt : k < l.length
  · have hlt' : (k : Int) < l.length := by omega
    simp (config := {implicitDefEqProofs := false, maxDischargeDepth := 20}) (disch := first | omega | (simp only [lenE]; done) | (simp only [lenE]; omega) | rfl | (simp only [lenE, markR_len]; done) | (simp only [lenE, markR_len]; omega)) only [runE, mapE, listE, initT_5, initT_6, initT_7, initT_8, resV, oneV, binA, unA, reduceCtorEq, Nat.reduceEqDiff, Nat.reduceAdd, Nat.reduceLT, Nat.reduceLeDiff, Nat.reduceMul, Nat.reduceSub, ↓reduceIte, decide_true, decide_false, Bool.true_eq_false, Bool.false_eq_true, Bool.not_true, Bool.not_false, if_true, if_false, and_true, true_and, memE, celE, w64, Nat.zero_add, Nat.add_zero, Nat.mul_one, putL, and_self, ldn, t0, t1, t7, t8, tm, e1, e3 k hlt, e4 k hlt, hlt']
    refine callH_rc (hg _ _ fun id k v hv => by rw [rdc_roM]; exact hv) ?_
    rintro r new ⟨rfl, rfl⟩
    rw [firstAt_step hlt] at hall
    cases hb : f (l.getD k 0) with
    | true =>
      simp (config := {implicitDefEqProofs := false, maxDischargeDepth := 20}) (disch := first | omega | (simp only [lenE]; done) | (simp only [lenE]; omega) | rfl | (simp only [lenE, markR_len]; done) | (simp only [lenE, markR_len]; omega)) only [runE, mapE, listE, initT_5, initT_6, initT_7, initT_8, resV, oneV, binA, unA, reduceCtorEq, Nat.reduceEqDiff, Nat.reduceAdd, Nat.reduceLT, Nat.reduceLeDiff, Nat.reduceMul, Nat.reduceSub, ↓reduceIte, decide_true, decide_false, Bool.true_eq_false, Bool.false_eq_true, Bool.not_true, Bool.not_false, if_true, if_false, and_true, true_and, memE, celE, w64, Nat.zero_add, Nat.add_zero, Nat.mul_one, putL, and_self, ldn, t0, t1, t7, t8, tm]
      exact newQ_nil ⟨by rw [hall, hb]; rfl, rfl⟩
    | false =>
      simp (config := {implicitDefEqProofs := false, maxDischargeDepth := 20}) (disch := first | omega | (simp only [lenE]; done) | (simp only [lenE]; omega) | rfl | (simp only [lenE, markR_len]; done) | (simp only [lenE, markR_len]; omega)) only [runE, mapE, listE, initT_5, initT_6, initT_7, initT_8, resV, oneV, binA, unA, reduceCtorEq, Nat.reduceEqDiff, Nat.reduceAdd, Nat.reduceLT, Nat.reduceLeDiff, Nat.reduceMul, Nat.reduceSub, ↓reduceIte, decide_true, decide_false, Bool.true_eq_false, Bool.false_eq_true, Bool.not_true, Bool.not_false, if_true, if_false, and_true, true_and, memE, celE, w64, Nat.zero_add, Nat.add_zero, Nat.mul_one, putL, and_self, ldn, t0, t1, t7, t8, tm]
      rw [hb] at hall
      refine ⟨⟨k + 1, by omega, by simp, hall⟩, ?_⟩
      simp [intOf]; omega
  · have hlt' : ¬ ((k : Int) < l.length) := by omega
    simp (config := {implicitDefEqProofs := false, maxDischargeDepth := 20}) (disch := first | omega | (simp only [lenE]; done) | (simp only [lenE]; omega) | rfl | (simp only [lenE, markR_len]; done) | (simp only [lenE, markR_len]; omega)) only [runE, mapE, listE, initT_5, initT_6, initT_7, initT_8, resV, oneV, binA, unA, reduceCtorEq, Nat.reduceEqDiff, Nat.reduceAdd, Nat.reduceLT, Nat.reduceLeDiff, Nat.reduceMul, Nat.reduceSub, ↓reduceIte, decide_true, decide_false, Bool.true_eq_false, Bool.false_eq_true, Bool.not_true, Bool.not_false, if_true, if_false, and_true, true_and, memE, celE, w64, Nat.zero_add, Nat.add_zero, Nat.mul_one, putL, and_self, ldn, t0, t1, t7, t8, tm, e1, hlt']
    exact newQ_nil ⟨by rw [hall, List.drop_eq_nil_of_le (by omega)]; rfl, rfl⟩

theorem containsFunc_rc (m : Mem) (v fv : Value) (l : List Int) (f : Int → Bool) (h : IntsA m v l) (hf : TestA m fv f) :
    RC Try.prog 119 [v, fv] m fun r new => r = .bool (l.any f) ∧ new = [] := by
  refine rc_of_run mixed ok_slices_ContainsFunc (by simp) (go_start _ _ _ ?_)
  have hf' : TestA (roM m) fv f := by
    obtain ⟨g, cap, rfl, hg⟩ := hf
    exact ⟨g, cap, rfl, fun x m' hm => hg x m' fun id k v hv => hm id k v (by rw [rdc_roM]; exact hv)⟩
  simp (config := {implicitDefEqProofs := false, maxDischargeDepth := 20}) (disch := first | omega | (simp only [lenE]; done) | (simp only [lenE]; omega) | rfl | (simp only [lenE, markR_len]; done) | (simp only [lenE, markR_len]; omega)) only [runE, mapE, listE, initT_5, initT_6, initT_7, initT_8, resV, oneV, binA, unA, reduceCtorEq, Nat.reduceEqDiff, Nat.reduceAdd, Nat.reduceLT, Nat.reduceLeDiff, Nat.reduceMul, Nat.reduceSub, ↓reduceIte, decide_true, decide_false, Bool.true_eq_false, Bool.false_eq_true, Bool.not_true, Bool.not_false, if_true, if_false, and_true, true_and, memE, celE, w64, Nat.zero_add, Nat.add_zero, Nat.mul_one, putL, and_self, ldn, c_slices_ContainsFunc, r_slices_ContainsFunc]
  refine callH_rc (indexFunc_rc _ v fv l f h.ro hf') ?_
  rintro r new ⟨rfl, rfl⟩
  simp (config := {implicitDefEqProofs := false, maxDischargeDepth := 20}) (disch := first | omega | (simp only [lenE]; done) | (simp only [lenE]; omega) | rfl | (simp only [lenE, markR_len]; done) | (simp only [lenE, markR_len]; omega)) only [runE, mapE, listE, initT_5, initT_6, initT_7, initT_8, resV, oneV, binA, unA, reduceCtorEq, Nat.reduceEqDiff, Nat.reduceAdd, Nat.reduceLT, Nat.reduceLeDiff, Nat.reduceMul, Nat.reduceSub, ↓reduceIte, decide_true, decide_false, Bool.true_eq_false, Bool.false_eq_true, Bool.not_true, Bool.not_false, if_true, if_false, and_true, true_and, memE, celE, w64, Nat.zero_add, Nat.add_zero, Nat.mul_one, putL, and_self, ldn, ge_iff_le]
  exact newQ_nil ⟨by rw [(firstAt_any f l 0).1], rfl⟩

end Go.Proofs.Ytnkbjliidenldaa.Ab
