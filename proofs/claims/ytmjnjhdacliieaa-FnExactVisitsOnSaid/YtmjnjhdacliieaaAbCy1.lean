/- Items and fractions: the contracts of both sides, up to CycleCost. -/
import Derived.Test.YtmjnjhdacliieaaAbObj2
import Derived.Test.YtmjnjhdacliieaaAbPairs
import Derived.Test.YtmjnjhdacliieaaAbGood
import Derived.Test.YtmjnjhdacliieaaCycMath
namespace Go.Proofs.Ytmjnjhdacliieaa.Ab
open Go Go.RowKit
set_option linter.unusedVariables false
set_option linter.unusedSimpArgs false

def itV (x : It) : Value := .agg #[.int .i64 x.daily, .int .i64 x.setup, .int .i64 x.hold, .int .i64 x.made, .int .i64 x.pause]
def frV (p : Int × Int) : Value := .agg #[.int .i64 p.1, .int .i64 p.2]
theorem bld2 (k k' : IntKind) (a b : Value) (u v : Int) : bldA [a, b] [(0, 1, .int k u), (1, 1, .int k' v)] = some (.agg #[.int k u, .int k' v]) := rfl
theorem stP_agg2 (m : Mem) (id off : Nat) (u v : Value) : stP m 2 (.pointer (some ⟨id, off, none⟩)) (.agg #[u, v]) = stA m id off [u, v] := rfl
theorem inB_inR (m x : Int) : inB m x = inR 0 m x := rfl
theorem toItem_rc (m : Mem) (x : It) : RC Try.prog 20 [itV x] m (AnsV (itV x)) := by
  refine rc_of_run mixed ok_laws_toItem (by simp) (go_start _ _ _ ?_)
  simp (config := {implicitDefEqProofs := false, maxDischargeDepth := 20}) (disch := first | omega | (simp only [lenE]; done) | (simp only [lenE]; omega) | rfl | (simp only [lenE, markR_len]; done) | (simp only [lenE, markR_len]; omega)) only [runE, mapE, listE, initT_5, initT_6, initT_7, initT_8, resV, oneV, binA, unA, reduceCtorEq, Nat.reduceEqDiff, Nat.reduceAdd, Nat.reduceLT, Nat.reduceLeDiff, Nat.reduceMul, Nat.reduceSub, ↓reduceIte, decide_true, decide_false, Bool.true_eq_false, Bool.false_eq_true, Bool.not_true, Bool.not_false, if_true, if_false, and_true, true_and, memE, celE, w64, Nat.zero_add, Nat.add_zero, Nat.mul_one, putL, and_self, ldn, c_laws_toItem, r_laws_toItem, itV]
  try simp only [List.append_assoc, List.cons_append, List.nil_append, List.append_nil]
  exact ⟨_, rfl, by (repeat (first | exact noRo_nil | assumption | apply noRo_own | apply noRo_dead | apply noRo_app)), rfl, by (repeat (first | exact noRo_nil | assumption | apply noRo_own | apply noRo_dead | apply noRo_app))⟩
theorem isCount_rc (m : Mem) (x most : Int) : RC Try.prog 62 [.int .i64 x, .int .i64 most] m fun r new => r = .bool (inR 1 most x) ∧ new = [] := by
  refine rc_of_run mixed ok_impl_isCount (by simp) (go_start _ _ _ ?_)
  by_cases h : 0 < x
  · simp (config := {implicitDefEqProofs := false, maxDischargeDepth := 20}) (disch := first | omega | (simp only [lenE]; done) | (simp only [lenE]; omega) | rfl | (simp only [lenE, markR_len]; done) | (simp only [lenE, markR_len]; omega)) only [runE, mapE, listE, initT_5, initT_6, initT_7, initT_8, resV, oneV, binA, unA, reduceCtorEq, Nat.reduceEqDiff, Nat.reduceAdd, Nat.reduceLT, Nat.reduceLeDiff, Nat.reduceMul, Nat.reduceSub, ↓reduceIte, decide_true, decide_false, Bool.true_eq_false, Bool.false_eq_true, Bool.not_true, Bool.not_false, if_true, if_false, and_true, true_and, memE, celE, w64, Nat.zero_add, Nat.add_zero, Nat.mul_one, putL, and_self, ldn, c_impl_isCount, r_impl_isCount, h, gt_iff_lt]
    refine callH_rc (isWithin_rc _ _ _) ?_
    rintro r new ⟨rfl, rfl⟩
    simp (config := {implicitDefEqProofs := false, maxDischargeDepth := 20}) (disch := first | omega | (simp only [lenE]; done) | (simp only [lenE]; omega) | rfl | (simp only [lenE, markR_len]; done) | (simp only [lenE, markR_len]; omega)) only [runE, mapE, listE, initT_5, initT_6, initT_7, initT_8, resV, oneV, binA, unA, reduceCtorEq, Nat.reduceEqDiff, Nat.reduceAdd, Nat.reduceLT, Nat.reduceLeDiff, Nat.reduceMul, Nat.reduceSub, ↓reduceIte, decide_true, decide_false, Bool.true_eq_false, Bool.false_eq_true, Bool.not_true, Bool.not_false, if_true, if_false, and_true, true_and, memE, celE, w64, Nat.zero_add, Nat.add_zero, Nat.mul_one, putL, and_self, ldn]
    refine newQ_nil ⟨?_, rfl⟩
    rw [inB_inR]
    have e1 : decide (0 ≤ x) = true := decide_eq_true (by omega)
    have e2 : decide (1 ≤ x) = true := decide_eq_true (by omega)
    simp only [inR, e1, e2]
  · simp (config := {implicitDefEqProofs := false, maxDischargeDepth := 20}) (disch := first | omega | (simp only [lenE]; done) | (simp only [lenE]; omega) | rfl | (simp only [lenE, markR_len]; done) | (simp only [lenE, markR_len]; omega)) only [runE, mapE, listE, initT_5, initT_6, initT_7, initT_8, resV, oneV, binA, unA, reduceCtorEq, Nat.reduceEqDiff, Nat.reduceAdd, Nat.reduceLT, Nat.reduceLeDiff, Nat.reduceMul, Nat.reduceSub, ↓reduceIte, decide_true, decide_false, Bool.true_eq_false, Bool.false_eq_true, Bool.not_true, Bool.not_false, if_true, if_false, and_true, true_and, memE, celE, w64, Nat.zero_add, Nat.add_zero, Nat.mul_one, putL, and_self, ldn, c_impl_isCount, r_impl_isCount, h, gt_iff_lt]
    refine newQ_nil ⟨?_, rfl⟩
    have e2 : decide (1 ≤ x) = false := decide_eq_false (by omega)
    simp only [inR, e2, Bool.false_and]
theorem l8Item_rc (m : Mem) (x : It) : RC Try.prog 61 [itV x] m (AnsV (.bool x.good)) := by
  refine rc_of_run mixed ok_spec_l8Item (by simp) (go_start _ _ _ ?_)
  unfold It.good
  simp (config := {implicitDefEqProofs := false, maxDischargeDepth := 20}) (disch := first | omega | (simp only [lenE]; done) | (simp only [lenE]; omega) | rfl | (simp only [lenE, markR_len]; done) | (simp only [lenE, markR_len]; omega)) only [runE, mapE, listE, initT_5, initT_6, initT_7, initT_8, resV, oneV, binA, unA, reduceCtorEq, Nat.reduceEqDiff, Nat.reduceAdd, Nat.reduceLT, Nat.reduceLeDiff, Nat.reduceMul, Nat.reduceSub, ↓reduceIte, decide_true, decide_false, Bool.true_eq_false, Bool.false_eq_true, Bool.not_true, Bool.not_false, if_true, if_false, and_true, true_and, memE, celE, w64, Nat.zero_add, Nat.add_zero, Nat.mul_one, putL, and_self, ldn, c_spec_l8Item, r_spec_l8Item, itV]
  refine callH_rc (l1In_rc _ _ _ _) ?_
  rintro r new ⟨rfl, rfl⟩
  rw [show (decide (1 ≤ x.daily) && decide (x.daily ≤ 20)) = inR 1 20 x.daily from rfl]
  cases b0 : inR 1 20 x.daily with
  | false =>
    simp (config := {implicitDefEqProofs := false, maxDischargeDepth := 20}) (disch := first | omega | (simp only [lenE]; done) | (simp only [lenE]; omega) | rfl | (simp only [lenE, markR_len]; done) | (simp only [lenE, markR_len]; omega)) only [runE, mapE, listE, initT_5, initT_6, initT_7, initT_8, resV, oneV, binA, unA, reduceCtorEq, Nat.reduceEqDiff, Nat.reduceAdd, Nat.reduceLT, Nat.reduceLeDiff, Nat.reduceMul, Nat.reduceSub, ↓reduceIte, decide_true, decide_false, Bool.true_eq_false, Bool.false_eq_true, Bool.not_true, Bool.not_false, if_true, if_false, and_true, true_and, memE, celE, w64, Nat.zero_add, Nat.add_zero, Nat.mul_one, putL, and_self, ldn]
    try simp only [List.append_assoc, List.cons_append, List.nil_append, List.append_nil]
    exact ⟨_, rfl, by (repeat (first | exact noRo_nil | assumption | apply noRo_own | apply noRo_dead | apply noRo_app)), by simp, by (repeat (first | exact noRo_nil | assumption | apply noRo_own | apply noRo_dead | apply noRo_app))⟩
  | true =>
  have b0' := inR_iff.1 b0
  simp (config := {implicitDefEqProofs := false, maxDischargeDepth := 20}) (disch := first | omega | (simp only [lenE]; done) | (simp only [lenE]; omega) | rfl | (simp only [lenE, markR_len]; done) | (simp only [lenE, markR_len]; omega)) only [runE, mapE, listE, initT_5, initT_6, initT_7, initT_8, resV, oneV, binA, unA, reduceCtorEq, Nat.reduceEqDiff, Nat.reduceAdd, Nat.reduceLT, Nat.reduceLeDiff, Nat.reduceMul, Nat.reduceSub, ↓reduceIte, decide_true, decide_false, Bool.true_eq_false, Bool.false_eq_true, Bool.not_true, Bool.not_false, if_true, if_false, and_true, true_and, memE, celE, w64, Nat.zero_add, Nat.add_zero, Nat.mul_one, putL, and_self, ldn]
  refine callH_rc (l1In_rc _ _ _ _) ?_
  rintro r new ⟨rfl, rfl⟩
  rw [show (decide (1 ≤ x.setup) && decide (x.setup ≤ 99)) = inR 1 99 x.setup from rfl]
  cases b1 : inR 1 99 x.setup with
  | false =>
    simp (config := {implicitDefEqProofs := false, maxDischargeDepth := 20}) (disch := first | omega | (simp only [lenE]; done) | (simp only [lenE]; omega) | rfl | (simp only [lenE, markR_len]; done) | (simp only [lenE, markR_len]; omega)) only [runE, mapE, listE, initT_5, initT_6, initT_7, initT_8, resV, oneV, binA, unA, reduceCtorEq, Nat.reduceEqDiff, Nat.reduceAdd, Nat.reduceLT, Nat.reduceLeDiff, Nat.reduceMul, Nat.reduceSub, ↓reduceIte, decide_true, decide_false, Bool.true_eq_false, Bool.false_eq_true, Bool.not_true, Bool.not_false, if_true, if_false, and_true, true_and, memE, celE, w64, Nat.zero_add, Nat.add_zero, Nat.mul_one, putL, and_self, ldn]
    try simp only [List.append_assoc, List.cons_append, List.nil_append, List.append_nil]
    exact ⟨_, rfl, by (repeat (first | exact noRo_nil | assumption | apply noRo_own | apply noRo_dead | apply noRo_app)), by simp, by (repeat (first | exact noRo_nil | assumption | apply noRo_own | apply noRo_dead | apply noRo_app))⟩
  | true =>
  simp (config := {implicitDefEqProofs := false, maxDischargeDepth := 20}) (disch := first | omega | (simp only [lenE]; done) | (simp only [lenE]; omega) | rfl | (simp only [lenE, markR_len]; done) | (simp only [lenE, markR_len]; omega)) only [runE, mapE, listE, initT_5, initT_6, initT_7, initT_8, resV, oneV, binA, unA, reduceCtorEq, Nat.reduceEqDiff, Nat.reduceAdd, Nat.reduceLT, Nat.reduceLeDiff, Nat.reduceMul, Nat.reduceSub, ↓reduceIte, decide_true, decide_false, Bool.true_eq_false, Bool.false_eq_true, Bool.not_true, Bool.not_false, if_true, if_false, and_true, true_and, memE, celE, w64, Nat.zero_add, Nat.add_zero, Nat.mul_one, putL, and_self, ldn]
  refine callH_rc (l1In_rc _ _ _ _) ?_
  rintro r new ⟨rfl, rfl⟩
  rw [show (decide (1 ≤ x.hold) && decide (x.hold ≤ 9)) = inR 1 9 x.hold from rfl]
  cases b2 : inR 1 9 x.hold with
  | false =>
    simp (config := {implicitDefEqProofs := false, maxDischargeDepth := 20}) (disch := first | omega | (simp only [lenE]; done) | (simp only [lenE]; omega) | rfl | (simp only [lenE, markR_len]; done) | (simp only [lenE, markR_len]; omega)) only [runE, mapE, listE, initT_5, initT_6, initT_7, initT_8, resV, oneV, binA, unA, reduceCtorEq, Nat.reduceEqDiff, Nat.reduceAdd, Nat.reduceLT, Nat.reduceLeDiff, Nat.reduceMul, Nat.reduceSub, ↓reduceIte, decide_true, decide_false, Bool.true_eq_false, Bool.false_eq_true, Bool.not_true, Bool.not_false, if_true, if_false, and_true, true_and, memE, celE, w64, Nat.zero_add, Nat.add_zero, Nat.mul_one, putL, and_self, ldn]
    try simp only [List.append_assoc, List.cons_append, List.nil_append, List.append_nil]
    exact ⟨_, rfl, by (repeat (first | exact noRo_nil | assumption | apply noRo_own | apply noRo_dead | apply noRo_app)), by simp, by (repeat (first | exact noRo_nil | assumption | apply noRo_own | apply noRo_dead | apply noRo_app))⟩
  | true =>
  simp (config := {implicitDefEqProofs := false, maxDischargeDepth := 20}) (disch := first | omega | (simp only [lenE]; done) | (simp only [lenE]; omega) | rfl | (simp only [lenE, markR_len]; done) | (simp only [lenE, markR_len]; omega)) only [runE, mapE, listE, initT_5, initT_6, initT_7, initT_8, resV, oneV, binA, unA, reduceCtorEq, Nat.reduceEqDiff, Nat.reduceAdd, Nat.reduceLT, Nat.reduceLeDiff, Nat.reduceMul, Nat.reduceSub, ↓reduceIte, decide_true, decide_false, Bool.true_eq_false, Bool.false_eq_true, Bool.not_true, Bool.not_false, if_true, if_false, and_true, true_and, memE, celE, w64, Nat.zero_add, Nat.add_zero, Nat.mul_one, putL, and_self, ldn]
  refine callH_rc (l1In_rc _ _ _ _) ?_
  rintro r new ⟨rfl, rfl⟩
  rw [show (decide (x.daily + 1 ≤ x.made) && decide (x.made ≤ 40)) = inR (x.daily + 1) 40 x.made from rfl]
  cases b3 : inR (x.daily + 1) 40 x.made with
  | false =>
    simp (config := {implicitDefEqProofs := false, maxDischargeDepth := 20}) (disch := first | omega | (simp only [lenE]; done) | (simp only [lenE]; omega) | rfl | (simp only [lenE, markR_len]; done) | (simp only [lenE, markR_len]; omega)) only [runE, mapE, listE, initT_5, initT_6, initT_7, initT_8, resV, oneV, binA, unA, reduceCtorEq, Nat.reduceEqDiff, Nat.reduceAdd, Nat.reduceLT, Nat.reduceLeDiff, Nat.reduceMul, Nat.reduceSub, ↓reduceIte, decide_true, decide_false, Bool.true_eq_false, Bool.false_eq_true, Bool.not_true, Bool.not_false, if_true, if_false, and_true, true_and, memE, celE, w64, Nat.zero_add, Nat.add_zero, Nat.mul_one, putL, and_self, ldn]
    try simp only [List.append_assoc, List.cons_append, List.nil_append, List.append_nil]
    exact ⟨_, rfl, by (repeat (first | exact noRo_nil | assumption | apply noRo_own | apply noRo_dead | apply noRo_app)), by simp, by (repeat (first | exact noRo_nil | assumption | apply noRo_own | apply noRo_dead | apply noRo_app))⟩
  | true =>
  simp (config := {implicitDefEqProofs := false, maxDischargeDepth := 20}) (disch := first | omega | (simp only [lenE]; done) | (simp only [lenE]; omega) | rfl | (simp only [lenE, markR_len]; done) | (simp only [lenE, markR_len]; omega)) only [runE, mapE, listE, initT_5, initT_6, initT_7, initT_8, resV, oneV, binA, unA, reduceCtorEq, Nat.reduceEqDiff, Nat.reduceAdd, Nat.reduceLT, Nat.reduceLeDiff, Nat.reduceMul, Nat.reduceSub, ↓reduceIte, decide_true, decide_false, Bool.true_eq_false, Bool.false_eq_true, Bool.not_true, Bool.not_false, if_true, if_false, and_true, true_and, memE, celE, w64, Nat.zero_add, Nat.add_zero, Nat.mul_one, putL, and_self, ldn]
  refine callH_rc (l1In_rc _ _ _ _) ?_
  rintro r new ⟨rfl, rfl⟩
  rw [show (decide (0 ≤ x.pause) && decide (x.pause ≤ 9)) = inR 0 9 x.pause from rfl]
  simp (config := {implicitDefEqProofs := false, maxDischargeDepth := 20}) (disch := first | omega | (simp only [lenE]; done) | (simp only [lenE]; omega) | rfl | (simp only [lenE, markR_len]; done) | (simp only [lenE, markR_len]; omega)) only [runE, mapE, listE, initT_5, initT_6, initT_7, initT_8, resV, oneV, binA, unA, reduceCtorEq, Nat.reduceEqDiff, Nat.reduceAdd, Nat.reduceLT, Nat.reduceLeDiff, Nat.reduceMul, Nat.reduceSub, ↓reduceIte, decide_true, decide_false, Bool.true_eq_false, Bool.false_eq_true, Bool.not_true, Bool.not_false, if_true, if_false, and_true, true_and, memE, celE, w64, Nat.zero_add, Nat.add_zero, Nat.mul_one, putL, and_self, ldn]
  try simp only [List.append_assoc, List.cons_append, List.nil_append, List.append_nil]
  exact ⟨_, rfl, by (repeat (first | exact noRo_nil | assumption | apply noRo_own | apply noRo_dead | apply noRo_app)), by simp, by (repeat (first | exact noRo_nil | assumption | apply noRo_own | apply noRo_dead | apply noRo_app))⟩
theorem isItem_rc (m : Mem) (x : It) : RC Try.prog 21 [itV x] m (AnsV (.bool x.good)) := by
  refine rc_of_run mixed ok_impl_IsItem (by simp) (go_start _ _ _ ?_)
  unfold It.good
  simp (config := {implicitDefEqProofs := false, maxDischargeDepth := 20}) (disch := first | omega | (simp only [lenE]; done) | (simp only [lenE]; omega) | rfl | (simp only [lenE, markR_len]; done) | (simp only [lenE, markR_len]; omega)) only [runE, mapE, listE, initT_5, initT_6, initT_7, initT_8, resV, oneV, binA, unA, reduceCtorEq, Nat.reduceEqDiff, Nat.reduceAdd, Nat.reduceLT, Nat.reduceLeDiff, Nat.reduceMul, Nat.reduceSub, ↓reduceIte, decide_true, decide_false, Bool.true_eq_false, Bool.false_eq_true, Bool.not_true, Bool.not_false, if_true, if_false, and_true, true_and, memE, celE, w64, Nat.zero_add, Nat.add_zero, Nat.mul_one, putL, and_self, ldn, c_impl_IsItem, r_impl_IsItem, itV]
  refine callH_rc (isCount_rc _ _ _) ?_
  rintro r new ⟨rfl, rfl⟩
  cases b0 : inR 1 20 x.daily with
  | false =>
    simp (config := {implicitDefEqProofs := false, maxDischargeDepth := 20}) (disch := first | omega | (simp only [lenE]; done) | (simp only [lenE]; omega) | rfl | (simp only [lenE, markR_len]; done) | (simp only [lenE, markR_len]; omega)) only [runE, mapE, listE, initT_5, initT_6, initT_7, initT_8, resV, oneV, binA, unA, reduceCtorEq, Nat.reduceEqDiff, Nat.reduceAdd, Nat.reduceLT, Nat.reduceLeDiff, Nat.reduceMul, Nat.reduceSub, ↓reduceIte, decide_true, decide_false, Bool.true_eq_false, Bool.false_eq_true, Bool.not_true, Bool.not_false, if_true, if_false, and_true, true_and, memE, celE, w64, Nat.zero_add, Nat.add_zero, Nat.mul_one, putL, and_self, ldn]
    try simp only [List.append_assoc, List.cons_append, List.nil_append, List.append_nil]
    exact ⟨_, rfl, by (repeat (first | exact noRo_nil | assumption | apply noRo_own | apply noRo_dead | apply noRo_app)), by simp, by (repeat (first | exact noRo_nil | assumption | apply noRo_own | apply noRo_dead | apply noRo_app))⟩
  | true =>
  simp (config := {implicitDefEqProofs := false, maxDischargeDepth := 20}) (disch := first | omega | (simp only [lenE]; done) | (simp only [lenE]; omega) | rfl | (simp only [lenE, markR_len]; done) | (simp only [lenE, markR_len]; omega)) only [runE, mapE, listE, initT_5, initT_6, initT_7, initT_8, resV, oneV, binA, unA, reduceCtorEq, Nat.reduceEqDiff, Nat.reduceAdd, Nat.reduceLT, Nat.reduceLeDiff, Nat.reduceMul, Nat.reduceSub, ↓reduceIte, decide_true, decide_false, Bool.true_eq_false, Bool.false_eq_true, Bool.not_true, Bool.not_false, if_true, if_false, and_true, true_and, memE, celE, w64, Nat.zero_add, Nat.add_zero, Nat.mul_one, putL, and_self, ldn]
  refine callH_rc (isCount_rc _ _ _) ?_
  rintro r new ⟨rfl, rfl⟩
  cases b1 : inR 1 99 x.setup with
  | false =>
    simp (config := {implicitDefEqProofs := false, maxDischargeDepth := 20}) (disch := first | omega | (simp only [lenE]; done) | (simp only [lenE]; omega) | rfl | (simp only [lenE, markR_len]; done) | (simp only [lenE, markR_len]; omega)) only [runE, mapE, listE, initT_5, initT_6, initT_7, initT_8, resV, oneV, binA, unA, reduceCtorEq, Nat.reduceEqDiff, Nat.reduceAdd, Nat.reduceLT, Nat.reduceLeDiff, Nat.reduceMul, Nat.reduceSub, ↓reduceIte, decide_true, decide_false, Bool.true_eq_false, Bool.false_eq_true, Bool.not_true, Bool.not_false, if_true, if_false, and_true, true_and, memE, celE, w64, Nat.zero_add, Nat.add_zero, Nat.mul_one, putL, and_self, ldn]
    try simp only [List.append_assoc, List.cons_append, List.nil_append, List.append_nil]
    exact ⟨_, rfl, by (repeat (first | exact noRo_nil | assumption | apply noRo_own | apply noRo_dead | apply noRo_app)), by simp, by (repeat (first | exact noRo_nil | assumption | apply noRo_own | apply noRo_dead | apply noRo_app))⟩
  | true =>
  simp (config := {implicitDefEqProofs := false, maxDischargeDepth := 20}) (disch := first | omega | (simp only [lenE]; done) | (simp only [lenE]; omega) | rfl | (simp only [lenE, markR_len]; done) | (simp only [lenE, markR_len]; omega)) only [runE, mapE, listE, initT_5, initT_6, initT_7, initT_8, resV, oneV, binA, unA, reduceCtorEq, Nat.reduceEqDiff, Nat.reduceAdd, Nat.reduceLT, Nat.reduceLeDiff, Nat.reduceMul, Nat.reduceSub, ↓reduceIte, decide_true, decide_false, Bool.true_eq_false, Bool.false_eq_true, Bool.not_true, Bool.not_false, if_true, if_false, and_true, true_and, memE, celE, w64, Nat.zero_add, Nat.add_zero, Nat.mul_one, putL, and_self, ldn]
  refine callH_rc (isCount_rc _ _ _) ?_
  rintro r new ⟨rfl, rfl⟩
  cases b2 : inR 1 9 x.hold with
  | false =>
    simp (config := {implicitDefEqProofs := false, maxDischargeDepth := 20}) (disch := first | omega | (simp only [lenE]; done) | (simp only [lenE]; omega) | rfl | (simp only [lenE, markR_len]; done) | (simp only [lenE, markR_len]; omega)) only [runE, mapE, listE, initT_5, initT_6, initT_7, initT_8, resV, oneV, binA, unA, reduceCtorEq, Nat.reduceEqDiff, Nat.reduceAdd, Nat.reduceLT, Nat.reduceLeDiff, Nat.reduceMul, Nat.reduceSub, ↓reduceIte, decide_true, decide_false, Bool.true_eq_false, Bool.false_eq_true, Bool.not_true, Bool.not_false, if_true, if_false, and_true, true_and, memE, celE, w64, Nat.zero_add, Nat.add_zero, Nat.mul_one, putL, and_self, ldn]
    try simp only [List.append_assoc, List.cons_append, List.nil_append, List.append_nil]
    exact ⟨_, rfl, by (repeat (first | exact noRo_nil | assumption | apply noRo_own | apply noRo_dead | apply noRo_app)), by simp, by (repeat (first | exact noRo_nil | assumption | apply noRo_own | apply noRo_dead | apply noRo_app))⟩
  | true =>
  by_cases h1 : x.daily < x.made
  · by_cases h2 : x.made ≤ 40
    · have e3 : inR (x.daily + 1) 40 x.made = true := inR_iff.2 ⟨by omega, h2⟩
      simp (config := {implicitDefEqProofs := false, maxDischargeDepth := 20}) (disch := first | omega | (simp only [lenE]; done) | (simp only [lenE]; omega) | rfl | (simp only [lenE, markR_len]; done) | (simp only [lenE, markR_len]; omega)) only [runE, mapE, listE, initT_5, initT_6, initT_7, initT_8, resV, oneV, binA, unA, reduceCtorEq, Nat.reduceEqDiff, Nat.reduceAdd, Nat.reduceLT, Nat.reduceLeDiff, Nat.reduceMul, Nat.reduceSub, ↓reduceIte, decide_true, decide_false, Bool.true_eq_false, Bool.false_eq_true, Bool.not_true, Bool.not_false, if_true, if_false, and_true, true_and, memE, celE, w64, Nat.zero_add, Nat.add_zero, Nat.mul_one, putL, and_self, ldn, h1, h2, gt_iff_lt]
      refine callH_rc (isWithin_rc _ _ _) ?_
      rintro r new ⟨rfl, rfl⟩
      rw [inB_inR]
      simp (config := {implicitDefEqProofs := false, maxDischargeDepth := 20}) (disch := first | omega | (simp only [lenE]; done) | (simp only [lenE]; omega) | rfl | (simp only [lenE, markR_len]; done) | (simp only [lenE, markR_len]; omega)) only [runE, mapE, listE, initT_5, initT_6, initT_7, initT_8, resV, oneV, binA, unA, reduceCtorEq, Nat.reduceEqDiff, Nat.reduceAdd, Nat.reduceLT, Nat.reduceLeDiff, Nat.reduceMul, Nat.reduceSub, ↓reduceIte, decide_true, decide_false, Bool.true_eq_false, Bool.false_eq_true, Bool.not_true, Bool.not_false, if_true, if_false, and_true, true_and, memE, celE, w64, Nat.zero_add, Nat.add_zero, Nat.mul_one, putL, and_self, ldn]
      try simp only [List.append_assoc, List.cons_append, List.nil_append, List.append_nil]
      exact ⟨_, rfl, by (repeat (first | exact noRo_nil | assumption | apply noRo_own | apply noRo_dead | apply noRo_app)), by simp [e3], by (repeat (first | exact noRo_nil | assumption | apply noRo_own | apply noRo_dead | apply noRo_app))⟩
    · have e3 : inR (x.daily + 1) 40 x.made = false := by
        cases e : inR (x.daily + 1) 40 x.made
        · rfl
        · have := inR_iff.1 e; omega
      simp (config := {implicitDefEqProofs := false, maxDischargeDepth := 20}) (disch := first | omega | (simp only [lenE]; done) | (simp only [lenE]; omega) | rfl | (simp only [lenE, markR_len]; done) | (simp only [lenE, markR_len]; omega)) only [runE, mapE, listE, initT_5, initT_6, initT_7, initT_8, resV, oneV, binA, unA, reduceCtorEq, Nat.reduceEqDiff, Nat.reduceAdd, Nat.reduceLT, Nat.reduceLeDiff, Nat.reduceMul, Nat.reduceSub, ↓reduceIte, decide_true, decide_false, Bool.true_eq_false, Bool.false_eq_true, Bool.not_true, Bool.not_false, if_true, if_false, and_true, true_and, memE, celE, w64, Nat.zero_add, Nat.add_zero, Nat.mul_one, putL, and_self, ldn, h1, h2, gt_iff_lt]
      try simp only [List.append_assoc, List.cons_append, List.nil_append, List.append_nil]
      exact ⟨_, rfl, by (repeat (first | exact noRo_nil | assumption | apply noRo_own | apply noRo_dead | apply noRo_app)), by simp [e3], by (repeat (first | exact noRo_nil | assumption | apply noRo_own | apply noRo_dead | apply noRo_app))⟩
  · have e3 : inR (x.daily + 1) 40 x.made = false := by
      cases e : inR (x.daily + 1) 40 x.made
      · rfl
      · have := inR_iff.1 e; omega
    simp (config := {implicitDefEqProofs := false, maxDischargeDepth := 20}) (disch := first | omega | (simp only [lenE]; done) | (simp only [lenE]; omega) | rfl | (simp only [lenE, markR_len]; done) | (simp only [lenE, markR_len]; omega)) only [runE, mapE, listE, initT_5, initT_6, initT_7, initT_8, resV, oneV, binA, unA, reduceCtorEq, Nat.reduceEqDiff, Nat.reduceAdd, Nat.reduceLT, Nat.reduceLeDiff, Nat.reduceMul, Nat.reduceSub, ↓reduceIte, decide_true, decide_false, Bool.true_eq_false, Bool.false_eq_true, Bool.not_true, Bool.not_false, if_true, if_false, and_true, true_and, memE, celE, w64, Nat.zero_add, Nat.add_zero, Nat.mul_one, putL, and_self, ldn, h1, gt_iff_lt]
    try simp only [List.append_assoc, List.cons_append, List.nil_append, List.append_nil]
    exact ⟨_, rfl, by (repeat (first | exact noRo_nil | assumption | apply noRo_own | apply noRo_dead | apply noRo_app)), by simp [e3], by (repeat (first | exact noRo_nil | assumption | apply noRo_own | apply noRo_dead | apply noRo_app))⟩
theorem tmod_nat (x y : Nat) : ((x : Int).tmod (y : Int)) = ((x % y : Nat) : Int) := by
  rw [Int.tmod_eq_emod_of_nonneg (by omega)]; rfl
theorem tdiv_nat (x y : Nat) : ((x : Int).tdiv (y : Int)) = ((x / y : Nat) : Int) := by
  rw [Int.tdiv_eq_ediv_of_nonneg (by omega)]; rfl


theorem specGcd_rc (m : Mem) (x y : Nat) : RC Try.prog 115 [.int .i64 (x : Int), .int .i64 (y : Int)] m (AnsV (.int .i64 ((x.gcd y : Nat) : Int))) := by
  refine rc_of_run mixed ok_spec_l8Gcd (by simp) (go_start _ _ _ ?_)
  simp (config := {implicitDefEqProofs := false, maxDischargeDepth := 20}) (disch := first | omega | (simp only [lenE]; done) | (simp only [lenE]; omega) | rfl | (simp only [lenE, markR_len]; done) | (simp only [lenE, markR_len]; omega)) only [runE, mapE, listE, initT_5, initT_6, initT_7, initT_8, resV, oneV, binA, unA, reduceCtorEq, Nat.reduceEqDiff, Nat.reduceAdd, Nat.reduceLT, Nat.reduceLeDiff, Nat.reduceMul, Nat.reduceSub, ↓reduceIte, decide_true, decide_false, Bool.true_eq_false, Bool.false_eq_true, Bool.not_true, Bool.not_false, if_true, if_false, and_true, true_and, memE, celE, w64, Nat.zero_add, Nat.add_zero, Nat.mul_one, putL, and_self, ldn, c_spec_l8Gcd, r_spec_l8Gcd]
  refine loop_inv mixed (fun s => ∃ a b : Nat, a.gcd b = x.gcd y ∧ s.t 0 = .int .i64 (a : Int) ∧ s.t 1 = .int .i64 (b : Int) ∧ s.m = roM m) (fun s => (intOf (s.t 1)).toNat)
    ⟨x, y, rfl, rfl, rfl, rfl⟩ ?_
  rintro s ⟨a, b, hg, t0, t1, tm⟩
  by_cases hb : (0 : Int) < b
  · have hb0 : ¬ ((b : Int) = 0) := by omega
    simp (config := {implicitDefEqProofs := false, maxDischargeDepth := 20}) (disch := first | omega | (simp only [lenE]; done) | (simp only [lenE]; omega) | rfl | (simp only [lenE, markR_len]; done) | (simp only [lenE, markR_len]; omega)) only [runE, mapE, listE, initT_5, initT_6, initT_7, initT_8, resV, oneV, binA, unA, reduceCtorEq, Nat.reduceEqDiff, Nat.reduceAdd, Nat.reduceLT, Nat.reduceLeDiff, Nat.reduceMul, Nat.reduceSub, ↓reduceIte, decide_true, decide_false, Bool.true_eq_false, Bool.false_eq_true, Bool.not_true, Bool.not_false, if_true, if_false, and_true, true_and, memE, celE, w64, Nat.zero_add, Nat.add_zero, Nat.mul_one, putL, and_self, ldn, t0, t1, tm, hb, hb0, gt_iff_lt, tmod_nat]
    refine ⟨⟨b, a % b, ?_, rfl, rfl⟩, ?_⟩
    · rw [← hg, Nat.gcd_comm a b, Nat.gcd_rec b a, Nat.gcd_comm]
    · have : a % b < b := Nat.mod_lt _ (by omega)
      simp [intOf]; omega
  · have hb0 : b = 0 := by omega
    subst hb0
    simp (config := {implicitDefEqProofs := false, maxDischargeDepth := 20}) (disch := first | omega | (simp only [lenE]; done) | (simp only [lenE]; omega) | rfl | (simp only [lenE, markR_len]; done) | (simp only [lenE, markR_len]; omega)) only [runE, mapE, listE, initT_5, initT_6, initT_7, initT_8, resV, oneV, binA, unA, reduceCtorEq, Nat.reduceEqDiff, Nat.reduceAdd, Nat.reduceLT, Nat.reduceLeDiff, Nat.reduceMul, Nat.reduceSub, ↓reduceIte, decide_true, decide_false, Bool.true_eq_false, Bool.false_eq_true, Bool.not_true, Bool.not_false, if_true, if_false, and_true, true_and, memE, celE, w64, Nat.zero_add, Nat.add_zero, Nat.mul_one, putL, and_self, ldn, t0, t1, tm, gt_iff_lt, show ((0 : Int) < ((0 : Nat) : Int)) = False by simp]
    exact newQ_nil ⟨by rw [← hg, Nat.gcd_zero_right], noRo_nil⟩
theorem specCut_rc (m : Mem) (a b : Int) (ha : 0 ≤ a ∧ a ≤ 9223372036854775807) (hb : 0 < b ∧ b ≤ 9223372036854775807) : RC Try.prog 103 [.int .i64 a, .int .i64 b] m (AnsV (frV (fr a b))) := by
  refine rc_of_run mixed ok_spec_l8Cut (by simp) (go_start _ _ _ ?_)
  obtain ⟨x, rfl⟩ := Int.eq_ofNat_of_zero_le ha.1
  obtain ⟨y, rfl⟩ := Int.eq_ofNat_of_zero_le (Int.le_of_lt hb.1)
  simp (config := {implicitDefEqProofs := false, maxDischargeDepth := 20}) (disch := first | omega | (simp only [lenE]; done) | (simp only [lenE]; omega) | rfl | (simp only [lenE, markR_len]; done) | (simp only [lenE, markR_len]; omega)) only [runE, mapE, listE, initT_5, initT_6, initT_7, initT_8, resV, oneV, binA, unA, reduceCtorEq, Nat.reduceEqDiff, Nat.reduceAdd, Nat.reduceLT, Nat.reduceLeDiff, Nat.reduceMul, Nat.reduceSub, ↓reduceIte, decide_true, decide_false, Bool.true_eq_false, Bool.false_eq_true, Bool.not_true, Bool.not_false, if_true, if_false, and_true, true_and, memE, celE, w64, Nat.zero_add, Nat.add_zero, Nat.mul_one, putL, and_self, ldn, c_spec_l8Cut, r_spec_l8Cut]
  obtain ⟨E, hE⟩ : ∃ M, M = roM m ++ [⟨.own, 28, [.int .i64 0, .int .i64 0]⟩] := ⟨_, rfl⟩
  rw [← hE]
  have hX : Ext m E := by rw [hE]; exact (Ext.refl m).one _ _
  have o0 : OwnB E m.length 28 [.int .i64 0, .int .i64 0] := by rw [hE]; exact OwnB.here (roM_len m).symm
  clear hE
  refine callH_rc (specGcd_rc _ x y) ?_
  rintro r new ⟨rfl, nrn⟩
  have hg : 0 < x.gcd y := Nat.gcd_pos_of_pos_right _ (by omega)
  obtain ⟨g, hgg⟩ : ∃ g, g = x.gcd y := ⟨_, rfl⟩
  rw [← hgg] at hg ⊢
  have hg0 : ¬ ((g : Int) = 0) := by omega
  have d1 : x / g ≤ x := Nat.div_le_self _ _
  have d2 : y / g ≤ y := Nat.div_le_self _ _
  have e1 := tdiv_nat x g
  have e2 := tdiv_nat y g
  have hfr : fr (x : Int) (y : Int) = (((x / g : Nat) : Int), ((y / g : Nat) : Int)) := by
    unfold fr
    simp only [Int.toNat_natCast, ← hgg]
  rw [hfr]
  generalize x / g = u at *
  generalize y / g = v at *
  have hst := (o0.ext new).st (off := 0) (vs := [.int .i64 (u : Int), .int .i64 (v : Int)]) (by simp) rfl
  have hrd := ((o0.ext new).set_self 28 [.int .i64 (u : Int), .int .i64 (v : Int)]).rd
  simp (config := {implicitDefEqProofs := false, maxDischargeDepth := 20}) (disch := first | omega | (simp only [lenE]; done) | (simp only [lenE]; omega) | rfl | (simp only [lenE, markR_len]; done) | (simp only [lenE, markR_len]; omega)) only [runE, mapE, listE, initT_5, initT_6, initT_7, initT_8, resV, oneV, binA, unA, reduceCtorEq, Nat.reduceEqDiff, Nat.reduceAdd, Nat.reduceLT, Nat.reduceLeDiff, Nat.reduceMul, Nat.reduceSub, ↓reduceIte, decide_true, decide_false, Bool.true_eq_false, Bool.false_eq_true, Bool.not_true, Bool.not_false, if_true, if_false, and_true, true_and, memE, celE, w64, Nat.zero_add, Nat.add_zero, Nat.mul_one, putL, and_self, ldn, hg0, e1, e2, hst, hrd, frV, bld2, stP_agg2]
  exact ext_ansV ((hX.app nrn).put (Nat.le_refl _) _ _) rfl
theorem specPlus_rc (m : Mem) (p q : Int × Int) (h1 : 0 ≤ p.1) (h2 : 0 < p.2) (h3 : 0 ≤ q.1) (h4 : 0 < q.2) (hn : p.1 * q.2 + q.1 * p.2 ≤ 9223372036854775807) (hd : p.2 * q.2 ≤ 9223372036854775807) :
    RC Try.prog 107 [frV p, frV q] m (AnsV (frV (addF p q))) := by
  refine rc_of_run mixed ok_spec_l8Add (by simp) (go_start _ _ _ ?_)
  have hsh := addF_shared h1 h2 h3 h4
  have bd := plus_bounds h1 h2 h3 h4
  obtain ⟨p1, p2⟩ := p
  obtain ⟨q1, q2⟩ := q
  simp only [] at h1 h2 h3 h4 hn hd hsh bd
  obtain ⟨x, rfl⟩ := Int.eq_ofNat_of_zero_le (Int.le_of_lt h2)
  obtain ⟨y, rfl⟩ := Int.eq_ofNat_of_zero_le (Int.le_of_lt h4)
  simp only [Int.toNat_natCast] at hsh bd
  simp (config := {implicitDefEqProofs := false, maxDischargeDepth := 20}) (disch := first | omega | (simp only [lenE]; done) | (simp only [lenE]; omega) | rfl | (simp only [lenE, markR_len]; done) | (simp only [lenE, markR_len]; omega)) only [runE, mapE, listE, initT_5, initT_6, initT_7, initT_8, resV, oneV, binA, unA, reduceCtorEq, Nat.reduceEqDiff, Nat.reduceAdd, Nat.reduceLT, Nat.reduceLeDiff, Nat.reduceMul, Nat.reduceSub, ↓reduceIte, decide_true, decide_false, Bool.true_eq_false, Bool.false_eq_true, Bool.not_true, Bool.not_false, if_true, if_false, and_true, true_and, memE, celE, w64, Nat.zero_add, Nat.add_zero, Nat.mul_one, putL, and_self, ldn, c_spec_l8Add, r_spec_l8Add, frV, iada_0, iada_1]
  obtain ⟨E, hE⟩ : ∃ M, M = roM m ++ [⟨.own, 28, [.int .i64 p1, .int .i64 (x : Int)]⟩] ++ [⟨.own, 28, [.int .i64 q1, .int .i64 (y : Int)]⟩] ++ [⟨.own, 28, [.int .i64 0, .int .i64 0]⟩] := ⟨_, rfl⟩
  rw [← hE]
  have hX : Ext m E := by rw [hE]; exact (((Ext.refl m).one _ _).one _ _).one _ _
  have o0 : OwnB E m.length 28 [.int .i64 p1, .int .i64 (x : Int)] := by rw [hE]; exact ((OwnB.here (by simp [roM_len])).ext _).ext _
  have o1 : OwnB E (m.length + 1) 28 [.int .i64 q1, .int .i64 (y : Int)] := by rw [hE]; exact (OwnB.here (by simp [roM_len])).ext _
  have o2 : OwnB E (m.length + 1 + 1) 28 [.int .i64 0, .int .i64 0] := by rw [hE]; exact OwnB.here (by simp [roM_len])
  clear hE
  refine callH_rc (specGcd_rc _ x y) ?_
  rintro r new ⟨rfl, nrn⟩
  have hg : 0 < x.gcd y := Nat.gcd_pos_of_pos_right _ (by omega)
  obtain ⟨g, hgg⟩ : ∃ g, g = x.gcd y := ⟨_, rfl⟩
  rw [← hgg] at hg hsh bd ⊢
  have hg0 : ¬ ((g : Int) = 0) := by omega
  have e1 : (x : Int).tdiv (g : Int) = (x : Int) / (g : Int) := Int.tdiv_eq_ediv_of_nonneg (by omega)
  have e2 : (y : Int).tdiv (g : Int) = (y : Int) / (g : Int) := Int.tdiv_eq_ediv_of_nonneg (by omega)
  obtain ⟨b1, b2, b3, b4, b5, b6, b7⟩ := bd
  obtain ⟨u, hu⟩ : ∃ u, (x : Int) / (g : Int) = u := ⟨_, rfl⟩
  obtain ⟨v, hv⟩ : ∃ v, (y : Int) / (g : Int) = v := ⟨_, rfl⟩
  rw [hu] at e1 hsh b2 b4 b5 b6 b7
  rw [hv] at e2 hsh b1 b3
  have n1 : 0 ≤ p1 * v := Int.mul_nonneg h1 b1.1
  have n2 : 0 ≤ q1 * u := Int.mul_nonneg h3 b2.1
  have n3 : 0 < u * (y : Int) := b7
  have n4 : 0 ≤ q1 * (x : Int) := Int.mul_nonneg h3 (by omega)
  have n5 : 0 ≤ p1 * (y : Int) := Int.mul_nonneg h1 (by omega)
  have n6 : 1 * (y : Int) ≤ (x : Int) * (y : Int) := Int.mul_le_mul_of_nonneg_right (by omega) (by omega)
  have n7 : (x : Int) * 1 ≤ (x : Int) * (y : Int) := Int.mul_le_mul_of_nonneg_left (by omega) (by omega)
  simp (config := {implicitDefEqProofs := false, maxDischargeDepth := 20}) (disch := first | omega | (simp only [lenE]; done) | (simp only [lenE]; omega) | rfl | (simp only [lenE, markR_len]; done) | (simp only [lenE, markR_len]; omega)) only [runE, mapE, listE, initT_5, initT_6, initT_7, initT_8, resV, oneV, binA, unA, reduceCtorEq, Nat.reduceEqDiff, Nat.reduceAdd, Nat.reduceLT, Nat.reduceLeDiff, Nat.reduceMul, Nat.reduceSub, ↓reduceIte, decide_true, decide_false, Bool.true_eq_false, Bool.false_eq_true, Bool.not_true, Bool.not_false, if_true, if_false, and_true, true_and, memE, celE, w64, Nat.zero_add, Nat.add_zero, Nat.mul_one, putL, and_self, ldn, hg0, e1, e2, iada_0, iada_1, (o0.ext new).rd, (o1.ext new).rd]
  refine rcallH_rc (specCut_rc _ (p1 * v + q1 * u) (u * y) ⟨by omega, by omega⟩ ⟨by omega, by omega⟩) ?_
  rintro r new2 ⟨rfl, nrn2⟩
  rw [hsh]
  obtain ⟨z, hz⟩ : ∃ z, z = addF (p1, (x : Int)) (q1, (y : Int)) := ⟨_, rfl⟩
  rw [← hz]
  have hst := ((o2.ext new).ext new2).st (off := 0) (vs := [.int .i64 z.1, .int .i64 z.2]) (by simp) rfl
  have hrd := (((o2.ext new).ext new2).set_self 28 [.int .i64 z.1, .int .i64 z.2]).rd
  simp (config := {implicitDefEqProofs := false, maxDischargeDepth := 20}) (disch := first | omega | (simp only [lenE]; done) | (simp only [lenE]; omega) | rfl | (simp only [lenE, markR_len]; done) | (simp only [lenE, markR_len]; omega)) only [runE, mapE, listE, initT_5, initT_6, initT_7, initT_8, resV, oneV, binA, unA, reduceCtorEq, Nat.reduceEqDiff, Nat.reduceAdd, Nat.reduceLT, Nat.reduceLeDiff, Nat.reduceMul, Nat.reduceSub, ↓reduceIte, decide_true, decide_false, Bool.true_eq_false, Bool.false_eq_true, Bool.not_true, Bool.not_false, if_true, if_false, and_true, true_and, memE, celE, w64, Nat.zero_add, Nat.add_zero, Nat.mul_one, putL, and_self, ldn, hst, hrd, frV, stP_agg2]
  exact ext_ansV (((hX.app nrn).app nrn2).put (by omega) _ _) rfl


theorem implGcd_rc (m : Mem) (x y : Nat) : RC Try.prog 117 [.int .i64 (x : Int), .int .i64 (y : Int)] m (AnsV (.int .i64 ((x.gcd y : Nat) : Int))) := by
  refine rc_of_run mixed ok_impl_commonDivisor (by simp) (go_start _ _ _ ?_)
  simp (config := {implicitDefEqProofs := false, maxDischargeDepth := 20}) (disch := first | omega | (simp only [lenE]; done) | (simp only [lenE]; omega) | rfl | (simp only [lenE, markR_len]; done) | (simp only [lenE, markR_len]; omega)) only [runE, mapE, listE, initT_5, initT_6, initT_7, initT_8, resV, oneV, binA, unA, reduceCtorEq, Nat.reduceEqDiff, Nat.reduceAdd, Nat.reduceLT, Nat.reduceLeDiff, Nat.reduceMul, Nat.reduceSub, ↓reduceIte, decide_true, decide_false, Bool.true_eq_false, Bool.false_eq_true, Bool.not_true, Bool.not_false, if_true, if_false, and_true, true_and, memE, celE, w64, Nat.zero_add, Nat.add_zero, Nat.mul_one, putL, and_self, ldn, c_impl_commonDivisor, r_impl_commonDivisor]
  refine loop_inv mixed (fun s => ∃ a b : Nat, a.gcd b = x.gcd y ∧ s.t 0 = .int .i64 (a : Int) ∧ s.t 1 = .int .i64 (b : Int) ∧ s.m = roM m) (fun s => (intOf (s.t 1)).toNat)
    ⟨x, y, rfl, rfl, rfl, rfl⟩ ?_
  rintro s ⟨a, b, hg, t0, t1, tm⟩
  by_cases hb : (0 : Int) < b
  · have hb0 : ¬ ((b : Int) = 0) := by omega
    simp (config := {implicitDefEqProofs := false, maxDischargeDepth := 20}) (disch := first | omega | (simp only [lenE]; done) | (simp only [lenE]; omega) | rfl | (simp only [lenE, markR_len]; done) | (simp only [lenE, markR_len]; omega)) only [runE, mapE, listE, initT_5, initT_6, initT_7, initT_8, resV, oneV, binA, unA, reduceCtorEq, Nat.reduceEqDiff, Nat.reduceAdd, Nat.reduceLT, Nat.reduceLeDiff, Nat.reduceMul, Nat.reduceSub, ↓reduceIte, decide_true, decide_false, Bool.true_eq_false, Bool.false_eq_true, Bool.not_true, Bool.not_false, if_true, if_false, and_true, true_and, memE, celE, w64, Nat.zero_add, Nat.add_zero, Nat.mul_one, putL, and_self, ldn, t0, t1, tm, hb, hb0, gt_iff_lt, tmod_nat]
    refine ⟨⟨b, a % b, ?_, rfl, rfl⟩, ?_⟩
    · rw [← hg, Nat.gcd_comm a b, Nat.gcd_rec b a, Nat.gcd_comm]
    · have : a % b < b := Nat.mod_lt _ (by omega)
      simp [intOf]; omega
  · have hb0 : b = 0 := by omega
    subst hb0
    simp (config := {implicitDefEqProofs := false, maxDischargeDepth := 20}) (disch := first | omega | (simp only [lenE]; done) | (simp only [lenE]; omega) | rfl | (simp only [lenE, markR_len]; done) | (simp only [lenE, markR_len]; omega)) only [runE, mapE, listE, initT_5, initT_6, initT_7, initT_8, resV, oneV, binA, unA, reduceCtorEq, Nat.reduceEqDiff, Nat.reduceAdd, Nat.reduceLT, Nat.reduceLeDiff, Nat.reduceMul, Nat.reduceSub, ↓reduceIte, decide_true, decide_false, Bool.true_eq_false, Bool.false_eq_true, Bool.not_true, Bool.not_false, if_true, if_false, and_true, true_and, memE, celE, w64, Nat.zero_add, Nat.add_zero, Nat.mul_one, putL, and_self, ldn, t0, t1, tm, gt_iff_lt, show ((0 : Int) < ((0 : Nat) : Int)) = False by simp]
    exact newQ_nil ⟨by rw [← hg, Nat.gcd_zero_right], noRo_nil⟩
theorem implCut_rc (m : Mem) (a b : Int) (ha : 0 ≤ a ∧ a ≤ 9223372036854775807) (hb : 0 < b ∧ b ≤ 9223372036854775807) : RC Try.prog 95 [.int .i64 a, .int .i64 b] m (AnsV (frV (fr a b))) := by
  refine rc_of_run mixed ok_impl_fractionOf (by simp) (go_start _ _ _ ?_)
  obtain ⟨x, rfl⟩ := Int.eq_ofNat_of_zero_le ha.1
  obtain ⟨y, rfl⟩ := Int.eq_ofNat_of_zero_le (Int.le_of_lt hb.1)
  simp (config := {implicitDefEqProofs := false, maxDischargeDepth := 20}) (disch := first | omega | (simp only [lenE]; done) | (simp only [lenE]; omega) | rfl | (simp only [lenE, markR_len]; done) | (simp only [lenE, markR_len]; omega)) only [runE, mapE, listE, initT_5, initT_6, initT_7, initT_8, resV, oneV, binA, unA, reduceCtorEq, Nat.reduceEqDiff, Nat.reduceAdd, Nat.reduceLT, Nat.reduceLeDiff, Nat.reduceMul, Nat.reduceSub, ↓reduceIte, decide_true, decide_false, Bool.true_eq_false, Bool.false_eq_true, Bool.not_true, Bool.not_false, if_true, if_false, and_true, true_and, memE, celE, w64, Nat.zero_add, Nat.add_zero, Nat.mul_one, putL, and_self, ldn, c_impl_fractionOf, r_impl_fractionOf]
  obtain ⟨E, hE⟩ : ∃ M, M = roM m ++ [⟨.own, 67, [.int .i64 0, .int .i64 0]⟩] := ⟨_, rfl⟩
  rw [← hE]
  have hX : Ext m E := by rw [hE]; exact (Ext.refl m).one _ _
  have o0 : OwnB E m.length 67 [.int .i64 0, .int .i64 0] := by rw [hE]; exact OwnB.here (roM_len m).symm
  clear hE
  refine callH_rc (implGcd_rc _ x y) ?_
  rintro r new ⟨rfl, nrn⟩
  have hg : 0 < x.gcd y := Nat.gcd_pos_of_pos_right _ (by omega)
  obtain ⟨g, hgg⟩ : ∃ g, g = x.gcd y := ⟨_, rfl⟩
  rw [← hgg] at hg ⊢
  have hg0 : ¬ ((g : Int) = 0) := by omega
  have d1 : x / g ≤ x := Nat.div_le_self _ _
  have d2 : y / g ≤ y := Nat.div_le_self _ _
  have e1 := tdiv_nat x g
  have e2 := tdiv_nat y g
  have hfr : fr (x : Int) (y : Int) = (((x / g : Nat) : Int), ((y / g : Nat) : Int)) := by
    unfold fr
    simp only [Int.toNat_natCast, ← hgg]
  rw [hfr]
  generalize x / g = u at *
  generalize y / g = v at *
  have hst := (o0.ext new).st (off := 0) (vs := [.int .i64 (u : Int), .int .i64 (v : Int)]) (by simp) rfl
  have hrd := ((o0.ext new).set_self 67 [.int .i64 (u : Int), .int .i64 (v : Int)]).rd
  simp (config := {implicitDefEqProofs := false, maxDischargeDepth := 20}) (disch := first | omega | (simp only [lenE]; done) | (simp only [lenE]; omega) | rfl | (simp only [lenE, markR_len]; done) | (simp only [lenE, markR_len]; omega)) only [runE, mapE, listE, initT_5, initT_6, initT_7, initT_8, resV, oneV, binA, unA, reduceCtorEq, Nat.reduceEqDiff, Nat.reduceAdd, Nat.reduceLT, Nat.reduceLeDiff, Nat.reduceMul, Nat.reduceSub, ↓reduceIte, decide_true, decide_false, Bool.true_eq_false, Bool.false_eq_true, Bool.not_true, Bool.not_false, if_true, if_false, and_true, true_and, memE, celE, w64, Nat.zero_add, Nat.add_zero, Nat.mul_one, putL, and_self, ldn, hg0, e1, e2, hst, hrd, frV, bld2, stP_agg2]
  exact ext_ansV ((hX.app nrn).put (Nat.le_refl _) _ _) rfl
theorem implPlus_rc (m : Mem) (p q : Int × Int) (h1 : 0 ≤ p.1) (h2 : 0 < p.2) (h3 : 0 ≤ q.1) (h4 : 0 < q.2) (hn : p.1 * q.2 + q.1 * p.2 ≤ 9223372036854775807) (hd : p.2 * q.2 ≤ 9223372036854775807) :
    RC Try.prog 96 [frV p, frV q] m (AnsV (frV (addF p q))) := by
  refine rc_of_run mixed ok_impl_fraction__plus (by simp) (go_start _ _ _ ?_)
  have hsh := addF_shared h1 h2 h3 h4
  have bd := plus_bounds h1 h2 h3 h4
  obtain ⟨p1, p2⟩ := p
  obtain ⟨q1, q2⟩ := q
  simp only [] at h1 h2 h3 h4 hn hd hsh bd
  obtain ⟨x, rfl⟩ := Int.eq_ofNat_of_zero_le (Int.le_of_lt h2)
  obtain ⟨y, rfl⟩ := Int.eq_ofNat_of_zero_le (Int.le_of_lt h4)
  simp only [Int.toNat_natCast] at hsh bd
  simp (config := {implicitDefEqProofs := false, maxDischargeDepth := 20}) (disch := first | omega | (simp only [lenE]; done) | (simp only [lenE]; omega) | rfl | (simp only [lenE, markR_len]; done) | (simp only [lenE, markR_len]; omega)) only [runE, mapE, listE, initT_5, initT_6, initT_7, initT_8, resV, oneV, binA, unA, reduceCtorEq, Nat.reduceEqDiff, Nat.reduceAdd, Nat.reduceLT, Nat.reduceLeDiff, Nat.reduceMul, Nat.reduceSub, ↓reduceIte, decide_true, decide_false, Bool.true_eq_false, Bool.false_eq_true, Bool.not_true, Bool.not_false, if_true, if_false, and_true, true_and, memE, celE, w64, Nat.zero_add, Nat.add_zero, Nat.mul_one, putL, and_self, ldn, c_impl_fraction__plus, r_impl_fraction__plus, frV, iada_0, iada_1]
  obtain ⟨E, hE⟩ : ∃ M, M = roM m ++ [⟨.own, 67, [.int .i64 p1, .int .i64 (x : Int)]⟩] ++ [⟨.own, 67, [.int .i64 q1, .int .i64 (y : Int)]⟩] ++ [⟨.own, 67, [.int .i64 0, .int .i64 0]⟩] := ⟨_, rfl⟩
  rw [← hE]
  have hX : Ext m E := by rw [hE]; exact (((Ext.refl m).one _ _).one _ _).one _ _
  have o0 : OwnB E m.length 67 [.int .i64 p1, .int .i64 (x : Int)] := by rw [hE]; exact ((OwnB.here (by simp [roM_len])).ext _).ext _
  have o1 : OwnB E (m.length + 1) 67 [.int .i64 q1, .int .i64 (y : Int)] := by rw [hE]; exact (OwnB.here (by simp [roM_len])).ext _
  have o2 : OwnB E (m.length + 1 + 1) 67 [.int .i64 0, .int .i64 0] := by rw [hE]; exact OwnB.here (by simp [roM_len])
  clear hE
  refine callH_rc (implGcd_rc _ x y) ?_
  rintro r new ⟨rfl, nrn⟩
  have hg : 0 < x.gcd y := Nat.gcd_pos_of_pos_right _ (by omega)
  obtain ⟨g, hgg⟩ : ∃ g, g = x.gcd y := ⟨_, rfl⟩
  rw [← hgg] at hg hsh bd ⊢
  have hg0 : ¬ ((g : Int) = 0) := by omega
  have e1 : (x : Int).tdiv (g : Int) = (x : Int) / (g : Int) := Int.tdiv_eq_ediv_of_nonneg (by omega)
  have e2 : (y : Int).tdiv (g : Int) = (y : Int) / (g : Int) := Int.tdiv_eq_ediv_of_nonneg (by omega)
  obtain ⟨b1, b2, b3, b4, b5, b6, b7⟩ := bd
  obtain ⟨u, hu⟩ : ∃ u, (x : Int) / (g : Int) = u := ⟨_, rfl⟩
  obtain ⟨v, hv⟩ : ∃ v, (y : Int) / (g : Int) = v := ⟨_, rfl⟩
  rw [hu] at e1 hsh b2 b4 b5 b6 b7
  rw [hv] at e2 hsh b1 b3
  have n1 : 0 ≤ p1 * v := Int.mul_nonneg h1 b1.1
  have n2 : 0 ≤ q1 * u := Int.mul_nonneg h3 b2.1
  have n3 : 0 < u * (y : Int) := b7
  have n4 : 0 ≤ q1 * (x : Int) := Int.mul_nonneg h3 (by omega)
  have n5 : 0 ≤ p1 * (y : Int) := Int.mul_nonneg h1 (by omega)
  have n6 : 1 * (y : Int) ≤ (x : Int) * (y : Int) := Int.mul_le_mul_of_nonneg_right (by omega) (by omega)
  have n7 : (x : Int) * 1 ≤ (x : Int) * (y : Int) := Int.mul_le_mul_of_nonneg_left (by omega) (by omega)
  simp (config := {implicitDefEqProofs := false, maxDischargeDepth := 20}) (disch := first | omega | (simp only [lenE]; done) | (simp only [lenE]; omega) | rfl | (simp only [lenE, markR_len]; done) | (simp only [lenE, markR_len]; omega)) only [runE, mapE, listE, initT_5, initT_6, initT_7, initT_8, resV, oneV, binA, unA, reduceCtorEq, Nat.reduceEqDiff, Nat.reduceAdd, Nat.reduceLT, Nat.reduceLeDiff, Nat.reduceMul, Nat.reduceSub, ↓reduceIte, decide_true, decide_false, Bool.true_eq_false, Bool.false_eq_true, Bool.not_true, Bool.not_false, if_true, if_false, and_true, true_and, memE, celE, w64, Nat.zero_add, Nat.add_zero, Nat.mul_one, putL, and_self, ldn, hg0, e1, e2, iada_0, iada_1, (o0.ext new).rd, (o1.ext new).rd]
  refine rcallH_rc (implCut_rc _ (p1 * v + q1 * u) (u * y) ⟨by omega, by omega⟩ ⟨by omega, by omega⟩) ?_
  rintro r new2 ⟨rfl, nrn2⟩
  rw [hsh]
  obtain ⟨z, hz⟩ : ∃ z, z = addF (p1, (x : Int)) (q1, (y : Int)) := ⟨_, rfl⟩
  rw [← hz]
  have hst := ((o2.ext new).ext new2).st (off := 0) (vs := [.int .i64 z.1, .int .i64 z.2]) (by simp) rfl
  have hrd := (((o2.ext new).ext new2).set_self 67 [.int .i64 z.1, .int .i64 z.2]).rd
  simp (config := {implicitDefEqProofs := false, maxDischargeDepth := 20}) (disch := first | omega | (simp only [lenE]; done) | (simp only [lenE]; omega) | rfl | (simp only [lenE, markR_len]; done) | (simp only [lenE, markR_len]; omega)) only [runE, mapE, listE, initT_5, initT_6, initT_7, initT_8, resV, oneV, binA, unA, reduceCtorEq, Nat.reduceEqDiff, Nat.reduceAdd, Nat.reduceLT, Nat.reduceLeDiff, Nat.reduceMul, Nat.reduceSub, ↓reduceIte, decide_true, decide_false, Bool.true_eq_false, Bool.false_eq_true, Bool.not_true, Bool.not_false, if_true, if_false, and_true, true_and, memE, celE, w64, Nat.zero_add, Nat.add_zero, Nat.mul_one, putL, and_self, ldn, hst, hrd, frV, stP_agg2]
  exact ext_ansV (((hX.app nrn).app nrn2).put (by omega) _ _) rfl

end Go.Proofs.Ytmjnjhdacliieaa.Ab
