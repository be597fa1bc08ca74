/- FnExactCostSum: its running over abstract memory. -/
import Derived.Test.YtfdpieeopdhcmaaAbChance2
import Derived.Test.YtfdpieeopdhcmaaAbWalk
import Derived.Test.YtfdpieeopdhcmaaCodLCostSum
namespace Go.Proofs.Ytfdpieeopdhcmaa.Ab
open Go Go.RowKit
set_option linter.unusedVariables false
set_option linter.unusedSimpArgs false
set_option maxRecDepth 100000

set_option maxHeartbeats 4000000 in
theorem law_FnExactCostSum (M0 : Mem) (l0 : List Int) (a0 : Nat) (x1 : Int) (x2 : Int) (x3 : Int) (A0 : RowA M0 a0 l0) :
    AC Try.prog 13 [.slice (some ⟨a0, 0, none⟩) l0.length 0, .int .i64 x1, .int .i64 x2, .int .i64 x3] M0 fun r _ => r = .bool true := by
  refine ac_of_run mixed ok_laws_FnExactCostSum (by simp) (go_start _ _ _ ?_)
  have B0 := A0.lt
  by_cases s0 : 1048576 < l0.length
  · have s0' : (1048576 : Int) < l0.length := by omega
    try simp (config := {implicitDefEqProofs := false, maxDischargeDepth := 20}) (disch := first | omega | (simp only [lenE]; done) | (simp only [lenE]; omega) | rfl | (simp only [lenE, markR_len]; done) | (simp only [lenE, markR_len]; omega)) only [runE, mapE, listE, initT_5, initT_6, initT_7, initT_8, resV, oneV, binA, unA, reduceCtorEq, Nat.reduceEqDiff, Nat.reduceAdd, Nat.reduceLT, Nat.reduceLeDiff, Nat.reduceMul, Nat.reduceSub, ↓reduceIte, decide_true, decide_false, Bool.true_eq_false, Bool.false_eq_true, Bool.not_true, Bool.not_false, if_true, if_false, and_true, true_and, memE, celE, w64, Nat.zero_add, Nat.add_zero, Nat.mul_one, putL, and_self, ldn, c_laws_FnExactCostSum, r_laws_FnExactCostSum, ext_2_0, ext_2_1, ext_4_0, ext_4_1, ext_4_2, ext_4_3, gt_iff_lt, beq_self_eq_true, bne_self_eq_false, s0']
    done
  have s0' : ¬ ((1048576 : Int) < l0.length) := by omega
  try simp (config := {implicitDefEqProofs := false, maxDischargeDepth := 20}) (disch := first | omega | (simp only [lenE]; done) | (simp only [lenE]; omega) | rfl | (simp only [lenE, markR_len]; done) | (simp only [lenE, markR_len]; omega)) only [runE, mapE, listE, initT_5, initT_6, initT_7, initT_8, resV, oneV, binA, unA, reduceCtorEq, Nat.reduceEqDiff, Nat.reduceAdd, Nat.reduceLT, Nat.reduceLeDiff, Nat.reduceMul, Nat.reduceSub, ↓reduceIte, decide_true, decide_false, Bool.true_eq_false, Bool.false_eq_true, Bool.not_true, Bool.not_false, if_true, if_false, and_true, true_and, memE, celE, w64, Nat.zero_add, Nat.add_zero, Nat.mul_one, putL, and_self, ldn, c_laws_FnExactCostSum, r_laws_FnExactCostSum, ext_2_0, ext_2_1, ext_4_0, ext_4_1, ext_4_2, ext_4_3, gt_iff_lt, beq_self_eq_true, bne_self_eq_false, s0']
  refine callH_rc (toIntS_rc _ _ l0 (A0.ints _) (by omega)) ?_
  rintro r new ⟨rfl, rfl⟩
  obtain ⟨M1, hM1⟩ : ∃ M', M' = M0 ++ [rowB l0] := ⟨_, rfl⟩
  rw [← hM1]
  have LM1 : M1.length = M0.length + 1 := by rw [hM1, List.length_append]; rfl
  replace A0 : RowA M1 a0 l0 := by rw [hM1]; exact A0.ext _
  have S0 : OwnR M1 M0.length l0 := by rw [hM1]; exact OwnR.new (i := 0) (by rfl) rfl
  try simp (config := {implicitDefEqProofs := false, maxDischargeDepth := 20}) (disch := first | omega | (simp only [lenE]; done) | (simp only [lenE]; omega) | rfl | (simp only [lenE, markR_len]; done) | (simp only [lenE, markR_len]; omega)) only [runE, mapE, listE, initT_5, initT_6, initT_7, initT_8, resV, oneV, binA, unA, reduceCtorEq, Nat.reduceEqDiff, Nat.reduceAdd, Nat.reduceLT, Nat.reduceLeDiff, Nat.reduceMul, Nat.reduceSub, ↓reduceIte, decide_true, decide_false, Bool.true_eq_false, Bool.false_eq_true, Bool.not_true, Bool.not_false, if_true, if_false, and_true, true_and, memE, celE, w64, Nat.zero_add, Nat.add_zero, Nat.mul_one, putL, and_self, ldn]
  refine callH_rc (specCostSum_rc _ _ l0 x1 x2 x3 ((S0.row (by omega)).ints _)) ?_
  rintro r new ⟨rfl, nrn⟩
  obtain ⟨M2, hM2⟩ : ∃ M', M' = M1 ++ new := ⟨_, rfl⟩
  rw [← hM2]
  have LM2 : M2.length = M1.length + new.length := by rw [hM2, List.length_append]
  replace A0 : RowA M2 a0 l0 := by rw [hM2]; exact A0.ext _
  replace S0 : OwnR M2 M0.length l0 := by rw [hM2]; exact S0.ext _
  clear nrn
  clear S0
  try simp (config := {implicitDefEqProofs := false, maxDischargeDepth := 20}) (disch := first | omega | (simp only [lenE]; done) | (simp only [lenE]; omega) | rfl | (simp only [lenE, markR_len]; done) | (simp only [lenE, markR_len]; omega)) only [runE, mapE, listE, initT_5, initT_6, initT_7, initT_8, resV, oneV, binA, unA, reduceCtorEq, Nat.reduceEqDiff, Nat.reduceAdd, Nat.reduceLT, Nat.reduceLeDiff, Nat.reduceMul, Nat.reduceSub, ↓reduceIte, decide_true, decide_false, Bool.true_eq_false, Bool.false_eq_true, Bool.not_true, Bool.not_false, if_true, if_false, and_true, true_and, memE, celE, w64, Nat.zero_add, Nat.add_zero, Nat.mul_one, putL, and_self, ldn, ext_2_0, ext_2_1, ext_4_0, ext_4_1, ext_4_2, ext_4_3, beq_self_eq_true, bne_self_eq_false]
  refine callH_rc (toIntS_rc _ _ l0 (A0.ints _) (by omega)) ?_
  rintro r new ⟨rfl, rfl⟩
  obtain ⟨M3, hM3⟩ : ∃ M', M' = M2 ++ [rowB l0] := ⟨_, rfl⟩
  rw [← hM3]
  have LM3 : M3.length = M2.length + 1 := by rw [hM3, List.length_append]; rfl
  replace A0 : RowA M3 a0 l0 := by rw [hM3]; exact A0.ext _
  have Y0 : OwnR M3 M2.length l0 := by rw [hM3]; exact OwnR.new (i := 0) (by rfl) rfl
  try simp (config := {implicitDefEqProofs := false, maxDischargeDepth := 20}) (disch := first | omega | (simp only [lenE]; done) | (simp only [lenE]; omega) | rfl | (simp only [lenE, markR_len]; done) | (simp only [lenE, markR_len]; omega)) only [runE, mapE, listE, initT_5, initT_6, initT_7, initT_8, resV, oneV, binA, unA, reduceCtorEq, Nat.reduceEqDiff, Nat.reduceAdd, Nat.reduceLT, Nat.reduceLeDiff, Nat.reduceMul, Nat.reduceSub, ↓reduceIte, decide_true, decide_false, Bool.true_eq_false, Bool.false_eq_true, Bool.not_true, Bool.not_false, if_true, if_false, and_true, true_and, memE, celE, w64, Nat.zero_add, Nat.add_zero, Nat.mul_one, putL, and_self, ldn, ext_2_0, ext_2_1, ext_4_0, ext_4_1, ext_4_2, ext_4_3, beq_self_eq_true, bne_self_eq_false]
  refine callH_rc (implCostSum_rc _ _ l0 x1 x2 x3 ((Y0.row (by omega)).ints _)) ?_
  rintro r new ⟨rfl, nrn⟩
  obtain ⟨M4, hM4⟩ : ∃ M', M' = M3 ++ new := ⟨_, rfl⟩
  rw [← hM4]
  have LM4 : M4.length = M3.length + new.length := by rw [hM4, List.length_append]
  replace A0 : RowA M4 a0 l0 := by rw [hM4]; exact A0.ext _
  replace Y0 : OwnR M4 M2.length l0 := by rw [hM4]; exact Y0.ext _
  clear nrn
  try simp (config := {implicitDefEqProofs := false, maxDischargeDepth := 20}) (disch := first | omega | (simp only [lenE]; done) | (simp only [lenE]; omega) | rfl | (simp only [lenE, markR_len]; done) | (simp only [lenE, markR_len]; omega)) only [runE, mapE, listE, initT_5, initT_6, initT_7, initT_8, resV, oneV, binA, unA, reduceCtorEq, Nat.reduceEqDiff, Nat.reduceAdd, Nat.reduceLT, Nat.reduceLeDiff, Nat.reduceMul, Nat.reduceSub, ↓reduceIte, decide_true, decide_false, Bool.true_eq_false, Bool.false_eq_true, Bool.not_true, Bool.not_false, if_true, if_false, and_true, true_and, memE, celE, w64, Nat.zero_add, Nat.add_zero, Nat.mul_one, putL, and_self, ldn, ext_2_0, ext_2_1, ext_4_0, ext_4_1, ext_4_2, ext_4_3, beq_self_eq_true, bne_self_eq_false, List.append_nil]
  refine callH_rc (toIntS_rc _ _ l0 (A0.ints _) (by omega)) ?_
  rintro r new ⟨rfl, rfl⟩
  obtain ⟨M5, hM5⟩ : ∃ M', M' = M4 ++ [rowB l0] := ⟨_, rfl⟩
  rw [← hM5]
  have LM5 : M5.length = M4.length + 1 := by rw [hM5, List.length_append]; rfl
  replace A0 : RowA M5 a0 l0 := by rw [hM5]; exact A0.ext _
  replace Y0 : OwnR M5 M2.length l0 := by rw [hM5]; exact Y0.ext _
  have T0 : OwnR M5 M4.length l0 := by rw [hM5]; exact OwnR.new (i := 0) (by rfl) rfl
  try simp (config := {implicitDefEqProofs := false, maxDischargeDepth := 20}) (disch := first | omega | (simp only [lenE]; done) | (simp only [lenE]; omega) | rfl | (simp only [lenE, markR_len]; done) | (simp only [lenE, markR_len]; omega)) only [runE, mapE, listE, initT_5, initT_6, initT_7, initT_8, resV, oneV, binA, unA, reduceCtorEq, Nat.reduceEqDiff, Nat.reduceAdd, Nat.reduceLT, Nat.reduceLeDiff, Nat.reduceMul, Nat.reduceSub, ↓reduceIte, decide_true, decide_false, Bool.true_eq_false, Bool.false_eq_true, Bool.not_true, Bool.not_false, if_true, if_false, and_true, true_and, memE, celE, w64, Nat.zero_add, Nat.add_zero, Nat.mul_one, putL, and_self, ldn, ext_2_0, ext_2_1, ext_4_0, ext_4_1, ext_4_2, ext_4_3, beq_self_eq_true, bne_self_eq_false]
  refine callH_rc (eqIntS_rc _ _ _ l0 ((Y0.row (by omega)).ints _) ((T0.row (by omega)).ints _)) ?_
  rintro r new ⟨rfl, rfl⟩
  rw [List.append_nil]
  clear T0
  try simp (config := {implicitDefEqProofs := false, maxDischargeDepth := 20}) (disch := first | omega | (simp only [lenE]; done) | (simp only [lenE]; omega) | rfl | (simp only [lenE, markR_len]; done) | (simp only [lenE, markR_len]; omega)) only [runE, mapE, listE, initT_5, initT_6, initT_7, initT_8, resV, oneV, binA, unA, reduceCtorEq, Nat.reduceEqDiff, Nat.reduceAdd, Nat.reduceLT, Nat.reduceLeDiff, Nat.reduceMul, Nat.reduceSub, ↓reduceIte, decide_true, decide_false, Bool.true_eq_false, Bool.false_eq_true, Bool.not_true, Bool.not_false, if_true, if_false, and_true, true_and, memE, celE, w64, Nat.zero_add, Nat.add_zero, Nat.mul_one, putL, and_self, ldn, ext_2_0, ext_2_1, ext_4_0, ext_4_1, ext_4_2, ext_4_3, beq_self_eq_true, bne_self_eq_false, List.append_nil]
end Go.Proofs.Ytfdpieeopdhcmaa.Ab
