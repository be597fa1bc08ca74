/- FnExactIsWider: its running over abstract memory. -/
import Derived.Test.YtfdpieeopdhcmaaAbChance4
import Derived.Test.YtfdpieeopdhcmaaAbWalk
import Derived.Test.YtfdpieeopdhcmaaCodLIsWider
namespace Go.Proofs.Ytfdpieeopdhcmaa.Ab
open Go Go.RowKit
set_option linter.unusedVariables false
set_option linter.unusedSimpArgs false
set_option maxRecDepth 100000

set_option maxHeartbeats 4000000 in
theorem law_FnExactIsWider (M0 : Mem) (l0 : List Int) (a0 : Nat) (l1 : List Int) (a1 : Nat) (A0 : RowA M0 a0 l0) (A1 : RowA M0 a1 l1) :
    AC Try.prog 18 [.slice (some ⟨a0, 0, none⟩) l0.length 0, .slice (some ⟨a1, 0, none⟩) l1.length 0] M0 fun r _ => r = .bool true := by
  refine ac_of_run mixed ok_laws_FnExactIsWider (by simp) (go_start _ _ _ ?_)
  have B0 := A0.lt
  have B1 := A1.lt
  by_cases s0 : 1048576 < l0.length
  · have s0' : (1048576 : Int) < l0.length := by omega
    try simp (config := {implicitDefEqProofs := false, maxDischargeDepth := 20}) (disch := first | omega | (simp only [lenE]; done) | (simp only [lenE]; omega) | rfl | (simp only [lenE, markR_len]; done) | (simp only [lenE, markR_len]; omega)) only [runE, mapE, listE, initT_5, initT_6, initT_7, initT_8, resV, oneV, binA, unA, reduceCtorEq, Nat.reduceEqDiff, Nat.reduceAdd, Nat.reduceLT, Nat.reduceLeDiff, Nat.reduceMul, Nat.reduceSub, ↓reduceIte, decide_true, decide_false, Bool.true_eq_false, Bool.false_eq_true, Bool.not_true, Bool.not_false, if_true, if_false, and_true, true_and, memE, celE, w64, Nat.zero_add, Nat.add_zero, Nat.mul_one, putL, and_self, ldn, c_laws_FnExactIsWider, r_laws_FnExactIsWider, ext_2_0, ext_2_1, ext_4_0, ext_4_1, ext_4_2, ext_4_3, gt_iff_lt, beq_self_eq_true, bne_self_eq_false, s0']
    done
  have s0' : ¬ ((1048576 : Int) < l0.length) := by omega
  by_cases s1 : 1048576 < l1.length
  · have s1' : (1048576 : Int) < l1.length := by omega
    try simp (config := {implicitDefEqProofs := false, maxDischargeDepth := 20}) (disch := first | omega | (simp only [lenE]; done) | (simp only [lenE]; omega) | rfl | (simp only [lenE, markR_len]; done) | (simp only [lenE, markR_len]; omega)) only [runE, mapE, listE, initT_5, initT_6, initT_7, initT_8, resV, oneV, binA, unA, reduceCtorEq, Nat.reduceEqDiff, Nat.reduceAdd, Nat.reduceLT, Nat.reduceLeDiff, Nat.reduceMul, Nat.reduceSub, ↓reduceIte, decide_true, decide_false, Bool.true_eq_false, Bool.false_eq_true, Bool.not_true, Bool.not_false, if_true, if_false, and_true, true_and, memE, celE, w64, Nat.zero_add, Nat.add_zero, Nat.mul_one, putL, and_self, ldn, c_laws_FnExactIsWider, r_laws_FnExactIsWider, ext_2_0, ext_2_1, ext_4_0, ext_4_1, ext_4_2, ext_4_3, gt_iff_lt, beq_self_eq_true, bne_self_eq_false, s1', s0']
    done
  have s1' : ¬ ((1048576 : Int) < l1.length) := by omega
  try simp (config := {implicitDefEqProofs := false, maxDischargeDepth := 20}) (disch := first | omega | (simp only [lenE]; done) | (simp only [lenE]; omega) | rfl | (simp only [lenE, markR_len]; done) | (simp only [lenE, markR_len]; omega)) only [runE, mapE, listE, initT_5, initT_6, initT_7, initT_8, resV, oneV, binA, unA, reduceCtorEq, Nat.reduceEqDiff, Nat.reduceAdd, Nat.reduceLT, Nat.reduceLeDiff, Nat.reduceMul, Nat.reduceSub, ↓reduceIte, decide_true, decide_false, Bool.true_eq_false, Bool.false_eq_true, Bool.not_true, Bool.not_false, if_true, if_false, and_true, true_and, memE, celE, w64, Nat.zero_add, Nat.add_zero, Nat.mul_one, putL, and_self, ldn, c_laws_FnExactIsWider, r_laws_FnExactIsWider, ext_2_0, ext_2_1, ext_4_0, ext_4_1, ext_4_2, ext_4_3, gt_iff_lt, beq_self_eq_true, bne_self_eq_false, s0', s1']
  refine callH_rc (toIntS_rc _ _ l0 (A0.ints _) (by omega)) ?_
  rintro r new ⟨rfl, rfl⟩
  obtain ⟨M1, hM1⟩ : ∃ M', M' = M0 ++ [rowB l0] := ⟨_, rfl⟩
  rw [← hM1]
  have LM1 : M1.length = M0.length + 1 := by rw [hM1, List.length_append]; rfl
  replace A0 : RowA M1 a0 l0 := by rw [hM1]; exact A0.ext _
  replace A1 : RowA M1 a1 l1 := by rw [hM1]; exact A1.ext _
  have S0 : OwnR M1 M0.length l0 := by rw [hM1]; exact OwnR.new (i := 0) (by rfl) rfl
  try simp (config := {implicitDefEqProofs := false, maxDischargeDepth := 20}) (disch := first | omega | (simp only [lenE]; done) | (simp only [lenE]; omega) | rfl | (simp only [lenE, markR_len]; done) | (simp only [lenE, markR_len]; omega)) only [runE, mapE, listE, initT_5, initT_6, initT_7, initT_8, resV, oneV, binA, unA, reduceCtorEq, Nat.reduceEqDiff, Nat.reduceAdd, Nat.reduceLT, Nat.reduceLeDiff, Nat.reduceMul, Nat.reduceSub, ↓reduceIte, decide_true, decide_false, Bool.true_eq_false, Bool.false_eq_true, Bool.not_true, Bool.not_false, if_true, if_false, and_true, true_and, memE, celE, w64, Nat.zero_add, Nat.add_zero, Nat.mul_one, putL, and_self, ldn]
  refine callH_rc (toIntS_rc _ _ l1 (A1.ints _) (by omega)) ?_
  rintro r new ⟨rfl, rfl⟩
  obtain ⟨M2, hM2⟩ : ∃ M', M' = M1 ++ [rowB l1] := ⟨_, rfl⟩
  rw [← hM2]
  have LM2 : M2.length = M1.length + 1 := by rw [hM2, List.length_append]; rfl
  replace A0 : RowA M2 a0 l0 := by rw [hM2]; exact A0.ext _
  replace A1 : RowA M2 a1 l1 := by rw [hM2]; exact A1.ext _
  replace S0 : OwnR M2 M0.length l0 := by rw [hM2]; exact S0.ext _
  have S1 : OwnR M2 M1.length l1 := by rw [hM2]; exact OwnR.new (i := 0) (by rfl) rfl
  try simp (config := {implicitDefEqProofs := false, maxDischargeDepth := 20}) (disch := first | omega | (simp only [lenE]; done) | (simp only [lenE]; omega) | rfl | (simp only [lenE, markR_len]; done) | (simp only [lenE, markR_len]; omega)) only [runE, mapE, listE, initT_5, initT_6, initT_7, initT_8, resV, oneV, binA, unA, reduceCtorEq, Nat.reduceEqDiff, Nat.reduceAdd, Nat.reduceLT, Nat.reduceLeDiff, Nat.reduceMul, Nat.reduceSub, ↓reduceIte, decide_true, decide_false, Bool.true_eq_false, Bool.false_eq_true, Bool.not_true, Bool.not_false, if_true, if_false, and_true, true_and, memE, celE, w64, Nat.zero_add, Nat.add_zero, Nat.mul_one, putL, and_self, ldn]
  refine callH_rc (specIsWider_rc _ _ _ l0 l1 ((S0.row (by omega)).ints _) ((S1.row (by omega)).ints _)) ?_
  rintro r new ⟨rfl, nrn⟩
  obtain ⟨M3, hM3⟩ : ∃ M', M' = M2 ++ new := ⟨_, rfl⟩
  rw [← hM3]
  have LM3 : M3.length = M2.length + new.length := by rw [hM3, List.length_append]
  replace A0 : RowA M3 a0 l0 := by rw [hM3]; exact A0.ext _
  replace A1 : RowA M3 a1 l1 := by rw [hM3]; exact A1.ext _
  replace S0 : OwnR M3 M0.length l0 := by rw [hM3]; exact S0.ext _
  replace S1 : OwnR M3 M1.length l1 := by rw [hM3]; exact S1.ext _
  clear nrn
  clear S0
  clear S1
  try simp (config := {implicitDefEqProofs := false, maxDischargeDepth := 20}) (disch := first | omega | (simp only [lenE]; done) | (simp only [lenE]; omega) | rfl | (simp only [lenE, markR_len]; done) | (simp only [lenE, markR_len]; omega)) only [runE, mapE, listE, initT_5, initT_6, initT_7, initT_8, resV, oneV, binA, unA, reduceCtorEq, Nat.reduceEqDiff, Nat.reduceAdd, Nat.reduceLT, Nat.reduceLeDiff, Nat.reduceMul, Nat.reduceSub, ↓reduceIte, decide_true, decide_false, Bool.true_eq_false, Bool.false_eq_true, Bool.not_true, Bool.not_false, if_true, if_false, and_true, true_and, memE, celE, w64, Nat.zero_add, Nat.add_zero, Nat.mul_one, putL, and_self, ldn, ext_2_0, ext_2_1, ext_4_0, ext_4_1, ext_4_2, ext_4_3, beq_self_eq_true, bne_self_eq_false]
  refine callH_rc (toIntS_rc _ _ l0 (A0.ints _) (by omega)) ?_
  rintro r new ⟨rfl, rfl⟩
  obtain ⟨M4, hM4⟩ : ∃ M', M' = M3 ++ [rowB l0] := ⟨_, rfl⟩
  rw [← hM4]
  have LM4 : M4.length = M3.length + 1 := by rw [hM4, List.length_append]; rfl
  replace A0 : RowA M4 a0 l0 := by rw [hM4]; exact A0.ext _
  replace A1 : RowA M4 a1 l1 := by rw [hM4]; exact A1.ext _
  have Y0 : OwnR M4 M3.length l0 := by rw [hM4]; exact OwnR.new (i := 0) (by rfl) rfl
  try simp (config := {implicitDefEqProofs := false, maxDischargeDepth := 20}) (disch := first | omega | (simp only [lenE]; done) | (simp only [lenE]; omega) | rfl | (simp only [lenE, markR_len]; done) | (simp only [lenE, markR_len]; omega)) only [runE, mapE, listE, initT_5, initT_6, initT_7, initT_8, resV, oneV, binA, unA, reduceCtorEq, Nat.reduceEqDiff, Nat.reduceAdd, Nat.reduceLT, Nat.reduceLeDiff, Nat.reduceMul, Nat.reduceSub, ↓reduceIte, decide_true, decide_false, Bool.true_eq_false, Bool.false_eq_true, Bool.not_true, Bool.not_false, if_true, if_false, and_true, true_and, memE, celE, w64, Nat.zero_add, Nat.add_zero, Nat.mul_one, putL, and_self, ldn, ext_2_0, ext_2_1, ext_4_0, ext_4_1, ext_4_2, ext_4_3, beq_self_eq_true, bne_self_eq_false]
  refine callH_rc (toIntS_rc _ _ l1 (A1.ints _) (by omega)) ?_
  rintro r new ⟨rfl, rfl⟩
  obtain ⟨M5, hM5⟩ : ∃ M', M' = M4 ++ [rowB l1] := ⟨_, rfl⟩
  rw [← hM5]
  have LM5 : M5.length = M4.length + 1 := by rw [hM5, List.length_append]; rfl
  replace A0 : RowA M5 a0 l0 := by rw [hM5]; exact A0.ext _
  replace A1 : RowA M5 a1 l1 := by rw [hM5]; exact A1.ext _
  replace Y0 : OwnR M5 M3.length l0 := by rw [hM5]; exact Y0.ext _
  have Y1 : OwnR M5 M4.length l1 := by rw [hM5]; exact OwnR.new (i := 0) (by rfl) rfl
  try simp (config := {implicitDefEqProofs := false, maxDischargeDepth := 20}) (disch := first | omega | (simp only [lenE]; done) | (simp only [lenE]; omega) | rfl | (simp only [lenE, markR_len]; done) | (simp only [lenE, markR_len]; omega)) only [runE, mapE, listE, initT_5, initT_6, initT_7, initT_8, resV, oneV, binA, unA, reduceCtorEq, Nat.reduceEqDiff, Nat.reduceAdd, Nat.reduceLT, Nat.reduceLeDiff, Nat.reduceMul, Nat.reduceSub, ↓reduceIte, decide_true, decide_false, Bool.true_eq_false, Bool.false_eq_true, Bool.not_true, Bool.not_false, if_true, if_false, and_true, true_and, memE, celE, w64, Nat.zero_add, Nat.add_zero, Nat.mul_one, putL, and_self, ldn, ext_2_0, ext_2_1, ext_4_0, ext_4_1, ext_4_2, ext_4_3, beq_self_eq_true, bne_self_eq_false]
  refine callH_rc (implIsWider_rc _ _ _ l0 l1 ((Y0.row (by omega)).ints _) ((Y1.row (by omega)).ints _)) ?_
  rintro r new ⟨rfl, nrn⟩
  obtain ⟨M6, hM6⟩ : ∃ M', M' = M5 ++ new := ⟨_, rfl⟩
  rw [← hM6]
  have LM6 : M6.length = M5.length + new.length := by rw [hM6, List.length_append]
  replace A0 : RowA M6 a0 l0 := by rw [hM6]; exact A0.ext _
  replace A1 : RowA M6 a1 l1 := by rw [hM6]; exact A1.ext _
  replace Y0 : OwnR M6 M3.length l0 := by rw [hM6]; exact Y0.ext _
  replace Y1 : OwnR M6 M4.length l1 := by rw [hM6]; exact Y1.ext _
  clear nrn
  try simp (config := {implicitDefEqProofs := false, maxDischargeDepth := 20}) (disch := first | omega | (simp only [lenE]; done) | (simp only [lenE]; omega) | rfl | (simp only [lenE, markR_len]; done) | (simp only [lenE, markR_len]; omega)) only [runE, mapE, listE, initT_5, initT_6, initT_7, initT_8, resV, oneV, binA, unA, reduceCtorEq, Nat.reduceEqDiff, Nat.reduceAdd, Nat.reduceLT, Nat.reduceLeDiff, Nat.reduceMul, Nat.reduceSub, ↓reduceIte, decide_true, decide_false, Bool.true_eq_false, Bool.false_eq_true, Bool.not_true, Bool.not_false, if_true, if_false, and_true, true_and, memE, celE, w64, Nat.zero_add, Nat.add_zero, Nat.mul_one, putL, and_self, ldn, ext_2_0, ext_2_1, ext_4_0, ext_4_1, ext_4_2, ext_4_3, beq_self_eq_true, bne_self_eq_false, List.append_nil]
  refine callH_rc (toIntS_rc _ _ l0 (A0.ints _) (by omega)) ?_
  rintro r new ⟨rfl, rfl⟩
  obtain ⟨M7, hM7⟩ : ∃ M', M' = M6 ++ [rowB l0] := ⟨_, rfl⟩
  rw [← hM7]
  have LM7 : M7.length = M6.length + 1 := by rw [hM7, List.length_append]; rfl
  replace A0 : RowA M7 a0 l0 := by rw [hM7]; exact A0.ext _
  replace A1 : RowA M7 a1 l1 := by rw [hM7]; exact A1.ext _
  replace Y0 : OwnR M7 M3.length l0 := by rw [hM7]; exact Y0.ext _
  replace Y1 : OwnR M7 M4.length l1 := by rw [hM7]; exact Y1.ext _
  have T0 : OwnR M7 M6.length l0 := by rw [hM7]; exact OwnR.new (i := 0) (by rfl) rfl
  try simp (config := {implicitDefEqProofs := false, maxDischargeDepth := 20}) (disch := first | omega | (simp only [lenE]; done) | (simp only [lenE]; omega) | rfl | (simp only [lenE, markR_len]; done) | (simp only [lenE, markR_len]; omega)) only [runE, mapE, listE, initT_5, initT_6, initT_7, initT_8, resV, oneV, binA, unA, reduceCtorEq, Nat.reduceEqDiff, Nat.reduceAdd, Nat.reduceLT, Nat.reduceLeDiff, Nat.reduceMul, Nat.reduceSub, ↓reduceIte, decide_true, decide_false, Bool.true_eq_false, Bool.false_eq_true, Bool.not_true, Bool.not_false, if_true, if_false, and_true, true_and, memE, celE, w64, Nat.zero_add, Nat.add_zero, Nat.mul_one, putL, and_self, ldn, ext_2_0, ext_2_1, ext_4_0, ext_4_1, ext_4_2, ext_4_3, beq_self_eq_true, bne_self_eq_false]
  refine callH_rc (eqIntS_rc _ _ _ l0 ((Y0.row (by omega)).ints _) ((T0.row (by omega)).ints _)) ?_
  rintro r new ⟨rfl, rfl⟩
  rw [List.append_nil]
  clear T0
  try simp (config := {implicitDefEqProofs := false, maxDischargeDepth := 20}) (disch := first | omega | (simp only [lenE]; done) | (simp only [lenE]; omega) | rfl | (simp only [lenE, markR_len]; done) | (simp only [lenE, markR_len]; omega)) only [runE, mapE, listE, initT_5, initT_6, initT_7, initT_8, resV, oneV, binA, unA, reduceCtorEq, Nat.reduceEqDiff, Nat.reduceAdd, Nat.reduceLT, Nat.reduceLeDiff, Nat.reduceMul, Nat.reduceSub, ↓reduceIte, decide_true, decide_false, Bool.true_eq_false, Bool.false_eq_true, Bool.not_true, Bool.not_false, if_true, if_false, and_true, true_and, memE, celE, w64, Nat.zero_add, Nat.add_zero, Nat.mul_one, putL, and_self, ldn, ext_2_0, ext_2_1, ext_4_0, ext_4_1, ext_4_2, ext_4_3, beq_self_eq_true, bne_self_eq_false, List.append_nil]
  refine callH_rc (toIntS_rc _ _ l1 (A1.ints _) (by omega)) ?_
  rintro r new ⟨rfl, rfl⟩
  obtain ⟨M8, hM8⟩ : ∃ M', M' = M7 ++ [rowB l1] := ⟨_, rfl⟩
  rw [← hM8]
  have LM8 : M8.length = M7.length + 1 := by rw [hM8, List.length_append]; rfl
  replace A0 : RowA M8 a0 l0 := by rw [hM8]; exact A0.ext _
  replace A1 : RowA M8 a1 l1 := by rw [hM8]; exact A1.ext _
  replace Y0 : OwnR M8 M3.length l0 := by rw [hM8]; exact Y0.ext _
  replace Y1 : OwnR M8 M4.length l1 := by rw [hM8]; exact Y1.ext _
  have T1 : OwnR M8 M7.length l1 := by rw [hM8]; exact OwnR.new (i := 0) (by rfl) rfl
  try simp (config := {implicitDefEqProofs := false, maxDischargeDepth := 20}) (disch := first | omega | (simp only [lenE]; done) | (simp only [lenE]; omega) | rfl | (simp only [lenE, markR_len]; done) | (simp only [lenE, markR_len]; omega)) only [runE, mapE, listE, initT_5, initT_6, initT_7, initT_8, resV, oneV, binA, unA, reduceCtorEq, Nat.reduceEqDiff, Nat.reduceAdd, Nat.reduceLT, Nat.reduceLeDiff, Nat.reduceMul, Nat.reduceSub, ↓reduceIte, decide_true, decide_false, Bool.true_eq_false, Bool.false_eq_true, Bool.not_true, Bool.not_false, if_true, if_false, and_true, true_and, memE, celE, w64, Nat.zero_add, Nat.add_zero, Nat.mul_one, putL, and_self, ldn, ext_2_0, ext_2_1, ext_4_0, ext_4_1, ext_4_2, ext_4_3, beq_self_eq_true, bne_self_eq_false]
  refine callH_rc (eqIntS_rc _ _ _ l1 ((Y1.row (by omega)).ints _) ((T1.row (by omega)).ints _)) ?_
  rintro r new ⟨rfl, rfl⟩
  rw [List.append_nil]
  clear T1
  try simp (config := {implicitDefEqProofs := false, maxDischargeDepth := 20}) (disch := first | omega | (simp only [lenE]; done) | (simp only [lenE]; omega) | rfl | (simp only [lenE, markR_len]; done) | (simp only [lenE, markR_len]; omega)) only [runE, mapE, listE, initT_5, initT_6, initT_7, initT_8, resV, oneV, binA, unA, reduceCtorEq, Nat.reduceEqDiff, Nat.reduceAdd, Nat.reduceLT, Nat.reduceLeDiff, Nat.reduceMul, Nat.reduceSub, ↓reduceIte, decide_true, decide_false, Bool.true_eq_false, Bool.false_eq_true, Bool.not_true, Bool.not_false, if_true, if_false, and_true, true_and, memE, celE, w64, Nat.zero_add, Nat.add_zero, Nat.mul_one, putL, and_self, ldn, ext_2_0, ext_2_1, ext_4_0, ext_4_1, ext_4_2, ext_4_3, beq_self_eq_true, bne_self_eq_false, List.append_nil]
end Go.Proofs.Ytfdpieeopdhcmaa.Ab
