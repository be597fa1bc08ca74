/- FnExactSumOf: its running over abstract memory. -/
import Derived.Test.YtfdpieeopdhcmaaAbChance5
import Derived.Test.YtfdpieeopdhcmaaAbWalk
import Derived.Test.YtfdpieeopdhcmaaCodLSumOf
namespace Go.Proofs.Ytfdpieeopdhcmaa.Ab
open Go Go.RowKit
set_option linter.unusedVariables false
set_option linter.unusedSimpArgs false
set_option maxRecDepth 100000

set_option maxHeartbeats 4000000 in
theorem law_FnExactSumOf (M0 : Mem) (l0 : List Int) (a0 : Nat) (l1 : List Int) (a1 : Nat) (A0 : RowA M0 a0 l0) (A1 : RowA M0 a1 l1) :
    AC Try.prog 16 [.slice (some ⟨a0, 0, none⟩) l0.length 0, .slice (some ⟨a1, 0, none⟩) l1.length 0] M0 fun r _ => r = .bool true := by
  refine ac_of_run mixed ok_laws_FnExactSumOf (by simp) (go_start _ _ _ ?_)
  have B0 := A0.lt
  have B1 := A1.lt
  by_cases s0 : 1048576 < l0.length
  · have s0' : (1048576 : Int) < l0.length := by omega
    try simp (config := {implicitDefEqProofs := false, maxDischargeDepth := 20}) (disch := first | omega | (simp only [lenE]; done) | (simp only [lenE]; omega) | rfl | (simp only [lenE, markR_len]; done) | (simp only [lenE, markR_len]; omega)) only [runE, mapE, listE, initT_5, initT_6, initT_7, initT_8, resV, oneV, binA, unA, reduceCtorEq, Nat.reduceEqDiff, Nat.reduceAdd, Nat.reduceLT, Nat.reduceLeDiff, Nat.reduceMul, Nat.reduceSub, ↓reduceIte, decide_true, decide_false, Bool.true_eq_false, Bool.false_eq_true, Bool.not_true, Bool.not_false, if_true, if_false, and_true, true_and, memE, celE, w64, Nat.zero_add, Nat.add_zero, Nat.mul_one, putL, and_self, ldn, c_laws_FnExactSumOf, r_laws_FnExactSumOf, ext_2_0, ext_2_1, ext_4_0, ext_4_1, ext_4_2, ext_4_3, gt_iff_lt, beq_self_eq_true, bne_self_eq_false, s0']
    done
  have s0' : ¬ ((1048576 : Int) < l0.length) := by omega
  by_cases s1 : 1048576 < l1.length
  · have s1' : (1048576 : Int) < l1.length := by omega
    try simp (config := {implicitDefEqProofs := false, maxDischargeDepth := 20}) (disch := first | omega | (simp only [lenE]; done) | (simp only [lenE]; omega) | rfl | (simp only [lenE, markR_len]; done) | (simp only [lenE, markR_len]; omega)) only [runE, mapE, listE, initT_5, initT_6, initT_7, initT_8, resV, oneV, binA, unA, reduceCtorEq, Nat.reduceEqDiff, Nat.reduceAdd, Nat.reduceLT, Nat.reduceLeDiff, Nat.reduceMul, Nat.reduceSub, ↓reduceIte, decide_true, decide_false, Bool.true_eq_false, Bool.false_eq_true, Bool.not_true, Bool.not_false, if_true, if_false, and_true, true_and, memE, celE, w64, Nat.zero_add, Nat.add_zero, Nat.mul_one, putL, and_self, ldn, c_laws_FnExactSumOf, r_laws_FnExactSumOf, ext_2_0, ext_2_1, ext_4_0, ext_4_1, ext_4_2, ext_4_3, gt_iff_lt, beq_self_eq_true, bne_self_eq_false, s1', s0']
    done
  have s1' : ¬ ((1048576 : Int) < l1.length) := by omega
  try simp (config := {implicitDefEqProofs := false, maxDischargeDepth := 20}) (disch := first | omega | (simp only [lenE]; done) | (simp only [lenE]; omega) | rfl | (simp only [lenE, markR_len]; done) | (simp only [lenE, markR_len]; omega)) only [runE, mapE, listE, initT_5, initT_6, initT_7, initT_8, resV, oneV, binA, unA, reduceCtorEq, Nat.reduceEqDiff, Nat.reduceAdd, Nat.reduceLT, Nat.reduceLeDiff, Nat.reduceMul, Nat.reduceSub, ↓reduceIte, decide_true, decide_false, Bool.true_eq_false, Bool.false_eq_true, Bool.not_true, Bool.not_false, if_true, if_false, and_true, true_and, memE, celE, w64, Nat.zero_add, Nat.add_zero, Nat.mul_one, putL, and_self, ldn, c_laws_FnExactSumOf, r_laws_FnExactSumOf, ext_2_0, ext_2_1, ext_4_0, ext_4_1, ext_4_2, ext_4_3, gt_iff_lt, beq_self_eq_true, bne_self_eq_false, s0', s1']
  obtain ⟨W, hW⟩ : ∃ W, W = sumA l0 l1 := ⟨_, rfl⟩
  obtain ⟨okW, hokW⟩ : ∃ b, b = sumB l0 l1 := ⟨_, rfl⟩
  have SPC := fun m u0 u1 => specSumOf_rc m u0 u1 l0 l1
  have IMP := fun m u0 u1 => implSumOf_rc m u0 u1 l0 l1
  rw [← hW, ← hokW] at SPC IMP
  refine callH_rc (toIntS_rc _ _ l0 (A0.ints _) (by omega)) ?_
  rintro r new ⟨rfl, rfl⟩
  obtain ⟨M1, hM1⟩ : ∃ M', M' = M0 ++ [rowB l0] := ⟨_, rfl⟩
  rw [← hM1]
  have LM1 : M1.length = M0.length + 1 := by rw [hM1, List.length_append]; rfl
  replace A0 : RowA M1 a0 l0 := by rw [hM1]; exact A0.ext _
  replace A1 : RowA M1 a1 l1 := by rw [hM1]; exact A1.ext _
  have S0 : OwnR M1 M0.length l0 := by rw [hM1]; exact OwnR.new (i := 0) (by rfl) rfl
  try simp (config := {implicitDefEqProofs := false, maxDischargeDepth := 20}) (disch := first | omega | (simp only [lenE]; done) | (simp only [lenE]; omega) | rfl | (simp only [lenE, markR_len]; done) | (simp only [lenE, markR_len]; omega)) only [runE, mapE, listE, initT_5, initT_6, initT_7, initT_8, resV, oneV, binA, unA, reduceCtorEq, Nat.reduceEqDiff, Nat.reduceAdd, Nat.reduceLT, Nat.reduceLeDiff, Nat.reduceMul, Nat.reduceSub, ↓reduceIte, decide_true, decide_false, Bool.true_eq_false, Bool.false_eq_true, Bool.not_true, Bool.not_false, if_true, if_false, and_true, true_and, memE, celE, w64, Nat.zero_add, Nat.add_zero, Nat.mul_one, putL, and_self, ldn]
  refine callH_rc (toIntS_rc _ _ l1 (A1.ints _) (by omega)) ?_
  rintro r new ⟨rfl, rfl⟩
  obtain ⟨M2, hM2⟩ : ∃ M', M' = M1 ++ [rowB l1] := ⟨_, rfl⟩
  rw [← hM2]
  have LM2 : M2.length = M1.length + 1 := by rw [hM2, List.length_append]; rfl
  replace A0 : RowA M2 a0 l0 := by rw [hM2]; exact A0.ext _
  replace A1 : RowA M2 a1 l1 := by rw [hM2]; exact A1.ext _
  replace S0 : OwnR M2 M0.length l0 := by rw [hM2]; exact S0.ext _
  have S1 : OwnR M2 M1.length l1 := by rw [hM2]; exact OwnR.new (i := 0) (by rfl) rfl
  try simp (config := {implicitDefEqProofs := false, maxDischargeDepth := 20}) (disch := first | omega | (simp only [lenE]; done) | (simp only [lenE]; omega) | rfl | (simp only [lenE, markR_len]; done) | (simp only [lenE, markR_len]; omega)) only [runE, mapE, listE, initT_5, initT_6, initT_7, initT_8, resV, oneV, binA, unA, reduceCtorEq, Nat.reduceEqDiff, Nat.reduceAdd, Nat.reduceLT, Nat.reduceLeDiff, Nat.reduceMul, Nat.reduceSub, ↓reduceIte, decide_true, decide_false, Bool.true_eq_false, Bool.false_eq_true, Bool.not_true, Bool.not_false, if_true, if_false, and_true, true_and, memE, celE, w64, Nat.zero_add, Nat.add_zero, Nat.mul_one, putL, and_self, ldn]
  refine callH_rc (SPC _ _ _ ((S0.row (by omega)).ints _) ((S1.row (by omega)).ints _)) ?_
  rintro r new ⟨nrn, hlw, iw, fw, rfl, hiw⟩
  obtain ⟨M3, hM3⟩ : ∃ M', M' = M2 ++ new := ⟨_, rfl⟩
  rw [← hM3]
  have LM3 : M3.length = M2.length + new.length := by rw [hM3, List.length_append]
  replace A0 : RowA M3 a0 l0 := by rw [hM3]; exact A0.ext _
  replace A1 : RowA M3 a1 l1 := by rw [hM3]; exact A1.ext _
  replace S0 : OwnR M3 M0.length l0 := by rw [hM3]; exact S0.ext _
  replace S1 : OwnR M3 M1.length l1 := by rw [hM3]; exact S1.ext _
  have w : OwnR M3 (M2.length + iw) W := by rw [hM3]; exact OwnR.new hiw rfl
  clear nrn hiw
  have ltw := w.lt
  clear S0
  clear S1
  try simp (config := {implicitDefEqProofs := false, maxDischargeDepth := 20}) (disch := first | omega | (simp only [lenE]; done) | (simp only [lenE]; omega) | rfl | (simp only [lenE, markR_len]; done) | (simp only [lenE, markR_len]; omega)) only [runE, mapE, listE, initT_5, initT_6, initT_7, initT_8, resV, oneV, binA, unA, reduceCtorEq, Nat.reduceEqDiff, Nat.reduceAdd, Nat.reduceLT, Nat.reduceLeDiff, Nat.reduceMul, Nat.reduceSub, ↓reduceIte, decide_true, decide_false, Bool.true_eq_false, Bool.false_eq_true, Bool.not_true, Bool.not_false, if_true, if_false, and_true, true_and, memE, celE, w64, Nat.zero_add, Nat.add_zero, Nat.mul_one, putL, and_self, ldn, ext_2_0, ext_2_1, ext_4_0, ext_4_1, ext_4_2, ext_4_3, beq_self_eq_true, bne_self_eq_false]
  refine callH_rc (toIntS_rc _ _ l0 (A0.ints _) (by omega)) ?_
  rintro r new ⟨rfl, rfl⟩
  obtain ⟨M4, hM4⟩ : ∃ M', M' = M3 ++ [rowB l0] := ⟨_, rfl⟩
  rw [← hM4]
  have LM4 : M4.length = M3.length + 1 := by rw [hM4, List.length_append]; rfl
  replace A0 : RowA M4 a0 l0 := by rw [hM4]; exact A0.ext _
  replace A1 : RowA M4 a1 l1 := by rw [hM4]; exact A1.ext _
  replace w : OwnR M4 (M2.length + iw) W := by rw [hM4]; exact w.ext _
  have Y0 : OwnR M4 M3.length l0 := by rw [hM4]; exact OwnR.new (i := 0) (by rfl) rfl
  try simp (config := {implicitDefEqProofs := false, maxDischargeDepth := 20}) (disch := first | omega | (simp only [lenE]; done) | (simp only [lenE]; omega) | rfl | (simp only [lenE, markR_len]; done) | (simp only [lenE, markR_len]; omega)) only [runE, mapE, listE, initT_5, initT_6, initT_7, initT_8, resV, oneV, binA, unA, reduceCtorEq, Nat.reduceEqDiff, Nat.reduceAdd, Nat.reduceLT, Nat.reduceLeDiff, Nat.reduceMul, Nat.reduceSub, ↓reduceIte, decide_true, decide_false, Bool.true_eq_false, Bool.false_eq_true, Bool.not_true, Bool.not_false, if_true, if_false, and_true, true_and, memE, celE, w64, Nat.zero_add, Nat.add_zero, Nat.mul_one, putL, and_self, ldn, ext_2_0, ext_2_1, ext_4_0, ext_4_1, ext_4_2, ext_4_3, beq_self_eq_true, bne_self_eq_false]
  refine callH_rc (toIntS_rc _ _ l1 (A1.ints _) (by omega)) ?_
  rintro r new ⟨rfl, rfl⟩
  obtain ⟨M5, hM5⟩ : ∃ M', M' = M4 ++ [rowB l1] := ⟨_, rfl⟩
  rw [← hM5]
  have LM5 : M5.length = M4.length + 1 := by rw [hM5, List.length_append]; rfl
  replace A0 : RowA M5 a0 l0 := by rw [hM5]; exact A0.ext _
  replace A1 : RowA M5 a1 l1 := by rw [hM5]; exact A1.ext _
  replace w : OwnR M5 (M2.length + iw) W := by rw [hM5]; exact w.ext _
  replace Y0 : OwnR M5 M3.length l0 := by rw [hM5]; exact Y0.ext _
  have Y1 : OwnR M5 M4.length l1 := by rw [hM5]; exact OwnR.new (i := 0) (by rfl) rfl
  try simp (config := {implicitDefEqProofs := false, maxDischargeDepth := 20}) (disch := first | omega | (simp only [lenE]; done) | (simp only [lenE]; omega) | rfl | (simp only [lenE, markR_len]; done) | (simp only [lenE, markR_len]; omega)) only [runE, mapE, listE, initT_5, initT_6, initT_7, initT_8, resV, oneV, binA, unA, reduceCtorEq, Nat.reduceEqDiff, Nat.reduceAdd, Nat.reduceLT, Nat.reduceLeDiff, Nat.reduceMul, Nat.reduceSub, ↓reduceIte, decide_true, decide_false, Bool.true_eq_false, Bool.false_eq_true, Bool.not_true, Bool.not_false, if_true, if_false, and_true, true_and, memE, celE, w64, Nat.zero_add, Nat.add_zero, Nat.mul_one, putL, and_self, ldn, ext_2_0, ext_2_1, ext_4_0, ext_4_1, ext_4_2, ext_4_3, beq_self_eq_true, bne_self_eq_false]
  refine callH_rc (IMP _ _ _ ((Y0.row (by omega)).ints _) ((Y1.row (by omega)).ints _)) ?_
  rintro r new ⟨nrn, hlg, ig, fg, rfl, hig⟩
  obtain ⟨M6, hM6⟩ : ∃ M', M' = M5 ++ new := ⟨_, rfl⟩
  rw [← hM6]
  have LM6 : M6.length = M5.length + new.length := by rw [hM6, List.length_append]
  replace A0 : RowA M6 a0 l0 := by rw [hM6]; exact A0.ext _
  replace A1 : RowA M6 a1 l1 := by rw [hM6]; exact A1.ext _
  replace w : OwnR M6 (M2.length + iw) W := by rw [hM6]; exact w.ext _
  replace Y0 : OwnR M6 M3.length l0 := by rw [hM6]; exact Y0.ext _
  replace Y1 : OwnR M6 M4.length l1 := by rw [hM6]; exact Y1.ext _
  have g : OwnR M6 (M5.length + ig) W := by rw [hM6]; exact OwnR.new hig rfl
  clear nrn hig
  have ltg := g.lt
  try simp (config := {implicitDefEqProofs := false, maxDischargeDepth := 20}) (disch := first | omega | (simp only [lenE]; done) | (simp only [lenE]; omega) | rfl | (simp only [lenE, markR_len]; done) | (simp only [lenE, markR_len]; omega)) only [runE, mapE, listE, initT_5, initT_6, initT_7, initT_8, resV, oneV, binA, unA, reduceCtorEq, Nat.reduceEqDiff, Nat.reduceAdd, Nat.reduceLT, Nat.reduceLeDiff, Nat.reduceMul, Nat.reduceSub, ↓reduceIte, decide_true, decide_false, Bool.true_eq_false, Bool.false_eq_true, Bool.not_true, Bool.not_false, if_true, if_false, and_true, true_and, memE, celE, w64, Nat.zero_add, Nat.add_zero, Nat.mul_one, putL, and_self, ldn, ext_2_0, ext_2_1, ext_4_0, ext_4_1, ext_4_2, ext_4_3, beq_self_eq_true, bne_self_eq_false]
  refine callH_rc (eqIntS_rc _ _ _ W ((g.row (by omega)).ints _) ((w.row (by omega)).ints _)) ?_
  rintro r new ⟨rfl, rfl⟩
  rw [List.append_nil]
  try simp (config := {implicitDefEqProofs := false, maxDischargeDepth := 20}) (disch := first | omega | (simp only [lenE]; done) | (simp only [lenE]; omega) | rfl | (simp only [lenE, markR_len]; done) | (simp only [lenE, markR_len]; omega)) only [runE, mapE, listE, initT_5, initT_6, initT_7, initT_8, resV, oneV, binA, unA, reduceCtorEq, Nat.reduceEqDiff, Nat.reduceAdd, Nat.reduceLT, Nat.reduceLeDiff, Nat.reduceMul, Nat.reduceSub, ↓reduceIte, decide_true, decide_false, Bool.true_eq_false, Bool.false_eq_true, Bool.not_true, Bool.not_false, if_true, if_false, and_true, true_and, memE, celE, w64, Nat.zero_add, Nat.add_zero, Nat.mul_one, putL, and_self, ldn, ext_2_0, ext_2_1, ext_4_0, ext_4_1, ext_4_2, ext_4_3, beq_self_eq_true, bne_self_eq_false, List.append_nil]
  refine callH_rc (toIntS_rc _ _ l0 (A0.ints _) (by omega)) ?_
  rintro r new ⟨rfl, rfl⟩
  obtain ⟨M7, hM7⟩ : ∃ M', M' = M6 ++ [rowB l0] := ⟨_, rfl⟩
  rw [← hM7]
  have LM7 : M7.length = M6.length + 1 := by rw [hM7, List.length_append]; rfl
  replace A0 : RowA M7 a0 l0 := by rw [hM7]; exact A0.ext _
  replace A1 : RowA M7 a1 l1 := by rw [hM7]; exact A1.ext _
  replace w : OwnR M7 (M2.length + iw) W := by rw [hM7]; exact w.ext _
  replace Y0 : OwnR M7 M3.length l0 := by rw [hM7]; exact Y0.ext _
  replace Y1 : OwnR M7 M4.length l1 := by rw [hM7]; exact Y1.ext _
  replace g : OwnR M7 (M5.length + ig) W := by rw [hM7]; exact g.ext _
  have T0 : OwnR M7 M6.length l0 := by rw [hM7]; exact OwnR.new (i := 0) (by rfl) rfl
  try simp (config := {implicitDefEqProofs := false, maxDischargeDepth := 20}) (disch := first | omega | (simp only [lenE]; done) | (simp only [lenE]; omega) | rfl | (simp only [lenE, markR_len]; done) | (simp only [lenE, markR_len]; omega)) only [runE, mapE, listE, initT_5, initT_6, initT_7, initT_8, resV, oneV, binA, unA, reduceCtorEq, Nat.reduceEqDiff, Nat.reduceAdd, Nat.reduceLT, Nat.reduceLeDiff, Nat.reduceMul, Nat.reduceSub, ↓reduceIte, decide_true, decide_false, Bool.true_eq_false, Bool.false_eq_true, Bool.not_true, Bool.not_false, if_true, if_false, and_true, true_and, memE, celE, w64, Nat.zero_add, Nat.add_zero, Nat.mul_one, putL, and_self, ldn, ext_2_0, ext_2_1, ext_4_0, ext_4_1, ext_4_2, ext_4_3, beq_self_eq_true, bne_self_eq_false]
  refine callH_rc (eqIntS_rc _ _ _ l0 ((Y0.row (by omega)).ints _) ((T0.row (by omega)).ints _)) ?_
  rintro r new ⟨rfl, rfl⟩
  rw [List.append_nil]
  clear T0
  try simp (config := {implicitDefEqProofs := false, maxDischargeDepth := 20}) (disch := first | omega | (simp only [lenE]; done) | (simp only [lenE]; omega) | rfl | (simp only [lenE, markR_len]; done) | (simp only [lenE, markR_len]; omega)) only [runE, mapE, listE, initT_5, initT_6, initT_7, initT_8, resV, oneV, binA, unA, reduceCtorEq, Nat.reduceEqDiff, Nat.reduceAdd, Nat.reduceLT, Nat.reduceLeDiff, Nat.reduceMul, Nat.reduceSub, ↓reduceIte, decide_true, decide_false, Bool.true_eq_false, Bool.false_eq_true, Bool.not_true, Bool.not_false, if_true, if_false, and_true, true_and, memE, celE, w64, Nat.zero_add, Nat.add_zero, Nat.mul_one, putL, and_self, ldn, ext_2_0, ext_2_1, ext_4_0, ext_4_1, ext_4_2, ext_4_3, beq_self_eq_true, bne_self_eq_false, List.append_nil]
  refine callH_rc (toIntS_rc _ _ l1 (A1.ints _) (by omega)) ?_
  rintro r new ⟨rfl, rfl⟩
  obtain ⟨M8, hM8⟩ : ∃ M', M' = M7 ++ [rowB l1] := ⟨_, rfl⟩
  rw [← hM8]
  have LM8 : M8.length = M7.length + 1 := by rw [hM8, List.length_append]; rfl
  replace A0 : RowA M8 a0 l0 := by rw [hM8]; exact A0.ext _
  replace A1 : RowA M8 a1 l1 := by rw [hM8]; exact A1.ext _
  replace w : OwnR M8 (M2.length + iw) W := by rw [hM8]; exact w.ext _
  replace Y0 : OwnR M8 M3.length l0 := by rw [hM8]; exact Y0.ext _
  replace Y1 : OwnR M8 M4.length l1 := by rw [hM8]; exact Y1.ext _
  replace g : OwnR M8 (M5.length + ig) W := by rw [hM8]; exact g.ext _
  have T1 : OwnR M8 M7.length l1 := by rw [hM8]; exact OwnR.new (i := 0) (by rfl) rfl
  try simp (config := {implicitDefEqProofs := false, maxDischargeDepth := 20}) (disch := first | omega | (simp only [lenE]; done) | (simp only [lenE]; omega) | rfl | (simp only [lenE, markR_len]; done) | (simp only [lenE, markR_len]; omega)) only [runE, mapE, listE, initT_5, initT_6, initT_7, initT_8, resV, oneV, binA, unA, reduceCtorEq, Nat.reduceEqDiff, Nat.reduceAdd, Nat.reduceLT, Nat.reduceLeDiff, Nat.reduceMul, Nat.reduceSub, ↓reduceIte, decide_true, decide_false, Bool.true_eq_false, Bool.false_eq_true, Bool.not_true, Bool.not_false, if_true, if_false, and_true, true_and, memE, celE, w64, Nat.zero_add, Nat.add_zero, Nat.mul_one, putL, and_self, ldn, ext_2_0, ext_2_1, ext_4_0, ext_4_1, ext_4_2, ext_4_3, beq_self_eq_true, bne_self_eq_false]
  refine callH_rc (eqIntS_rc _ _ _ l1 ((Y1.row (by omega)).ints _) ((T1.row (by omega)).ints _)) ?_
  rintro r new ⟨rfl, rfl⟩
  rw [List.append_nil]
  clear T1
  try simp (config := {implicitDefEqProofs := false, maxDischargeDepth := 20}) (disch := first | omega | (simp only [lenE]; done) | (simp only [lenE]; omega) | rfl | (simp only [lenE, markR_len]; done) | (simp only [lenE, markR_len]; omega)) only [runE, mapE, listE, initT_5, initT_6, initT_7, initT_8, resV, oneV, binA, unA, reduceCtorEq, Nat.reduceEqDiff, Nat.reduceAdd, Nat.reduceLT, Nat.reduceLeDiff, Nat.reduceMul, Nat.reduceSub, ↓reduceIte, decide_true, decide_false, Bool.true_eq_false, Bool.false_eq_true, Bool.not_true, Bool.not_false, if_true, if_false, and_true, true_and, memE, celE, w64, Nat.zero_add, Nat.add_zero, Nat.mul_one, putL, and_self, ldn, ext_2_0, ext_2_1, ext_4_0, ext_4_1, ext_4_2, ext_4_3, beq_self_eq_true, bne_self_eq_false, List.append_nil]
  refine callH_ac (markIntS_any _ M3.length _ l0 (1) Y0 (by omega) (by omega) (by omega)) ?_
  rintro r m' ⟨rfl, rfl⟩
  obtain ⟨M9, hM9⟩ : ∃ M', M' = markR M8 M3.length (1) l0.length := ⟨_, rfl⟩
  rw [← hM9]
  have LM9 : M9.length = M8.length + 0 := by rw [hM9]; simp [markR_len]
  have NA0 := A0.lt
  have NA1 := A1.lt
  have Nw := w.lt
  have NY1 := Y1.lt
  have Ng := g.lt
  replace A0 : RowA M9 a0 l0 := by rw [hM9]; exact (A0.other (by omega))
  replace A1 : RowA M9 a1 l1 := by rw [hM9]; exact (A1.other (by omega))
  replace w : OwnR M9 (M2.length + iw) W := by rw [hM9]; exact (w.other' (by omega))
  replace Y1 : OwnR M9 M4.length l1 := by rw [hM9]; exact (Y1.other' (by omega))
  replace g : OwnR M9 (M5.length + ig) W := by rw [hM9]; exact (g.other' (by omega))
  clear NA0 NA1 Nw NY1 Ng
  clear Y0
  try simp (config := {implicitDefEqProofs := false, maxDischargeDepth := 20}) (disch := first | omega | (simp only [lenE]; done) | (simp only [lenE]; omega) | rfl | (simp only [lenE, markR_len]; done) | (simp only [lenE, markR_len]; omega)) only [runE, mapE, listE, initT_5, initT_6, initT_7, initT_8, resV, oneV, binA, unA, reduceCtorEq, Nat.reduceEqDiff, Nat.reduceAdd, Nat.reduceLT, Nat.reduceLeDiff, Nat.reduceMul, Nat.reduceSub, ↓reduceIte, decide_true, decide_false, Bool.true_eq_false, Bool.false_eq_true, Bool.not_true, Bool.not_false, if_true, if_false, and_true, true_and, memE, celE, w64, Nat.zero_add, Nat.add_zero, Nat.mul_one, putL, and_self, ldn, ext_2_0, ext_2_1, ext_4_0, ext_4_1, ext_4_2, ext_4_3, beq_self_eq_true, bne_self_eq_false]
  refine callH_ac (markIntS_any _ M4.length _ l1 (1 + l0.length) Y1 (by omega) (by omega) (by omega)) ?_
  rintro r m' ⟨rfl, rfl⟩
  obtain ⟨M10, hM10⟩ : ∃ M', M' = markR M9 M4.length (1 + l0.length) l1.length := ⟨_, rfl⟩
  rw [← hM10]
  have LM10 : M10.length = M9.length + 0 := by rw [hM10]; simp [markR_len]
  have NA0 := A0.lt
  have NA1 := A1.lt
  have Nw := w.lt
  have Ng := g.lt
  replace A0 : RowA M10 a0 l0 := by rw [hM10]; exact (A0.other (by omega))
  replace A1 : RowA M10 a1 l1 := by rw [hM10]; exact (A1.other (by omega))
  replace w : OwnR M10 (M2.length + iw) W := by rw [hM10]; exact (w.other' (by omega))
  replace g : OwnR M10 (M5.length + ig) W := by rw [hM10]; exact (g.other' (by omega))
  clear NA0 NA1 Nw Ng
  clear Y1
  have kneg : ¬ ((1 + l0.length + l1.length : Int) < 0) := by omega
  try simp (config := {implicitDefEqProofs := false, maxDischargeDepth := 20}) (disch := first | omega | (simp only [lenE]; done) | (simp only [lenE]; omega) | rfl | (simp only [lenE, markR_len]; done) | (simp only [lenE, markR_len]; omega)) only [runE, mapE, listE, initT_5, initT_6, initT_7, initT_8, resV, oneV, binA, unA, reduceCtorEq, Nat.reduceEqDiff, Nat.reduceAdd, Nat.reduceLT, Nat.reduceLeDiff, Nat.reduceMul, Nat.reduceSub, ↓reduceIte, decide_true, decide_false, Bool.true_eq_false, Bool.false_eq_true, Bool.not_true, Bool.not_false, if_true, if_false, and_true, true_and, memE, celE, w64, Nat.zero_add, Nat.add_zero, Nat.mul_one, putL, and_self, ldn, ext_2_0, ext_2_1, ext_4_0, ext_4_1, ext_4_2, ext_4_3, beq_self_eq_true, bne_self_eq_false, kneg]
  refine callH_rc (eqIntS_rc _ _ _ W ((g.row (by omega)).ints _) ((w.row (by omega)).ints _)) ?_
  rintro r new ⟨rfl, rfl⟩
  rw [List.append_nil]
  try simp (config := {implicitDefEqProofs := false, maxDischargeDepth := 20}) (disch := first | omega | (simp only [lenE]; done) | (simp only [lenE]; omega) | rfl | (simp only [lenE, markR_len]; done) | (simp only [lenE, markR_len]; omega)) only [runE, mapE, listE, initT_5, initT_6, initT_7, initT_8, resV, oneV, binA, unA, reduceCtorEq, Nat.reduceEqDiff, Nat.reduceAdd, Nat.reduceLT, Nat.reduceLeDiff, Nat.reduceMul, Nat.reduceSub, ↓reduceIte, decide_true, decide_false, Bool.true_eq_false, Bool.false_eq_true, Bool.not_true, Bool.not_false, if_true, if_false, and_true, true_and, memE, celE, w64, Nat.zero_add, Nat.add_zero, Nat.mul_one, putL, and_self, ldn, ext_2_0, ext_2_1, ext_4_0, ext_4_1, ext_4_2, ext_4_3, beq_self_eq_true, bne_self_eq_false, List.append_nil]
  refine callH_ac (markIntS_any _ (M5.length + ig) _ W 1 g (by omega) (by omega) (by omega)) ?_
  rintro r m' ⟨rfl, rfl⟩
  have lg := g.lt
  obtain ⟨M11, hM11⟩ : ∃ M', M' = markR M10 (M5.length + ig) 1 W.length := ⟨_, rfl⟩
  rw [← hM11]
  have LM11 : M11.length = M10.length := by rw [hM11]; simp [markR_len]
  have NA0 := A0.lt
  have NA1 := A1.lt
  have Nw := w.lt
  replace A0 : RowA M11 a0 l0 := by rw [hM11]; exact A0.other (by omega)
  replace A1 : RowA M11 a1 l1 := by rw [hM11]; exact A1.other (by omega)
  replace w : OwnR M11 (M2.length + iw) W := by rw [hM11]; exact w.other' (by omega)
  clear NA0 NA1 Nw
  replace g : OwnR M11 (M5.length + ig) (imarks 1 W.length) := by rw [hM11]; exact OwnR.marked _ _ lg
  have glen := imarks_len 1 W.length
  have hq0 : ¬ (1 + (W.length : Int) < 0) := by omega
  try simp (config := {implicitDefEqProofs := false, maxDischargeDepth := 20}) (disch := first | omega | (simp only [lenE]; done) | (simp only [lenE]; omega) | rfl | (simp only [lenE, markR_len]; done) | (simp only [lenE, markR_len]; omega)) only [runE, mapE, listE, initT_5, initT_6, initT_7, initT_8, resV, oneV, binA, unA, reduceCtorEq, Nat.reduceEqDiff, Nat.reduceAdd, Nat.reduceLT, Nat.reduceLeDiff, Nat.reduceMul, Nat.reduceSub, ↓reduceIte, decide_true, decide_false, Bool.true_eq_false, Bool.false_eq_true, Bool.not_true, Bool.not_false, if_true, if_false, and_true, true_and, memE, celE, w64, Nat.zero_add, Nat.add_zero, Nat.mul_one, putL, and_self, ldn, ext_2_0, ext_2_1, ext_4_0, ext_4_1, ext_4_2, ext_4_3, beq_self_eq_true, bne_self_eq_false, List.append_nil]
  have hg := (g.row (by rw [glen]; omega)).ints fg
  rw [glen] at hg
  refine callH_rc (heldIntS_rc _ _ 1 W.length hg (by omega) (by omega) (by omega)) ?_
  rintro r new ⟨rfl, rfl⟩
  rw [List.append_nil]
  clear hg
  try simp (config := {implicitDefEqProofs := false, maxDischargeDepth := 20}) (disch := first | omega | (simp only [lenE]; done) | (simp only [lenE]; omega) | rfl | (simp only [lenE, markR_len]; done) | (simp only [lenE, markR_len]; omega)) only [runE, mapE, listE, initT_5, initT_6, initT_7, initT_8, resV, oneV, binA, unA, reduceCtorEq, Nat.reduceEqDiff, Nat.reduceAdd, Nat.reduceLT, Nat.reduceLeDiff, Nat.reduceMul, Nat.reduceSub, ↓reduceIte, decide_true, decide_false, Bool.true_eq_false, Bool.false_eq_true, Bool.not_true, Bool.not_false, if_true, if_false, and_true, true_and, memE, celE, w64, Nat.zero_add, Nat.add_zero, Nat.mul_one, putL, and_self, ldn, ext_2_0, ext_2_1, ext_4_0, ext_4_1, ext_4_2, ext_4_3, beq_self_eq_true, bne_self_eq_false, List.append_nil, hq0]
  refine callH_rc (toIntS_rc _ _ l0 (A0.ints _) (by omega)) ?_
  rintro r new ⟨rfl, rfl⟩
  obtain ⟨M12, hM12⟩ : ∃ M', M' = M11 ++ [rowB l0] := ⟨_, rfl⟩
  rw [← hM12]
  have LM12 : M12.length = M11.length + 1 := by rw [hM12, List.length_append]; rfl
  replace A0 : RowA M12 a0 l0 := by rw [hM12]; exact A0.ext _
  replace A1 : RowA M12 a1 l1 := by rw [hM12]; exact A1.ext _
  replace w : OwnR M12 (M2.length + iw) W := by rw [hM12]; exact w.ext _
  replace g : OwnR M12 (M5.length + ig) (imarks 1 W.length) := by rw [hM12]; exact g.ext _
  have U0 : OwnR M12 M11.length l0 := by rw [hM12]; exact OwnR.new (i := 0) (by rfl) rfl
  try simp (config := {implicitDefEqProofs := false, maxDischargeDepth := 20}) (disch := first | omega | (simp only [lenE]; done) | (simp only [lenE]; omega) | rfl | (simp only [lenE, markR_len]; done) | (simp only [lenE, markR_len]; omega)) only [runE, mapE, listE, initT_5, initT_6, initT_7, initT_8, resV, oneV, binA, unA, reduceCtorEq, Nat.reduceEqDiff, Nat.reduceAdd, Nat.reduceLT, Nat.reduceLeDiff, Nat.reduceMul, Nat.reduceSub, ↓reduceIte, decide_true, decide_false, Bool.true_eq_false, Bool.false_eq_true, Bool.not_true, Bool.not_false, if_true, if_false, and_true, true_and, memE, celE, w64, Nat.zero_add, Nat.add_zero, Nat.mul_one, putL, and_self, ldn, ext_2_0, ext_2_1, ext_4_0, ext_4_1, ext_4_2, ext_4_3, beq_self_eq_true, bne_self_eq_false]
  refine callH_rc (toIntS_rc _ _ l1 (A1.ints _) (by omega)) ?_
  rintro r new ⟨rfl, rfl⟩
  obtain ⟨M13, hM13⟩ : ∃ M', M' = M12 ++ [rowB l1] := ⟨_, rfl⟩
  rw [← hM13]
  have LM13 : M13.length = M12.length + 1 := by rw [hM13, List.length_append]; rfl
  replace A0 : RowA M13 a0 l0 := by rw [hM13]; exact A0.ext _
  replace A1 : RowA M13 a1 l1 := by rw [hM13]; exact A1.ext _
  replace w : OwnR M13 (M2.length + iw) W := by rw [hM13]; exact w.ext _
  replace g : OwnR M13 (M5.length + ig) (imarks 1 W.length) := by rw [hM13]; exact g.ext _
  replace U0 : OwnR M13 M11.length l0 := by rw [hM13]; exact U0.ext _
  have U1 : OwnR M13 M12.length l1 := by rw [hM13]; exact OwnR.new (i := 0) (by rfl) rfl
  try simp (config := {implicitDefEqProofs := false, maxDischargeDepth := 20}) (disch := first | omega | (simp only [lenE]; done) | (simp only [lenE]; omega) | rfl | (simp only [lenE, markR_len]; done) | (simp only [lenE, markR_len]; omega)) only [runE, mapE, listE, initT_5, initT_6, initT_7, initT_8, resV, oneV, binA, unA, reduceCtorEq, Nat.reduceEqDiff, Nat.reduceAdd, Nat.reduceLT, Nat.reduceLeDiff, Nat.reduceMul, Nat.reduceSub, ↓reduceIte, decide_true, decide_false, Bool.true_eq_false, Bool.false_eq_true, Bool.not_true, Bool.not_false, if_true, if_false, and_true, true_and, memE, celE, w64, Nat.zero_add, Nat.add_zero, Nat.mul_one, putL, and_self, ldn, ext_2_0, ext_2_1, ext_4_0, ext_4_1, ext_4_2, ext_4_3, beq_self_eq_true, bne_self_eq_false]
  refine callH_rc (IMP _ _ _ ((U0.row (by omega)).ints _) ((U1.row (by omega)).ints _)) ?_
  rintro r new ⟨nrn, hlh, ih, fh, rfl, hih⟩
  obtain ⟨M14, hM14⟩ : ∃ M', M' = M13 ++ new := ⟨_, rfl⟩
  rw [← hM14]
  have LM14 : M14.length = M13.length + new.length := by rw [hM14, List.length_append]
  replace A0 : RowA M14 a0 l0 := by rw [hM14]; exact A0.ext _
  replace A1 : RowA M14 a1 l1 := by rw [hM14]; exact A1.ext _
  replace w : OwnR M14 (M2.length + iw) W := by rw [hM14]; exact w.ext _
  replace g : OwnR M14 (M5.length + ig) (imarks 1 W.length) := by rw [hM14]; exact g.ext _
  replace U0 : OwnR M14 M11.length l0 := by rw [hM14]; exact U0.ext _
  replace U1 : OwnR M14 M12.length l1 := by rw [hM14]; exact U1.ext _
  have h : OwnR M14 (M13.length + ih) W := by rw [hM14]; exact OwnR.new hih rfl
  clear nrn hih
  have lth := h.lt
  clear U0
  clear U1
  try simp (config := {implicitDefEqProofs := false, maxDischargeDepth := 20}) (disch := first | omega | (simp only [lenE]; done) | (simp only [lenE]; omega) | rfl | (simp only [lenE, markR_len]; done) | (simp only [lenE, markR_len]; omega)) only [runE, mapE, listE, initT_5, initT_6, initT_7, initT_8, resV, oneV, binA, unA, reduceCtorEq, Nat.reduceEqDiff, Nat.reduceAdd, Nat.reduceLT, Nat.reduceLeDiff, Nat.reduceMul, Nat.reduceSub, ↓reduceIte, decide_true, decide_false, Bool.true_eq_false, Bool.false_eq_true, Bool.not_true, Bool.not_false, if_true, if_false, and_true, true_and, memE, celE, w64, Nat.zero_add, Nat.add_zero, Nat.mul_one, putL, and_self, ldn, ext_2_0, ext_2_1, ext_4_0, ext_4_1, ext_4_2, ext_4_3, beq_self_eq_true, bne_self_eq_false]
  refine callH_rc (eqIntS_rc _ _ _ W ((h.row (by omega)).ints _) ((w.row (by omega)).ints _)) ?_
  rintro r new ⟨rfl, rfl⟩
  rw [List.append_nil]
  try simp (config := {implicitDefEqProofs := false, maxDischargeDepth := 20}) (disch := first | omega | (simp only [lenE]; done) | (simp only [lenE]; omega) | rfl | (simp only [lenE, markR_len]; done) | (simp only [lenE, markR_len]; omega)) only [runE, mapE, listE, initT_5, initT_6, initT_7, initT_8, resV, oneV, binA, unA, reduceCtorEq, Nat.reduceEqDiff, Nat.reduceAdd, Nat.reduceLT, Nat.reduceLeDiff, Nat.reduceMul, Nat.reduceSub, ↓reduceIte, decide_true, decide_false, Bool.true_eq_false, Bool.false_eq_true, Bool.not_true, Bool.not_false, if_true, if_false, and_true, true_and, memE, celE, w64, Nat.zero_add, Nat.add_zero, Nat.mul_one, putL, and_self, ldn, ext_2_0, ext_2_1, ext_4_0, ext_4_1, ext_4_2, ext_4_3, beq_self_eq_true, bne_self_eq_false, List.append_nil]
  try simp (config := {implicitDefEqProofs := false, maxDischargeDepth := 20}) (disch := first | omega | (simp only [lenE]; done) | (simp only [lenE]; omega) | rfl | (simp only [lenE, markR_len]; done) | (simp only [lenE, markR_len]; omega)) only [runE, mapE, listE, initT_5, initT_6, initT_7, initT_8, resV, oneV, binA, unA, reduceCtorEq, Nat.reduceEqDiff, Nat.reduceAdd, Nat.reduceLT, Nat.reduceLeDiff, Nat.reduceMul, Nat.reduceSub, ↓reduceIte, decide_true, decide_false, Bool.true_eq_false, Bool.false_eq_true, Bool.not_true, Bool.not_false, if_true, if_false, and_true, true_and, memE, celE, w64, Nat.zero_add, Nat.add_zero, Nat.mul_one, putL, and_self, ldn, ext_2_0, ext_2_1, ext_4_0, ext_4_1, ext_4_2, ext_4_3, beq_self_eq_true, bne_self_eq_false, List.append_nil]
  have hg := (g.row (by rw [glen]; omega)).ints fg
  rw [glen] at hg
  refine callH_rc (heldIntS_rc _ _ 1 W.length hg (by omega) (by omega) (by omega)) ?_
  rintro r new ⟨rfl, rfl⟩
  rw [List.append_nil]
  clear hg
  try simp (config := {implicitDefEqProofs := false, maxDischargeDepth := 20}) (disch := first | omega | (simp only [lenE]; done) | (simp only [lenE]; omega) | rfl | (simp only [lenE, markR_len]; done) | (simp only [lenE, markR_len]; omega)) only [runE, mapE, listE, initT_5, initT_6, initT_7, initT_8, resV, oneV, binA, unA, reduceCtorEq, Nat.reduceEqDiff, Nat.reduceAdd, Nat.reduceLT, Nat.reduceLeDiff, Nat.reduceMul, Nat.reduceSub, ↓reduceIte, decide_true, decide_false, Bool.true_eq_false, Bool.false_eq_true, Bool.not_true, Bool.not_false, if_true, if_false, and_true, true_and, memE, celE, w64, Nat.zero_add, Nat.add_zero, Nat.mul_one, putL, and_self, ldn, ext_2_0, ext_2_1, ext_4_0, ext_4_1, ext_4_2, ext_4_3, beq_self_eq_true, bne_self_eq_false, List.append_nil, hq0]
end Go.Proofs.Ytfdpieeopdhcmaa.Ab
