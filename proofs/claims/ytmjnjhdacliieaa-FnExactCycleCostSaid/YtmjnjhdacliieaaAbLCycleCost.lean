/- FnExactCycleCost: its running over abstract memory. -/
import Derived.Test.YtmjnjhdacliieaaAbCy5
import Derived.Test.YtmjnjhdacliieaaAbItemArg
import Derived.Test.YtmjnjhdacliieaaAbMarks
import Derived.Test.YtmjnjhdacliieaaAbBox
import Derived.Test.YtmjnjhdacliieaaAbArg
import Derived.Test.YtmjnjhdacliieaaCodLCycleCost
namespace Go.Proofs.Ytmjnjhdacliieaa.Ab
open Go Go.RowKit
set_option linter.unusedVariables false
set_option linter.unusedSimpArgs false
set_option maxRecDepth 100000

set_option maxHeartbeats 4000000 in
theorem law_FnExactCycleCost (M0 : Mem) (d0 : It) (d1 : Int) :
    AC Try.prog 4 [itV d0, .int .i64 d1] M0 fun r _ => r = .bool true := by
  refine ac_of_run mixed ok_laws_FnExactCycleCost (by simp) (go_start _ _ _ ?_)
  try simp (config := {implicitDefEqProofs := false, maxDischargeDepth := 20}) (disch := first | omega | (simp only [lenE]; done) | (simp only [lenE]; omega) | rfl | (simp only [lenE, markR_len]; done) | (simp only [lenE, markR_len]; omega)) only [runE, mapE, listE, initT_5, initT_6, initT_7, initT_8, resV, oneV, binA, unA, reduceCtorEq, Nat.reduceEqDiff, Nat.reduceAdd, Nat.reduceLT, Nat.reduceLeDiff, Nat.reduceMul, Nat.reduceSub, ↓reduceIte, decide_true, decide_false, Bool.true_eq_false, Bool.false_eq_true, Bool.not_true, Bool.not_false, if_true, if_false, and_true, true_and, memE, celE, w64, Nat.zero_add, Nat.add_zero, Nat.mul_one, putL, and_self, ldn, c_laws_FnExactCycleCost, r_laws_FnExactCycleCost, id_eq, ext_2_0, ext_2_1, ext_3_0, ext_3_1, ext_3_2, ext_4_0, ext_4_1, ext_4_2, ext_4_3, beq_self_eq_true, bne_self_eq_false, gt_iff_lt, itV]
  obtain ⟨M1, hM1⟩ : ∃ M', M' = M0 ++ [⟨.own, 23, [.int .i64 d0.daily, .int .i64 d0.setup, .int .i64 d0.hold, .int .i64 d0.made, .int .i64 d0.pause]⟩] := ⟨_, rfl⟩
  rw [← hM1]
  have LM1 : M1.length = M0.length + 1 := by rw [hM1, List.length_append]; rfl
  have X0 : BoxA M1 M0.length [.int .i64 d0.daily, .int .i64 d0.setup, .int .i64 d0.hold, .int .i64 d0.made, .int .i64 d0.pause] := by rw [hM1]; exact BoxA.here _ _ _ rfl
  obtain ⟨q0, hq0⟩ : ∃ q : Int × Int, q = (costC d0 d1) := ⟨_, rfl⟩
  obtain ⟨q1, hq1⟩ : ∃ q : Bool, q = (d0.good && inR 1 64 d1) := ⟨_, rfl⟩
  have SPC := fun m  => specCycleCost_rc m  d0 d1
  have IMP := fun m  => implCycleCost_rc m  d0 d1
  try rw [← hq0] at SPC
  try rw [← hq0] at IMP
  try rw [← hq1] at SPC
  try rw [← hq1] at IMP
  try simp (config := {implicitDefEqProofs := false, maxDischargeDepth := 20}) (disch := first | omega | (simp only [lenE]; done) | (simp only [lenE]; omega) | rfl | (simp only [lenE, markR_len]; done) | (simp only [lenE, markR_len]; omega)) only [runE, mapE, listE, initT_5, initT_6, initT_7, initT_8, resV, oneV, binA, unA, reduceCtorEq, Nat.reduceEqDiff, Nat.reduceAdd, Nat.reduceLT, Nat.reduceLeDiff, Nat.reduceMul, Nat.reduceSub, ↓reduceIte, decide_true, decide_false, Bool.true_eq_false, Bool.false_eq_true, Bool.not_true, Bool.not_false, if_true, if_false, and_true, true_and, memE, celE, w64, Nat.zero_add, Nat.add_zero, Nat.mul_one, putL, and_self, ldn, id_eq, ext_2_0, ext_2_1, ext_3_0, ext_3_1, ext_3_2, ext_4_0, ext_4_1, ext_4_2, ext_4_3, beq_self_eq_true, bne_self_eq_false, gt_iff_lt, itV, X0.ld5]
  first | refine callH_rc (toItem_rc _ d0) ?_ | refine rcallH_rc (toItem_rc _ d0) ?_
  rintro r new ⟨rfl, nrn⟩
  obtain ⟨M2, hM2⟩ : ∃ M', M' = M1 ++ new := ⟨_, rfl⟩
  rw [← hM2]
  have LM2 : M2.length = M1.length + new.length := by rw [hM2, List.length_append]
  replace X0 : BoxA M2 M0.length [.int .i64 d0.daily, .int .i64 d0.setup, .int .i64 d0.hold, .int .i64 d0.made, .int .i64 d0.pause] := by rw [hM2]; exact X0.ext _
  clear nrn
  try simp (config := {implicitDefEqProofs := false, maxDischargeDepth := 20}) (disch := first | omega | (simp only [lenE]; done) | (simp only [lenE]; omega) | rfl | (simp only [lenE, markR_len]; done) | (simp only [lenE, markR_len]; omega)) only [runE, mapE, listE, initT_5, initT_6, initT_7, initT_8, resV, oneV, binA, unA, reduceCtorEq, Nat.reduceEqDiff, Nat.reduceAdd, Nat.reduceLT, Nat.reduceLeDiff, Nat.reduceMul, Nat.reduceSub, ↓reduceIte, decide_true, decide_false, Bool.true_eq_false, Bool.false_eq_true, Bool.not_true, Bool.not_false, if_true, if_false, and_true, true_and, memE, celE, w64, Nat.zero_add, Nat.add_zero, Nat.mul_one, putL, and_self, ldn, id_eq, ext_2_0, ext_2_1, ext_3_0, ext_3_1, ext_3_2, ext_4_0, ext_4_1, ext_4_2, ext_4_3, beq_self_eq_true, bne_self_eq_false, gt_iff_lt, X0.ld5]
  first | refine callH_rc (SPC _) ?_ | refine rcallH_rc (SPC _) ?_
  rintro r new ⟨rfl, nrn⟩
  obtain ⟨M3, hM3⟩ : ∃ M', M' = M2 ++ new := ⟨_, rfl⟩
  rw [← hM3]
  have LM3 : M3.length = M2.length + new.length := by rw [hM3, List.length_append]
  replace X0 : BoxA M3 M0.length [.int .i64 d0.daily, .int .i64 d0.setup, .int .i64 d0.hold, .int .i64 d0.made, .int .i64 d0.pause] := by rw [hM3]; exact X0.ext _
  clear nrn
  try simp (config := {implicitDefEqProofs := false, maxDischargeDepth := 20}) (disch := first | omega | (simp only [lenE]; done) | (simp only [lenE]; omega) | rfl | (simp only [lenE, markR_len]; done) | (simp only [lenE, markR_len]; omega)) only [runE, mapE, listE, initT_5, initT_6, initT_7, initT_8, resV, oneV, binA, unA, reduceCtorEq, Nat.reduceEqDiff, Nat.reduceAdd, Nat.reduceLT, Nat.reduceLeDiff, Nat.reduceMul, Nat.reduceSub, ↓reduceIte, decide_true, decide_false, Bool.true_eq_false, Bool.false_eq_true, Bool.not_true, Bool.not_false, if_true, if_false, and_true, true_and, memE, celE, w64, Nat.zero_add, Nat.add_zero, Nat.mul_one, putL, and_self, ldn, id_eq, ext_2_0, ext_2_1, ext_3_0, ext_3_1, ext_3_2, ext_4_0, ext_4_1, ext_4_2, ext_4_3, beq_self_eq_true, bne_self_eq_false, gt_iff_lt, frV, stP_agg2, X0.ldx5, X0.ld5]
  obtain ⟨M4, hM4⟩ : ∃ M', M' = M3 ++ [⟨.own, 28, [.int .i64 q0.1, .int .i64 q0.2]⟩] := ⟨_, rfl⟩
  rw [← hM4]
  have LM4 : M4.length = M3.length + 1 := by rw [hM4, List.length_append]; rfl
  replace X0 : BoxA M4 M0.length [.int .i64 d0.daily, .int .i64 d0.setup, .int .i64 d0.hold, .int .i64 d0.made, .int .i64 d0.pause] := by rw [hM4]; exact X0.ext _
  have Bw : BoxA M4 M3.length [.int .i64 q0.1, .int .i64 q0.2] := by rw [hM4]; exact BoxA.here _ _ _ rfl
  try simp (config := {implicitDefEqProofs := false, maxDischargeDepth := 20}) (disch := first | omega | (simp only [lenE]; done) | (simp only [lenE]; omega) | rfl | (simp only [lenE, markR_len]; done) | (simp only [lenE, markR_len]; omega)) only [runE, mapE, listE, initT_5, initT_6, initT_7, initT_8, resV, oneV, binA, unA, reduceCtorEq, Nat.reduceEqDiff, Nat.reduceAdd, Nat.reduceLT, Nat.reduceLeDiff, Nat.reduceMul, Nat.reduceSub, ↓reduceIte, decide_true, decide_false, Bool.true_eq_false, Bool.false_eq_true, Bool.not_true, Bool.not_false, if_true, if_false, and_true, true_and, memE, celE, w64, Nat.zero_add, Nat.add_zero, Nat.mul_one, putL, and_self, ldn, id_eq, ext_2_0, ext_2_1, ext_3_0, ext_3_1, ext_3_2, ext_4_0, ext_4_1, ext_4_2, ext_4_3, beq_self_eq_true, bne_self_eq_false, gt_iff_lt, itV, X0.ld5, Bw.ld2]
  first | refine callH_rc (toItem_rc _ d0) ?_ | refine rcallH_rc (toItem_rc _ d0) ?_
  rintro r new ⟨rfl, nrn⟩
  obtain ⟨M5, hM5⟩ : ∃ M', M' = M4 ++ new := ⟨_, rfl⟩
  rw [← hM5]
  have LM5 : M5.length = M4.length + new.length := by rw [hM5, List.length_append]
  replace X0 : BoxA M5 M0.length [.int .i64 d0.daily, .int .i64 d0.setup, .int .i64 d0.hold, .int .i64 d0.made, .int .i64 d0.pause] := by rw [hM5]; exact X0.ext _
  replace Bw : BoxA M5 M3.length [.int .i64 q0.1, .int .i64 q0.2] := by rw [hM5]; exact Bw.ext _
  clear nrn
  try simp (config := {implicitDefEqProofs := false, maxDischargeDepth := 20}) (disch := first | omega | (simp only [lenE]; done) | (simp only [lenE]; omega) | rfl | (simp only [lenE, markR_len]; done) | (simp only [lenE, markR_len]; omega)) only [runE, mapE, listE, initT_5, initT_6, initT_7, initT_8, resV, oneV, binA, unA, reduceCtorEq, Nat.reduceEqDiff, Nat.reduceAdd, Nat.reduceLT, Nat.reduceLeDiff, Nat.reduceMul, Nat.reduceSub, ↓reduceIte, decide_true, decide_false, Bool.true_eq_false, Bool.false_eq_true, Bool.not_true, Bool.not_false, if_true, if_false, and_true, true_and, memE, celE, w64, Nat.zero_add, Nat.add_zero, Nat.mul_one, putL, and_self, ldn, id_eq, ext_2_0, ext_2_1, ext_3_0, ext_3_1, ext_3_2, ext_4_0, ext_4_1, ext_4_2, ext_4_3, beq_self_eq_true, bne_self_eq_false, gt_iff_lt, X0.ld5, Bw.ld2]
  first | refine callH_rc (IMP _) ?_ | refine rcallH_rc (IMP _) ?_
  rintro r new ⟨rfl, nrn⟩
  obtain ⟨M6, hM6⟩ : ∃ M', M' = M5 ++ new := ⟨_, rfl⟩
  rw [← hM6]
  have LM6 : M6.length = M5.length + new.length := by rw [hM6, List.length_append]
  replace X0 : BoxA M6 M0.length [.int .i64 d0.daily, .int .i64 d0.setup, .int .i64 d0.hold, .int .i64 d0.made, .int .i64 d0.pause] := by rw [hM6]; exact X0.ext _
  replace Bw : BoxA M6 M3.length [.int .i64 q0.1, .int .i64 q0.2] := by rw [hM6]; exact Bw.ext _
  clear nrn
  try simp (config := {implicitDefEqProofs := false, maxDischargeDepth := 20}) (disch := first | omega | (simp only [lenE]; done) | (simp only [lenE]; omega) | rfl | (simp only [lenE, markR_len]; done) | (simp only [lenE, markR_len]; omega)) only [runE, mapE, listE, initT_5, initT_6, initT_7, initT_8, resV, oneV, binA, unA, reduceCtorEq, Nat.reduceEqDiff, Nat.reduceAdd, Nat.reduceLT, Nat.reduceLeDiff, Nat.reduceMul, Nat.reduceSub, ↓reduceIte, decide_true, decide_false, Bool.true_eq_false, Bool.false_eq_true, Bool.not_true, Bool.not_false, if_true, if_false, and_true, true_and, memE, celE, w64, Nat.zero_add, Nat.add_zero, Nat.mul_one, putL, and_self, ldn, id_eq, ext_2_0, ext_2_1, ext_3_0, ext_3_1, ext_3_2, ext_4_0, ext_4_1, ext_4_2, ext_4_3, beq_self_eq_true, bne_self_eq_false, gt_iff_lt, frV, stP_agg2, X0.ldx5, Bw.ldx2, X0.ld5, Bw.ld2]
  obtain ⟨M7, hM7⟩ : ∃ M', M' = M6 ++ [⟨.own, 28, [.int .i64 q0.1, .int .i64 q0.2]⟩] := ⟨_, rfl⟩
  rw [← hM7]
  have LM7 : M7.length = M6.length + 1 := by rw [hM7, List.length_append]; rfl
  replace X0 : BoxA M7 M0.length [.int .i64 d0.daily, .int .i64 d0.setup, .int .i64 d0.hold, .int .i64 d0.made, .int .i64 d0.pause] := by rw [hM7]; exact X0.ext _
  replace Bw : BoxA M7 M3.length [.int .i64 q0.1, .int .i64 q0.2] := by rw [hM7]; exact Bw.ext _
  have Bg : BoxA M7 M6.length [.int .i64 q0.1, .int .i64 q0.2] := by rw [hM7]; exact BoxA.here _ _ _ rfl
  try simp (config := {implicitDefEqProofs := false, maxDischargeDepth := 20}) (disch := first | omega | (simp only [lenE]; done) | (simp only [lenE]; omega) | rfl | (simp only [lenE, markR_len]; done) | (simp only [lenE, markR_len]; omega)) only [runE, mapE, listE, initT_5, initT_6, initT_7, initT_8, resV, oneV, binA, unA, reduceCtorEq, Nat.reduceEqDiff, Nat.reduceAdd, Nat.reduceLT, Nat.reduceLeDiff, Nat.reduceMul, Nat.reduceSub, ↓reduceIte, decide_true, decide_false, Bool.true_eq_false, Bool.false_eq_true, Bool.not_true, Bool.not_false, if_true, if_false, and_true, true_and, memE, celE, w64, Nat.zero_add, Nat.add_zero, Nat.mul_one, putL, and_self, ldn, id_eq, ext_2_0, ext_2_1, ext_3_0, ext_3_1, ext_3_2, ext_4_0, ext_4_1, ext_4_2, ext_4_3, beq_self_eq_true, bne_self_eq_false, gt_iff_lt, X0.ld5, Bw.ld2, Bg.ld2]
  have TT := eqIntA2_rc M7 q0.1 q0.2
  first | refine callH_rc TT ?_ | refine rcallH_rc TT ?_
  clear TT
  rintro r new ⟨rfl, nrn⟩
  obtain ⟨M8, hM8⟩ : ∃ M', M' = M7 ++ new := ⟨_, rfl⟩
  rw [← hM8]
  have LM8 : M8.length = M7.length + new.length := by rw [hM8, List.length_append]
  replace X0 : BoxA M8 M0.length [.int .i64 d0.daily, .int .i64 d0.setup, .int .i64 d0.hold, .int .i64 d0.made, .int .i64 d0.pause] := by rw [hM8]; exact X0.ext _
  replace Bw : BoxA M8 M3.length [.int .i64 q0.1, .int .i64 q0.2] := by rw [hM8]; exact Bw.ext _
  replace Bg : BoxA M8 M6.length [.int .i64 q0.1, .int .i64 q0.2] := by rw [hM8]; exact Bg.ext _
  clear nrn
  try simp (config := {implicitDefEqProofs := false, maxDischargeDepth := 20}) (disch := first | omega | (simp only [lenE]; done) | (simp only [lenE]; omega) | rfl | (simp only [lenE, markR_len]; done) | (simp only [lenE, markR_len]; omega)) only [runE, mapE, listE, initT_5, initT_6, initT_7, initT_8, resV, oneV, binA, unA, reduceCtorEq, Nat.reduceEqDiff, Nat.reduceAdd, Nat.reduceLT, Nat.reduceLeDiff, Nat.reduceMul, Nat.reduceSub, ↓reduceIte, decide_true, decide_false, Bool.true_eq_false, Bool.false_eq_true, Bool.not_true, Bool.not_false, if_true, if_false, and_true, true_and, memE, celE, w64, Nat.zero_add, Nat.add_zero, Nat.mul_one, putL, and_self, ldn, id_eq, ext_2_0, ext_2_1, ext_3_0, ext_3_1, ext_3_2, ext_4_0, ext_4_1, ext_4_2, ext_4_3, beq_self_eq_true, bne_self_eq_false, gt_iff_lt, X0.ld5, Bw.ld2, Bg.ld2]
end Go.Proofs.Ytmjnjhdacliieaa.Ab
