/- FnExactTraceLevels: its running over abstract memory. -/
import Derived.Test.YtddnedngjijpoaaAbPol14
import Derived.Test.YtddnedngjijpoaaAbProcArg
import Derived.Test.YtddnedngjijpoaaAbMarks
import Derived.Test.YtddnedngjijpoaaAbBox
import Derived.Test.YtddnedngjijpoaaAbArg
import Derived.Test.YtddnedngjijpoaaCodLTraceLevels
namespace Go.Proofs.Ytddnedngjijpoaa.Ab
open Go Go.RowKit
set_option linter.unusedVariables false
set_option linter.unusedSimpArgs false
set_option maxRecDepth 100000

set_option maxHeartbeats 4000000 in
theorem law_FnExactTraceLevels (M0 : Mem) (d0 : Pr) (v0 : Value) (d1 : List (Int × Int)) (v1 : Value) (d2 : Int) (d3 : List Int) (v3 : Value) (A0 : ProcA M0 v0 d0) (A1 : PairsA M0 v1 d1) (A3 : IntsA M0 v3 d3) :
    AC Try.prog 16 [v0, v1, .int .i64 d2, v3] M0 fun r _ => r = .bool true := by
  refine ac_of_run mixed ok_laws_FnExactTraceLevels (by simp) (go_start _ _ _ ?_)
  have A0c := A0
  obtain ⟨u0, rfl, -⟩ := A0c
  have len3 := A3.len
  have bd3 := A3.bd
  have C0 : Lv 0 M0.length M0 fun M => ProcA M (procV d0 u0) d0 := Lv.all fun new => A0.ext new
  have C1 : Lv 0 M0.length M0 fun M => PairsA M v1 d1 := Lv.all fun new => A1.ext new
  have C3 : Lv 0 M0.length M0 fun M => IntsA M v3 d3 := Lv.all fun new => A3.ext new
  by_cases s3 : 1048576 < d3.length
  · have s3' : (1048576 : Int) < d3.length := by omega
    try simp (config := {implicitDefEqProofs := false, maxDischargeDepth := 20}) (disch := first | omega | (simp only [lenE]; done) | (simp only [lenE]; omega) | rfl | (simp only [lenE, markR_len]; done) | (simp only [lenE, markR_len]; omega)) only [runE, mapE, listE, initT_5, initT_6, initT_7, initT_8, resV, oneV, binA, unA, reduceCtorEq, Nat.reduceEqDiff, Nat.reduceAdd, Nat.reduceLT, Nat.reduceLeDiff, Nat.reduceMul, Nat.reduceSub, ↓reduceIte, decide_true, decide_false, Bool.true_eq_false, Bool.false_eq_true, Bool.not_true, Bool.not_false, if_true, if_false, and_true, true_and, memE, celE, w64, Nat.zero_add, Nat.add_zero, Nat.mul_one, putL, and_self, ldn, c_laws_FnExactTraceLevels, r_laws_FnExactTraceLevels, id_eq, ext_2_0, ext_2_1, ext_3_0, ext_3_1, ext_3_2, ext_4_0, ext_4_1, ext_4_2, ext_4_3, beq_self_eq_true, bne_self_eq_false, gt_iff_lt, s3', len3]
    done
  have s3' : ¬ ((1048576 : Int) < d3.length) := by omega
  try simp (config := {implicitDefEqProofs := false, maxDischargeDepth := 20}) (disch := first | omega | (simp only [lenE]; done) | (simp only [lenE]; omega) | rfl | (simp only [lenE, markR_len]; done) | (simp only [lenE, markR_len]; omega)) only [runE, mapE, listE, initT_5, initT_6, initT_7, initT_8, resV, oneV, binA, unA, reduceCtorEq, Nat.reduceEqDiff, Nat.reduceAdd, Nat.reduceLT, Nat.reduceLeDiff, Nat.reduceMul, Nat.reduceSub, ↓reduceIte, decide_true, decide_false, Bool.true_eq_false, Bool.false_eq_true, Bool.not_true, Bool.not_false, if_true, if_false, and_true, true_and, memE, celE, w64, Nat.zero_add, Nat.add_zero, Nat.mul_one, putL, and_self, ldn, c_laws_FnExactTraceLevels, r_laws_FnExactTraceLevels, id_eq, ext_2_0, ext_2_1, ext_3_0, ext_3_1, ext_3_2, ext_4_0, ext_4_1, ext_4_2, ext_4_3, beq_self_eq_true, bne_self_eq_false, gt_iff_lt, s3', len3]
  obtain ⟨M1, hM1⟩ : ∃ M', M' = M0 ++ [⟨.own, 57, [.int .i64 d0.turns, u0, .int .i64 d0.setup, .int .i64 d0.unit, .int .i64 d0.hold, .int .i64 d0.back]⟩] := ⟨_, rfl⟩
  rw [← hM1]
  have LM1 : M1.length = M0.length + 1 := by rw [hM1, List.length_append]; rfl
  replace C0 : Lv 0 M0.length M1 fun M => ProcA M (procV d0 u0) d0 := by rw [hM1]; exact C0.ext _
  replace C1 : Lv 0 M0.length M1 fun M => PairsA M v1 d1 := by rw [hM1]; exact C1.ext _
  replace C3 : Lv 0 M0.length M1 fun M => IntsA M v3 d3 := by rw [hM1]; exact C3.ext _
  have X0 : BoxA M1 M0.length [.int .i64 d0.turns, u0, .int .i64 d0.setup, .int .i64 d0.unit, .int .i64 d0.hold, .int .i64 d0.back] := by rw [hM1]; exact BoxA.here _ _ _ rfl
  try simp (config := {implicitDefEqProofs := false, maxDischargeDepth := 20}) (disch := first | omega | (simp only [lenE]; done) | (simp only [lenE]; omega) | rfl | (simp only [lenE, markR_len]; done) | (simp only [lenE, markR_len]; omega)) only [runE, mapE, listE, initT_5, initT_6, initT_7, initT_8, resV, oneV, binA, unA, reduceCtorEq, Nat.reduceEqDiff, Nat.reduceAdd, Nat.reduceLT, Nat.reduceLeDiff, Nat.reduceMul, Nat.reduceSub, ↓reduceIte, decide_true, decide_false, Bool.true_eq_false, Bool.false_eq_true, Bool.not_true, Bool.not_false, if_true, if_false, and_true, true_and, memE, celE, w64, Nat.zero_add, Nat.add_zero, Nat.mul_one, putL, and_self, ldn, id_eq, ext_2_0, ext_2_1, ext_3_0, ext_3_1, ext_3_2, ext_4_0, ext_4_1, ext_4_2, ext_4_3, beq_self_eq_true, bne_self_eq_false, gt_iff_lt, X0.ld6]
  refine callH_rc (szProcess_rc _ _ d0 1048576 C0.now (by omega) (by omega)) ?_
  rintro r new ⟨nrn, rfl | ⟨z1, za1, zb1, rfl, hs0⟩⟩
  · simp (config := {implicitDefEqProofs := false, maxDischargeDepth := 20}) (disch := first | omega | (simp only [lenE]; done) | (simp only [lenE]; omega) | rfl | (simp only [lenE, markR_len]; done) | (simp only [lenE, markR_len]; omega)) only [runE, mapE, listE, initT_5, initT_6, initT_7, initT_8, resV, oneV, binA, unA, reduceCtorEq, Nat.reduceEqDiff, Nat.reduceAdd, Nat.reduceLT, Nat.reduceLeDiff, Nat.reduceMul, Nat.reduceSub, ↓reduceIte, decide_true, decide_false, Bool.true_eq_false, Bool.false_eq_true, Bool.not_true, Bool.not_false, if_true, if_false, and_true, true_and, memE, celE, w64, Nat.zero_add, Nat.add_zero, Nat.mul_one, putL, and_self, ldn, show ((-1 : Int) < 0) = True by simp]
  have zc1 : ¬ (z1 < 0) := by omega
  obtain ⟨M2, hM2⟩ : ∃ M', M' = M1 ++ new := ⟨_, rfl⟩
  rw [← hM2]
  have LM2 : M2.length = M1.length + new.length := by rw [hM2, List.length_append]
  replace C0 : Lv 0 M0.length M2 fun M => ProcA M (procV d0 u0) d0 := by rw [hM2]; exact C0.ext _
  replace C1 : Lv 0 M0.length M2 fun M => PairsA M v1 d1 := by rw [hM2]; exact C1.ext _
  replace C3 : Lv 0 M0.length M2 fun M => IntsA M v3 d3 := by rw [hM2]; exact C3.ext _
  replace X0 : BoxA M2 M0.length [.int .i64 d0.turns, u0, .int .i64 d0.setup, .int .i64 d0.unit, .int .i64 d0.hold, .int .i64 d0.back] := by rw [hM2]; exact X0.ext _
  clear nrn
  try simp (config := {implicitDefEqProofs := false, maxDischargeDepth := 20}) (disch := first | omega | (simp only [lenE]; done) | (simp only [lenE]; omega) | rfl | (simp only [lenE, markR_len]; done) | (simp only [lenE, markR_len]; omega)) only [runE, mapE, listE, initT_5, initT_6, initT_7, initT_8, resV, oneV, binA, unA, reduceCtorEq, Nat.reduceEqDiff, Nat.reduceAdd, Nat.reduceLT, Nat.reduceLeDiff, Nat.reduceMul, Nat.reduceSub, ↓reduceIte, decide_true, decide_false, Bool.true_eq_false, Bool.false_eq_true, Bool.not_true, Bool.not_false, if_true, if_false, and_true, true_and, memE, celE, w64, Nat.zero_add, Nat.add_zero, Nat.mul_one, putL, and_self, ldn, id_eq, ext_2_0, ext_2_1, ext_3_0, ext_3_1, ext_3_2, ext_4_0, ext_4_1, ext_4_2, ext_4_3, beq_self_eq_true, bne_self_eq_false, gt_iff_lt, zc1, X0.ld6]
  try simp (config := {implicitDefEqProofs := false, maxDischargeDepth := 20}) (disch := first | omega | (simp only [lenE]; done) | (simp only [lenE]; omega) | rfl | (simp only [lenE, markR_len]; done) | (simp only [lenE, markR_len]; omega)) only [runE, mapE, listE, initT_5, initT_6, initT_7, initT_8, resV, oneV, binA, unA, reduceCtorEq, Nat.reduceEqDiff, Nat.reduceAdd, Nat.reduceLT, Nat.reduceLeDiff, Nat.reduceMul, Nat.reduceSub, ↓reduceIte, decide_true, decide_false, Bool.true_eq_false, Bool.false_eq_true, Bool.not_true, Bool.not_false, if_true, if_false, and_true, true_and, memE, celE, w64, Nat.zero_add, Nat.add_zero, Nat.mul_one, putL, and_self, ldn, id_eq, ext_2_0, ext_2_1, ext_3_0, ext_3_1, ext_3_2, ext_4_0, ext_4_1, ext_4_2, ext_4_3, beq_self_eq_true, bne_self_eq_false, gt_iff_lt, X0.ld6]
  refine callH_rc (szIntA2S_rc _ _ d1 z1 C1.now (by omega) (by omega)) ?_
  rintro r new ⟨nrn, rfl | ⟨z2, za2, zb2, rfl, hs1⟩⟩
  · simp (config := {implicitDefEqProofs := false, maxDischargeDepth := 20}) (disch := first | omega | (simp only [lenE]; done) | (simp only [lenE]; omega) | rfl | (simp only [lenE, markR_len]; done) | (simp only [lenE, markR_len]; omega)) only [runE, mapE, listE, initT_5, initT_6, initT_7, initT_8, resV, oneV, binA, unA, reduceCtorEq, Nat.reduceEqDiff, Nat.reduceAdd, Nat.reduceLT, Nat.reduceLeDiff, Nat.reduceMul, Nat.reduceSub, ↓reduceIte, decide_true, decide_false, Bool.true_eq_false, Bool.false_eq_true, Bool.not_true, Bool.not_false, if_true, if_false, and_true, true_and, memE, celE, w64, Nat.zero_add, Nat.add_zero, Nat.mul_one, putL, and_self, ldn, show ((-1 : Int) < 0) = True by simp]
  have zc2 : ¬ (z2 < 0) := by omega
  obtain ⟨M3, hM3⟩ : ∃ M', M' = M2 ++ new := ⟨_, rfl⟩
  rw [← hM3]
  have LM3 : M3.length = M2.length + new.length := by rw [hM3, List.length_append]
  replace C0 : Lv 0 M0.length M3 fun M => ProcA M (procV d0 u0) d0 := by rw [hM3]; exact C0.ext _
  replace C1 : Lv 0 M0.length M3 fun M => PairsA M v1 d1 := by rw [hM3]; exact C1.ext _
  replace C3 : Lv 0 M0.length M3 fun M => IntsA M v3 d3 := by rw [hM3]; exact C3.ext _
  replace X0 : BoxA M3 M0.length [.int .i64 d0.turns, u0, .int .i64 d0.setup, .int .i64 d0.unit, .int .i64 d0.hold, .int .i64 d0.back] := by rw [hM3]; exact X0.ext _
  clear nrn
  try simp (config := {implicitDefEqProofs := false, maxDischargeDepth := 20}) (disch := first | omega | (simp only [lenE]; done) | (simp only [lenE]; omega) | rfl | (simp only [lenE, markR_len]; done) | (simp only [lenE, markR_len]; omega)) only [runE, mapE, listE, initT_5, initT_6, initT_7, initT_8, resV, oneV, binA, unA, reduceCtorEq, Nat.reduceEqDiff, Nat.reduceAdd, Nat.reduceLT, Nat.reduceLeDiff, Nat.reduceMul, Nat.reduceSub, ↓reduceIte, decide_true, decide_false, Bool.true_eq_false, Bool.false_eq_true, Bool.not_true, Bool.not_false, if_true, if_false, and_true, true_and, memE, celE, w64, Nat.zero_add, Nat.add_zero, Nat.mul_one, putL, and_self, ldn, id_eq, ext_2_0, ext_2_1, ext_3_0, ext_3_1, ext_3_2, ext_4_0, ext_4_1, ext_4_2, ext_4_3, beq_self_eq_true, bne_self_eq_false, gt_iff_lt, zc2, X0.ld6]
  obtain ⟨W, hW⟩ : ∃ W : List Int, W = (traceL d0 d1 d2 d3) := ⟨_, rfl⟩
  obtain ⟨q0, hq0⟩ : ∃ q : Int, q = (traceS d0 d1 d2 d3) := ⟨_, rfl⟩
  obtain ⟨q1, hq1⟩ : ∃ q : Bool, q = (traceOk d0 d1 d2 d3) := ⟨_, rfl⟩
  have SPC := fun m u0 u1 u3 b0 b1 b3 => specTrace_rc m u0 u1 u3 d0 d1 d2 d3 b0 b1 b3 (by omega)
  have IMP := fun m u0 u1 u3 b0 b1 b3 => implTrace_rc m u0 u1 u3 d0 d1 d2 d3 b0 b1 b3 (by omega)
  try rw [← hW] at SPC
  try rw [← hW] at IMP
  try rw [← hq0] at SPC
  try rw [← hq0] at IMP
  try rw [← hq1] at SPC
  try rw [← hq1] at IMP
  try simp (config := {implicitDefEqProofs := false, maxDischargeDepth := 20}) (disch := first | omega | (simp only [lenE]; done) | (simp only [lenE]; omega) | rfl | (simp only [lenE, markR_len]; done) | (simp only [lenE, markR_len]; omega)) only [runE, mapE, listE, initT_5, initT_6, initT_7, initT_8, resV, oneV, binA, unA, reduceCtorEq, Nat.reduceEqDiff, Nat.reduceAdd, Nat.reduceLT, Nat.reduceLeDiff, Nat.reduceMul, Nat.reduceSub, ↓reduceIte, decide_true, decide_false, Bool.true_eq_false, Bool.false_eq_true, Bool.not_true, Bool.not_false, if_true, if_false, and_true, true_and, memE, celE, w64, Nat.zero_add, Nat.add_zero, Nat.mul_one, putL, and_self, ldn, id_eq, ext_2_0, ext_2_1, ext_3_0, ext_3_1, ext_3_2, ext_4_0, ext_4_1, ext_4_2, ext_4_3, beq_self_eq_true, bne_self_eq_false, gt_iff_lt, X0.ld6]
  have TT := toProcess_rc M3 _ d0 C0.now hs0
  first | refine callH_rc TT ?_ | refine rcallH_rc TT ?_
  clear TT
  rintro r new ⟨nrn, Sv0, Sv0e, S0⟩
  rw [id_eq] at Sv0e
  subst r
  obtain ⟨M4, hM4⟩ : ∃ M', M' = M3 ++ new := ⟨_, rfl⟩
  rw [← hM4]
  have LM4 : M4.length = M3.length + new.length := by rw [hM4, List.length_append]
  replace C0 : Lv 0 M0.length M4 fun M => ProcA M (procV d0 u0) d0 := by rw [hM4]; exact C0.ext _
  replace C1 : Lv 0 M0.length M4 fun M => PairsA M v1 d1 := by rw [hM4]; exact C1.ext _
  replace C3 : Lv 0 M0.length M4 fun M => IntsA M v3 d3 := by rw [hM4]; exact C3.ext _
  replace X0 : BoxA M4 M0.length [.int .i64 d0.turns, u0, .int .i64 d0.setup, .int .i64 d0.unit, .int .i64 d0.hold, .int .i64 d0.back] := by rw [hM4]; exact X0.ext _
  clear nrn
  rw [← hM4, ← LM4] at S0
  obtain ⟨Su0, rfl, -⟩ := S0.now
  change Lv M3.length M4.length M4 fun M => ProcO d0 M3.length M4.length M (procV d0 Su0) at S0
  try simp (config := {implicitDefEqProofs := false, maxDischargeDepth := 20}) (disch := first | omega | (simp only [lenE]; done) | (simp only [lenE]; omega) | rfl | (simp only [lenE, markR_len]; done) | (simp only [lenE, markR_len]; omega)) only [runE, mapE, listE, initT_5, initT_6, initT_7, initT_8, resV, oneV, binA, unA, reduceCtorEq, Nat.reduceEqDiff, Nat.reduceAdd, Nat.reduceLT, Nat.reduceLeDiff, Nat.reduceMul, Nat.reduceSub, ↓reduceIte, decide_true, decide_false, Bool.true_eq_false, Bool.false_eq_true, Bool.not_true, Bool.not_false, if_true, if_false, and_true, true_and, memE, celE, w64, Nat.zero_add, Nat.add_zero, Nat.mul_one, putL, and_self, ldn, id_eq, ext_2_0, ext_2_1, ext_3_0, ext_3_1, ext_3_2, ext_4_0, ext_4_1, ext_4_2, ext_4_3, beq_self_eq_true, bne_self_eq_false, gt_iff_lt, X0.ld6]
  have TT := toIntA2S_rc M4 _ d1 C1.now hs1
  first | refine callH_rc TT ?_ | refine rcallH_rc TT ?_
  clear TT
  rintro r new ⟨nrn, Sv1, Sv1e, S1⟩
  rw [id_eq] at Sv1e
  subst r
  obtain ⟨M5, hM5⟩ : ∃ M', M' = M4 ++ new := ⟨_, rfl⟩
  rw [← hM5]
  have LM5 : M5.length = M4.length + new.length := by rw [hM5, List.length_append]
  replace C0 : Lv 0 M0.length M5 fun M => ProcA M (procV d0 u0) d0 := by rw [hM5]; exact C0.ext _
  replace C1 : Lv 0 M0.length M5 fun M => PairsA M v1 d1 := by rw [hM5]; exact C1.ext _
  replace C3 : Lv 0 M0.length M5 fun M => IntsA M v3 d3 := by rw [hM5]; exact C3.ext _
  replace X0 : BoxA M5 M0.length [.int .i64 d0.turns, u0, .int .i64 d0.setup, .int .i64 d0.unit, .int .i64 d0.hold, .int .i64 d0.back] := by rw [hM5]; exact X0.ext _
  replace S0 : Lv M3.length M4.length M5 fun M => ProcO d0 M3.length M4.length M (procV d0 Su0) := by rw [hM5]; exact S0.ext _
  clear nrn
  rw [← hM5, ← LM5] at S1
  change Lv M4.length M5.length M5 fun M => PairsO 46 d1 M4.length M5.length M Sv1 at S1
  try simp (config := {implicitDefEqProofs := false, maxDischargeDepth := 20}) (disch := first | omega | (simp only [lenE]; done) | (simp only [lenE]; omega) | rfl | (simp only [lenE, markR_len]; done) | (simp only [lenE, markR_len]; omega)) only [runE, mapE, listE, initT_5, initT_6, initT_7, initT_8, resV, oneV, binA, unA, reduceCtorEq, Nat.reduceEqDiff, Nat.reduceAdd, Nat.reduceLT, Nat.reduceLeDiff, Nat.reduceMul, Nat.reduceSub, ↓reduceIte, decide_true, decide_false, Bool.true_eq_false, Bool.false_eq_true, Bool.not_true, Bool.not_false, if_true, if_false, and_true, true_and, memE, celE, w64, Nat.zero_add, Nat.add_zero, Nat.mul_one, putL, and_self, ldn, id_eq, ext_2_0, ext_2_1, ext_3_0, ext_3_1, ext_3_2, ext_4_0, ext_4_1, ext_4_2, ext_4_3, beq_self_eq_true, bne_self_eq_false, gt_iff_lt, X0.ld6]
  have TT := toIntsO_rc M5 _ d3 C3.now (by omega)
  first | refine callH_rc TT ?_ | refine rcallH_rc TT ?_
  clear TT
  rintro r new ⟨nrn, Sv3, Sv3e, S3⟩
  rw [id_eq] at Sv3e
  subst r
  obtain ⟨M6, hM6⟩ : ∃ M', M' = M5 ++ new := ⟨_, rfl⟩
  rw [← hM6]
  have LM6 : M6.length = M5.length + new.length := by rw [hM6, List.length_append]
  replace C0 : Lv 0 M0.length M6 fun M => ProcA M (procV d0 u0) d0 := by rw [hM6]; exact C0.ext _
  replace C1 : Lv 0 M0.length M6 fun M => PairsA M v1 d1 := by rw [hM6]; exact C1.ext _
  replace C3 : Lv 0 M0.length M6 fun M => IntsA M v3 d3 := by rw [hM6]; exact C3.ext _
  replace X0 : BoxA M6 M0.length [.int .i64 d0.turns, u0, .int .i64 d0.setup, .int .i64 d0.unit, .int .i64 d0.hold, .int .i64 d0.back] := by rw [hM6]; exact X0.ext _
  replace S0 : Lv M3.length M4.length M6 fun M => ProcO d0 M3.length M4.length M (procV d0 Su0) := by rw [hM6]; exact S0.ext _
  replace S1 : Lv M4.length M5.length M6 fun M => PairsO 46 d1 M4.length M5.length M Sv1 := by rw [hM6]; exact S1.ext _
  clear nrn
  rw [← hM6, ← LM6] at S3
  change Lv M5.length M6.length M6 fun M => IntsO d3 M5.length M6.length M Sv3 at S3
  try simp (config := {implicitDefEqProofs := false, maxDischargeDepth := 20}) (disch := first | omega | (simp only [lenE]; done) | (simp only [lenE]; omega) | rfl | (simp only [lenE, markR_len]; done) | (simp only [lenE, markR_len]; omega)) only [runE, mapE, listE, initT_5, initT_6, initT_7, initT_8, resV, oneV, binA, unA, reduceCtorEq, Nat.reduceEqDiff, Nat.reduceAdd, Nat.reduceLT, Nat.reduceLeDiff, Nat.reduceMul, Nat.reduceSub, ↓reduceIte, decide_true, decide_false, Bool.true_eq_false, Bool.false_eq_true, Bool.not_true, Bool.not_false, if_true, if_false, and_true, true_and, memE, celE, w64, Nat.zero_add, Nat.add_zero, Nat.mul_one, putL, and_self, ldn, id_eq, ext_2_0, ext_2_1, ext_3_0, ext_3_1, ext_3_2, ext_4_0, ext_4_1, ext_4_2, ext_4_3, beq_self_eq_true, bne_self_eq_false, gt_iff_lt, X0.ld6]
  refine callH_rc (SPC _ _ _ _ S0.now.in S1.now.in S3.now.in) ?_
  rintro r new ⟨nrn, vw, rfl, w⟩
  obtain ⟨M7, hM7⟩ : ∃ M', M' = M6 ++ new := ⟨_, rfl⟩
  rw [← hM7]
  have LM7 : M7.length = M6.length + new.length := by rw [hM7, List.length_append]
  replace C0 : Lv 0 M0.length M7 fun M => ProcA M (procV d0 u0) d0 := by rw [hM7]; exact C0.ext _
  replace C1 : Lv 0 M0.length M7 fun M => PairsA M v1 d1 := by rw [hM7]; exact C1.ext _
  replace C3 : Lv 0 M0.length M7 fun M => IntsA M v3 d3 := by rw [hM7]; exact C3.ext _
  replace X0 : BoxA M7 M0.length [.int .i64 d0.turns, u0, .int .i64 d0.setup, .int .i64 d0.unit, .int .i64 d0.hold, .int .i64 d0.back] := by rw [hM7]; exact X0.ext _
  replace S0 : Lv M3.length M4.length M7 fun M => ProcO d0 M3.length M4.length M (procV d0 Su0) := by rw [hM7]; exact S0.ext _
  replace S1 : Lv M4.length M5.length M7 fun M => PairsO 46 d1 M4.length M5.length M Sv1 := by rw [hM7]; exact S1.ext _
  replace S3 : Lv M5.length M6.length M7 fun M => IntsO d3 M5.length M6.length M Sv3 := by rw [hM7]; exact S3.ext _
  clear nrn
  rw [← hM7, ← LM7] at w
  clear S0
  clear S1
  clear S3
  try simp (config := {implicitDefEqProofs := false, maxDischargeDepth := 20}) (disch := first | omega | (simp only [lenE]; done) | (simp only [lenE]; omega) | rfl | (simp only [lenE, markR_len]; done) | (simp only [lenE, markR_len]; omega)) only [runE, mapE, listE, initT_5, initT_6, initT_7, initT_8, resV, oneV, binA, unA, reduceCtorEq, Nat.reduceEqDiff, Nat.reduceAdd, Nat.reduceLT, Nat.reduceLeDiff, Nat.reduceMul, Nat.reduceSub, ↓reduceIte, decide_true, decide_false, Bool.true_eq_false, Bool.false_eq_true, Bool.not_true, Bool.not_false, if_true, if_false, and_true, true_and, memE, celE, w64, Nat.zero_add, Nat.add_zero, Nat.mul_one, putL, and_self, ldn, id_eq, ext_2_0, ext_2_1, ext_3_0, ext_3_1, ext_3_2, ext_4_0, ext_4_1, ext_4_2, ext_4_3, beq_self_eq_true, bne_self_eq_false, gt_iff_lt, X0.ld6]
  have TT := toProcess_rc M7 _ d0 C0.now hs0
  first | refine callH_rc TT ?_ | refine rcallH_rc TT ?_
  clear TT
  rintro r new ⟨nrn, Yv0, Yv0e, Y0⟩
  rw [id_eq] at Yv0e
  subst r
  obtain ⟨M8, hM8⟩ : ∃ M', M' = M7 ++ new := ⟨_, rfl⟩
  rw [← hM8]
  have LM8 : M8.length = M7.length + new.length := by rw [hM8, List.length_append]
  replace C0 : Lv 0 M0.length M8 fun M => ProcA M (procV d0 u0) d0 := by rw [hM8]; exact C0.ext _
  replace C1 : Lv 0 M0.length M8 fun M => PairsA M v1 d1 := by rw [hM8]; exact C1.ext _
  replace C3 : Lv 0 M0.length M8 fun M => IntsA M v3 d3 := by rw [hM8]; exact C3.ext _
  replace X0 : BoxA M8 M0.length [.int .i64 d0.turns, u0, .int .i64 d0.setup, .int .i64 d0.unit, .int .i64 d0.hold, .int .i64 d0.back] := by rw [hM8]; exact X0.ext _
  replace w : Lv M6.length M7.length M8 fun M => IntsO W M6.length M7.length M vw := by rw [hM8]; exact w.ext _
  clear nrn
  rw [← hM8, ← LM8] at Y0
  obtain ⟨Yu0, rfl, -⟩ := Y0.now
  change Lv M7.length M8.length M8 fun M => ProcO d0 M7.length M8.length M (procV d0 Yu0) at Y0
  have on00 := fun xs => ProcA.one Y0.now.in xs
  try simp (config := {implicitDefEqProofs := false, maxDischargeDepth := 20}) (disch := first | omega | (simp only [lenE]; done) | (simp only [lenE]; omega) | rfl | (simp only [lenE, markR_len]; done) | (simp only [lenE, markR_len]; omega)) only [runE, mapE, listE, initT_5, initT_6, initT_7, initT_8, resV, oneV, binA, unA, reduceCtorEq, Nat.reduceEqDiff, Nat.reduceAdd, Nat.reduceLT, Nat.reduceLeDiff, Nat.reduceMul, Nat.reduceSub, ↓reduceIte, decide_true, decide_false, Bool.true_eq_false, Bool.false_eq_true, Bool.not_true, Bool.not_false, if_true, if_false, and_true, true_and, memE, celE, w64, Nat.zero_add, Nat.add_zero, Nat.mul_one, putL, and_self, ldn, id_eq, ext_2_0, ext_2_1, ext_3_0, ext_3_1, ext_3_2, ext_4_0, ext_4_1, ext_4_2, ext_4_3, beq_self_eq_true, bne_self_eq_false, gt_iff_lt, on00, X0.ld6]
  obtain ⟨M9, hM9⟩ : ∃ M', M' = M8 ++ [⟨.own, 26, [.int .i64 d0.turns, Yu0, .int .i64 d0.setup, .int .i64 d0.unit, .int .i64 d0.hold, .int .i64 d0.back]⟩] := ⟨_, rfl⟩
  rw [← hM9]
  have LM9 : M9.length = M8.length + 1 := by rw [hM9, List.length_append]; rfl
  replace C0 : Lv 0 M0.length M9 fun M => ProcA M (procV d0 u0) d0 := by rw [hM9]; exact C0.ext _
  replace C1 : Lv 0 M0.length M9 fun M => PairsA M v1 d1 := by rw [hM9]; exact C1.ext _
  replace C3 : Lv 0 M0.length M9 fun M => IntsA M v3 d3 := by rw [hM9]; exact C3.ext _
  replace X0 : BoxA M9 M0.length [.int .i64 d0.turns, u0, .int .i64 d0.setup, .int .i64 d0.unit, .int .i64 d0.hold, .int .i64 d0.back] := by rw [hM9]; exact X0.ext _
  replace w : Lv M6.length M7.length M9 fun M => IntsO W M6.length M7.length M vw := by rw [hM9]; exact w.ext _
  replace Y0 : Lv M7.length M8.length M9 fun M => ProcO d0 M7.length M8.length M (procV d0 Yu0) := by rw [hM9]; exact Y0.ext _
  have Z0 : BoxA M9 M8.length [.int .i64 d0.turns, Yu0, .int .i64 d0.setup, .int .i64 d0.unit, .int .i64 d0.hold, .int .i64 d0.back] := by rw [hM9]; exact BoxA.here _ _ _ rfl
  try simp (config := {implicitDefEqProofs := false, maxDischargeDepth := 20}) (disch := first | omega | (simp only [lenE]; done) | (simp only [lenE]; omega) | rfl | (simp only [lenE, markR_len]; done) | (simp only [lenE, markR_len]; omega)) only [runE, mapE, listE, initT_5, initT_6, initT_7, initT_8, resV, oneV, binA, unA, reduceCtorEq, Nat.reduceEqDiff, Nat.reduceAdd, Nat.reduceLT, Nat.reduceLeDiff, Nat.reduceMul, Nat.reduceSub, ↓reduceIte, decide_true, decide_false, Bool.true_eq_false, Bool.false_eq_true, Bool.not_true, Bool.not_false, if_true, if_false, and_true, true_and, memE, celE, w64, Nat.zero_add, Nat.add_zero, Nat.mul_one, putL, and_self, ldn, id_eq, ext_2_0, ext_2_1, ext_3_0, ext_3_1, ext_3_2, ext_4_0, ext_4_1, ext_4_2, ext_4_3, beq_self_eq_true, bne_self_eq_false, gt_iff_lt, X0.ld6, Z0.ld6]
  have TT := toIntA2S_rc M9 _ d1 C1.now hs1
  first | refine callH_rc TT ?_ | refine rcallH_rc TT ?_
  clear TT
  rintro r new ⟨nrn, Yv1, Yv1e, Y1⟩
  rw [id_eq] at Yv1e
  subst r
  obtain ⟨M10, hM10⟩ : ∃ M', M' = M9 ++ new := ⟨_, rfl⟩
  rw [← hM10]
  have LM10 : M10.length = M9.length + new.length := by rw [hM10, List.length_append]
  replace C0 : Lv 0 M0.length M10 fun M => ProcA M (procV d0 u0) d0 := by rw [hM10]; exact C0.ext _
  replace C1 : Lv 0 M0.length M10 fun M => PairsA M v1 d1 := by rw [hM10]; exact C1.ext _
  replace C3 : Lv 0 M0.length M10 fun M => IntsA M v3 d3 := by rw [hM10]; exact C3.ext _
  replace X0 : BoxA M10 M0.length [.int .i64 d0.turns, u0, .int .i64 d0.setup, .int .i64 d0.unit, .int .i64 d0.hold, .int .i64 d0.back] := by rw [hM10]; exact X0.ext _
  replace w : Lv M6.length M7.length M10 fun M => IntsO W M6.length M7.length M vw := by rw [hM10]; exact w.ext _
  replace Y0 : Lv M7.length M8.length M10 fun M => ProcO d0 M7.length M8.length M (procV d0 Yu0) := by rw [hM10]; exact Y0.ext _
  replace Z0 : BoxA M10 M8.length [.int .i64 d0.turns, Yu0, .int .i64 d0.setup, .int .i64 d0.unit, .int .i64 d0.hold, .int .i64 d0.back] := by rw [hM10]; exact Z0.ext _
  clear nrn
  rw [← hM10, ← LM10] at Y1
  change Lv M9.length M10.length M10 fun M => PairsO 46 d1 M9.length M10.length M Yv1 at Y1
  try simp (config := {implicitDefEqProofs := false, maxDischargeDepth := 20}) (disch := first | omega | (simp only [lenE]; done) | (simp only [lenE]; omega) | rfl | (simp only [lenE, markR_len]; done) | (simp only [lenE, markR_len]; omega)) only [runE, mapE, listE, initT_5, initT_6, initT_7, initT_8, resV, oneV, binA, unA, reduceCtorEq, Nat.reduceEqDiff, Nat.reduceAdd, Nat.reduceLT, Nat.reduceLeDiff, Nat.reduceMul, Nat.reduceSub, ↓reduceIte, decide_true, decide_false, Bool.true_eq_false, Bool.false_eq_true, Bool.not_true, Bool.not_false, if_true, if_false, and_true, true_and, memE, celE, w64, Nat.zero_add, Nat.add_zero, Nat.mul_one, putL, and_self, ldn, id_eq, ext_2_0, ext_2_1, ext_3_0, ext_3_1, ext_3_2, ext_4_0, ext_4_1, ext_4_2, ext_4_3, beq_self_eq_true, bne_self_eq_false, gt_iff_lt, X0.ld6, Z0.ld6]
  have TT := toIntsO_rc M10 _ d3 C3.now (by omega)
  first | refine callH_rc TT ?_ | refine rcallH_rc TT ?_
  clear TT
  rintro r new ⟨nrn, Yv3, Yv3e, Y3⟩
  rw [id_eq] at Yv3e
  subst r
  obtain ⟨M11, hM11⟩ : ∃ M', M' = M10 ++ new := ⟨_, rfl⟩
  rw [← hM11]
  have LM11 : M11.length = M10.length + new.length := by rw [hM11, List.length_append]
  replace C0 : Lv 0 M0.length M11 fun M => ProcA M (procV d0 u0) d0 := by rw [hM11]; exact C0.ext _
  replace C1 : Lv 0 M0.length M11 fun M => PairsA M v1 d1 := by rw [hM11]; exact C1.ext _
  replace C3 : Lv 0 M0.length M11 fun M => IntsA M v3 d3 := by rw [hM11]; exact C3.ext _
  replace X0 : BoxA M11 M0.length [.int .i64 d0.turns, u0, .int .i64 d0.setup, .int .i64 d0.unit, .int .i64 d0.hold, .int .i64 d0.back] := by rw [hM11]; exact X0.ext _
  replace w : Lv M6.length M7.length M11 fun M => IntsO W M6.length M7.length M vw := by rw [hM11]; exact w.ext _
  replace Y0 : Lv M7.length M8.length M11 fun M => ProcO d0 M7.length M8.length M (procV d0 Yu0) := by rw [hM11]; exact Y0.ext _
  replace Z0 : BoxA M11 M8.length [.int .i64 d0.turns, Yu0, .int .i64 d0.setup, .int .i64 d0.unit, .int .i64 d0.hold, .int .i64 d0.back] := by rw [hM11]; exact Z0.ext _
  replace Y1 : Lv M9.length M10.length M11 fun M => PairsO 46 d1 M9.length M10.length M Yv1 := by rw [hM11]; exact Y1.ext _
  clear nrn
  rw [← hM11, ← LM11] at Y3
  change Lv M10.length M11.length M11 fun M => IntsO d3 M10.length M11.length M Yv3 at Y3
  try simp (config := {implicitDefEqProofs := false, maxDischargeDepth := 20}) (disch := first | omega | (simp only [lenE]; done) | (simp only [lenE]; omega) | rfl | (simp only [lenE, markR_len]; done) | (simp only [lenE, markR_len]; omega)) only [runE, mapE, listE, initT_5, initT_6, initT_7, initT_8, resV, oneV, binA, unA, reduceCtorEq, Nat.reduceEqDiff, Nat.reduceAdd, Nat.reduceLT, Nat.reduceLeDiff, Nat.reduceMul, Nat.reduceSub, ↓reduceIte, decide_true, decide_false, Bool.true_eq_false, Bool.false_eq_true, Bool.not_true, Bool.not_false, if_true, if_false, and_true, true_and, memE, celE, w64, Nat.zero_add, Nat.add_zero, Nat.mul_one, putL, and_self, ldn, id_eq, ext_2_0, ext_2_1, ext_3_0, ext_3_1, ext_3_2, ext_4_0, ext_4_1, ext_4_2, ext_4_3, beq_self_eq_true, bne_self_eq_false, gt_iff_lt, X0.ld6, Z0.ld6]
  refine callH_rc (IMP _ _ _ _ Y0.now.in Y1.now.in Y3.now.in) ?_
  rintro r new ⟨nrn, vg, rfl, g⟩
  obtain ⟨M12, hM12⟩ : ∃ M', M' = M11 ++ new := ⟨_, rfl⟩
  rw [← hM12]
  have LM12 : M12.length = M11.length + new.length := by rw [hM12, List.length_append]
  replace C0 : Lv 0 M0.length M12 fun M => ProcA M (procV d0 u0) d0 := by rw [hM12]; exact C0.ext _
  replace C1 : Lv 0 M0.length M12 fun M => PairsA M v1 d1 := by rw [hM12]; exact C1.ext _
  replace C3 : Lv 0 M0.length M12 fun M => IntsA M v3 d3 := by rw [hM12]; exact C3.ext _
  replace X0 : BoxA M12 M0.length [.int .i64 d0.turns, u0, .int .i64 d0.setup, .int .i64 d0.unit, .int .i64 d0.hold, .int .i64 d0.back] := by rw [hM12]; exact X0.ext _
  replace w : Lv M6.length M7.length M12 fun M => IntsO W M6.length M7.length M vw := by rw [hM12]; exact w.ext _
  replace Y0 : Lv M7.length M8.length M12 fun M => ProcO d0 M7.length M8.length M (procV d0 Yu0) := by rw [hM12]; exact Y0.ext _
  replace Z0 : BoxA M12 M8.length [.int .i64 d0.turns, Yu0, .int .i64 d0.setup, .int .i64 d0.unit, .int .i64 d0.hold, .int .i64 d0.back] := by rw [hM12]; exact Z0.ext _
  replace Y1 : Lv M9.length M10.length M12 fun M => PairsO 46 d1 M9.length M10.length M Yv1 := by rw [hM12]; exact Y1.ext _
  replace Y3 : Lv M10.length M11.length M12 fun M => IntsO d3 M10.length M11.length M Yv3 := by rw [hM12]; exact Y3.ext _
  clear nrn
  rw [← hM12, ← LM12] at g
  try simp (config := {implicitDefEqProofs := false, maxDischargeDepth := 20}) (disch := first | omega | (simp only [lenE]; done) | (simp only [lenE]; omega) | rfl | (simp only [lenE, markR_len]; done) | (simp only [lenE, markR_len]; omega)) only [runE, mapE, listE, initT_5, initT_6, initT_7, initT_8, resV, oneV, binA, unA, reduceCtorEq, Nat.reduceEqDiff, Nat.reduceAdd, Nat.reduceLT, Nat.reduceLeDiff, Nat.reduceMul, Nat.reduceSub, ↓reduceIte, decide_true, decide_false, Bool.true_eq_false, Bool.false_eq_true, Bool.not_true, Bool.not_false, if_true, if_false, and_true, true_and, memE, celE, w64, Nat.zero_add, Nat.add_zero, Nat.mul_one, putL, and_self, ldn, id_eq, ext_2_0, ext_2_1, ext_3_0, ext_3_1, ext_3_2, ext_4_0, ext_4_1, ext_4_2, ext_4_3, beq_self_eq_true, bne_self_eq_false, gt_iff_lt, X0.ld6, Z0.ld6]
  have TT := eqIntsO_rc M12 _ _ W g.now.in w.now.in
  refine callH_rc TT ?_
  clear TT
  rintro r new ⟨rfl, nrn⟩
  obtain ⟨M13, hM13⟩ : ∃ M', M' = M12 ++ new := ⟨_, rfl⟩
  rw [← hM13]
  have LM13 : M13.length = M12.length + new.length := by rw [hM13, List.length_append]
  replace C0 : Lv 0 M0.length M13 fun M => ProcA M (procV d0 u0) d0 := by rw [hM13]; exact C0.ext _
  replace C1 : Lv 0 M0.length M13 fun M => PairsA M v1 d1 := by rw [hM13]; exact C1.ext _
  replace C3 : Lv 0 M0.length M13 fun M => IntsA M v3 d3 := by rw [hM13]; exact C3.ext _
  replace X0 : BoxA M13 M0.length [.int .i64 d0.turns, u0, .int .i64 d0.setup, .int .i64 d0.unit, .int .i64 d0.hold, .int .i64 d0.back] := by rw [hM13]; exact X0.ext _
  replace w : Lv M6.length M7.length M13 fun M => IntsO W M6.length M7.length M vw := by rw [hM13]; exact w.ext _
  replace Y0 : Lv M7.length M8.length M13 fun M => ProcO d0 M7.length M8.length M (procV d0 Yu0) := by rw [hM13]; exact Y0.ext _
  replace Z0 : BoxA M13 M8.length [.int .i64 d0.turns, Yu0, .int .i64 d0.setup, .int .i64 d0.unit, .int .i64 d0.hold, .int .i64 d0.back] := by rw [hM13]; exact Z0.ext _
  replace Y1 : Lv M9.length M10.length M13 fun M => PairsO 46 d1 M9.length M10.length M Yv1 := by rw [hM13]; exact Y1.ext _
  replace Y3 : Lv M10.length M11.length M13 fun M => IntsO d3 M10.length M11.length M Yv3 := by rw [hM13]; exact Y3.ext _
  replace g : Lv M11.length M12.length M13 fun M => IntsO W M11.length M12.length M vg := by rw [hM13]; exact g.ext _
  clear nrn
  try simp (config := {implicitDefEqProofs := false, maxDischargeDepth := 20}) (disch := first | omega | (simp only [lenE]; done) | (simp only [lenE]; omega) | rfl | (simp only [lenE, markR_len]; done) | (simp only [lenE, markR_len]; omega)) only [runE, mapE, listE, initT_5, initT_6, initT_7, initT_8, resV, oneV, binA, unA, reduceCtorEq, Nat.reduceEqDiff, Nat.reduceAdd, Nat.reduceLT, Nat.reduceLeDiff, Nat.reduceMul, Nat.reduceSub, ↓reduceIte, decide_true, decide_false, Bool.true_eq_false, Bool.false_eq_true, Bool.not_true, Bool.not_false, if_true, if_false, and_true, true_and, memE, celE, w64, Nat.zero_add, Nat.add_zero, Nat.mul_one, putL, and_self, ldn, id_eq, ext_2_0, ext_2_1, ext_3_0, ext_3_1, ext_3_2, ext_4_0, ext_4_1, ext_4_2, ext_4_3, beq_self_eq_true, bne_self_eq_false, gt_iff_lt, X0.ld6, Z0.ld6]
  try simp (config := {implicitDefEqProofs := false, maxDischargeDepth := 20}) (disch := first | omega | (simp only [lenE]; done) | (simp only [lenE]; omega) | rfl | (simp only [lenE, markR_len]; done) | (simp only [lenE, markR_len]; omega)) only [runE, mapE, listE, initT_5, initT_6, initT_7, initT_8, resV, oneV, binA, unA, reduceCtorEq, Nat.reduceEqDiff, Nat.reduceAdd, Nat.reduceLT, Nat.reduceLeDiff, Nat.reduceMul, Nat.reduceSub, ↓reduceIte, decide_true, decide_false, Bool.true_eq_false, Bool.false_eq_true, Bool.not_true, Bool.not_false, if_true, if_false, and_true, true_and, memE, celE, w64, Nat.zero_add, Nat.add_zero, Nat.mul_one, putL, and_self, ldn, id_eq, ext_2_0, ext_2_1, ext_3_0, ext_3_1, ext_3_2, ext_4_0, ext_4_1, ext_4_2, ext_4_3, beq_self_eq_true, bne_self_eq_false, gt_iff_lt, X0.ld6, Z0.ld6]
  have TT := toProcess_rc M13 _ d0 C0.now hs0
  first | refine callH_rc TT ?_ | refine rcallH_rc TT ?_
  clear TT
  rintro r new ⟨nrn, Tv0, Tv0e, T0⟩
  rw [id_eq] at Tv0e
  subst r
  obtain ⟨M14, hM14⟩ : ∃ M', M' = M13 ++ new := ⟨_, rfl⟩
  rw [← hM14]
  have LM14 : M14.length = M13.length + new.length := by rw [hM14, List.length_append]
  replace C0 : Lv 0 M0.length M14 fun M => ProcA M (procV d0 u0) d0 := by rw [hM14]; exact C0.ext _
  replace C1 : Lv 0 M0.length M14 fun M => PairsA M v1 d1 := by rw [hM14]; exact C1.ext _
  replace C3 : Lv 0 M0.length M14 fun M => IntsA M v3 d3 := by rw [hM14]; exact C3.ext _
  replace X0 : BoxA M14 M0.length [.int .i64 d0.turns, u0, .int .i64 d0.setup, .int .i64 d0.unit, .int .i64 d0.hold, .int .i64 d0.back] := by rw [hM14]; exact X0.ext _
  replace w : Lv M6.length M7.length M14 fun M => IntsO W M6.length M7.length M vw := by rw [hM14]; exact w.ext _
  replace Y0 : Lv M7.length M8.length M14 fun M => ProcO d0 M7.length M8.length M (procV d0 Yu0) := by rw [hM14]; exact Y0.ext _
  replace Z0 : BoxA M14 M8.length [.int .i64 d0.turns, Yu0, .int .i64 d0.setup, .int .i64 d0.unit, .int .i64 d0.hold, .int .i64 d0.back] := by rw [hM14]; exact Z0.ext _
  replace Y1 : Lv M9.length M10.length M14 fun M => PairsO 46 d1 M9.length M10.length M Yv1 := by rw [hM14]; exact Y1.ext _
  replace Y3 : Lv M10.length M11.length M14 fun M => IntsO d3 M10.length M11.length M Yv3 := by rw [hM14]; exact Y3.ext _
  replace g : Lv M11.length M12.length M14 fun M => IntsO W M11.length M12.length M vg := by rw [hM14]; exact g.ext _
  clear nrn
  rw [← hM14, ← LM14] at T0
  obtain ⟨Tu0, rfl, -⟩ := T0.now
  change Lv M13.length M14.length M14 fun M => ProcO d0 M13.length M14.length M (procV d0 Tu0) at T0
  try simp (config := {implicitDefEqProofs := false, maxDischargeDepth := 20}) (disch := first | omega | (simp only [lenE]; done) | (simp only [lenE]; omega) | rfl | (simp only [lenE, markR_len]; done) | (simp only [lenE, markR_len]; omega)) only [runE, mapE, listE, initT_5, initT_6, initT_7, initT_8, resV, oneV, binA, unA, reduceCtorEq, Nat.reduceEqDiff, Nat.reduceAdd, Nat.reduceLT, Nat.reduceLeDiff, Nat.reduceMul, Nat.reduceSub, ↓reduceIte, decide_true, decide_false, Bool.true_eq_false, Bool.false_eq_true, Bool.not_true, Bool.not_false, if_true, if_false, and_true, true_and, memE, celE, w64, Nat.zero_add, Nat.add_zero, Nat.mul_one, putL, and_self, ldn, id_eq, ext_2_0, ext_2_1, ext_3_0, ext_3_1, ext_3_2, ext_4_0, ext_4_1, ext_4_2, ext_4_3, beq_self_eq_true, bne_self_eq_false, gt_iff_lt, X0.ld6, Z0.ld6]
  have TT := eqProcess_rc M14 _ _ d0 Y0.now.in T0.now.in
  first | refine callH_rc TT ?_ | refine rcallH_rc TT ?_
  clear TT
  rintro r new ⟨rfl, nrn⟩
  obtain ⟨M15, hM15⟩ : ∃ M', M' = M14 ++ new := ⟨_, rfl⟩
  rw [← hM15]
  have LM15 : M15.length = M14.length + new.length := by rw [hM15, List.length_append]
  replace C0 : Lv 0 M0.length M15 fun M => ProcA M (procV d0 u0) d0 := by rw [hM15]; exact C0.ext _
  replace C1 : Lv 0 M0.length M15 fun M => PairsA M v1 d1 := by rw [hM15]; exact C1.ext _
  replace C3 : Lv 0 M0.length M15 fun M => IntsA M v3 d3 := by rw [hM15]; exact C3.ext _
  replace X0 : BoxA M15 M0.length [.int .i64 d0.turns, u0, .int .i64 d0.setup, .int .i64 d0.unit, .int .i64 d0.hold, .int .i64 d0.back] := by rw [hM15]; exact X0.ext _
  replace w : Lv M6.length M7.length M15 fun M => IntsO W M6.length M7.length M vw := by rw [hM15]; exact w.ext _
  replace Y0 : Lv M7.length M8.length M15 fun M => ProcO d0 M7.length M8.length M (procV d0 Yu0) := by rw [hM15]; exact Y0.ext _
  replace Z0 : BoxA M15 M8.length [.int .i64 d0.turns, Yu0, .int .i64 d0.setup, .int .i64 d0.unit, .int .i64 d0.hold, .int .i64 d0.back] := by rw [hM15]; exact Z0.ext _
  replace Y1 : Lv M9.length M10.length M15 fun M => PairsO 46 d1 M9.length M10.length M Yv1 := by rw [hM15]; exact Y1.ext _
  replace Y3 : Lv M10.length M11.length M15 fun M => IntsO d3 M10.length M11.length M Yv3 := by rw [hM15]; exact Y3.ext _
  replace g : Lv M11.length M12.length M15 fun M => IntsO W M11.length M12.length M vg := by rw [hM15]; exact g.ext _
  replace T0 : Lv M13.length M14.length M15 fun M => ProcO d0 M13.length M14.length M (procV d0 Tu0) := by rw [hM15]; exact T0.ext _
  clear nrn
  clear T0
  try simp (config := {implicitDefEqProofs := false, maxDischargeDepth := 20}) (disch := first | omega | (simp only [lenE]; done) | (simp only [lenE]; omega) | rfl | (simp only [lenE, markR_len]; done) | (simp only [lenE, markR_len]; omega)) only [runE, mapE, listE, initT_5, initT_6, initT_7, initT_8, resV, oneV, binA, unA, reduceCtorEq, Nat.reduceEqDiff, Nat.reduceAdd, Nat.reduceLT, Nat.reduceLeDiff, Nat.reduceMul, Nat.reduceSub, ↓reduceIte, decide_true, decide_false, Bool.true_eq_false, Bool.false_eq_true, Bool.not_true, Bool.not_false, if_true, if_false, and_true, true_and, memE, celE, w64, Nat.zero_add, Nat.add_zero, Nat.mul_one, putL, and_self, ldn, id_eq, ext_2_0, ext_2_1, ext_3_0, ext_3_1, ext_3_2, ext_4_0, ext_4_1, ext_4_2, ext_4_3, beq_self_eq_true, bne_self_eq_false, gt_iff_lt, X0.ld6, Z0.ld6]
  try simp (config := {implicitDefEqProofs := false, maxDischargeDepth := 20}) (disch := first | omega | (simp only [lenE]; done) | (simp only [lenE]; omega) | rfl | (simp only [lenE, markR_len]; done) | (simp only [lenE, markR_len]; omega)) only [runE, mapE, listE, initT_5, initT_6, initT_7, initT_8, resV, oneV, binA, unA, reduceCtorEq, Nat.reduceEqDiff, Nat.reduceAdd, Nat.reduceLT, Nat.reduceLeDiff, Nat.reduceMul, Nat.reduceSub, ↓reduceIte, decide_true, decide_false, Bool.true_eq_false, Bool.false_eq_true, Bool.not_true, Bool.not_false, if_true, if_false, and_true, true_and, memE, celE, w64, Nat.zero_add, Nat.add_zero, Nat.mul_one, putL, and_self, ldn, id_eq, ext_2_0, ext_2_1, ext_3_0, ext_3_1, ext_3_2, ext_4_0, ext_4_1, ext_4_2, ext_4_3, beq_self_eq_true, bne_self_eq_false, gt_iff_lt, X0.ld6, Z0.ld6]
  have TT := toIntA2S_rc M15 _ d1 C1.now hs1
  first | refine callH_rc TT ?_ | refine rcallH_rc TT ?_
  clear TT
  rintro r new ⟨nrn, Tv1, Tv1e, T1⟩
  rw [id_eq] at Tv1e
  subst r
  obtain ⟨M16, hM16⟩ : ∃ M', M' = M15 ++ new := ⟨_, rfl⟩
  rw [← hM16]
  have LM16 : M16.length = M15.length + new.length := by rw [hM16, List.length_append]
  replace C0 : Lv 0 M0.length M16 fun M => ProcA M (procV d0 u0) d0 := by rw [hM16]; exact C0.ext _
  replace C1 : Lv 0 M0.length M16 fun M => PairsA M v1 d1 := by rw [hM16]; exact C1.ext _
  replace C3 : Lv 0 M0.length M16 fun M => IntsA M v3 d3 := by rw [hM16]; exact C3.ext _
  replace X0 : BoxA M16 M0.length [.int .i64 d0.turns, u0, .int .i64 d0.setup, .int .i64 d0.unit, .int .i64 d0.hold, .int .i64 d0.back] := by rw [hM16]; exact X0.ext _
  replace w : Lv M6.length M7.length M16 fun M => IntsO W M6.length M7.length M vw := by rw [hM16]; exact w.ext _
  replace Y0 : Lv M7.length M8.length M16 fun M => ProcO d0 M7.length M8.length M (procV d0 Yu0) := by rw [hM16]; exact Y0.ext _
  replace Z0 : BoxA M16 M8.length [.int .i64 d0.turns, Yu0, .int .i64 d0.setup, .int .i64 d0.unit, .int .i64 d0.hold, .int .i64 d0.back] := by rw [hM16]; exact Z0.ext _
  replace Y1 : Lv M9.length M10.length M16 fun M => PairsO 46 d1 M9.length M10.length M Yv1 := by rw [hM16]; exact Y1.ext _
  replace Y3 : Lv M10.length M11.length M16 fun M => IntsO d3 M10.length M11.length M Yv3 := by rw [hM16]; exact Y3.ext _
  replace g : Lv M11.length M12.length M16 fun M => IntsO W M11.length M12.length M vg := by rw [hM16]; exact g.ext _
  clear nrn
  rw [← hM16, ← LM16] at T1
  change Lv M15.length M16.length M16 fun M => PairsO 46 d1 M15.length M16.length M Tv1 at T1
  try simp (config := {implicitDefEqProofs := false, maxDischargeDepth := 20}) (disch := first | omega | (simp only [lenE]; done) | (simp only [lenE]; omega) | rfl | (simp only [lenE, markR_len]; done) | (simp only [lenE, markR_len]; omega)) only [runE, mapE, listE, initT_5, initT_6, initT_7, initT_8, resV, oneV, binA, unA, reduceCtorEq, Nat.reduceEqDiff, Nat.reduceAdd, Nat.reduceLT, Nat.reduceLeDiff, Nat.reduceMul, Nat.reduceSub, ↓reduceIte, decide_true, decide_false, Bool.true_eq_false, Bool.false_eq_true, Bool.not_true, Bool.not_false, if_true, if_false, and_true, true_and, memE, celE, w64, Nat.zero_add, Nat.add_zero, Nat.mul_one, putL, and_self, ldn, id_eq, ext_2_0, ext_2_1, ext_3_0, ext_3_1, ext_3_2, ext_4_0, ext_4_1, ext_4_2, ext_4_3, beq_self_eq_true, bne_self_eq_false, gt_iff_lt, X0.ld6, Z0.ld6]
  have TT := eqIntA2S_rc M16 _ _ d1 Y1.now.in T1.now.in
  first | refine callH_rc TT ?_ | refine rcallH_rc TT ?_
  clear TT
  rintro r new ⟨rfl, nrn⟩
  obtain ⟨M17, hM17⟩ : ∃ M', M' = M16 ++ new := ⟨_, rfl⟩
  rw [← hM17]
  have LM17 : M17.length = M16.length + new.length := by rw [hM17, List.length_append]
  replace C0 : Lv 0 M0.length M17 fun M => ProcA M (procV d0 u0) d0 := by rw [hM17]; exact C0.ext _
  replace C1 : Lv 0 M0.length M17 fun M => PairsA M v1 d1 := by rw [hM17]; exact C1.ext _
  replace C3 : Lv 0 M0.length M17 fun M => IntsA M v3 d3 := by rw [hM17]; exact C3.ext _
  replace X0 : BoxA M17 M0.length [.int .i64 d0.turns, u0, .int .i64 d0.setup, .int .i64 d0.unit, .int .i64 d0.hold, .int .i64 d0.back] := by rw [hM17]; exact X0.ext _
  replace w : Lv M6.length M7.length M17 fun M => IntsO W M6.length M7.length M vw := by rw [hM17]; exact w.ext _
  replace Y0 : Lv M7.length M8.length M17 fun M => ProcO d0 M7.length M8.length M (procV d0 Yu0) := by rw [hM17]; exact Y0.ext _
  replace Z0 : BoxA M17 M8.length [.int .i64 d0.turns, Yu0, .int .i64 d0.setup, .int .i64 d0.unit, .int .i64 d0.hold, .int .i64 d0.back] := by rw [hM17]; exact Z0.ext _
  replace Y1 : Lv M9.length M10.length M17 fun M => PairsO 46 d1 M9.length M10.length M Yv1 := by rw [hM17]; exact Y1.ext _
  replace Y3 : Lv M10.length M11.length M17 fun M => IntsO d3 M10.length M11.length M Yv3 := by rw [hM17]; exact Y3.ext _
  replace g : Lv M11.length M12.length M17 fun M => IntsO W M11.length M12.length M vg := by rw [hM17]; exact g.ext _
  replace T1 : Lv M15.length M16.length M17 fun M => PairsO 46 d1 M15.length M16.length M Tv1 := by rw [hM17]; exact T1.ext _
  clear nrn
  clear T1
  try simp (config := {implicitDefEqProofs := false, maxDischargeDepth := 20}) (disch := first | omega | (simp only [lenE]; done) | (simp only [lenE]; omega) | rfl | (simp only [lenE, markR_len]; done) | (simp only [lenE, markR_len]; omega)) only [runE, mapE, listE, initT_5, initT_6, initT_7, initT_8, resV, oneV, binA, unA, reduceCtorEq, Nat.reduceEqDiff, Nat.reduceAdd, Nat.reduceLT, Nat.reduceLeDiff, Nat.reduceMul, Nat.reduceSub, ↓reduceIte, decide_true, decide_false, Bool.true_eq_false, Bool.false_eq_true, Bool.not_true, Bool.not_false, if_true, if_false, and_true, true_and, memE, celE, w64, Nat.zero_add, Nat.add_zero, Nat.mul_one, putL, and_self, ldn, id_eq, ext_2_0, ext_2_1, ext_3_0, ext_3_1, ext_3_2, ext_4_0, ext_4_1, ext_4_2, ext_4_3, beq_self_eq_true, bne_self_eq_false, gt_iff_lt, X0.ld6, Z0.ld6]
  try simp (config := {implicitDefEqProofs := false, maxDischargeDepth := 20}) (disch := first | omega | (simp only [lenE]; done) | (simp only [lenE]; omega) | rfl | (simp only [lenE, markR_len]; done) | (simp only [lenE, markR_len]; omega)) only [runE, mapE, listE, initT_5, initT_6, initT_7, initT_8, resV, oneV, binA, unA, reduceCtorEq, Nat.reduceEqDiff, Nat.reduceAdd, Nat.reduceLT, Nat.reduceLeDiff, Nat.reduceMul, Nat.reduceSub, ↓reduceIte, decide_true, decide_false, Bool.true_eq_false, Bool.false_eq_true, Bool.not_true, Bool.not_false, if_true, if_false, and_true, true_and, memE, celE, w64, Nat.zero_add, Nat.add_zero, Nat.mul_one, putL, and_self, ldn, id_eq, ext_2_0, ext_2_1, ext_3_0, ext_3_1, ext_3_2, ext_4_0, ext_4_1, ext_4_2, ext_4_3, beq_self_eq_true, bne_self_eq_false, gt_iff_lt, X0.ld6, Z0.ld6]
  have TT := toIntsO_rc M17 _ d3 C3.now (by omega)
  first | refine callH_rc TT ?_ | refine rcallH_rc TT ?_
  clear TT
  rintro r new ⟨nrn, Tv3, Tv3e, T3⟩
  rw [id_eq] at Tv3e
  subst r
  obtain ⟨M18, hM18⟩ : ∃ M', M' = M17 ++ new := ⟨_, rfl⟩
  rw [← hM18]
  have LM18 : M18.length = M17.length + new.length := by rw [hM18, List.length_append]
  replace C0 : Lv 0 M0.length M18 fun M => ProcA M (procV d0 u0) d0 := by rw [hM18]; exact C0.ext _
  replace C1 : Lv 0 M0.length M18 fun M => PairsA M v1 d1 := by rw [hM18]; exact C1.ext _
  replace C3 : Lv 0 M0.length M18 fun M => IntsA M v3 d3 := by rw [hM18]; exact C3.ext _
  replace X0 : BoxA M18 M0.length [.int .i64 d0.turns, u0, .int .i64 d0.setup, .int .i64 d0.unit, .int .i64 d0.hold, .int .i64 d0.back] := by rw [hM18]; exact X0.ext _
  replace w : Lv M6.length M7.length M18 fun M => IntsO W M6.length M7.length M vw := by rw [hM18]; exact w.ext _
  replace Y0 : Lv M7.length M8.length M18 fun M => ProcO d0 M7.length M8.length M (procV d0 Yu0) := by rw [hM18]; exact Y0.ext _
  replace Z0 : BoxA M18 M8.length [.int .i64 d0.turns, Yu0, .int .i64 d0.setup, .int .i64 d0.unit, .int .i64 d0.hold, .int .i64 d0.back] := by rw [hM18]; exact Z0.ext _
  replace Y1 : Lv M9.length M10.length M18 fun M => PairsO 46 d1 M9.length M10.length M Yv1 := by rw [hM18]; exact Y1.ext _
  replace Y3 : Lv M10.length M11.length M18 fun M => IntsO d3 M10.length M11.length M Yv3 := by rw [hM18]; exact Y3.ext _
  replace g : Lv M11.length M12.length M18 fun M => IntsO W M11.length M12.length M vg := by rw [hM18]; exact g.ext _
  clear nrn
  rw [← hM18, ← LM18] at T3
  change Lv M17.length M18.length M18 fun M => IntsO d3 M17.length M18.length M Tv3 at T3
  try simp (config := {implicitDefEqProofs := false, maxDischargeDepth := 20}) (disch := first | omega | (simp only [lenE]; done) | (simp only [lenE]; omega) | rfl | (simp only [lenE, markR_len]; done) | (simp only [lenE, markR_len]; omega)) only [runE, mapE, listE, initT_5, initT_6, initT_7, initT_8, resV, oneV, binA, unA, reduceCtorEq, Nat.reduceEqDiff, Nat.reduceAdd, Nat.reduceLT, Nat.reduceLeDiff, Nat.reduceMul, Nat.reduceSub, ↓reduceIte, decide_true, decide_false, Bool.true_eq_false, Bool.false_eq_true, Bool.not_true, Bool.not_false, if_true, if_false, and_true, true_and, memE, celE, w64, Nat.zero_add, Nat.add_zero, Nat.mul_one, putL, and_self, ldn, id_eq, ext_2_0, ext_2_1, ext_3_0, ext_3_1, ext_3_2, ext_4_0, ext_4_1, ext_4_2, ext_4_3, beq_self_eq_true, bne_self_eq_false, gt_iff_lt, X0.ld6, Z0.ld6]
  have TT := eqIntsO_rc M18 _ _ d3 Y3.now.in T3.now.in
  first | refine callH_rc TT ?_ | refine rcallH_rc TT ?_
  clear TT
  rintro r new ⟨rfl, nrn⟩
  obtain ⟨M19, hM19⟩ : ∃ M', M' = M18 ++ new := ⟨_, rfl⟩
  rw [← hM19]
  have LM19 : M19.length = M18.length + new.length := by rw [hM19, List.length_append]
  replace C0 : Lv 0 M0.length M19 fun M => ProcA M (procV d0 u0) d0 := by rw [hM19]; exact C0.ext _
  replace C1 : Lv 0 M0.length M19 fun M => PairsA M v1 d1 := by rw [hM19]; exact C1.ext _
  replace C3 : Lv 0 M0.length M19 fun M => IntsA M v3 d3 := by rw [hM19]; exact C3.ext _
  replace X0 : BoxA M19 M0.length [.int .i64 d0.turns, u0, .int .i64 d0.setup, .int .i64 d0.unit, .int .i64 d0.hold, .int .i64 d0.back] := by rw [hM19]; exact X0.ext _
  replace w : Lv M6.length M7.length M19 fun M => IntsO W M6.length M7.length M vw := by rw [hM19]; exact w.ext _
  replace Y0 : Lv M7.length M8.length M19 fun M => ProcO d0 M7.length M8.length M (procV d0 Yu0) := by rw [hM19]; exact Y0.ext _
  replace Z0 : BoxA M19 M8.length [.int .i64 d0.turns, Yu0, .int .i64 d0.setup, .int .i64 d0.unit, .int .i64 d0.hold, .int .i64 d0.back] := by rw [hM19]; exact Z0.ext _
  replace Y1 : Lv M9.length M10.length M19 fun M => PairsO 46 d1 M9.length M10.length M Yv1 := by rw [hM19]; exact Y1.ext _
  replace Y3 : Lv M10.length M11.length M19 fun M => IntsO d3 M10.length M11.length M Yv3 := by rw [hM19]; exact Y3.ext _
  replace g : Lv M11.length M12.length M19 fun M => IntsO W M11.length M12.length M vg := by rw [hM19]; exact g.ext _
  replace T3 : Lv M17.length M18.length M19 fun M => IntsO d3 M17.length M18.length M Tv3 := by rw [hM19]; exact T3.ext _
  clear nrn
  clear T3
  try simp (config := {implicitDefEqProofs := false, maxDischargeDepth := 20}) (disch := first | omega | (simp only [lenE]; done) | (simp only [lenE]; omega) | rfl | (simp only [lenE, markR_len]; done) | (simp only [lenE, markR_len]; omega)) only [runE, mapE, listE, initT_5, initT_6, initT_7, initT_8, resV, oneV, binA, unA, reduceCtorEq, Nat.reduceEqDiff, Nat.reduceAdd, Nat.reduceLT, Nat.reduceLeDiff, Nat.reduceMul, Nat.reduceSub, ↓reduceIte, decide_true, decide_false, Bool.true_eq_false, Bool.false_eq_true, Bool.not_true, Bool.not_false, if_true, if_false, and_true, true_and, memE, celE, w64, Nat.zero_add, Nat.add_zero, Nat.mul_one, putL, and_self, ldn, id_eq, ext_2_0, ext_2_1, ext_3_0, ext_3_1, ext_3_2, ext_4_0, ext_4_1, ext_4_2, ext_4_3, beq_self_eq_true, bne_self_eq_false, gt_iff_lt, X0.ld6, Z0.ld6]
  try simp (config := {implicitDefEqProofs := false, maxDischargeDepth := 20}) (disch := first | omega | (simp only [lenE]; done) | (simp only [lenE]; omega) | rfl | (simp only [lenE, markR_len]; done) | (simp only [lenE, markR_len]; omega)) only [runE, mapE, listE, initT_5, initT_6, initT_7, initT_8, resV, oneV, binA, unA, reduceCtorEq, Nat.reduceEqDiff, Nat.reduceAdd, Nat.reduceLT, Nat.reduceLeDiff, Nat.reduceMul, Nat.reduceSub, ↓reduceIte, decide_true, decide_false, Bool.true_eq_false, Bool.false_eq_true, Bool.not_true, Bool.not_false, if_true, if_false, and_true, true_and, memE, celE, w64, Nat.zero_add, Nat.add_zero, Nat.mul_one, putL, and_self, ldn, id_eq, ext_2_0, ext_2_1, ext_3_0, ext_3_1, ext_3_2, ext_4_0, ext_4_1, ext_4_2, ext_4_3, beq_self_eq_true, bne_self_eq_false, gt_iff_lt, X0.ld6, Z0.ld6]
  refine callH_ac (markProcess_ac _ M7.length M8.length _ d0 _ Y0 (by omega) (by omega)) ?_
  rintro r M20 ⟨rfl, hB⟩
  have LM20 := hB.1
  replace C0 : Lv 0 M0.length M20 fun M => ProcA M (procV d0 u0) d0 := C0.but hB (by omega)
  replace C1 : Lv 0 M0.length M20 fun M => PairsA M v1 d1 := C1.but hB (by omega)
  replace C3 : Lv 0 M0.length M20 fun M => IntsA M v3 d3 := C3.but hB (by omega)
  replace X0 : BoxA M20 M0.length [.int .i64 d0.turns, u0, .int .i64 d0.setup, .int .i64 d0.unit, .int .i64 d0.hold, .int .i64 d0.back] := by have := X0.lt; exact X0.but hB (by omega)
  replace w : Lv M6.length M7.length M20 fun M => IntsO W M6.length M7.length M vw := w.but hB (by omega)
  replace Z0 : BoxA M20 M8.length [.int .i64 d0.turns, Yu0, .int .i64 d0.setup, .int .i64 d0.unit, .int .i64 d0.hold, .int .i64 d0.back] := by have := Z0.lt; exact Z0.but hB (by omega)
  replace Y1 : Lv M9.length M10.length M20 fun M => PairsO 46 d1 M9.length M10.length M Yv1 := Y1.but hB (by omega)
  replace Y3 : Lv M10.length M11.length M20 fun M => IntsO d3 M10.length M11.length M Yv3 := Y3.but hB (by omega)
  replace g : Lv M11.length M12.length M20 fun M => IntsO W M11.length M12.length M vg := g.but hB (by omega)
  clear Y0 hB
  try simp (config := {implicitDefEqProofs := false, maxDischargeDepth := 20}) (disch := first | omega | (simp only [lenE]; done) | (simp only [lenE]; omega) | rfl | (simp only [lenE, markR_len]; done) | (simp only [lenE, markR_len]; omega)) only [runE, mapE, listE, initT_5, initT_6, initT_7, initT_8, resV, oneV, binA, unA, reduceCtorEq, Nat.reduceEqDiff, Nat.reduceAdd, Nat.reduceLT, Nat.reduceLeDiff, Nat.reduceMul, Nat.reduceSub, ↓reduceIte, decide_true, decide_false, Bool.true_eq_false, Bool.false_eq_true, Bool.not_true, Bool.not_false, if_true, if_false, and_true, true_and, memE, celE, w64, Nat.zero_add, Nat.add_zero, Nat.mul_one, putL, and_self, ldn, id_eq, ext_2_0, ext_2_1, ext_3_0, ext_3_1, ext_3_2, ext_4_0, ext_4_1, ext_4_2, ext_4_3, beq_self_eq_true, bne_self_eq_false, gt_iff_lt, X0.ld6, Z0.ld6]
  refine callH_ac (markIntA2S_ac _ M9.length M10.length _ d1 _ Y1 (by omega) (by omega)) ?_
  rintro r M21 ⟨rfl, hB, -⟩
  have LM21 := hB.1
  replace C0 : Lv 0 M0.length M21 fun M => ProcA M (procV d0 u0) d0 := C0.but hB (by omega)
  replace C1 : Lv 0 M0.length M21 fun M => PairsA M v1 d1 := C1.but hB (by omega)
  replace C3 : Lv 0 M0.length M21 fun M => IntsA M v3 d3 := C3.but hB (by omega)
  replace X0 : BoxA M21 M0.length [.int .i64 d0.turns, u0, .int .i64 d0.setup, .int .i64 d0.unit, .int .i64 d0.hold, .int .i64 d0.back] := by have := X0.lt; exact X0.but hB (by omega)
  replace w : Lv M6.length M7.length M21 fun M => IntsO W M6.length M7.length M vw := w.but hB (by omega)
  replace Z0 : BoxA M21 M8.length [.int .i64 d0.turns, Yu0, .int .i64 d0.setup, .int .i64 d0.unit, .int .i64 d0.hold, .int .i64 d0.back] := by have := Z0.lt; exact Z0.but hB (by omega)
  replace Y3 : Lv M10.length M11.length M21 fun M => IntsO d3 M10.length M11.length M Yv3 := Y3.but hB (by omega)
  replace g : Lv M11.length M12.length M21 fun M => IntsO W M11.length M12.length M vg := g.but hB (by omega)
  clear Y1 hB
  have sn3 : d3.length ≤ 1048576 := by omega
  try simp (config := {implicitDefEqProofs := false, maxDischargeDepth := 20}) (disch := first | omega | (simp only [lenE]; done) | (simp only [lenE]; omega) | rfl | (simp only [lenE, markR_len]; done) | (simp only [lenE, markR_len]; omega)) only [runE, mapE, listE, initT_5, initT_6, initT_7, initT_8, resV, oneV, binA, unA, reduceCtorEq, Nat.reduceEqDiff, Nat.reduceAdd, Nat.reduceLT, Nat.reduceLeDiff, Nat.reduceMul, Nat.reduceSub, ↓reduceIte, decide_true, decide_false, Bool.true_eq_false, Bool.false_eq_true, Bool.not_true, Bool.not_false, if_true, if_false, and_true, true_and, memE, celE, w64, Nat.zero_add, Nat.add_zero, Nat.mul_one, putL, and_self, ldn, id_eq, ext_2_0, ext_2_1, ext_3_0, ext_3_1, ext_3_2, ext_4_0, ext_4_1, ext_4_2, ext_4_3, beq_self_eq_true, bne_self_eq_false, gt_iff_lt, X0.ld6, Z0.ld6]
  refine callH_ac (markIntsO_ac _ M10.length M11.length _ d3 _ Y3 (by omega) (by omega)) ?_
  rintro r M22 ⟨rfl, hB, -⟩
  have LM22 := hB.1
  replace C0 : Lv 0 M0.length M22 fun M => ProcA M (procV d0 u0) d0 := C0.but hB (by omega)
  replace C1 : Lv 0 M0.length M22 fun M => PairsA M v1 d1 := C1.but hB (by omega)
  replace C3 : Lv 0 M0.length M22 fun M => IntsA M v3 d3 := C3.but hB (by omega)
  replace X0 : BoxA M22 M0.length [.int .i64 d0.turns, u0, .int .i64 d0.setup, .int .i64 d0.unit, .int .i64 d0.hold, .int .i64 d0.back] := by have := X0.lt; exact X0.but hB (by omega)
  replace w : Lv M6.length M7.length M22 fun M => IntsO W M6.length M7.length M vw := w.but hB (by omega)
  replace Z0 : BoxA M22 M8.length [.int .i64 d0.turns, Yu0, .int .i64 d0.setup, .int .i64 d0.unit, .int .i64 d0.hold, .int .i64 d0.back] := by have := Z0.lt; exact Z0.but hB (by omega)
  replace g : Lv M11.length M12.length M22 fun M => IntsO W M11.length M12.length M vg := g.but hB (by omega)
  clear Y3 hB
  have hkk : ¬ (1 + (d0.w.length : Int) + (2 * (d1.length : Int)) + (d3.length : Int) < 0) := by omega
  try simp (config := {implicitDefEqProofs := false, maxDischargeDepth := 20}) (disch := first | omega | (simp only [lenE]; done) | (simp only [lenE]; omega) | rfl | (simp only [lenE, markR_len]; done) | (simp only [lenE, markR_len]; omega)) only [runE, mapE, listE, initT_5, initT_6, initT_7, initT_8, resV, oneV, binA, unA, reduceCtorEq, Nat.reduceEqDiff, Nat.reduceAdd, Nat.reduceLT, Nat.reduceLeDiff, Nat.reduceMul, Nat.reduceSub, ↓reduceIte, decide_true, decide_false, Bool.true_eq_false, Bool.false_eq_true, Bool.not_true, Bool.not_false, if_true, if_false, and_true, true_and, memE, celE, w64, Nat.zero_add, Nat.add_zero, Nat.mul_one, putL, and_self, ldn, id_eq, ext_2_0, ext_2_1, ext_3_0, ext_3_1, ext_3_2, ext_4_0, ext_4_1, ext_4_2, ext_4_3, beq_self_eq_true, bne_self_eq_false, gt_iff_lt, hkk, X0.ld6, Z0.ld6]
  try simp (config := {implicitDefEqProofs := false, maxDischargeDepth := 20}) (disch := first | omega | (simp only [lenE]; done) | (simp only [lenE]; omega) | rfl | (simp only [lenE, markR_len]; done) | (simp only [lenE, markR_len]; omega)) only [runE, mapE, listE, initT_5, initT_6, initT_7, initT_8, resV, oneV, binA, unA, reduceCtorEq, Nat.reduceEqDiff, Nat.reduceAdd, Nat.reduceLT, Nat.reduceLeDiff, Nat.reduceMul, Nat.reduceSub, ↓reduceIte, decide_true, decide_false, Bool.true_eq_false, Bool.false_eq_true, Bool.not_true, Bool.not_false, if_true, if_false, and_true, true_and, memE, celE, w64, Nat.zero_add, Nat.add_zero, Nat.mul_one, putL, and_self, ldn, id_eq, ext_2_0, ext_2_1, ext_3_0, ext_3_1, ext_3_2, ext_4_0, ext_4_1, ext_4_2, ext_4_3, beq_self_eq_true, bne_self_eq_false, gt_iff_lt, X0.ld6, Z0.ld6]
  have TT := eqIntsO_rc M22 _ _ W g.now.in w.now.in
  refine callH_rc TT ?_
  clear TT
  rintro r new ⟨rfl, nrn⟩
  obtain ⟨M23, hM23⟩ : ∃ M', M' = M22 ++ new := ⟨_, rfl⟩
  rw [← hM23]
  have LM23 : M23.length = M22.length + new.length := by rw [hM23, List.length_append]
  replace C0 : Lv 0 M0.length M23 fun M => ProcA M (procV d0 u0) d0 := by rw [hM23]; exact C0.ext _
  replace C1 : Lv 0 M0.length M23 fun M => PairsA M v1 d1 := by rw [hM23]; exact C1.ext _
  replace C3 : Lv 0 M0.length M23 fun M => IntsA M v3 d3 := by rw [hM23]; exact C3.ext _
  replace X0 : BoxA M23 M0.length [.int .i64 d0.turns, u0, .int .i64 d0.setup, .int .i64 d0.unit, .int .i64 d0.hold, .int .i64 d0.back] := by rw [hM23]; exact X0.ext _
  replace w : Lv M6.length M7.length M23 fun M => IntsO W M6.length M7.length M vw := by rw [hM23]; exact w.ext _
  replace Z0 : BoxA M23 M8.length [.int .i64 d0.turns, Yu0, .int .i64 d0.setup, .int .i64 d0.unit, .int .i64 d0.hold, .int .i64 d0.back] := by rw [hM23]; exact Z0.ext _
  replace g : Lv M11.length M12.length M23 fun M => IntsO W M11.length M12.length M vg := by rw [hM23]; exact g.ext _
  clear nrn
  try simp (config := {implicitDefEqProofs := false, maxDischargeDepth := 20}) (disch := first | omega | (simp only [lenE]; done) | (simp only [lenE]; omega) | rfl | (simp only [lenE, markR_len]; done) | (simp only [lenE, markR_len]; omega)) only [runE, mapE, listE, initT_5, initT_6, initT_7, initT_8, resV, oneV, binA, unA, reduceCtorEq, Nat.reduceEqDiff, Nat.reduceAdd, Nat.reduceLT, Nat.reduceLeDiff, Nat.reduceMul, Nat.reduceSub, ↓reduceIte, decide_true, decide_false, Bool.true_eq_false, Bool.false_eq_true, Bool.not_true, Bool.not_false, if_true, if_false, and_true, true_and, memE, celE, w64, Nat.zero_add, Nat.add_zero, Nat.mul_one, putL, and_self, ldn, id_eq, ext_2_0, ext_2_1, ext_3_0, ext_3_1, ext_3_2, ext_4_0, ext_4_1, ext_4_2, ext_4_3, beq_self_eq_true, bne_self_eq_false, gt_iff_lt, X0.ld6, Z0.ld6]
  refine callH_ac (markIntsO_ac _ M11.length M12.length _ W 1 g (by omega) (by omega)) ?_
  rintro r M24 ⟨rfl, hB, gm⟩
  have LM24 := hB.1
  have gsm := g.now.1
  replace C0 : Lv 0 M0.length M24 fun M => ProcA M (procV d0 u0) d0 := C0.but hB (by omega)
  replace C1 : Lv 0 M0.length M24 fun M => PairsA M v1 d1 := C1.but hB (by omega)
  replace C3 : Lv 0 M0.length M24 fun M => IntsA M v3 d3 := C3.but hB (by omega)
  replace X0 : BoxA M24 M0.length [.int .i64 d0.turns, u0, .int .i64 d0.setup, .int .i64 d0.unit, .int .i64 d0.hold, .int .i64 d0.back] := by have := X0.lt; exact X0.but hB (by omega)
  replace w : Lv M6.length M7.length M24 fun M => IntsO W M6.length M7.length M vw := w.but hB (by omega)
  replace Z0 : BoxA M24 M8.length [.int .i64 d0.turns, Yu0, .int .i64 d0.setup, .int .i64 d0.unit, .int .i64 d0.hold, .int .i64 d0.back] := by have := Z0.lt; exact Z0.but hB (by omega)
  clear g hB
  have hkq : ¬ (1 + (W.length : Int) < 0) := by omega
  try simp (config := {implicitDefEqProofs := false, maxDischargeDepth := 20}) (disch := first | omega | (simp only [lenE]; done) | (simp only [lenE]; omega) | rfl | (simp only [lenE, markR_len]; done) | (simp only [lenE, markR_len]; omega)) only [runE, mapE, listE, initT_5, initT_6, initT_7, initT_8, resV, oneV, binA, unA, reduceCtorEq, Nat.reduceEqDiff, Nat.reduceAdd, Nat.reduceLT, Nat.reduceLeDiff, Nat.reduceMul, Nat.reduceSub, ↓reduceIte, decide_true, decide_false, Bool.true_eq_false, Bool.false_eq_true, Bool.not_true, Bool.not_false, if_true, if_false, and_true, true_and, memE, celE, w64, Nat.zero_add, Nat.add_zero, Nat.mul_one, putL, and_self, ldn, id_eq, ext_2_0, ext_2_1, ext_3_0, ext_3_1, ext_3_2, ext_4_0, ext_4_1, ext_4_2, ext_4_3, beq_self_eq_true, bne_self_eq_false, gt_iff_lt, X0.ld6, Z0.ld6]
  refine callH_rc (heldIntsO_rc _ _ 1 W.length gm.now.in (by omega) (by omega) (by omega)) ?_
  rintro r new ⟨rfl, nrn⟩
  obtain ⟨M25, hM25⟩ : ∃ M', M' = M24 ++ new := ⟨_, rfl⟩
  rw [← hM25]
  have LM25 : M25.length = M24.length + new.length := by rw [hM25, List.length_append]
  replace C0 : Lv 0 M0.length M25 fun M => ProcA M (procV d0 u0) d0 := by rw [hM25]; exact C0.ext _
  replace C1 : Lv 0 M0.length M25 fun M => PairsA M v1 d1 := by rw [hM25]; exact C1.ext _
  replace C3 : Lv 0 M0.length M25 fun M => IntsA M v3 d3 := by rw [hM25]; exact C3.ext _
  replace X0 : BoxA M25 M0.length [.int .i64 d0.turns, u0, .int .i64 d0.setup, .int .i64 d0.unit, .int .i64 d0.hold, .int .i64 d0.back] := by rw [hM25]; exact X0.ext _
  replace w : Lv M6.length M7.length M25 fun M => IntsO W M6.length M7.length M vw := by rw [hM25]; exact w.ext _
  replace Z0 : BoxA M25 M8.length [.int .i64 d0.turns, Yu0, .int .i64 d0.setup, .int .i64 d0.unit, .int .i64 d0.hold, .int .i64 d0.back] := by rw [hM25]; exact Z0.ext _
  replace gm : Lv M11.length M12.length M25 fun M => IntsO (imarks 1 W.length) M11.length M12.length M vg := by rw [hM25]; exact gm.ext _
  clear nrn
  try simp (config := {implicitDefEqProofs := false, maxDischargeDepth := 20}) (disch := first | omega | (simp only [lenE]; done) | (simp only [lenE]; omega) | rfl | (simp only [lenE, markR_len]; done) | (simp only [lenE, markR_len]; omega)) only [runE, mapE, listE, initT_5, initT_6, initT_7, initT_8, resV, oneV, binA, unA, reduceCtorEq, Nat.reduceEqDiff, Nat.reduceAdd, Nat.reduceLT, Nat.reduceLeDiff, Nat.reduceMul, Nat.reduceSub, ↓reduceIte, decide_true, decide_false, Bool.true_eq_false, Bool.false_eq_true, Bool.not_true, Bool.not_false, if_true, if_false, and_true, true_and, memE, celE, w64, Nat.zero_add, Nat.add_zero, Nat.mul_one, putL, and_self, ldn, id_eq, ext_2_0, ext_2_1, ext_3_0, ext_3_1, ext_3_2, ext_4_0, ext_4_1, ext_4_2, ext_4_3, beq_self_eq_true, bne_self_eq_false, gt_iff_lt, hkq, X0.ld6, Z0.ld6]
  try simp (config := {implicitDefEqProofs := false, maxDischargeDepth := 20}) (disch := first | omega | (simp only [lenE]; done) | (simp only [lenE]; omega) | rfl | (simp only [lenE, markR_len]; done) | (simp only [lenE, markR_len]; omega)) only [runE, mapE, listE, initT_5, initT_6, initT_7, initT_8, resV, oneV, binA, unA, reduceCtorEq, Nat.reduceEqDiff, Nat.reduceAdd, Nat.reduceLT, Nat.reduceLeDiff, Nat.reduceMul, Nat.reduceSub, ↓reduceIte, decide_true, decide_false, Bool.true_eq_false, Bool.false_eq_true, Bool.not_true, Bool.not_false, if_true, if_false, and_true, true_and, memE, celE, w64, Nat.zero_add, Nat.add_zero, Nat.mul_one, putL, and_self, ldn, id_eq, ext_2_0, ext_2_1, ext_3_0, ext_3_1, ext_3_2, ext_4_0, ext_4_1, ext_4_2, ext_4_3, beq_self_eq_true, bne_self_eq_false, gt_iff_lt, X0.ld6, Z0.ld6]
  have TT := toProcess_rc M25 _ d0 C0.now hs0
  first | refine callH_rc TT ?_ | refine rcallH_rc TT ?_
  clear TT
  rintro r new ⟨nrn, Uv0, Uv0e, U0⟩
  rw [id_eq] at Uv0e
  subst r
  obtain ⟨M26, hM26⟩ : ∃ M', M' = M25 ++ new := ⟨_, rfl⟩
  rw [← hM26]
  have LM26 : M26.length = M25.length + new.length := by rw [hM26, List.length_append]
  replace C0 : Lv 0 M0.length M26 fun M => ProcA M (procV d0 u0) d0 := by rw [hM26]; exact C0.ext _
  replace C1 : Lv 0 M0.length M26 fun M => PairsA M v1 d1 := by rw [hM26]; exact C1.ext _
  replace C3 : Lv 0 M0.length M26 fun M => IntsA M v3 d3 := by rw [hM26]; exact C3.ext _
  replace X0 : BoxA M26 M0.length [.int .i64 d0.turns, u0, .int .i64 d0.setup, .int .i64 d0.unit, .int .i64 d0.hold, .int .i64 d0.back] := by rw [hM26]; exact X0.ext _
  replace w : Lv M6.length M7.length M26 fun M => IntsO W M6.length M7.length M vw := by rw [hM26]; exact w.ext _
  replace Z0 : BoxA M26 M8.length [.int .i64 d0.turns, Yu0, .int .i64 d0.setup, .int .i64 d0.unit, .int .i64 d0.hold, .int .i64 d0.back] := by rw [hM26]; exact Z0.ext _
  replace gm : Lv M11.length M12.length M26 fun M => IntsO (imarks 1 W.length) M11.length M12.length M vg := by rw [hM26]; exact gm.ext _
  clear nrn
  rw [← hM26, ← LM26] at U0
  obtain ⟨Uu0, rfl, -⟩ := U0.now
  change Lv M25.length M26.length M26 fun M => ProcO d0 M25.length M26.length M (procV d0 Uu0) at U0
  try simp (config := {implicitDefEqProofs := false, maxDischargeDepth := 20}) (disch := first | omega | (simp only [lenE]; done) | (simp only [lenE]; omega) | rfl | (simp only [lenE, markR_len]; done) | (simp only [lenE, markR_len]; omega)) only [runE, mapE, listE, initT_5, initT_6, initT_7, initT_8, resV, oneV, binA, unA, reduceCtorEq, Nat.reduceEqDiff, Nat.reduceAdd, Nat.reduceLT, Nat.reduceLeDiff, Nat.reduceMul, Nat.reduceSub, ↓reduceIte, decide_true, decide_false, Bool.true_eq_false, Bool.false_eq_true, Bool.not_true, Bool.not_false, if_true, if_false, and_true, true_and, memE, celE, w64, Nat.zero_add, Nat.add_zero, Nat.mul_one, putL, and_self, ldn, id_eq, ext_2_0, ext_2_1, ext_3_0, ext_3_1, ext_3_2, ext_4_0, ext_4_1, ext_4_2, ext_4_3, beq_self_eq_true, bne_self_eq_false, gt_iff_lt, X0.ld6, Z0.ld6]
  have TT := toIntA2S_rc M26 _ d1 C1.now hs1
  first | refine callH_rc TT ?_ | refine rcallH_rc TT ?_
  clear TT
  rintro r new ⟨nrn, Uv1, Uv1e, U1⟩
  rw [id_eq] at Uv1e
  subst r
  obtain ⟨M27, hM27⟩ : ∃ M', M' = M26 ++ new := ⟨_, rfl⟩
  rw [← hM27]
  have LM27 : M27.length = M26.length + new.length := by rw [hM27, List.length_append]
  replace C0 : Lv 0 M0.length M27 fun M => ProcA M (procV d0 u0) d0 := by rw [hM27]; exact C0.ext _
  replace C1 : Lv 0 M0.length M27 fun M => PairsA M v1 d1 := by rw [hM27]; exact C1.ext _
  replace C3 : Lv 0 M0.length M27 fun M => IntsA M v3 d3 := by rw [hM27]; exact C3.ext _
  replace X0 : BoxA M27 M0.length [.int .i64 d0.turns, u0, .int .i64 d0.setup, .int .i64 d0.unit, .int .i64 d0.hold, .int .i64 d0.back] := by rw [hM27]; exact X0.ext _
  replace w : Lv M6.length M7.length M27 fun M => IntsO W M6.length M7.length M vw := by rw [hM27]; exact w.ext _
  replace Z0 : BoxA M27 M8.length [.int .i64 d0.turns, Yu0, .int .i64 d0.setup, .int .i64 d0.unit, .int .i64 d0.hold, .int .i64 d0.back] := by rw [hM27]; exact Z0.ext _
  replace gm : Lv M11.length M12.length M27 fun M => IntsO (imarks 1 W.length) M11.length M12.length M vg := by rw [hM27]; exact gm.ext _
  replace U0 : Lv M25.length M26.length M27 fun M => ProcO d0 M25.length M26.length M (procV d0 Uu0) := by rw [hM27]; exact U0.ext _
  clear nrn
  rw [← hM27, ← LM27] at U1
  change Lv M26.length M27.length M27 fun M => PairsO 46 d1 M26.length M27.length M Uv1 at U1
  try simp (config := {implicitDefEqProofs := false, maxDischargeDepth := 20}) (disch := first | omega | (simp only [lenE]; done) | (simp only [lenE]; omega) | rfl | (simp only [lenE, markR_len]; done) | (simp only [lenE, markR_len]; omega)) only [runE, mapE, listE, initT_5, initT_6, initT_7, initT_8, resV, oneV, binA, unA, reduceCtorEq, Nat.reduceEqDiff, Nat.reduceAdd, Nat.reduceLT, Nat.reduceLeDiff, Nat.reduceMul, Nat.reduceSub, ↓reduceIte, decide_true, decide_false, Bool.true_eq_false, Bool.false_eq_true, Bool.not_true, Bool.not_false, if_true, if_false, and_true, true_and, memE, celE, w64, Nat.zero_add, Nat.add_zero, Nat.mul_one, putL, and_self, ldn, id_eq, ext_2_0, ext_2_1, ext_3_0, ext_3_1, ext_3_2, ext_4_0, ext_4_1, ext_4_2, ext_4_3, beq_self_eq_true, bne_self_eq_false, gt_iff_lt, X0.ld6, Z0.ld6]
  have TT := toIntsO_rc M27 _ d3 C3.now (by omega)
  first | refine callH_rc TT ?_ | refine rcallH_rc TT ?_
  clear TT
  rintro r new ⟨nrn, Uv3, Uv3e, U3⟩
  rw [id_eq] at Uv3e
  subst r
  obtain ⟨M28, hM28⟩ : ∃ M', M' = M27 ++ new := ⟨_, rfl⟩
  rw [← hM28]
  have LM28 : M28.length = M27.length + new.length := by rw [hM28, List.length_append]
  replace C0 : Lv 0 M0.length M28 fun M => ProcA M (procV d0 u0) d0 := by rw [hM28]; exact C0.ext _
  replace C1 : Lv 0 M0.length M28 fun M => PairsA M v1 d1 := by rw [hM28]; exact C1.ext _
  replace C3 : Lv 0 M0.length M28 fun M => IntsA M v3 d3 := by rw [hM28]; exact C3.ext _
  replace X0 : BoxA M28 M0.length [.int .i64 d0.turns, u0, .int .i64 d0.setup, .int .i64 d0.unit, .int .i64 d0.hold, .int .i64 d0.back] := by rw [hM28]; exact X0.ext _
  replace w : Lv M6.length M7.length M28 fun M => IntsO W M6.length M7.length M vw := by rw [hM28]; exact w.ext _
  replace Z0 : BoxA M28 M8.length [.int .i64 d0.turns, Yu0, .int .i64 d0.setup, .int .i64 d0.unit, .int .i64 d0.hold, .int .i64 d0.back] := by rw [hM28]; exact Z0.ext _
  replace gm : Lv M11.length M12.length M28 fun M => IntsO (imarks 1 W.length) M11.length M12.length M vg := by rw [hM28]; exact gm.ext _
  replace U0 : Lv M25.length M26.length M28 fun M => ProcO d0 M25.length M26.length M (procV d0 Uu0) := by rw [hM28]; exact U0.ext _
  replace U1 : Lv M26.length M27.length M28 fun M => PairsO 46 d1 M26.length M27.length M Uv1 := by rw [hM28]; exact U1.ext _
  clear nrn
  rw [← hM28, ← LM28] at U3
  change Lv M27.length M28.length M28 fun M => IntsO d3 M27.length M28.length M Uv3 at U3
  try simp (config := {implicitDefEqProofs := false, maxDischargeDepth := 20}) (disch := first | omega | (simp only [lenE]; done) | (simp only [lenE]; omega) | rfl | (simp only [lenE, markR_len]; done) | (simp only [lenE, markR_len]; omega)) only [runE, mapE, listE, initT_5, initT_6, initT_7, initT_8, resV, oneV, binA, unA, reduceCtorEq, Nat.reduceEqDiff, Nat.reduceAdd, Nat.reduceLT, Nat.reduceLeDiff, Nat.reduceMul, Nat.reduceSub, ↓reduceIte, decide_true, decide_false, Bool.true_eq_false, Bool.false_eq_true, Bool.not_true, Bool.not_false, if_true, if_false, and_true, true_and, memE, celE, w64, Nat.zero_add, Nat.add_zero, Nat.mul_one, putL, and_self, ldn, id_eq, ext_2_0, ext_2_1, ext_3_0, ext_3_1, ext_3_2, ext_4_0, ext_4_1, ext_4_2, ext_4_3, beq_self_eq_true, bne_self_eq_false, gt_iff_lt, X0.ld6, Z0.ld6]
  refine callH_rc (IMP _ _ _ _ U0.now.in U1.now.in U3.now.in) ?_
  rintro r new ⟨nrn, vh, rfl, h⟩
  obtain ⟨M29, hM29⟩ : ∃ M', M' = M28 ++ new := ⟨_, rfl⟩
  rw [← hM29]
  have LM29 : M29.length = M28.length + new.length := by rw [hM29, List.length_append]
  replace C0 : Lv 0 M0.length M29 fun M => ProcA M (procV d0 u0) d0 := by rw [hM29]; exact C0.ext _
  replace C1 : Lv 0 M0.length M29 fun M => PairsA M v1 d1 := by rw [hM29]; exact C1.ext _
  replace C3 : Lv 0 M0.length M29 fun M => IntsA M v3 d3 := by rw [hM29]; exact C3.ext _
  replace X0 : BoxA M29 M0.length [.int .i64 d0.turns, u0, .int .i64 d0.setup, .int .i64 d0.unit, .int .i64 d0.hold, .int .i64 d0.back] := by rw [hM29]; exact X0.ext _
  replace w : Lv M6.length M7.length M29 fun M => IntsO W M6.length M7.length M vw := by rw [hM29]; exact w.ext _
  replace Z0 : BoxA M29 M8.length [.int .i64 d0.turns, Yu0, .int .i64 d0.setup, .int .i64 d0.unit, .int .i64 d0.hold, .int .i64 d0.back] := by rw [hM29]; exact Z0.ext _
  replace gm : Lv M11.length M12.length M29 fun M => IntsO (imarks 1 W.length) M11.length M12.length M vg := by rw [hM29]; exact gm.ext _
  replace U0 : Lv M25.length M26.length M29 fun M => ProcO d0 M25.length M26.length M (procV d0 Uu0) := by rw [hM29]; exact U0.ext _
  replace U1 : Lv M26.length M27.length M29 fun M => PairsO 46 d1 M26.length M27.length M Uv1 := by rw [hM29]; exact U1.ext _
  replace U3 : Lv M27.length M28.length M29 fun M => IntsO d3 M27.length M28.length M Uv3 := by rw [hM29]; exact U3.ext _
  clear nrn
  rw [← hM29, ← LM29] at h
  clear U0
  clear U1
  clear U3
  try simp (config := {implicitDefEqProofs := false, maxDischargeDepth := 20}) (disch := first | omega | (simp only [lenE]; done) | (simp only [lenE]; omega) | rfl | (simp only [lenE, markR_len]; done) | (simp only [lenE, markR_len]; omega)) only [runE, mapE, listE, initT_5, initT_6, initT_7, initT_8, resV, oneV, binA, unA, reduceCtorEq, Nat.reduceEqDiff, Nat.reduceAdd, Nat.reduceLT, Nat.reduceLeDiff, Nat.reduceMul, Nat.reduceSub, ↓reduceIte, decide_true, decide_false, Bool.true_eq_false, Bool.false_eq_true, Bool.not_true, Bool.not_false, if_true, if_false, and_true, true_and, memE, celE, w64, Nat.zero_add, Nat.add_zero, Nat.mul_one, putL, and_self, ldn, id_eq, ext_2_0, ext_2_1, ext_3_0, ext_3_1, ext_3_2, ext_4_0, ext_4_1, ext_4_2, ext_4_3, beq_self_eq_true, bne_self_eq_false, gt_iff_lt, X0.ld6, Z0.ld6]
  have TT := eqIntsO_rc M29 _ _ W h.now.in w.now.in
  refine callH_rc TT ?_
  clear TT
  rintro r new ⟨rfl, nrn⟩
  obtain ⟨M30, hM30⟩ : ∃ M', M' = M29 ++ new := ⟨_, rfl⟩
  rw [← hM30]
  have LM30 : M30.length = M29.length + new.length := by rw [hM30, List.length_append]
  replace C0 : Lv 0 M0.length M30 fun M => ProcA M (procV d0 u0) d0 := by rw [hM30]; exact C0.ext _
  replace C1 : Lv 0 M0.length M30 fun M => PairsA M v1 d1 := by rw [hM30]; exact C1.ext _
  replace C3 : Lv 0 M0.length M30 fun M => IntsA M v3 d3 := by rw [hM30]; exact C3.ext _
  replace X0 : BoxA M30 M0.length [.int .i64 d0.turns, u0, .int .i64 d0.setup, .int .i64 d0.unit, .int .i64 d0.hold, .int .i64 d0.back] := by rw [hM30]; exact X0.ext _
  replace w : Lv M6.length M7.length M30 fun M => IntsO W M6.length M7.length M vw := by rw [hM30]; exact w.ext _
  replace Z0 : BoxA M30 M8.length [.int .i64 d0.turns, Yu0, .int .i64 d0.setup, .int .i64 d0.unit, .int .i64 d0.hold, .int .i64 d0.back] := by rw [hM30]; exact Z0.ext _
  replace gm : Lv M11.length M12.length M30 fun M => IntsO (imarks 1 W.length) M11.length M12.length M vg := by rw [hM30]; exact gm.ext _
  replace h : Lv M28.length M29.length M30 fun M => IntsO W M28.length M29.length M vh := by rw [hM30]; exact h.ext _
  clear nrn
  try simp (config := {implicitDefEqProofs := false, maxDischargeDepth := 20}) (disch := first | omega | (simp only [lenE]; done) | (simp only [lenE]; omega) | rfl | (simp only [lenE, markR_len]; done) | (simp only [lenE, markR_len]; omega)) only [runE, mapE, listE, initT_5, initT_6, initT_7, initT_8, resV, oneV, binA, unA, reduceCtorEq, Nat.reduceEqDiff, Nat.reduceAdd, Nat.reduceLT, Nat.reduceLeDiff, Nat.reduceMul, Nat.reduceSub, ↓reduceIte, decide_true, decide_false, Bool.true_eq_false, Bool.false_eq_true, Bool.not_true, Bool.not_false, if_true, if_false, and_true, true_and, memE, celE, w64, Nat.zero_add, Nat.add_zero, Nat.mul_one, putL, and_self, ldn, id_eq, ext_2_0, ext_2_1, ext_3_0, ext_3_1, ext_3_2, ext_4_0, ext_4_1, ext_4_2, ext_4_3, beq_self_eq_true, bne_self_eq_false, gt_iff_lt, X0.ld6, Z0.ld6]
  try simp (config := {implicitDefEqProofs := false, maxDischargeDepth := 20}) (disch := first | omega | (simp only [lenE]; done) | (simp only [lenE]; omega) | rfl | (simp only [lenE, markR_len]; done) | (simp only [lenE, markR_len]; omega)) only [runE, mapE, listE, initT_5, initT_6, initT_7, initT_8, resV, oneV, binA, unA, reduceCtorEq, Nat.reduceEqDiff, Nat.reduceAdd, Nat.reduceLT, Nat.reduceLeDiff, Nat.reduceMul, Nat.reduceSub, ↓reduceIte, decide_true, decide_false, Bool.true_eq_false, Bool.false_eq_true, Bool.not_true, Bool.not_false, if_true, if_false, and_true, true_and, memE, celE, w64, Nat.zero_add, Nat.add_zero, Nat.mul_one, putL, and_self, ldn, id_eq, ext_2_0, ext_2_1, ext_3_0, ext_3_1, ext_3_2, ext_4_0, ext_4_1, ext_4_2, ext_4_3, beq_self_eq_true, bne_self_eq_false, gt_iff_lt, X0.ld6, Z0.ld6]
  refine callH_rc (heldIntsO_rc _ _ 1 W.length gm.now.in (by omega) (by omega) (by omega)) ?_
  rintro r new ⟨rfl, nrn⟩
  obtain ⟨M31, hM31⟩ : ∃ M', M' = M30 ++ new := ⟨_, rfl⟩
  rw [← hM31]
  have LM31 : M31.length = M30.length + new.length := by rw [hM31, List.length_append]
  replace C0 : Lv 0 M0.length M31 fun M => ProcA M (procV d0 u0) d0 := by rw [hM31]; exact C0.ext _
  replace C1 : Lv 0 M0.length M31 fun M => PairsA M v1 d1 := by rw [hM31]; exact C1.ext _
  replace C3 : Lv 0 M0.length M31 fun M => IntsA M v3 d3 := by rw [hM31]; exact C3.ext _
  replace X0 : BoxA M31 M0.length [.int .i64 d0.turns, u0, .int .i64 d0.setup, .int .i64 d0.unit, .int .i64 d0.hold, .int .i64 d0.back] := by rw [hM31]; exact X0.ext _
  replace w : Lv M6.length M7.length M31 fun M => IntsO W M6.length M7.length M vw := by rw [hM31]; exact w.ext _
  replace Z0 : BoxA M31 M8.length [.int .i64 d0.turns, Yu0, .int .i64 d0.setup, .int .i64 d0.unit, .int .i64 d0.hold, .int .i64 d0.back] := by rw [hM31]; exact Z0.ext _
  replace gm : Lv M11.length M12.length M31 fun M => IntsO (imarks 1 W.length) M11.length M12.length M vg := by rw [hM31]; exact gm.ext _
  replace h : Lv M28.length M29.length M31 fun M => IntsO W M28.length M29.length M vh := by rw [hM31]; exact h.ext _
  clear nrn
  try simp (config := {implicitDefEqProofs := false, maxDischargeDepth := 20}) (disch := first | omega | (simp only [lenE]; done) | (simp only [lenE]; omega) | rfl | (simp only [lenE, markR_len]; done) | (simp only [lenE, markR_len]; omega)) only [runE, mapE, listE, initT_5, initT_6, initT_7, initT_8, resV, oneV, binA, unA, reduceCtorEq, Nat.reduceEqDiff, Nat.reduceAdd, Nat.reduceLT, Nat.reduceLeDiff, Nat.reduceMul, Nat.reduceSub, ↓reduceIte, decide_true, decide_false, Bool.true_eq_false, Bool.false_eq_true, Bool.not_true, Bool.not_false, if_true, if_false, and_true, true_and, memE, celE, w64, Nat.zero_add, Nat.add_zero, Nat.mul_one, putL, and_self, ldn, id_eq, ext_2_0, ext_2_1, ext_3_0, ext_3_1, ext_3_2, ext_4_0, ext_4_1, ext_4_2, ext_4_3, beq_self_eq_true, bne_self_eq_false, gt_iff_lt, hkq, X0.ld6, Z0.ld6]
end Go.Proofs.Ytddnedngjijpoaa.Ab
