/- FnExactFamilyCost: its running over abstract memory. -/
import Derived.Test.YtmjnjhdacliieaaAbFam2
import Derived.Test.YtmjnjhdacliieaaAbMarks
import Derived.Test.YtmjnjhdacliieaaAbBox
import Derived.Test.YtmjnjhdacliieaaAbArg
import Derived.Test.YtmjnjhdacliieaaCodLFamilyCost
namespace Go.Proofs.Ytmjnjhdacliieaa.Ab
open Go Go.RowKit
set_option linter.unusedVariables false
set_option linter.unusedSimpArgs false
set_option maxRecDepth 100000

set_option maxHeartbeats 4000000 in
theorem law_FnExactFamilyCost (M0 : Mem) (d0 : List It) (v0 : Value) (d1 : Int) (d2 : Int) (d3 : List Int) (v3 : Value) (A0 : ItemsA M0 v0 d0) (A3 : IntsA M0 v3 d3) :
    AC Try.prog 7 [v0, .int .i64 d1, .int .i64 d2, v3] M0 fun r _ => r = .bool true := by
  refine ac_of_run mixed ok_laws_FnExactFamilyCost (by simp) (go_start _ _ _ ?_)
  have len3 := A3.len
  have bd3 := A3.bd
  have C0 : Lv 0 M0.length M0 fun M => ItemsA M v0 d0 := Lv.all fun new => A0.ext new
  have C3 : Lv 0 M0.length M0 fun M => IntsA M v3 d3 := Lv.all fun new => A3.ext new
  by_cases s3 : 1048576 < d3.length
  · have s3' : (1048576 : Int) < d3.length := by omega
    try simp (config := {implicitDefEqProofs := false, maxDischargeDepth := 20}) (disch := first | omega | (simp only [lenE]; done) | (simp only [lenE]; omega) | rfl | (simp only [lenE, markR_len]; done) | (simp only [lenE, markR_len]; omega)) only [runE, mapE, listE, initT_5, initT_6, initT_7, initT_8, resV, oneV, binA, unA, reduceCtorEq, Nat.reduceEqDiff, Nat.reduceAdd, Nat.reduceLT, Nat.reduceLeDiff, Nat.reduceMul, Nat.reduceSub, ↓reduceIte, decide_true, decide_false, Bool.true_eq_false, Bool.false_eq_true, Bool.not_true, Bool.not_false, if_true, if_false, and_true, true_and, memE, celE, w64, Nat.zero_add, Nat.add_zero, Nat.mul_one, putL, and_self, ldn, c_laws_FnExactFamilyCost, r_laws_FnExactFamilyCost, id_eq, ext_2_0, ext_2_1, ext_3_0, ext_3_1, ext_3_2, ext_4_0, ext_4_1, ext_4_2, ext_4_3, beq_self_eq_true, bne_self_eq_false, gt_iff_lt, s3', len3]
    done
  have s3' : ¬ ((1048576 : Int) < d3.length) := by omega
  try simp (config := {implicitDefEqProofs := false, maxDischargeDepth := 20}) (disch := first | omega | (simp only [lenE]; done) | (simp only [lenE]; omega) | rfl | (simp only [lenE, markR_len]; done) | (simp only [lenE, markR_len]; omega)) only [runE, mapE, listE, initT_5, initT_6, initT_7, initT_8, resV, oneV, binA, unA, reduceCtorEq, Nat.reduceEqDiff, Nat.reduceAdd, Nat.reduceLT, Nat.reduceLeDiff, Nat.reduceMul, Nat.reduceSub, ↓reduceIte, decide_true, decide_false, Bool.true_eq_false, Bool.false_eq_true, Bool.not_true, Bool.not_false, if_true, if_false, and_true, true_and, memE, celE, w64, Nat.zero_add, Nat.add_zero, Nat.mul_one, putL, and_self, ldn, c_laws_FnExactFamilyCost, r_laws_FnExactFamilyCost, id_eq, ext_2_0, ext_2_1, ext_3_0, ext_3_1, ext_3_2, ext_4_0, ext_4_1, ext_4_2, ext_4_3, beq_self_eq_true, bne_self_eq_false, gt_iff_lt, s3', len3]
  try simp (config := {implicitDefEqProofs := false, maxDischargeDepth := 20}) (disch := first | omega | (simp only [lenE]; done) | (simp only [lenE]; omega) | rfl | (simp only [lenE, markR_len]; done) | (simp only [lenE, markR_len]; omega)) only [runE, mapE, listE, initT_5, initT_6, initT_7, initT_8, resV, oneV, binA, unA, reduceCtorEq, Nat.reduceEqDiff, Nat.reduceAdd, Nat.reduceLT, Nat.reduceLeDiff, Nat.reduceMul, Nat.reduceSub, ↓reduceIte, decide_true, decide_false, Bool.true_eq_false, Bool.false_eq_true, Bool.not_true, Bool.not_false, if_true, if_false, and_true, true_and, memE, celE, w64, Nat.zero_add, Nat.add_zero, Nat.mul_one, putL, and_self, ldn, id_eq, ext_2_0, ext_2_1, ext_3_0, ext_3_1, ext_3_2, ext_4_0, ext_4_1, ext_4_2, ext_4_3, beq_self_eq_true, bne_self_eq_false, gt_iff_lt]
  refine callH_rc (szItemS_rc _ _ d0 1048576 C0.now (by omega) (by omega)) ?_
  rintro r new ⟨nrn, rfl | ⟨z1, za1, zb1, rfl, hs0⟩⟩
  · simp (config := {implicitDefEqProofs := false, maxDischargeDepth := 20}) (disch := first | omega | (simp only [lenE]; done) | (simp only [lenE]; omega) | rfl | (simp only [lenE, markR_len]; done) | (simp only [lenE, markR_len]; omega)) only [runE, mapE, listE, initT_5, initT_6, initT_7, initT_8, resV, oneV, binA, unA, reduceCtorEq, Nat.reduceEqDiff, Nat.reduceAdd, Nat.reduceLT, Nat.reduceLeDiff, Nat.reduceMul, Nat.reduceSub, ↓reduceIte, decide_true, decide_false, Bool.true_eq_false, Bool.false_eq_true, Bool.not_true, Bool.not_false, if_true, if_false, and_true, true_and, memE, celE, w64, Nat.zero_add, Nat.add_zero, Nat.mul_one, putL, and_self, ldn, show ((-1 : Int) < 0) = True by simp]
  have zc1 : ¬ (z1 < 0) := by omega
  obtain ⟨M1, hM1⟩ : ∃ M', M' = M0 ++ new := ⟨_, rfl⟩
  rw [← hM1]
  have LM1 : M1.length = M0.length + new.length := by rw [hM1, List.length_append]
  replace C0 : Lv 0 M0.length M1 fun M => ItemsA M v0 d0 := by rw [hM1]; exact C0.ext _
  replace C3 : Lv 0 M0.length M1 fun M => IntsA M v3 d3 := by rw [hM1]; exact C3.ext _
  clear nrn
  try simp (config := {implicitDefEqProofs := false, maxDischargeDepth := 20}) (disch := first | omega | (simp only [lenE]; done) | (simp only [lenE]; omega) | rfl | (simp only [lenE, markR_len]; done) | (simp only [lenE, markR_len]; omega)) only [runE, mapE, listE, initT_5, initT_6, initT_7, initT_8, resV, oneV, binA, unA, reduceCtorEq, Nat.reduceEqDiff, Nat.reduceAdd, Nat.reduceLT, Nat.reduceLeDiff, Nat.reduceMul, Nat.reduceSub, ↓reduceIte, decide_true, decide_false, Bool.true_eq_false, Bool.false_eq_true, Bool.not_true, Bool.not_false, if_true, if_false, and_true, true_and, memE, celE, w64, Nat.zero_add, Nat.add_zero, Nat.mul_one, putL, and_self, ldn, id_eq, ext_2_0, ext_2_1, ext_3_0, ext_3_1, ext_3_2, ext_4_0, ext_4_1, ext_4_2, ext_4_3, beq_self_eq_true, bne_self_eq_false, gt_iff_lt, zc1]
  obtain ⟨q0, hq0⟩ : ∃ q : Int × Int, q = (famCost d0 d1 d2 d3) := ⟨_, rfl⟩
  obtain ⟨q1, hq1⟩ : ∃ q : Bool, q = (famOk d0 d1 d2 d3) := ⟨_, rfl⟩
  have SPC := fun m u0 u3 => specFamilyCost_rc m u0 u3 d0 d1 d2 d3
  have IMP := fun m u0 u3 => implFamilyCost_rc m u0 u3 d0 d1 d2 d3
  try rw [← hq0] at SPC
  try rw [← hq0] at IMP
  try rw [← hq1] at SPC
  try rw [← hq1] at IMP
  try simp (config := {implicitDefEqProofs := false, maxDischargeDepth := 20}) (disch := first | omega | (simp only [lenE]; done) | (simp only [lenE]; omega) | rfl | (simp only [lenE, markR_len]; done) | (simp only [lenE, markR_len]; omega)) only [runE, mapE, listE, initT_5, initT_6, initT_7, initT_8, resV, oneV, binA, unA, reduceCtorEq, Nat.reduceEqDiff, Nat.reduceAdd, Nat.reduceLT, Nat.reduceLeDiff, Nat.reduceMul, Nat.reduceSub, ↓reduceIte, decide_true, decide_false, Bool.true_eq_false, Bool.false_eq_true, Bool.not_true, Bool.not_false, if_true, if_false, and_true, true_and, memE, celE, w64, Nat.zero_add, Nat.add_zero, Nat.mul_one, putL, and_self, ldn, id_eq, ext_2_0, ext_2_1, ext_3_0, ext_3_1, ext_3_2, ext_4_0, ext_4_1, ext_4_2, ext_4_3, beq_self_eq_true, bne_self_eq_false, gt_iff_lt]
  have TT := toItemS_rc M1 _ d0 C0.now hs0
  first | refine callH_rc TT ?_ | refine rcallH_rc TT ?_
  clear TT
  rintro r new ⟨nrn, Sv0, Sv0e, S0⟩
  rw [id_eq] at Sv0e
  subst r
  obtain ⟨M2, hM2⟩ : ∃ M', M' = M1 ++ new := ⟨_, rfl⟩
  rw [← hM2]
  have LM2 : M2.length = M1.length + new.length := by rw [hM2, List.length_append]
  replace C0 : Lv 0 M0.length M2 fun M => ItemsA M v0 d0 := by rw [hM2]; exact C0.ext _
  replace C3 : Lv 0 M0.length M2 fun M => IntsA M v3 d3 := by rw [hM2]; exact C3.ext _
  clear nrn
  rw [← hM2, ← LM2] at S0
  change Lv M1.length M2.length M2 fun M => ItemsO 25 d0 M1.length M2.length M Sv0 at S0
  try simp (config := {implicitDefEqProofs := false, maxDischargeDepth := 20}) (disch := first | omega | (simp only [lenE]; done) | (simp only [lenE]; omega) | rfl | (simp only [lenE, markR_len]; done) | (simp only [lenE, markR_len]; omega)) only [runE, mapE, listE, initT_5, initT_6, initT_7, initT_8, resV, oneV, binA, unA, reduceCtorEq, Nat.reduceEqDiff, Nat.reduceAdd, Nat.reduceLT, Nat.reduceLeDiff, Nat.reduceMul, Nat.reduceSub, ↓reduceIte, decide_true, decide_false, Bool.true_eq_false, Bool.false_eq_true, Bool.not_true, Bool.not_false, if_true, if_false, and_true, true_and, memE, celE, w64, Nat.zero_add, Nat.add_zero, Nat.mul_one, putL, and_self, ldn, id_eq, ext_2_0, ext_2_1, ext_3_0, ext_3_1, ext_3_2, ext_4_0, ext_4_1, ext_4_2, ext_4_3, beq_self_eq_true, bne_self_eq_false, gt_iff_lt]
  have TT := toIntsO_rc M2 _ d3 C3.now (by omega)
  first | refine callH_rc TT ?_ | refine rcallH_rc TT ?_
  clear TT
  rintro r new ⟨nrn, Sv3, Sv3e, S3⟩
  rw [id_eq] at Sv3e
  subst r
  obtain ⟨M3, hM3⟩ : ∃ M', M' = M2 ++ new := ⟨_, rfl⟩
  rw [← hM3]
  have LM3 : M3.length = M2.length + new.length := by rw [hM3, List.length_append]
  replace C0 : Lv 0 M0.length M3 fun M => ItemsA M v0 d0 := by rw [hM3]; exact C0.ext _
  replace C3 : Lv 0 M0.length M3 fun M => IntsA M v3 d3 := by rw [hM3]; exact C3.ext _
  replace S0 : Lv M1.length M2.length M3 fun M => ItemsO 25 d0 M1.length M2.length M Sv0 := by rw [hM3]; exact S0.ext _
  clear nrn
  rw [← hM3, ← LM3] at S3
  change Lv M2.length M3.length M3 fun M => IntsO d3 M2.length M3.length M Sv3 at S3
  try simp (config := {implicitDefEqProofs := false, maxDischargeDepth := 20}) (disch := first | omega | (simp only [lenE]; done) | (simp only [lenE]; omega) | rfl | (simp only [lenE, markR_len]; done) | (simp only [lenE, markR_len]; omega)) only [runE, mapE, listE, initT_5, initT_6, initT_7, initT_8, resV, oneV, binA, unA, reduceCtorEq, Nat.reduceEqDiff, Nat.reduceAdd, Nat.reduceLT, Nat.reduceLeDiff, Nat.reduceMul, Nat.reduceSub, ↓reduceIte, decide_true, decide_false, Bool.true_eq_false, Bool.false_eq_true, Bool.not_true, Bool.not_false, if_true, if_false, and_true, true_and, memE, celE, w64, Nat.zero_add, Nat.add_zero, Nat.mul_one, putL, and_self, ldn, id_eq, ext_2_0, ext_2_1, ext_3_0, ext_3_1, ext_3_2, ext_4_0, ext_4_1, ext_4_2, ext_4_3, beq_self_eq_true, bne_self_eq_false, gt_iff_lt]
  refine callH_rc (SPC _ _ _ S0.now.in S3.now.in) ?_
  rintro r new ⟨rfl, nrn⟩
  obtain ⟨M4, hM4⟩ : ∃ M', M' = M3 ++ new := ⟨_, rfl⟩
  rw [← hM4]
  have LM4 : M4.length = M3.length + new.length := by rw [hM4, List.length_append]
  replace C0 : Lv 0 M0.length M4 fun M => ItemsA M v0 d0 := by rw [hM4]; exact C0.ext _
  replace C3 : Lv 0 M0.length M4 fun M => IntsA M v3 d3 := by rw [hM4]; exact C3.ext _
  replace S0 : Lv M1.length M2.length M4 fun M => ItemsO 25 d0 M1.length M2.length M Sv0 := by rw [hM4]; exact S0.ext _
  replace S3 : Lv M2.length M3.length M4 fun M => IntsO d3 M2.length M3.length M Sv3 := by rw [hM4]; exact S3.ext _
  clear nrn
  try simp (config := {implicitDefEqProofs := false, maxDischargeDepth := 20}) (disch := first | omega | (simp only [lenE]; done) | (simp only [lenE]; omega) | rfl | (simp only [lenE, markR_len]; done) | (simp only [lenE, markR_len]; omega)) only [runE, mapE, listE, initT_5, initT_6, initT_7, initT_8, resV, oneV, binA, unA, reduceCtorEq, Nat.reduceEqDiff, Nat.reduceAdd, Nat.reduceLT, Nat.reduceLeDiff, Nat.reduceMul, Nat.reduceSub, ↓reduceIte, decide_true, decide_false, Bool.true_eq_false, Bool.false_eq_true, Bool.not_true, Bool.not_false, if_true, if_false, and_true, true_and, memE, celE, w64, Nat.zero_add, Nat.add_zero, Nat.mul_one, putL, and_self, ldn, id_eq, ext_2_0, ext_2_1, ext_3_0, ext_3_1, ext_3_2, ext_4_0, ext_4_1, ext_4_2, ext_4_3, beq_self_eq_true, bne_self_eq_false, gt_iff_lt, frV, stP_agg2]
  obtain ⟨M5, hM5⟩ : ∃ M', M' = M4 ++ [⟨.own, 28, [.int .i64 q0.1, .int .i64 q0.2]⟩] := ⟨_, rfl⟩
  rw [← hM5]
  have LM5 : M5.length = M4.length + 1 := by rw [hM5, List.length_append]; rfl
  replace C0 : Lv 0 M0.length M5 fun M => ItemsA M v0 d0 := by rw [hM5]; exact C0.ext _
  replace C3 : Lv 0 M0.length M5 fun M => IntsA M v3 d3 := by rw [hM5]; exact C3.ext _
  replace S0 : Lv M1.length M2.length M5 fun M => ItemsO 25 d0 M1.length M2.length M Sv0 := by rw [hM5]; exact S0.ext _
  replace S3 : Lv M2.length M3.length M5 fun M => IntsO d3 M2.length M3.length M Sv3 := by rw [hM5]; exact S3.ext _
  have Bw : BoxA M5 M4.length [.int .i64 q0.1, .int .i64 q0.2] := by rw [hM5]; exact BoxA.here _ _ _ rfl
  clear S0
  clear S3
  try simp (config := {implicitDefEqProofs := false, maxDischargeDepth := 20}) (disch := first | omega | (simp only [lenE]; done) | (simp only [lenE]; omega) | rfl | (simp only [lenE, markR_len]; done) | (simp only [lenE, markR_len]; omega)) only [runE, mapE, listE, initT_5, initT_6, initT_7, initT_8, resV, oneV, binA, unA, reduceCtorEq, Nat.reduceEqDiff, Nat.reduceAdd, Nat.reduceLT, Nat.reduceLeDiff, Nat.reduceMul, Nat.reduceSub, ↓reduceIte, decide_true, decide_false, Bool.true_eq_false, Bool.false_eq_true, Bool.not_true, Bool.not_false, if_true, if_false, and_true, true_and, memE, celE, w64, Nat.zero_add, Nat.add_zero, Nat.mul_one, putL, and_self, ldn, id_eq, ext_2_0, ext_2_1, ext_3_0, ext_3_1, ext_3_2, ext_4_0, ext_4_1, ext_4_2, ext_4_3, beq_self_eq_true, bne_self_eq_false, gt_iff_lt, Bw.ld2]
  have TT := toItemS_rc M5 _ d0 C0.now hs0
  first | refine callH_rc TT ?_ | refine rcallH_rc TT ?_
  clear TT
  rintro r new ⟨nrn, Yv0, Yv0e, Y0⟩
  rw [id_eq] at Yv0e
  subst r
  obtain ⟨M6, hM6⟩ : ∃ M', M' = M5 ++ new := ⟨_, rfl⟩
  rw [← hM6]
  have LM6 : M6.length = M5.length + new.length := by rw [hM6, List.length_append]
  replace C0 : Lv 0 M0.length M6 fun M => ItemsA M v0 d0 := by rw [hM6]; exact C0.ext _
  replace C3 : Lv 0 M0.length M6 fun M => IntsA M v3 d3 := by rw [hM6]; exact C3.ext _
  replace Bw : BoxA M6 M4.length [.int .i64 q0.1, .int .i64 q0.2] := by rw [hM6]; exact Bw.ext _
  clear nrn
  rw [← hM6, ← LM6] at Y0
  change Lv M5.length M6.length M6 fun M => ItemsO 25 d0 M5.length M6.length M Yv0 at Y0
  try simp (config := {implicitDefEqProofs := false, maxDischargeDepth := 20}) (disch := first | omega | (simp only [lenE]; done) | (simp only [lenE]; omega) | rfl | (simp only [lenE, markR_len]; done) | (simp only [lenE, markR_len]; omega)) only [runE, mapE, listE, initT_5, initT_6, initT_7, initT_8, resV, oneV, binA, unA, reduceCtorEq, Nat.reduceEqDiff, Nat.reduceAdd, Nat.reduceLT, Nat.reduceLeDiff, Nat.reduceMul, Nat.reduceSub, ↓reduceIte, decide_true, decide_false, Bool.true_eq_false, Bool.false_eq_true, Bool.not_true, Bool.not_false, if_true, if_false, and_true, true_and, memE, celE, w64, Nat.zero_add, Nat.add_zero, Nat.mul_one, putL, and_self, ldn, id_eq, ext_2_0, ext_2_1, ext_3_0, ext_3_1, ext_3_2, ext_4_0, ext_4_1, ext_4_2, ext_4_3, beq_self_eq_true, bne_self_eq_false, gt_iff_lt, Bw.ld2]
  have TT := toIntsO_rc M6 _ d3 C3.now (by omega)
  first | refine callH_rc TT ?_ | refine rcallH_rc TT ?_
  clear TT
  rintro r new ⟨nrn, Yv3, Yv3e, Y3⟩
  rw [id_eq] at Yv3e
  subst r
  obtain ⟨M7, hM7⟩ : ∃ M', M' = M6 ++ new := ⟨_, rfl⟩
  rw [← hM7]
  have LM7 : M7.length = M6.length + new.length := by rw [hM7, List.length_append]
  replace C0 : Lv 0 M0.length M7 fun M => ItemsA M v0 d0 := by rw [hM7]; exact C0.ext _
  replace C3 : Lv 0 M0.length M7 fun M => IntsA M v3 d3 := by rw [hM7]; exact C3.ext _
  replace Bw : BoxA M7 M4.length [.int .i64 q0.1, .int .i64 q0.2] := by rw [hM7]; exact Bw.ext _
  replace Y0 : Lv M5.length M6.length M7 fun M => ItemsO 25 d0 M5.length M6.length M Yv0 := by rw [hM7]; exact Y0.ext _
  clear nrn
  rw [← hM7, ← LM7] at Y3
  change Lv M6.length M7.length M7 fun M => IntsO d3 M6.length M7.length M Yv3 at Y3
  try simp (config := {implicitDefEqProofs := false, maxDischargeDepth := 20}) (disch := first | omega | (simp only [lenE]; done) | (simp only [lenE]; omega) | rfl | (simp only [lenE, markR_len]; done) | (simp only [lenE, markR_len]; omega)) only [runE, mapE, listE, initT_5, initT_6, initT_7, initT_8, resV, oneV, binA, unA, reduceCtorEq, Nat.reduceEqDiff, Nat.reduceAdd, Nat.reduceLT, Nat.reduceLeDiff, Nat.reduceMul, Nat.reduceSub, ↓reduceIte, decide_true, decide_false, Bool.true_eq_false, Bool.false_eq_true, Bool.not_true, Bool.not_false, if_true, if_false, and_true, true_and, memE, celE, w64, Nat.zero_add, Nat.add_zero, Nat.mul_one, putL, and_self, ldn, id_eq, ext_2_0, ext_2_1, ext_3_0, ext_3_1, ext_3_2, ext_4_0, ext_4_1, ext_4_2, ext_4_3, beq_self_eq_true, bne_self_eq_false, gt_iff_lt, Bw.ld2]
  refine callH_rc (IMP _ _ _ Y0.now.in Y3.now.in) ?_
  rintro r new ⟨rfl, nrn⟩
  obtain ⟨M8, hM8⟩ : ∃ M', M' = M7 ++ new := ⟨_, rfl⟩
  rw [← hM8]
  have LM8 : M8.length = M7.length + new.length := by rw [hM8, List.length_append]
  replace C0 : Lv 0 M0.length M8 fun M => ItemsA M v0 d0 := by rw [hM8]; exact C0.ext _
  replace C3 : Lv 0 M0.length M8 fun M => IntsA M v3 d3 := by rw [hM8]; exact C3.ext _
  replace Bw : BoxA M8 M4.length [.int .i64 q0.1, .int .i64 q0.2] := by rw [hM8]; exact Bw.ext _
  replace Y0 : Lv M5.length M6.length M8 fun M => ItemsO 25 d0 M5.length M6.length M Yv0 := by rw [hM8]; exact Y0.ext _
  replace Y3 : Lv M6.length M7.length M8 fun M => IntsO d3 M6.length M7.length M Yv3 := by rw [hM8]; exact Y3.ext _
  clear nrn
  try simp (config := {implicitDefEqProofs := false, maxDischargeDepth := 20}) (disch := first | omega | (simp only [lenE]; done) | (simp only [lenE]; omega) | rfl | (simp only [lenE, markR_len]; done) | (simp only [lenE, markR_len]; omega)) only [runE, mapE, listE, initT_5, initT_6, initT_7, initT_8, resV, oneV, binA, unA, reduceCtorEq, Nat.reduceEqDiff, Nat.reduceAdd, Nat.reduceLT, Nat.reduceLeDiff, Nat.reduceMul, Nat.reduceSub, ↓reduceIte, decide_true, decide_false, Bool.true_eq_false, Bool.false_eq_true, Bool.not_true, Bool.not_false, if_true, if_false, and_true, true_and, memE, celE, w64, Nat.zero_add, Nat.add_zero, Nat.mul_one, putL, and_self, ldn, id_eq, ext_2_0, ext_2_1, ext_3_0, ext_3_1, ext_3_2, ext_4_0, ext_4_1, ext_4_2, ext_4_3, beq_self_eq_true, bne_self_eq_false, gt_iff_lt, frV, stP_agg2, Bw.ldx2, Bw.ld2]
  obtain ⟨M9, hM9⟩ : ∃ M', M' = M8 ++ [⟨.own, 28, [.int .i64 q0.1, .int .i64 q0.2]⟩] := ⟨_, rfl⟩
  rw [← hM9]
  have LM9 : M9.length = M8.length + 1 := by rw [hM9, List.length_append]; rfl
  replace C0 : Lv 0 M0.length M9 fun M => ItemsA M v0 d0 := by rw [hM9]; exact C0.ext _
  replace C3 : Lv 0 M0.length M9 fun M => IntsA M v3 d3 := by rw [hM9]; exact C3.ext _
  replace Bw : BoxA M9 M4.length [.int .i64 q0.1, .int .i64 q0.2] := by rw [hM9]; exact Bw.ext _
  replace Y0 : Lv M5.length M6.length M9 fun M => ItemsO 25 d0 M5.length M6.length M Yv0 := by rw [hM9]; exact Y0.ext _
  replace Y3 : Lv M6.length M7.length M9 fun M => IntsO d3 M6.length M7.length M Yv3 := by rw [hM9]; exact Y3.ext _
  have Bg : BoxA M9 M8.length [.int .i64 q0.1, .int .i64 q0.2] := by rw [hM9]; exact BoxA.here _ _ _ rfl
  try simp (config := {implicitDefEqProofs := false, maxDischargeDepth := 20}) (disch := first | omega | (simp only [lenE]; done) | (simp only [lenE]; omega) | rfl | (simp only [lenE, markR_len]; done) | (simp only [lenE, markR_len]; omega)) only [runE, mapE, listE, initT_5, initT_6, initT_7, initT_8, resV, oneV, binA, unA, reduceCtorEq, Nat.reduceEqDiff, Nat.reduceAdd, Nat.reduceLT, Nat.reduceLeDiff, Nat.reduceMul, Nat.reduceSub, ↓reduceIte, decide_true, decide_false, Bool.true_eq_false, Bool.false_eq_true, Bool.not_true, Bool.not_false, if_true, if_false, and_true, true_and, memE, celE, w64, Nat.zero_add, Nat.add_zero, Nat.mul_one, putL, and_self, ldn, id_eq, ext_2_0, ext_2_1, ext_3_0, ext_3_1, ext_3_2, ext_4_0, ext_4_1, ext_4_2, ext_4_3, beq_self_eq_true, bne_self_eq_false, gt_iff_lt, Bw.ld2, Bg.ld2]
  have TT := eqIntA2_rc M9 q0.1 q0.2
  first | refine callH_rc TT ?_ | refine rcallH_rc TT ?_
  clear TT
  rintro r new ⟨rfl, nrn⟩
  obtain ⟨M10, hM10⟩ : ∃ M', M' = M9 ++ new := ⟨_, rfl⟩
  rw [← hM10]
  have LM10 : M10.length = M9.length + new.length := by rw [hM10, List.length_append]
  replace C0 : Lv 0 M0.length M10 fun M => ItemsA M v0 d0 := by rw [hM10]; exact C0.ext _
  replace C3 : Lv 0 M0.length M10 fun M => IntsA M v3 d3 := by rw [hM10]; exact C3.ext _
  replace Bw : BoxA M10 M4.length [.int .i64 q0.1, .int .i64 q0.2] := by rw [hM10]; exact Bw.ext _
  replace Y0 : Lv M5.length M6.length M10 fun M => ItemsO 25 d0 M5.length M6.length M Yv0 := by rw [hM10]; exact Y0.ext _
  replace Y3 : Lv M6.length M7.length M10 fun M => IntsO d3 M6.length M7.length M Yv3 := by rw [hM10]; exact Y3.ext _
  replace Bg : BoxA M10 M8.length [.int .i64 q0.1, .int .i64 q0.2] := by rw [hM10]; exact Bg.ext _
  clear nrn
  try simp (config := {implicitDefEqProofs := false, maxDischargeDepth := 20}) (disch := first | omega | (simp only [lenE]; done) | (simp only [lenE]; omega) | rfl | (simp only [lenE, markR_len]; done) | (simp only [lenE, markR_len]; omega)) only [runE, mapE, listE, initT_5, initT_6, initT_7, initT_8, resV, oneV, binA, unA, reduceCtorEq, Nat.reduceEqDiff, Nat.reduceAdd, Nat.reduceLT, Nat.reduceLeDiff, Nat.reduceMul, Nat.reduceSub, ↓reduceIte, decide_true, decide_false, Bool.true_eq_false, Bool.false_eq_true, Bool.not_true, Bool.not_false, if_true, if_false, and_true, true_and, memE, celE, w64, Nat.zero_add, Nat.add_zero, Nat.mul_one, putL, and_self, ldn, id_eq, ext_2_0, ext_2_1, ext_3_0, ext_3_1, ext_3_2, ext_4_0, ext_4_1, ext_4_2, ext_4_3, beq_self_eq_true, bne_self_eq_false, gt_iff_lt, Bw.ld2, Bg.ld2]
  try simp (config := {implicitDefEqProofs := false, maxDischargeDepth := 20}) (disch := first | omega | (simp only [lenE]; done) | (simp only [lenE]; omega) | rfl | (simp only [lenE, markR_len]; done) | (simp only [lenE, markR_len]; omega)) only [runE, mapE, listE, initT_5, initT_6, initT_7, initT_8, resV, oneV, binA, unA, reduceCtorEq, Nat.reduceEqDiff, Nat.reduceAdd, Nat.reduceLT, Nat.reduceLeDiff, Nat.reduceMul, Nat.reduceSub, ↓reduceIte, decide_true, decide_false, Bool.true_eq_false, Bool.false_eq_true, Bool.not_true, Bool.not_false, if_true, if_false, and_true, true_and, memE, celE, w64, Nat.zero_add, Nat.add_zero, Nat.mul_one, putL, and_self, ldn, id_eq, ext_2_0, ext_2_1, ext_3_0, ext_3_1, ext_3_2, ext_4_0, ext_4_1, ext_4_2, ext_4_3, beq_self_eq_true, bne_self_eq_false, gt_iff_lt, Bw.ld2, Bg.ld2]
  have TT := toItemS_rc M10 _ d0 C0.now hs0
  first | refine callH_rc TT ?_ | refine rcallH_rc TT ?_
  clear TT
  rintro r new ⟨nrn, Tv0, Tv0e, T0⟩
  rw [id_eq] at Tv0e
  subst r
  obtain ⟨M11, hM11⟩ : ∃ M', M' = M10 ++ new := ⟨_, rfl⟩
  rw [← hM11]
  have LM11 : M11.length = M10.length + new.length := by rw [hM11, List.length_append]
  replace C0 : Lv 0 M0.length M11 fun M => ItemsA M v0 d0 := by rw [hM11]; exact C0.ext _
  replace C3 : Lv 0 M0.length M11 fun M => IntsA M v3 d3 := by rw [hM11]; exact C3.ext _
  replace Bw : BoxA M11 M4.length [.int .i64 q0.1, .int .i64 q0.2] := by rw [hM11]; exact Bw.ext _
  replace Y0 : Lv M5.length M6.length M11 fun M => ItemsO 25 d0 M5.length M6.length M Yv0 := by rw [hM11]; exact Y0.ext _
  replace Y3 : Lv M6.length M7.length M11 fun M => IntsO d3 M6.length M7.length M Yv3 := by rw [hM11]; exact Y3.ext _
  replace Bg : BoxA M11 M8.length [.int .i64 q0.1, .int .i64 q0.2] := by rw [hM11]; exact Bg.ext _
  clear nrn
  rw [← hM11, ← LM11] at T0
  change Lv M10.length M11.length M11 fun M => ItemsO 25 d0 M10.length M11.length M Tv0 at T0
  try simp (config := {implicitDefEqProofs := false, maxDischargeDepth := 20}) (disch := first | omega | (simp only [lenE]; done) | (simp only [lenE]; omega) | rfl | (simp only [lenE, markR_len]; done) | (simp only [lenE, markR_len]; omega)) only [runE, mapE, listE, initT_5, initT_6, initT_7, initT_8, resV, oneV, binA, unA, reduceCtorEq, Nat.reduceEqDiff, Nat.reduceAdd, Nat.reduceLT, Nat.reduceLeDiff, Nat.reduceMul, Nat.reduceSub, ↓reduceIte, decide_true, decide_false, Bool.true_eq_false, Bool.false_eq_true, Bool.not_true, Bool.not_false, if_true, if_false, and_true, true_and, memE, celE, w64, Nat.zero_add, Nat.add_zero, Nat.mul_one, putL, and_self, ldn, id_eq, ext_2_0, ext_2_1, ext_3_0, ext_3_1, ext_3_2, ext_4_0, ext_4_1, ext_4_2, ext_4_3, beq_self_eq_true, bne_self_eq_false, gt_iff_lt, Bw.ld2, Bg.ld2]
  have TT := eqItemS_rc M11 _ _ d0 Y0.now.in T0.now.in
  first | refine callH_rc TT ?_ | refine rcallH_rc TT ?_
  clear TT
  rintro r new ⟨rfl, nrn⟩
  obtain ⟨M12, hM12⟩ : ∃ M', M' = M11 ++ new := ⟨_, rfl⟩
  rw [← hM12]
  have LM12 : M12.length = M11.length + new.length := by rw [hM12, List.length_append]
  replace C0 : Lv 0 M0.length M12 fun M => ItemsA M v0 d0 := by rw [hM12]; exact C0.ext _
  replace C3 : Lv 0 M0.length M12 fun M => IntsA M v3 d3 := by rw [hM12]; exact C3.ext _
  replace Bw : BoxA M12 M4.length [.int .i64 q0.1, .int .i64 q0.2] := by rw [hM12]; exact Bw.ext _
  replace Y0 : Lv M5.length M6.length M12 fun M => ItemsO 25 d0 M5.length M6.length M Yv0 := by rw [hM12]; exact Y0.ext _
  replace Y3 : Lv M6.length M7.length M12 fun M => IntsO d3 M6.length M7.length M Yv3 := by rw [hM12]; exact Y3.ext _
  replace Bg : BoxA M12 M8.length [.int .i64 q0.1, .int .i64 q0.2] := by rw [hM12]; exact Bg.ext _
  replace T0 : Lv M10.length M11.length M12 fun M => ItemsO 25 d0 M10.length M11.length M Tv0 := by rw [hM12]; exact T0.ext _
  clear nrn
  clear T0
  try simp (config := {implicitDefEqProofs := false, maxDischargeDepth := 20}) (disch := first | omega | (simp only [lenE]; done) | (simp only [lenE]; omega) | rfl | (simp only [lenE, markR_len]; done) | (simp only [lenE, markR_len]; omega)) only [runE, mapE, listE, initT_5, initT_6, initT_7, initT_8, resV, oneV, binA, unA, reduceCtorEq, Nat.reduceEqDiff, Nat.reduceAdd, Nat.reduceLT, Nat.reduceLeDiff, Nat.reduceMul, Nat.reduceSub, ↓reduceIte, decide_true, decide_false, Bool.true_eq_false, Bool.false_eq_true, Bool.not_true, Bool.not_false, if_true, if_false, and_true, true_and, memE, celE, w64, Nat.zero_add, Nat.add_zero, Nat.mul_one, putL, and_self, ldn, id_eq, ext_2_0, ext_2_1, ext_3_0, ext_3_1, ext_3_2, ext_4_0, ext_4_1, ext_4_2, ext_4_3, beq_self_eq_true, bne_self_eq_false, gt_iff_lt, Bw.ld2, Bg.ld2]
  try simp (config := {implicitDefEqProofs := false, maxDischargeDepth := 20}) (disch := first | omega | (simp only [lenE]; done) | (simp only [lenE]; omega) | rfl | (simp only [lenE, markR_len]; done) | (simp only [lenE, markR_len]; omega)) only [runE, mapE, listE, initT_5, initT_6, initT_7, initT_8, resV, oneV, binA, unA, reduceCtorEq, Nat.reduceEqDiff, Nat.reduceAdd, Nat.reduceLT, Nat.reduceLeDiff, Nat.reduceMul, Nat.reduceSub, ↓reduceIte, decide_true, decide_false, Bool.true_eq_false, Bool.false_eq_true, Bool.not_true, Bool.not_false, if_true, if_false, and_true, true_and, memE, celE, w64, Nat.zero_add, Nat.add_zero, Nat.mul_one, putL, and_self, ldn, id_eq, ext_2_0, ext_2_1, ext_3_0, ext_3_1, ext_3_2, ext_4_0, ext_4_1, ext_4_2, ext_4_3, beq_self_eq_true, bne_self_eq_false, gt_iff_lt, Bw.ld2, Bg.ld2]
  have TT := toIntsO_rc M12 _ d3 C3.now (by omega)
  first | refine callH_rc TT ?_ | refine rcallH_rc TT ?_
  clear TT
  rintro r new ⟨nrn, Tv3, Tv3e, T3⟩
  rw [id_eq] at Tv3e
  subst r
  obtain ⟨M13, hM13⟩ : ∃ M', M' = M12 ++ new := ⟨_, rfl⟩
  rw [← hM13]
  have LM13 : M13.length = M12.length + new.length := by rw [hM13, List.length_append]
  replace C0 : Lv 0 M0.length M13 fun M => ItemsA M v0 d0 := by rw [hM13]; exact C0.ext _
  replace C3 : Lv 0 M0.length M13 fun M => IntsA M v3 d3 := by rw [hM13]; exact C3.ext _
  replace Bw : BoxA M13 M4.length [.int .i64 q0.1, .int .i64 q0.2] := by rw [hM13]; exact Bw.ext _
  replace Y0 : Lv M5.length M6.length M13 fun M => ItemsO 25 d0 M5.length M6.length M Yv0 := by rw [hM13]; exact Y0.ext _
  replace Y3 : Lv M6.length M7.length M13 fun M => IntsO d3 M6.length M7.length M Yv3 := by rw [hM13]; exact Y3.ext _
  replace Bg : BoxA M13 M8.length [.int .i64 q0.1, .int .i64 q0.2] := by rw [hM13]; exact Bg.ext _
  clear nrn
  rw [← hM13, ← LM13] at T3
  change Lv M12.length M13.length M13 fun M => IntsO d3 M12.length M13.length M Tv3 at T3
  try simp (config := {implicitDefEqProofs := false, maxDischargeDepth := 20}) (disch := first | omega | (simp only [lenE]; done) | (simp only [lenE]; omega) | rfl | (simp only [lenE, markR_len]; done) | (simp only [lenE, markR_len]; omega)) only [runE, mapE, listE, initT_5, initT_6, initT_7, initT_8, resV, oneV, binA, unA, reduceCtorEq, Nat.reduceEqDiff, Nat.reduceAdd, Nat.reduceLT, Nat.reduceLeDiff, Nat.reduceMul, Nat.reduceSub, ↓reduceIte, decide_true, decide_false, Bool.true_eq_false, Bool.false_eq_true, Bool.not_true, Bool.not_false, if_true, if_false, and_true, true_and, memE, celE, w64, Nat.zero_add, Nat.add_zero, Nat.mul_one, putL, and_self, ldn, id_eq, ext_2_0, ext_2_1, ext_3_0, ext_3_1, ext_3_2, ext_4_0, ext_4_1, ext_4_2, ext_4_3, beq_self_eq_true, bne_self_eq_false, gt_iff_lt, Bw.ld2, Bg.ld2]
  have TT := eqIntsO_rc M13 _ _ d3 Y3.now.in T3.now.in
  first | refine callH_rc TT ?_ | refine rcallH_rc TT ?_
  clear TT
  rintro r new ⟨rfl, nrn⟩
  obtain ⟨M14, hM14⟩ : ∃ M', M' = M13 ++ new := ⟨_, rfl⟩
  rw [← hM14]
  have LM14 : M14.length = M13.length + new.length := by rw [hM14, List.length_append]
  replace C0 : Lv 0 M0.length M14 fun M => ItemsA M v0 d0 := by rw [hM14]; exact C0.ext _
  replace C3 : Lv 0 M0.length M14 fun M => IntsA M v3 d3 := by rw [hM14]; exact C3.ext _
  replace Bw : BoxA M14 M4.length [.int .i64 q0.1, .int .i64 q0.2] := by rw [hM14]; exact Bw.ext _
  replace Y0 : Lv M5.length M6.length M14 fun M => ItemsO 25 d0 M5.length M6.length M Yv0 := by rw [hM14]; exact Y0.ext _
  replace Y3 : Lv M6.length M7.length M14 fun M => IntsO d3 M6.length M7.length M Yv3 := by rw [hM14]; exact Y3.ext _
  replace Bg : BoxA M14 M8.length [.int .i64 q0.1, .int .i64 q0.2] := by rw [hM14]; exact Bg.ext _
  replace T3 : Lv M12.length M13.length M14 fun M => IntsO d3 M12.length M13.length M Tv3 := by rw [hM14]; exact T3.ext _
  clear nrn
  clear T3
  try simp (config := {implicitDefEqProofs := false, maxDischargeDepth := 20}) (disch := first | omega | (simp only [lenE]; done) | (simp only [lenE]; omega) | rfl | (simp only [lenE, markR_len]; done) | (simp only [lenE, markR_len]; omega)) only [runE, mapE, listE, initT_5, initT_6, initT_7, initT_8, resV, oneV, binA, unA, reduceCtorEq, Nat.reduceEqDiff, Nat.reduceAdd, Nat.reduceLT, Nat.reduceLeDiff, Nat.reduceMul, Nat.reduceSub, ↓reduceIte, decide_true, decide_false, Bool.true_eq_false, Bool.false_eq_true, Bool.not_true, Bool.not_false, if_true, if_false, and_true, true_and, memE, celE, w64, Nat.zero_add, Nat.add_zero, Nat.mul_one, putL, and_self, ldn, id_eq, ext_2_0, ext_2_1, ext_3_0, ext_3_1, ext_3_2, ext_4_0, ext_4_1, ext_4_2, ext_4_3, beq_self_eq_true, bne_self_eq_false, gt_iff_lt, Bw.ld2, Bg.ld2]
end Go.Proofs.Ytmjnjhdacliieaa.Ab
