/- FnExactShareOf: its running over abstract memory. -/
import Derived.Test.YtmjnjhdacliieaaAbTt1
import Derived.Test.YtmjnjhdacliieaaAbMarks
import Derived.Test.YtmjnjhdacliieaaAbBox
import Derived.Test.YtmjnjhdacliieaaAbArg
import Derived.Test.YtmjnjhdacliieaaCodLShareOf
namespace Go.Proofs.Ytmjnjhdacliieaa.Ab
open Go Go.RowKit
set_option linter.unusedVariables false
set_option linter.unusedSimpArgs false
set_option maxRecDepth 100000

set_option maxHeartbeats 4000000 in
theorem law_FnExactShareOf (M0 : Mem) (d0 : List Int) (v0 : Value) (A0 : IntsA M0 v0 d0) :
    AC Try.prog 15 [v0] M0 fun r _ => r = .bool true := by
  refine ac_of_run mixed ok_laws_FnExactShareOf (by simp) (go_start _ _ _ ?_)
  have len0 := A0.len
  have bd0 := A0.bd
  have C0 : Lv 0 M0.length M0 fun M => IntsA M v0 d0 := Lv.all fun new => A0.ext new
  by_cases s0 : 1048576 < d0.length
  · have s0' : (1048576 : Int) < d0.length := by omega
    try simp (config := {implicitDefEqProofs := false, maxDischargeDepth := 20}) (disch := first | omega | (simp only [lenE]; done) | (simp only [lenE]; omega) | rfl | (simp only [lenE, markR_len]; done) | (simp only [lenE, markR_len]; omega)) only [runE, mapE, listE, initT_5, initT_6, initT_7, initT_8, resV, oneV, binA, unA, reduceCtorEq, Nat.reduceEqDiff, Nat.reduceAdd, Nat.reduceLT, Nat.reduceLeDiff, Nat.reduceMul, Nat.reduceSub, ↓reduceIte, decide_true, decide_false, Bool.true_eq_false, Bool.false_eq_true, Bool.not_true, Bool.not_false, if_true, if_false, and_true, true_and, memE, celE, w64, Nat.zero_add, Nat.add_zero, Nat.mul_one, putL, and_self, ldn, c_laws_FnExactShareOf, r_laws_FnExactShareOf, id_eq, ext_2_0, ext_2_1, ext_3_0, ext_3_1, ext_3_2, ext_4_0, ext_4_1, ext_4_2, ext_4_3, beq_self_eq_true, bne_self_eq_false, gt_iff_lt, s0', len0]
    done
  have s0' : ¬ ((1048576 : Int) < d0.length) := by omega
  try simp (config := {implicitDefEqProofs := false, maxDischargeDepth := 20}) (disch := first | omega | (simp only [lenE]; done) | (simp only [lenE]; omega) | rfl | (simp only [lenE, markR_len]; done) | (simp only [lenE, markR_len]; omega)) only [runE, mapE, listE, initT_5, initT_6, initT_7, initT_8, resV, oneV, binA, unA, reduceCtorEq, Nat.reduceEqDiff, Nat.reduceAdd, Nat.reduceLT, Nat.reduceLeDiff, Nat.reduceMul, Nat.reduceSub, ↓reduceIte, decide_true, decide_false, Bool.true_eq_false, Bool.false_eq_true, Bool.not_true, Bool.not_false, if_true, if_false, and_true, true_and, memE, celE, w64, Nat.zero_add, Nat.add_zero, Nat.mul_one, putL, and_self, ldn, c_laws_FnExactShareOf, r_laws_FnExactShareOf, id_eq, ext_2_0, ext_2_1, ext_3_0, ext_3_1, ext_3_2, ext_4_0, ext_4_1, ext_4_2, ext_4_3, beq_self_eq_true, bne_self_eq_false, gt_iff_lt, s0', len0]
  obtain ⟨q0, hq0⟩ : ∃ q : Int × Int, q = (shareA d0) := ⟨_, rfl⟩
  obtain ⟨q1, hq1⟩ : ∃ q : Bool, q = (cycB d0) := ⟨_, rfl⟩
  have SPC := fun m u0 => specShareOf_rc m u0 d0
  have IMP := fun m u0 => implShareOf_rc m u0 d0
  try rw [← hq0] at SPC
  try rw [← hq0] at IMP
  try rw [← hq1] at SPC
  try rw [← hq1] at IMP
  try simp (config := {implicitDefEqProofs := false, maxDischargeDepth := 20}) (disch := first | omega | (simp only [lenE]; done) | (simp only [lenE]; omega) | rfl | (simp only [lenE, markR_len]; done) | (simp only [lenE, markR_len]; omega)) only [runE, mapE, listE, initT_5, initT_6, initT_7, initT_8, resV, oneV, binA, unA, reduceCtorEq, Nat.reduceEqDiff, Nat.reduceAdd, Nat.reduceLT, Nat.reduceLeDiff, Nat.reduceMul, Nat.reduceSub, ↓reduceIte, decide_true, decide_false, Bool.true_eq_false, Bool.false_eq_true, Bool.not_true, Bool.not_false, if_true, if_false, and_true, true_and, memE, celE, w64, Nat.zero_add, Nat.add_zero, Nat.mul_one, putL, and_self, ldn, id_eq, ext_2_0, ext_2_1, ext_3_0, ext_3_1, ext_3_2, ext_4_0, ext_4_1, ext_4_2, ext_4_3, beq_self_eq_true, bne_self_eq_false, gt_iff_lt]
  have TT := toIntsO_rc M0 _ d0 C0.now (by omega)
  first | refine callH_rc TT ?_ | refine rcallH_rc TT ?_
  clear TT
  rintro r new ⟨nrn, Sv0, Sv0e, S0⟩
  rw [id_eq] at Sv0e
  subst r
  obtain ⟨M1, hM1⟩ : ∃ M', M' = M0 ++ new := ⟨_, rfl⟩
  rw [← hM1]
  have LM1 : M1.length = M0.length + new.length := by rw [hM1, List.length_append]
  replace C0 : Lv 0 M0.length M1 fun M => IntsA M v0 d0 := by rw [hM1]; exact C0.ext _
  clear nrn
  rw [← hM1, ← LM1] at S0
  change Lv M0.length M1.length M1 fun M => IntsO d0 M0.length M1.length M Sv0 at S0
  try simp (config := {implicitDefEqProofs := false, maxDischargeDepth := 20}) (disch := first | omega | (simp only [lenE]; done) | (simp only [lenE]; omega) | rfl | (simp only [lenE, markR_len]; done) | (simp only [lenE, markR_len]; omega)) only [runE, mapE, listE, initT_5, initT_6, initT_7, initT_8, resV, oneV, binA, unA, reduceCtorEq, Nat.reduceEqDiff, Nat.reduceAdd, Nat.reduceLT, Nat.reduceLeDiff, Nat.reduceMul, Nat.reduceSub, ↓reduceIte, decide_true, decide_false, Bool.true_eq_false, Bool.false_eq_true, Bool.not_true, Bool.not_false, if_true, if_false, and_true, true_and, memE, celE, w64, Nat.zero_add, Nat.add_zero, Nat.mul_one, putL, and_self, ldn, id_eq, ext_2_0, ext_2_1, ext_3_0, ext_3_1, ext_3_2, ext_4_0, ext_4_1, ext_4_2, ext_4_3, beq_self_eq_true, bne_self_eq_false, gt_iff_lt]
  refine callH_rc (SPC _ _ S0.now.in) ?_
  rintro r new ⟨rfl, nrn⟩
  obtain ⟨M2, hM2⟩ : ∃ M', M' = M1 ++ new := ⟨_, rfl⟩
  rw [← hM2]
  have LM2 : M2.length = M1.length + new.length := by rw [hM2, List.length_append]
  replace C0 : Lv 0 M0.length M2 fun M => IntsA M v0 d0 := by rw [hM2]; exact C0.ext _
  replace S0 : Lv M0.length M1.length M2 fun M => IntsO d0 M0.length M1.length M Sv0 := by rw [hM2]; exact S0.ext _
  clear nrn
  try simp (config := {implicitDefEqProofs := false, maxDischargeDepth := 20}) (disch := first | omega | (simp only [lenE]; done) | (simp only [lenE]; omega) | rfl | (simp only [lenE, markR_len]; done) | (simp only [lenE, markR_len]; omega)) only [runE, mapE, listE, initT_5, initT_6, initT_7, initT_8, resV, oneV, binA, unA, reduceCtorEq, Nat.reduceEqDiff, Nat.reduceAdd, Nat.reduceLT, Nat.reduceLeDiff, Nat.reduceMul, Nat.reduceSub, ↓reduceIte, decide_true, decide_false, Bool.true_eq_false, Bool.false_eq_true, Bool.not_true, Bool.not_false, if_true, if_false, and_true, true_and, memE, celE, w64, Nat.zero_add, Nat.add_zero, Nat.mul_one, putL, and_self, ldn, id_eq, ext_2_0, ext_2_1, ext_3_0, ext_3_1, ext_3_2, ext_4_0, ext_4_1, ext_4_2, ext_4_3, beq_self_eq_true, bne_self_eq_false, gt_iff_lt, frV, stP_agg2]
  obtain ⟨M3, hM3⟩ : ∃ M', M' = M2 ++ [⟨.own, 28, [.int .i64 q0.1, .int .i64 q0.2]⟩] := ⟨_, rfl⟩
  rw [← hM3]
  have LM3 : M3.length = M2.length + 1 := by rw [hM3, List.length_append]; rfl
  replace C0 : Lv 0 M0.length M3 fun M => IntsA M v0 d0 := by rw [hM3]; exact C0.ext _
  replace S0 : Lv M0.length M1.length M3 fun M => IntsO d0 M0.length M1.length M Sv0 := by rw [hM3]; exact S0.ext _
  have Bw : BoxA M3 M2.length [.int .i64 q0.1, .int .i64 q0.2] := by rw [hM3]; exact BoxA.here _ _ _ rfl
  clear S0
  try simp (config := {implicitDefEqProofs := false, maxDischargeDepth := 20}) (disch := first | omega | (simp only [lenE]; done) | (simp only [lenE]; omega) | rfl | (simp only [lenE, markR_len]; done) | (simp only [lenE, markR_len]; omega)) only [runE, mapE, listE, initT_5, initT_6, initT_7, initT_8, resV, oneV, binA, unA, reduceCtorEq, Nat.reduceEqDiff, Nat.reduceAdd, Nat.reduceLT, Nat.reduceLeDiff, Nat.reduceMul, Nat.reduceSub, ↓reduceIte, decide_true, decide_false, Bool.true_eq_false, Bool.false_eq_true, Bool.not_true, Bool.not_false, if_true, if_false, and_true, true_and, memE, celE, w64, Nat.zero_add, Nat.add_zero, Nat.mul_one, putL, and_self, ldn, id_eq, ext_2_0, ext_2_1, ext_3_0, ext_3_1, ext_3_2, ext_4_0, ext_4_1, ext_4_2, ext_4_3, beq_self_eq_true, bne_self_eq_false, gt_iff_lt, Bw.ld2]
  have TT := toIntsO_rc M3 _ d0 C0.now (by omega)
  first | refine callH_rc TT ?_ | refine rcallH_rc TT ?_
  clear TT
  rintro r new ⟨nrn, Yv0, Yv0e, Y0⟩
  rw [id_eq] at Yv0e
  subst r
  obtain ⟨M4, hM4⟩ : ∃ M', M' = M3 ++ new := ⟨_, rfl⟩
  rw [← hM4]
  have LM4 : M4.length = M3.length + new.length := by rw [hM4, List.length_append]
  replace C0 : Lv 0 M0.length M4 fun M => IntsA M v0 d0 := by rw [hM4]; exact C0.ext _
  replace Bw : BoxA M4 M2.length [.int .i64 q0.1, .int .i64 q0.2] := by rw [hM4]; exact Bw.ext _
  clear nrn
  rw [← hM4, ← LM4] at Y0
  change Lv M3.length M4.length M4 fun M => IntsO d0 M3.length M4.length M Yv0 at Y0
  try simp (config := {implicitDefEqProofs := false, maxDischargeDepth := 20}) (disch := first | omega | (simp only [lenE]; done) | (simp only [lenE]; omega) | rfl | (simp only [lenE, markR_len]; done) | (simp only [lenE, markR_len]; omega)) only [runE, mapE, listE, initT_5, initT_6, initT_7, initT_8, resV, oneV, binA, unA, reduceCtorEq, Nat.reduceEqDiff, Nat.reduceAdd, Nat.reduceLT, Nat.reduceLeDiff, Nat.reduceMul, Nat.reduceSub, ↓reduceIte, decide_true, decide_false, Bool.true_eq_false, Bool.false_eq_true, Bool.not_true, Bool.not_false, if_true, if_false, and_true, true_and, memE, celE, w64, Nat.zero_add, Nat.add_zero, Nat.mul_one, putL, and_self, ldn, id_eq, ext_2_0, ext_2_1, ext_3_0, ext_3_1, ext_3_2, ext_4_0, ext_4_1, ext_4_2, ext_4_3, beq_self_eq_true, bne_self_eq_false, gt_iff_lt, Bw.ld2]
  refine callH_rc (IMP _ _ Y0.now.in) ?_
  rintro r new ⟨rfl, nrn⟩
  obtain ⟨M5, hM5⟩ : ∃ M', M' = M4 ++ new := ⟨_, rfl⟩
  rw [← hM5]
  have LM5 : M5.length = M4.length + new.length := by rw [hM5, List.length_append]
  replace C0 : Lv 0 M0.length M5 fun M => IntsA M v0 d0 := by rw [hM5]; exact C0.ext _
  replace Bw : BoxA M5 M2.length [.int .i64 q0.1, .int .i64 q0.2] := by rw [hM5]; exact Bw.ext _
  replace Y0 : Lv M3.length M4.length M5 fun M => IntsO d0 M3.length M4.length M Yv0 := by rw [hM5]; exact Y0.ext _
  clear nrn
  try simp (config := {implicitDefEqProofs := false, maxDischargeDepth := 20}) (disch := first | omega | (simp only [lenE]; done) | (simp only [lenE]; omega) | rfl | (simp only [lenE, markR_len]; done) | (simp only [lenE, markR_len]; omega)) only [runE, mapE, listE, initT_5, initT_6, initT_7, initT_8, resV, oneV, binA, unA, reduceCtorEq, Nat.reduceEqDiff, Nat.reduceAdd, Nat.reduceLT, Nat.reduceLeDiff, Nat.reduceMul, Nat.reduceSub, ↓reduceIte, decide_true, decide_false, Bool.true_eq_false, Bool.false_eq_true, Bool.not_true, Bool.not_false, if_true, if_false, and_true, true_and, memE, celE, w64, Nat.zero_add, Nat.add_zero, Nat.mul_one, putL, and_self, ldn, id_eq, ext_2_0, ext_2_1, ext_3_0, ext_3_1, ext_3_2, ext_4_0, ext_4_1, ext_4_2, ext_4_3, beq_self_eq_true, bne_self_eq_false, gt_iff_lt, frV, stP_agg2, Bw.ldx2, Bw.ld2]
  obtain ⟨M6, hM6⟩ : ∃ M', M' = M5 ++ [⟨.own, 28, [.int .i64 q0.1, .int .i64 q0.2]⟩] := ⟨_, rfl⟩
  rw [← hM6]
  have LM6 : M6.length = M5.length + 1 := by rw [hM6, List.length_append]; rfl
  replace C0 : Lv 0 M0.length M6 fun M => IntsA M v0 d0 := by rw [hM6]; exact C0.ext _
  replace Bw : BoxA M6 M2.length [.int .i64 q0.1, .int .i64 q0.2] := by rw [hM6]; exact Bw.ext _
  replace Y0 : Lv M3.length M4.length M6 fun M => IntsO d0 M3.length M4.length M Yv0 := by rw [hM6]; exact Y0.ext _
  have Bg : BoxA M6 M5.length [.int .i64 q0.1, .int .i64 q0.2] := by rw [hM6]; exact BoxA.here _ _ _ rfl
  try simp (config := {implicitDefEqProofs := false, maxDischargeDepth := 20}) (disch := first | omega | (simp only [lenE]; done) | (simp only [lenE]; omega) | rfl | (simp only [lenE, markR_len]; done) | (simp only [lenE, markR_len]; omega)) only [runE, mapE, listE, initT_5, initT_6, initT_7, initT_8, resV, oneV, binA, unA, reduceCtorEq, Nat.reduceEqDiff, Nat.reduceAdd, Nat.reduceLT, Nat.reduceLeDiff, Nat.reduceMul, Nat.reduceSub, ↓reduceIte, decide_true, decide_false, Bool.true_eq_false, Bool.false_eq_true, Bool.not_true, Bool.not_false, if_true, if_false, and_true, true_and, memE, celE, w64, Nat.zero_add, Nat.add_zero, Nat.mul_one, putL, and_self, ldn, id_eq, ext_2_0, ext_2_1, ext_3_0, ext_3_1, ext_3_2, ext_4_0, ext_4_1, ext_4_2, ext_4_3, beq_self_eq_true, bne_self_eq_false, gt_iff_lt, Bw.ld2, Bg.ld2]
  have TT := eqIntA2_rc M6 q0.1 q0.2
  first | refine callH_rc TT ?_ | refine rcallH_rc TT ?_
  clear TT
  rintro r new ⟨rfl, nrn⟩
  obtain ⟨M7, hM7⟩ : ∃ M', M' = M6 ++ new := ⟨_, rfl⟩
  rw [← hM7]
  have LM7 : M7.length = M6.length + new.length := by rw [hM7, List.length_append]
  replace C0 : Lv 0 M0.length M7 fun M => IntsA M v0 d0 := by rw [hM7]; exact C0.ext _
  replace Bw : BoxA M7 M2.length [.int .i64 q0.1, .int .i64 q0.2] := by rw [hM7]; exact Bw.ext _
  replace Y0 : Lv M3.length M4.length M7 fun M => IntsO d0 M3.length M4.length M Yv0 := by rw [hM7]; exact Y0.ext _
  replace Bg : BoxA M7 M5.length [.int .i64 q0.1, .int .i64 q0.2] := by rw [hM7]; exact Bg.ext _
  clear nrn
  try simp (config := {implicitDefEqProofs := false, maxDischargeDepth := 20}) (disch := first | omega | (simp only [lenE]; done) | (simp only [lenE]; omega) | rfl | (simp only [lenE, markR_len]; done) | (simp only [lenE, markR_len]; omega)) only [runE, mapE, listE, initT_5, initT_6, initT_7, initT_8, resV, oneV, binA, unA, reduceCtorEq, Nat.reduceEqDiff, Nat.reduceAdd, Nat.reduceLT, Nat.reduceLeDiff, Nat.reduceMul, Nat.reduceSub, ↓reduceIte, decide_true, decide_false, Bool.true_eq_false, Bool.false_eq_true, Bool.not_true, Bool.not_false, if_true, if_false, and_true, true_and, memE, celE, w64, Nat.zero_add, Nat.add_zero, Nat.mul_one, putL, and_self, ldn, id_eq, ext_2_0, ext_2_1, ext_3_0, ext_3_1, ext_3_2, ext_4_0, ext_4_1, ext_4_2, ext_4_3, beq_self_eq_true, bne_self_eq_false, gt_iff_lt, Bw.ld2, Bg.ld2]
  try simp (config := {implicitDefEqProofs := false, maxDischargeDepth := 20}) (disch := first | omega | (simp only [lenE]; done) | (simp only [lenE]; omega) | rfl | (simp only [lenE, markR_len]; done) | (simp only [lenE, markR_len]; omega)) only [runE, mapE, listE, initT_5, initT_6, initT_7, initT_8, resV, oneV, binA, unA, reduceCtorEq, Nat.reduceEqDiff, Nat.reduceAdd, Nat.reduceLT, Nat.reduceLeDiff, Nat.reduceMul, Nat.reduceSub, ↓reduceIte, decide_true, decide_false, Bool.true_eq_false, Bool.false_eq_true, Bool.not_true, Bool.not_false, if_true, if_false, and_true, true_and, memE, celE, w64, Nat.zero_add, Nat.add_zero, Nat.mul_one, putL, and_self, ldn, id_eq, ext_2_0, ext_2_1, ext_3_0, ext_3_1, ext_3_2, ext_4_0, ext_4_1, ext_4_2, ext_4_3, beq_self_eq_true, bne_self_eq_false, gt_iff_lt, Bw.ld2, Bg.ld2]
  have TT := toIntsO_rc M7 _ d0 C0.now (by omega)
  first | refine callH_rc TT ?_ | refine rcallH_rc TT ?_
  clear TT
  rintro r new ⟨nrn, Tv0, Tv0e, T0⟩
  rw [id_eq] at Tv0e
  subst r
  obtain ⟨M8, hM8⟩ : ∃ M', M' = M7 ++ new := ⟨_, rfl⟩
  rw [← hM8]
  have LM8 : M8.length = M7.length + new.length := by rw [hM8, List.length_append]
  replace C0 : Lv 0 M0.length M8 fun M => IntsA M v0 d0 := by rw [hM8]; exact C0.ext _
  replace Bw : BoxA M8 M2.length [.int .i64 q0.1, .int .i64 q0.2] := by rw [hM8]; exact Bw.ext _
  replace Y0 : Lv M3.length M4.length M8 fun M => IntsO d0 M3.length M4.length M Yv0 := by rw [hM8]; exact Y0.ext _
  replace Bg : BoxA M8 M5.length [.int .i64 q0.1, .int .i64 q0.2] := by rw [hM8]; exact Bg.ext _
  clear nrn
  rw [← hM8, ← LM8] at T0
  change Lv M7.length M8.length M8 fun M => IntsO d0 M7.length M8.length M Tv0 at T0
  try simp (config := {implicitDefEqProofs := false, maxDischargeDepth := 20}) (disch := first | omega | (simp only [lenE]; done) | (simp only [lenE]; omega) | rfl | (simp only [lenE, markR_len]; done) | (simp only [lenE, markR_len]; omega)) only [runE, mapE, listE, initT_5, initT_6, initT_7, initT_8, resV, oneV, binA, unA, reduceCtorEq, Nat.reduceEqDiff, Nat.reduceAdd, Nat.reduceLT, Nat.reduceLeDiff, Nat.reduceMul, Nat.reduceSub, ↓reduceIte, decide_true, decide_false, Bool.true_eq_false, Bool.false_eq_true, Bool.not_true, Bool.not_false, if_true, if_false, and_true, true_and, memE, celE, w64, Nat.zero_add, Nat.add_zero, Nat.mul_one, putL, and_self, ldn, id_eq, ext_2_0, ext_2_1, ext_3_0, ext_3_1, ext_3_2, ext_4_0, ext_4_1, ext_4_2, ext_4_3, beq_self_eq_true, bne_self_eq_false, gt_iff_lt, Bw.ld2, Bg.ld2]
  have TT := eqIntsO_rc M8 _ _ d0 Y0.now.in T0.now.in
  first | refine callH_rc TT ?_ | refine rcallH_rc TT ?_
  clear TT
  rintro r new ⟨rfl, nrn⟩
  obtain ⟨M9, hM9⟩ : ∃ M', M' = M8 ++ new := ⟨_, rfl⟩
  rw [← hM9]
  have LM9 : M9.length = M8.length + new.length := by rw [hM9, List.length_append]
  replace C0 : Lv 0 M0.length M9 fun M => IntsA M v0 d0 := by rw [hM9]; exact C0.ext _
  replace Bw : BoxA M9 M2.length [.int .i64 q0.1, .int .i64 q0.2] := by rw [hM9]; exact Bw.ext _
  replace Y0 : Lv M3.length M4.length M9 fun M => IntsO d0 M3.length M4.length M Yv0 := by rw [hM9]; exact Y0.ext _
  replace Bg : BoxA M9 M5.length [.int .i64 q0.1, .int .i64 q0.2] := by rw [hM9]; exact Bg.ext _
  replace T0 : Lv M7.length M8.length M9 fun M => IntsO d0 M7.length M8.length M Tv0 := by rw [hM9]; exact T0.ext _
  clear nrn
  clear T0
  try simp (config := {implicitDefEqProofs := false, maxDischargeDepth := 20}) (disch := first | omega | (simp only [lenE]; done) | (simp only [lenE]; omega) | rfl | (simp only [lenE, markR_len]; done) | (simp only [lenE, markR_len]; omega)) only [runE, mapE, listE, initT_5, initT_6, initT_7, initT_8, resV, oneV, binA, unA, reduceCtorEq, Nat.reduceEqDiff, Nat.reduceAdd, Nat.reduceLT, Nat.reduceLeDiff, Nat.reduceMul, Nat.reduceSub, ↓reduceIte, decide_true, decide_false, Bool.true_eq_false, Bool.false_eq_true, Bool.not_true, Bool.not_false, if_true, if_false, and_true, true_and, memE, celE, w64, Nat.zero_add, Nat.add_zero, Nat.mul_one, putL, and_self, ldn, id_eq, ext_2_0, ext_2_1, ext_3_0, ext_3_1, ext_3_2, ext_4_0, ext_4_1, ext_4_2, ext_4_3, beq_self_eq_true, bne_self_eq_false, gt_iff_lt, Bw.ld2, Bg.ld2]
end Go.Proofs.Ytmjnjhdacliieaa.Ab
