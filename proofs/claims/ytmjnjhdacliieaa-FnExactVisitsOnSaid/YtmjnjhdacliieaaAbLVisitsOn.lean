/- FnExactVisitsOn: its running over abstract memory. -/
import Derived.Test.YtmjnjhdacliieaaAbTt3
import Derived.Test.YtmjnjhdacliieaaAbMarks
import Derived.Test.YtmjnjhdacliieaaAbBox
import Derived.Test.YtmjnjhdacliieaaAbArg
import Derived.Test.YtmjnjhdacliieaaCodLVisitsOn
namespace Go.Proofs.Ytmjnjhdacliieaa.Ab
open Go Go.RowKit
set_option linter.unusedVariables false
set_option linter.unusedSimpArgs false
set_option maxRecDepth 100000

set_option maxHeartbeats 4000000 in
theorem law_FnExactVisitsOn (M0 : Mem) (d0 : List Int) (v0 : Value) (d1 : List Int) (v1 : Value) (d2 : Int) (A0 : IntsA M0 v0 d0) (A1 : IntsA M0 v1 d1) :
    AC Try.prog 17 [v0, v1, .int .i64 d2] M0 fun r _ => r = .bool true := by
  refine ac_of_run mixed ok_laws_FnExactVisitsOn (by simp) (go_start _ _ _ ?_)
  have len0 := A0.len
  have bd0 := A0.bd
  have len1 := A1.len
  have bd1 := A1.bd
  have C0 : Lv 0 M0.length M0 fun M => IntsA M v0 d0 := Lv.all fun new => A0.ext new
  have C1 : Lv 0 M0.length M0 fun M => IntsA M v1 d1 := Lv.all fun new => A1.ext new
  by_cases s0 : 1048576 < d0.length
  · have s0' : (1048576 : Int) < d0.length := by omega
    try simp (config := {implicitDefEqProofs := false, maxDischargeDepth := 20}) (disch := first | omega | (simp only [lenE]; done) | (simp only [lenE]; omega) | rfl | (simp only [lenE, markR_len]; done) | (simp only [lenE, markR_len]; omega)) only [runE, mapE, listE, initT_5, initT_6, initT_7, initT_8, resV, oneV, binA, unA, reduceCtorEq, Nat.reduceEqDiff, Nat.reduceAdd, Nat.reduceLT, Nat.reduceLeDiff, Nat.reduceMul, Nat.reduceSub, ↓reduceIte, decide_true, decide_false, Bool.true_eq_false, Bool.false_eq_true, Bool.not_true, Bool.not_false, if_true, if_false, and_true, true_and, memE, celE, w64, Nat.zero_add, Nat.add_zero, Nat.mul_one, putL, and_self, ldn, c_laws_FnExactVisitsOn, r_laws_FnExactVisitsOn, id_eq, ext_2_0, ext_2_1, ext_3_0, ext_3_1, ext_3_2, ext_4_0, ext_4_1, ext_4_2, ext_4_3, beq_self_eq_true, bne_self_eq_false, gt_iff_lt, s0', len0]
    done
  have s0' : ¬ ((1048576 : Int) < d0.length) := by omega
  by_cases s1 : 1048576 < d1.length
  · have s1' : (1048576 : Int) < d1.length := by omega
    try simp (config := {implicitDefEqProofs := false, maxDischargeDepth := 20}) (disch := first | omega | (simp only [lenE]; done) | (simp only [lenE]; omega) | rfl | (simp only [lenE, markR_len]; done) | (simp only [lenE, markR_len]; omega)) only [runE, mapE, listE, initT_5, initT_6, initT_7, initT_8, resV, oneV, binA, unA, reduceCtorEq, Nat.reduceEqDiff, Nat.reduceAdd, Nat.reduceLT, Nat.reduceLeDiff, Nat.reduceMul, Nat.reduceSub, ↓reduceIte, decide_true, decide_false, Bool.true_eq_false, Bool.false_eq_true, Bool.not_true, Bool.not_false, if_true, if_false, and_true, true_and, memE, celE, w64, Nat.zero_add, Nat.add_zero, Nat.mul_one, putL, and_self, ldn, c_laws_FnExactVisitsOn, r_laws_FnExactVisitsOn, id_eq, ext_2_0, ext_2_1, ext_3_0, ext_3_1, ext_3_2, ext_4_0, ext_4_1, ext_4_2, ext_4_3, beq_self_eq_true, bne_self_eq_false, gt_iff_lt, s1', len1, s0', len0]
    done
  have s1' : ¬ ((1048576 : Int) < d1.length) := by omega
  try simp (config := {implicitDefEqProofs := false, maxDischargeDepth := 20}) (disch := first | omega | (simp only [lenE]; done) | (simp only [lenE]; omega) | rfl | (simp only [lenE, markR_len]; done) | (simp only [lenE, markR_len]; omega)) only [runE, mapE, listE, initT_5, initT_6, initT_7, initT_8, resV, oneV, binA, unA, reduceCtorEq, Nat.reduceEqDiff, Nat.reduceAdd, Nat.reduceLT, Nat.reduceLeDiff, Nat.reduceMul, Nat.reduceSub, ↓reduceIte, decide_true, decide_false, Bool.true_eq_false, Bool.false_eq_true, Bool.not_true, Bool.not_false, if_true, if_false, and_true, true_and, memE, celE, w64, Nat.zero_add, Nat.add_zero, Nat.mul_one, putL, and_self, ldn, c_laws_FnExactVisitsOn, r_laws_FnExactVisitsOn, id_eq, ext_2_0, ext_2_1, ext_3_0, ext_3_1, ext_3_2, ext_4_0, ext_4_1, ext_4_2, ext_4_3, beq_self_eq_true, bne_self_eq_false, gt_iff_lt, s0', len0, s1', len1]
  obtain ⟨W, hW⟩ : ∃ W : List Int, W = (vonA d0 d1 d2) := ⟨_, rfl⟩
  obtain ⟨q0, hq0⟩ : ∃ q : Bool, q = (vonOk d0 d1 d2) := ⟨_, rfl⟩
  have SPC := fun m u0 u1 => specVisitsOn_rc m u0 u1 d0 d1 d2
  have IMP := fun m u0 u1 => implVisitsOn_rc m u0 u1 d0 d1 d2
  try rw [← hW] at SPC
  try rw [← hW] at IMP
  try rw [← hq0] at SPC
  try rw [← hq0] at IMP
  try simp (config := {implicitDefEqProofs := false, maxDischargeDepth := 20}) (disch := first | omega | (simp only [lenE]; done) | (simp only [lenE]; omega) | rfl | (simp only [lenE, markR_len]; done) | (simp only [lenE, markR_len]; omega)) only [runE, mapE, listE, initT_5, initT_6, initT_7, initT_8, resV, oneV, binA, unA, reduceCtorEq, Nat.reduceEqDiff, Nat.reduceAdd, Nat.reduceLT, Nat.reduceLeDiff, Nat.reduceMul, Nat.reduceSub, ↓reduceIte, decide_true, decide_false, Bool.true_eq_false, Bool.false_eq_true, Bool.not_true, Bool.not_false, if_true, if_false, and_true, true_and, memE, celE, w64, Nat.zero_add, Nat.add_zero, Nat.mul_one, putL, and_self, ldn, id_eq, ext_2_0, ext_2_1, ext_3_0, ext_3_1, ext_3_2, ext_4_0, ext_4_1, ext_4_2, ext_4_3, beq_self_eq_true, bne_self_eq_false, gt_iff_lt]
  have TT := toIntsO_rc M0 _ d0 C0.now (by omega)
  first | refine callH_rc TT ?_ | refine rcallH_rc TT ?_
  clear TT
  rintro r new ⟨nrn, Sv0, Sv0e, S0⟩
  rw [id_eq] at Sv0e
  subst r
  obtain ⟨M1, hM1⟩ : ∃ M', M' = M0 ++ new := ⟨_, rfl⟩
  rw [← hM1]
  have LM1 : M1.length = M0.length + new.length := by rw [hM1, List.length_append]
  replace C0 : Lv 0 M0.length M1 fun M => IntsA M v0 d0 := by rw [hM1]; exact C0.ext _
  replace C1 : Lv 0 M0.length M1 fun M => IntsA M v1 d1 := by rw [hM1]; exact C1.ext _
  clear nrn
  rw [← hM1, ← LM1] at S0
  change Lv M0.length M1.length M1 fun M => IntsO d0 M0.length M1.length M Sv0 at S0
  try simp (config := {implicitDefEqProofs := false, maxDischargeDepth := 20}) (disch := first | omega | (simp only [lenE]; done) | (simp only [lenE]; omega) | rfl | (simp only [lenE, markR_len]; done) | (simp only [lenE, markR_len]; omega)) only [runE, mapE, listE, initT_5, initT_6, initT_7, initT_8, resV, oneV, binA, unA, reduceCtorEq, Nat.reduceEqDiff, Nat.reduceAdd, Nat.reduceLT, Nat.reduceLeDiff, Nat.reduceMul, Nat.reduceSub, ↓reduceIte, decide_true, decide_false, Bool.true_eq_false, Bool.false_eq_true, Bool.not_true, Bool.not_false, if_true, if_false, and_true, true_and, memE, celE, w64, Nat.zero_add, Nat.add_zero, Nat.mul_one, putL, and_self, ldn, id_eq, ext_2_0, ext_2_1, ext_3_0, ext_3_1, ext_3_2, ext_4_0, ext_4_1, ext_4_2, ext_4_3, beq_self_eq_true, bne_self_eq_false, gt_iff_lt]
  have TT := toIntsO_rc M1 _ d1 C1.now (by omega)
  first | refine callH_rc TT ?_ | refine rcallH_rc TT ?_
  clear TT
  rintro r new ⟨nrn, Sv1, Sv1e, S1⟩
  rw [id_eq] at Sv1e
  subst r
  obtain ⟨M2, hM2⟩ : ∃ M', M' = M1 ++ new := ⟨_, rfl⟩
  rw [← hM2]
  have LM2 : M2.length = M1.length + new.length := by rw [hM2, List.length_append]
  replace C0 : Lv 0 M0.length M2 fun M => IntsA M v0 d0 := by rw [hM2]; exact C0.ext _
  replace C1 : Lv 0 M0.length M2 fun M => IntsA M v1 d1 := by rw [hM2]; exact C1.ext _
  replace S0 : Lv M0.length M1.length M2 fun M => IntsO d0 M0.length M1.length M Sv0 := by rw [hM2]; exact S0.ext _
  clear nrn
  rw [← hM2, ← LM2] at S1
  change Lv M1.length M2.length M2 fun M => IntsO d1 M1.length M2.length M Sv1 at S1
  try simp (config := {implicitDefEqProofs := false, maxDischargeDepth := 20}) (disch := first | omega | (simp only [lenE]; done) | (simp only [lenE]; omega) | rfl | (simp only [lenE, markR_len]; done) | (simp only [lenE, markR_len]; omega)) only [runE, mapE, listE, initT_5, initT_6, initT_7, initT_8, resV, oneV, binA, unA, reduceCtorEq, Nat.reduceEqDiff, Nat.reduceAdd, Nat.reduceLT, Nat.reduceLeDiff, Nat.reduceMul, Nat.reduceSub, ↓reduceIte, decide_true, decide_false, Bool.true_eq_false, Bool.false_eq_true, Bool.not_true, Bool.not_false, if_true, if_false, and_true, true_and, memE, celE, w64, Nat.zero_add, Nat.add_zero, Nat.mul_one, putL, and_self, ldn, id_eq, ext_2_0, ext_2_1, ext_3_0, ext_3_1, ext_3_2, ext_4_0, ext_4_1, ext_4_2, ext_4_3, beq_self_eq_true, bne_self_eq_false, gt_iff_lt]
  refine callH_rc (SPC _ _ _ S0.now.in S1.now.in) ?_
  rintro r new ⟨nrn, vw, rfl, w⟩
  obtain ⟨M3, hM3⟩ : ∃ M', M' = M2 ++ new := ⟨_, rfl⟩
  rw [← hM3]
  have LM3 : M3.length = M2.length + new.length := by rw [hM3, List.length_append]
  replace C0 : Lv 0 M0.length M3 fun M => IntsA M v0 d0 := by rw [hM3]; exact C0.ext _
  replace C1 : Lv 0 M0.length M3 fun M => IntsA M v1 d1 := by rw [hM3]; exact C1.ext _
  replace S0 : Lv M0.length M1.length M3 fun M => IntsO d0 M0.length M1.length M Sv0 := by rw [hM3]; exact S0.ext _
  replace S1 : Lv M1.length M2.length M3 fun M => IntsO d1 M1.length M2.length M Sv1 := by rw [hM3]; exact S1.ext _
  clear nrn
  rw [← hM3, ← LM3] at w
  clear S0
  clear S1
  try simp (config := {implicitDefEqProofs := false, maxDischargeDepth := 20}) (disch := first | omega | (simp only [lenE]; done) | (simp only [lenE]; omega) | rfl | (simp only [lenE, markR_len]; done) | (simp only [lenE, markR_len]; omega)) only [runE, mapE, listE, initT_5, initT_6, initT_7, initT_8, resV, oneV, binA, unA, reduceCtorEq, Nat.reduceEqDiff, Nat.reduceAdd, Nat.reduceLT, Nat.reduceLeDiff, Nat.reduceMul, Nat.reduceSub, ↓reduceIte, decide_true, decide_false, Bool.true_eq_false, Bool.false_eq_true, Bool.not_true, Bool.not_false, if_true, if_false, and_true, true_and, memE, celE, w64, Nat.zero_add, Nat.add_zero, Nat.mul_one, putL, and_self, ldn, id_eq, ext_2_0, ext_2_1, ext_3_0, ext_3_1, ext_3_2, ext_4_0, ext_4_1, ext_4_2, ext_4_3, beq_self_eq_true, bne_self_eq_false, gt_iff_lt]
  have TT := toIntsO_rc M3 _ d0 C0.now (by omega)
  first | refine callH_rc TT ?_ | refine rcallH_rc TT ?_
  clear TT
  rintro r new ⟨nrn, Yv0, Yv0e, Y0⟩
  rw [id_eq] at Yv0e
  subst r
  obtain ⟨M4, hM4⟩ : ∃ M', M' = M3 ++ new := ⟨_, rfl⟩
  rw [← hM4]
  have LM4 : M4.length = M3.length + new.length := by rw [hM4, List.length_append]
  replace C0 : Lv 0 M0.length M4 fun M => IntsA M v0 d0 := by rw [hM4]; exact C0.ext _
  replace C1 : Lv 0 M0.length M4 fun M => IntsA M v1 d1 := by rw [hM4]; exact C1.ext _
  replace w : Lv M2.length M3.length M4 fun M => IntsO W M2.length M3.length M vw := by rw [hM4]; exact w.ext _
  clear nrn
  rw [← hM4, ← LM4] at Y0
  change Lv M3.length M4.length M4 fun M => IntsO d0 M3.length M4.length M Yv0 at Y0
  try simp (config := {implicitDefEqProofs := false, maxDischargeDepth := 20}) (disch := first | omega | (simp only [lenE]; done) | (simp only [lenE]; omega) | rfl | (simp only [lenE, markR_len]; done) | (simp only [lenE, markR_len]; omega)) only [runE, mapE, listE, initT_5, initT_6, initT_7, initT_8, resV, oneV, binA, unA, reduceCtorEq, Nat.reduceEqDiff, Nat.reduceAdd, Nat.reduceLT, Nat.reduceLeDiff, Nat.reduceMul, Nat.reduceSub, ↓reduceIte, decide_true, decide_false, Bool.true_eq_false, Bool.false_eq_true, Bool.not_true, Bool.not_false, if_true, if_false, and_true, true_and, memE, celE, w64, Nat.zero_add, Nat.add_zero, Nat.mul_one, putL, and_self, ldn, id_eq, ext_2_0, ext_2_1, ext_3_0, ext_3_1, ext_3_2, ext_4_0, ext_4_1, ext_4_2, ext_4_3, beq_self_eq_true, bne_self_eq_false, gt_iff_lt]
  have TT := toIntsO_rc M4 _ d1 C1.now (by omega)
  first | refine callH_rc TT ?_ | refine rcallH_rc TT ?_
  clear TT
  rintro r new ⟨nrn, Yv1, Yv1e, Y1⟩
  rw [id_eq] at Yv1e
  subst r
  obtain ⟨M5, hM5⟩ : ∃ M', M' = M4 ++ new := ⟨_, rfl⟩
  rw [← hM5]
  have LM5 : M5.length = M4.length + new.length := by rw [hM5, List.length_append]
  replace C0 : Lv 0 M0.length M5 fun M => IntsA M v0 d0 := by rw [hM5]; exact C0.ext _
  replace C1 : Lv 0 M0.length M5 fun M => IntsA M v1 d1 := by rw [hM5]; exact C1.ext _
  replace w : Lv M2.length M3.length M5 fun M => IntsO W M2.length M3.length M vw := by rw [hM5]; exact w.ext _
  replace Y0 : Lv M3.length M4.length M5 fun M => IntsO d0 M3.length M4.length M Yv0 := by rw [hM5]; exact Y0.ext _
  clear nrn
  rw [← hM5, ← LM5] at Y1
  change Lv M4.length M5.length M5 fun M => IntsO d1 M4.length M5.length M Yv1 at Y1
  try simp (config := {implicitDefEqProofs := false, maxDischargeDepth := 20}) (disch := first | omega | (simp only [lenE]; done) | (simp only [lenE]; omega) | rfl | (simp only [lenE, markR_len]; done) | (simp only [lenE, markR_len]; omega)) only [runE, mapE, listE, initT_5, initT_6, initT_7, initT_8, resV, oneV, binA, unA, reduceCtorEq, Nat.reduceEqDiff, Nat.reduceAdd, Nat.reduceLT, Nat.reduceLeDiff, Nat.reduceMul, Nat.reduceSub, ↓reduceIte, decide_true, decide_false, Bool.true_eq_false, Bool.false_eq_true, Bool.not_true, Bool.not_false, if_true, if_false, and_true, true_and, memE, celE, w64, Nat.zero_add, Nat.add_zero, Nat.mul_one, putL, and_self, ldn, id_eq, ext_2_0, ext_2_1, ext_3_0, ext_3_1, ext_3_2, ext_4_0, ext_4_1, ext_4_2, ext_4_3, beq_self_eq_true, bne_self_eq_false, gt_iff_lt]
  refine callH_rc (IMP _ _ _ Y0.now.in Y1.now.in) ?_
  rintro r new ⟨nrn, vg, rfl, g⟩
  obtain ⟨M6, hM6⟩ : ∃ M', M' = M5 ++ new := ⟨_, rfl⟩
  rw [← hM6]
  have LM6 : M6.length = M5.length + new.length := by rw [hM6, List.length_append]
  replace C0 : Lv 0 M0.length M6 fun M => IntsA M v0 d0 := by rw [hM6]; exact C0.ext _
  replace C1 : Lv 0 M0.length M6 fun M => IntsA M v1 d1 := by rw [hM6]; exact C1.ext _
  replace w : Lv M2.length M3.length M6 fun M => IntsO W M2.length M3.length M vw := by rw [hM6]; exact w.ext _
  replace Y0 : Lv M3.length M4.length M6 fun M => IntsO d0 M3.length M4.length M Yv0 := by rw [hM6]; exact Y0.ext _
  replace Y1 : Lv M4.length M5.length M6 fun M => IntsO d1 M4.length M5.length M Yv1 := by rw [hM6]; exact Y1.ext _
  clear nrn
  rw [← hM6, ← LM6] at g
  try simp (config := {implicitDefEqProofs := false, maxDischargeDepth := 20}) (disch := first | omega | (simp only [lenE]; done) | (simp only [lenE]; omega) | rfl | (simp only [lenE, markR_len]; done) | (simp only [lenE, markR_len]; omega)) only [runE, mapE, listE, initT_5, initT_6, initT_7, initT_8, resV, oneV, binA, unA, reduceCtorEq, Nat.reduceEqDiff, Nat.reduceAdd, Nat.reduceLT, Nat.reduceLeDiff, Nat.reduceMul, Nat.reduceSub, ↓reduceIte, decide_true, decide_false, Bool.true_eq_false, Bool.false_eq_true, Bool.not_true, Bool.not_false, if_true, if_false, and_true, true_and, memE, celE, w64, Nat.zero_add, Nat.add_zero, Nat.mul_one, putL, and_self, ldn, id_eq, ext_2_0, ext_2_1, ext_3_0, ext_3_1, ext_3_2, ext_4_0, ext_4_1, ext_4_2, ext_4_3, beq_self_eq_true, bne_self_eq_false, gt_iff_lt]
  have TT := eqIntsO_rc M6 _ _ W g.now.in w.now.in
  refine callH_rc TT ?_
  clear TT
  rintro r new ⟨rfl, nrn⟩
  obtain ⟨M7, hM7⟩ : ∃ M', M' = M6 ++ new := ⟨_, rfl⟩
  rw [← hM7]
  have LM7 : M7.length = M6.length + new.length := by rw [hM7, List.length_append]
  replace C0 : Lv 0 M0.length M7 fun M => IntsA M v0 d0 := by rw [hM7]; exact C0.ext _
  replace C1 : Lv 0 M0.length M7 fun M => IntsA M v1 d1 := by rw [hM7]; exact C1.ext _
  replace w : Lv M2.length M3.length M7 fun M => IntsO W M2.length M3.length M vw := by rw [hM7]; exact w.ext _
  replace Y0 : Lv M3.length M4.length M7 fun M => IntsO d0 M3.length M4.length M Yv0 := by rw [hM7]; exact Y0.ext _
  replace Y1 : Lv M4.length M5.length M7 fun M => IntsO d1 M4.length M5.length M Yv1 := by rw [hM7]; exact Y1.ext _
  replace g : Lv M5.length M6.length M7 fun M => IntsO W M5.length M6.length M vg := by rw [hM7]; exact g.ext _
  clear nrn
  try simp (config := {implicitDefEqProofs := false, maxDischargeDepth := 20}) (disch := first | omega | (simp only [lenE]; done) | (simp only [lenE]; omega) | rfl | (simp only [lenE, markR_len]; done) | (simp only [lenE, markR_len]; omega)) only [runE, mapE, listE, initT_5, initT_6, initT_7, initT_8, resV, oneV, binA, unA, reduceCtorEq, Nat.reduceEqDiff, Nat.reduceAdd, Nat.reduceLT, Nat.reduceLeDiff, Nat.reduceMul, Nat.reduceSub, ↓reduceIte, decide_true, decide_false, Bool.true_eq_false, Bool.false_eq_true, Bool.not_true, Bool.not_false, if_true, if_false, and_true, true_and, memE, celE, w64, Nat.zero_add, Nat.add_zero, Nat.mul_one, putL, and_self, ldn, id_eq, ext_2_0, ext_2_1, ext_3_0, ext_3_1, ext_3_2, ext_4_0, ext_4_1, ext_4_2, ext_4_3, beq_self_eq_true, bne_self_eq_false, gt_iff_lt]
  try simp (config := {implicitDefEqProofs := false, maxDischargeDepth := 20}) (disch := first | omega | (simp only [lenE]; done) | (simp only [lenE]; omega) | rfl | (simp only [lenE, markR_len]; done) | (simp only [lenE, markR_len]; omega)) only [runE, mapE, listE, initT_5, initT_6, initT_7, initT_8, resV, oneV, binA, unA, reduceCtorEq, Nat.reduceEqDiff, Nat.reduceAdd, Nat.reduceLT, Nat.reduceLeDiff, Nat.reduceMul, Nat.reduceSub, ↓reduceIte, decide_true, decide_false, Bool.true_eq_false, Bool.false_eq_true, Bool.not_true, Bool.not_false, if_true, if_false, and_true, true_and, memE, celE, w64, Nat.zero_add, Nat.add_zero, Nat.mul_one, putL, and_self, ldn, id_eq, ext_2_0, ext_2_1, ext_3_0, ext_3_1, ext_3_2, ext_4_0, ext_4_1, ext_4_2, ext_4_3, beq_self_eq_true, bne_self_eq_false, gt_iff_lt]
  have TT := toIntsO_rc M7 _ d0 C0.now (by omega)
  first | refine callH_rc TT ?_ | refine rcallH_rc TT ?_
  clear TT
  rintro r new ⟨nrn, Tv0, Tv0e, T0⟩
  rw [id_eq] at Tv0e
  subst r
  obtain ⟨M8, hM8⟩ : ∃ M', M' = M7 ++ new := ⟨_, rfl⟩
  rw [← hM8]
  have LM8 : M8.length = M7.length + new.length := by rw [hM8, List.length_append]
  replace C0 : Lv 0 M0.length M8 fun M => IntsA M v0 d0 := by rw [hM8]; exact C0.ext _
  replace C1 : Lv 0 M0.length M8 fun M => IntsA M v1 d1 := by rw [hM8]; exact C1.ext _
  replace w : Lv M2.length M3.length M8 fun M => IntsO W M2.length M3.length M vw := by rw [hM8]; exact w.ext _
  replace Y0 : Lv M3.length M4.length M8 fun M => IntsO d0 M3.length M4.length M Yv0 := by rw [hM8]; exact Y0.ext _
  replace Y1 : Lv M4.length M5.length M8 fun M => IntsO d1 M4.length M5.length M Yv1 := by rw [hM8]; exact Y1.ext _
  replace g : Lv M5.length M6.length M8 fun M => IntsO W M5.length M6.length M vg := by rw [hM8]; exact g.ext _
  clear nrn
  rw [← hM8, ← LM8] at T0
  change Lv M7.length M8.length M8 fun M => IntsO d0 M7.length M8.length M Tv0 at T0
  try simp (config := {implicitDefEqProofs := false, maxDischargeDepth := 20}) (disch := first | omega | (simp only [lenE]; done) | (simp only [lenE]; omega) | rfl | (simp only [lenE, markR_len]; done) | (simp only [lenE, markR_len]; omega)) only [runE, mapE, listE, initT_5, initT_6, initT_7, initT_8, resV, oneV, binA, unA, reduceCtorEq, Nat.reduceEqDiff, Nat.reduceAdd, Nat.reduceLT, Nat.reduceLeDiff, Nat.reduceMul, Nat.reduceSub, ↓reduceIte, decide_true, decide_false, Bool.true_eq_false, Bool.false_eq_true, Bool.not_true, Bool.not_false, if_true, if_false, and_true, true_and, memE, celE, w64, Nat.zero_add, Nat.add_zero, Nat.mul_one, putL, and_self, ldn, id_eq, ext_2_0, ext_2_1, ext_3_0, ext_3_1, ext_3_2, ext_4_0, ext_4_1, ext_4_2, ext_4_3, beq_self_eq_true, bne_self_eq_false, gt_iff_lt]
  have TT := eqIntsO_rc M8 _ _ d0 Y0.now.in T0.now.in
  first | refine callH_rc TT ?_ | refine rcallH_rc TT ?_
  clear TT
  rintro r new ⟨rfl, nrn⟩
  obtain ⟨M9, hM9⟩ : ∃ M', M' = M8 ++ new := ⟨_, rfl⟩
  rw [← hM9]
  have LM9 : M9.length = M8.length + new.length := by rw [hM9, List.length_append]
  replace C0 : Lv 0 M0.length M9 fun M => IntsA M v0 d0 := by rw [hM9]; exact C0.ext _
  replace C1 : Lv 0 M0.length M9 fun M => IntsA M v1 d1 := by rw [hM9]; exact C1.ext _
  replace w : Lv M2.length M3.length M9 fun M => IntsO W M2.length M3.length M vw := by rw [hM9]; exact w.ext _
  replace Y0 : Lv M3.length M4.length M9 fun M => IntsO d0 M3.length M4.length M Yv0 := by rw [hM9]; exact Y0.ext _
  replace Y1 : Lv M4.length M5.length M9 fun M => IntsO d1 M4.length M5.length M Yv1 := by rw [hM9]; exact Y1.ext _
  replace g : Lv M5.length M6.length M9 fun M => IntsO W M5.length M6.length M vg := by rw [hM9]; exact g.ext _
  replace T0 : Lv M7.length M8.length M9 fun M => IntsO d0 M7.length M8.length M Tv0 := by rw [hM9]; exact T0.ext _
  clear nrn
  clear T0
  try simp (config := {implicitDefEqProofs := false, maxDischargeDepth := 20}) (disch := first | omega | (simp only [lenE]; done) | (simp only [lenE]; omega) | rfl | (simp only [lenE, markR_len]; done) | (simp only [lenE, markR_len]; omega)) only [runE, mapE, listE, initT_5, initT_6, initT_7, initT_8, resV, oneV, binA, unA, reduceCtorEq, Nat.reduceEqDiff, Nat.reduceAdd, Nat.reduceLT, Nat.reduceLeDiff, Nat.reduceMul, Nat.reduceSub, ↓reduceIte, decide_true, decide_false, Bool.true_eq_false, Bool.false_eq_true, Bool.not_true, Bool.not_false, if_true, if_false, and_true, true_and, memE, celE, w64, Nat.zero_add, Nat.add_zero, Nat.mul_one, putL, and_self, ldn, id_eq, ext_2_0, ext_2_1, ext_3_0, ext_3_1, ext_3_2, ext_4_0, ext_4_1, ext_4_2, ext_4_3, beq_self_eq_true, bne_self_eq_false, gt_iff_lt]
  try simp (config := {implicitDefEqProofs := false, maxDischargeDepth := 20}) (disch := first | omega | (simp only [lenE]; done) | (simp only [lenE]; omega) | rfl | (simp only [lenE, markR_len]; done) | (simp only [lenE, markR_len]; omega)) only [runE, mapE, listE, initT_5, initT_6, initT_7, initT_8, resV, oneV, binA, unA, reduceCtorEq, Nat.reduceEqDiff, Nat.reduceAdd, Nat.reduceLT, Nat.reduceLeDiff, Nat.reduceMul, Nat.reduceSub, ↓reduceIte, decide_true, decide_false, Bool.true_eq_false, Bool.false_eq_true, Bool.not_true, Bool.not_false, if_true, if_false, and_true, true_and, memE, celE, w64, Nat.zero_add, Nat.add_zero, Nat.mul_one, putL, and_self, ldn, id_eq, ext_2_0, ext_2_1, ext_3_0, ext_3_1, ext_3_2, ext_4_0, ext_4_1, ext_4_2, ext_4_3, beq_self_eq_true, bne_self_eq_false, gt_iff_lt]
  have TT := toIntsO_rc M9 _ d1 C1.now (by omega)
  first | refine callH_rc TT ?_ | refine rcallH_rc TT ?_
  clear TT
  rintro r new ⟨nrn, Tv1, Tv1e, T1⟩
  rw [id_eq] at Tv1e
  subst r
  obtain ⟨M10, hM10⟩ : ∃ M', M' = M9 ++ new := ⟨_, rfl⟩
  rw [← hM10]
  have LM10 : M10.length = M9.length + new.length := by rw [hM10, List.length_append]
  replace C0 : Lv 0 M0.length M10 fun M => IntsA M v0 d0 := by rw [hM10]; exact C0.ext _
  replace C1 : Lv 0 M0.length M10 fun M => IntsA M v1 d1 := by rw [hM10]; exact C1.ext _
  replace w : Lv M2.length M3.length M10 fun M => IntsO W M2.length M3.length M vw := by rw [hM10]; exact w.ext _
  replace Y0 : Lv M3.length M4.length M10 fun M => IntsO d0 M3.length M4.length M Yv0 := by rw [hM10]; exact Y0.ext _
  replace Y1 : Lv M4.length M5.length M10 fun M => IntsO d1 M4.length M5.length M Yv1 := by rw [hM10]; exact Y1.ext _
  replace g : Lv M5.length M6.length M10 fun M => IntsO W M5.length M6.length M vg := by rw [hM10]; exact g.ext _
  clear nrn
  rw [← hM10, ← LM10] at T1
  change Lv M9.length M10.length M10 fun M => IntsO d1 M9.length M10.length M Tv1 at T1
  try simp (config := {implicitDefEqProofs := false, maxDischargeDepth := 20}) (disch := first | omega | (simp only [lenE]; done) | (simp only [lenE]; omega) | rfl | (simp only [lenE, markR_len]; done) | (simp only [lenE, markR_len]; omega)) only [runE, mapE, listE, initT_5, initT_6, initT_7, initT_8, resV, oneV, binA, unA, reduceCtorEq, Nat.reduceEqDiff, Nat.reduceAdd, Nat.reduceLT, Nat.reduceLeDiff, Nat.reduceMul, Nat.reduceSub, ↓reduceIte, decide_true, decide_false, Bool.true_eq_false, Bool.false_eq_true, Bool.not_true, Bool.not_false, if_true, if_false, and_true, true_and, memE, celE, w64, Nat.zero_add, Nat.add_zero, Nat.mul_one, putL, and_self, ldn, id_eq, ext_2_0, ext_2_1, ext_3_0, ext_3_1, ext_3_2, ext_4_0, ext_4_1, ext_4_2, ext_4_3, beq_self_eq_true, bne_self_eq_false, gt_iff_lt]
  have TT := eqIntsO_rc M10 _ _ d1 Y1.now.in T1.now.in
  first | refine callH_rc TT ?_ | refine rcallH_rc TT ?_
  clear TT
  rintro r new ⟨rfl, nrn⟩
  obtain ⟨M11, hM11⟩ : ∃ M', M' = M10 ++ new := ⟨_, rfl⟩
  rw [← hM11]
  have LM11 : M11.length = M10.length + new.length := by rw [hM11, List.length_append]
  replace C0 : Lv 0 M0.length M11 fun M => IntsA M v0 d0 := by rw [hM11]; exact C0.ext _
  replace C1 : Lv 0 M0.length M11 fun M => IntsA M v1 d1 := by rw [hM11]; exact C1.ext _
  replace w : Lv M2.length M3.length M11 fun M => IntsO W M2.length M3.length M vw := by rw [hM11]; exact w.ext _
  replace Y0 : Lv M3.length M4.length M11 fun M => IntsO d0 M3.length M4.length M Yv0 := by rw [hM11]; exact Y0.ext _
  replace Y1 : Lv M4.length M5.length M11 fun M => IntsO d1 M4.length M5.length M Yv1 := by rw [hM11]; exact Y1.ext _
  replace g : Lv M5.length M6.length M11 fun M => IntsO W M5.length M6.length M vg := by rw [hM11]; exact g.ext _
  replace T1 : Lv M9.length M10.length M11 fun M => IntsO d1 M9.length M10.length M Tv1 := by rw [hM11]; exact T1.ext _
  clear nrn
  clear T1
  try simp (config := {implicitDefEqProofs := false, maxDischargeDepth := 20}) (disch := first | omega | (simp only [lenE]; done) | (simp only [lenE]; omega) | rfl | (simp only [lenE, markR_len]; done) | (simp only [lenE, markR_len]; omega)) only [runE, mapE, listE, initT_5, initT_6, initT_7, initT_8, resV, oneV, binA, unA, reduceCtorEq, Nat.reduceEqDiff, Nat.reduceAdd, Nat.reduceLT, Nat.reduceLeDiff, Nat.reduceMul, Nat.reduceSub, ↓reduceIte, decide_true, decide_false, Bool.true_eq_false, Bool.false_eq_true, Bool.not_true, Bool.not_false, if_true, if_false, and_true, true_and, memE, celE, w64, Nat.zero_add, Nat.add_zero, Nat.mul_one, putL, and_self, ldn, id_eq, ext_2_0, ext_2_1, ext_3_0, ext_3_1, ext_3_2, ext_4_0, ext_4_1, ext_4_2, ext_4_3, beq_self_eq_true, bne_self_eq_false, gt_iff_lt]
  have sn0 : d0.length ≤ 1048576 := by omega
  try simp (config := {implicitDefEqProofs := false, maxDischargeDepth := 20}) (disch := first | omega | (simp only [lenE]; done) | (simp only [lenE]; omega) | rfl | (simp only [lenE, markR_len]; done) | (simp only [lenE, markR_len]; omega)) only [runE, mapE, listE, initT_5, initT_6, initT_7, initT_8, resV, oneV, binA, unA, reduceCtorEq, Nat.reduceEqDiff, Nat.reduceAdd, Nat.reduceLT, Nat.reduceLeDiff, Nat.reduceMul, Nat.reduceSub, ↓reduceIte, decide_true, decide_false, Bool.true_eq_false, Bool.false_eq_true, Bool.not_true, Bool.not_false, if_true, if_false, and_true, true_and, memE, celE, w64, Nat.zero_add, Nat.add_zero, Nat.mul_one, putL, and_self, ldn, id_eq, ext_2_0, ext_2_1, ext_3_0, ext_3_1, ext_3_2, ext_4_0, ext_4_1, ext_4_2, ext_4_3, beq_self_eq_true, bne_self_eq_false, gt_iff_lt]
  refine callH_ac (markIntsO_ac _ M3.length M4.length _ d0 _ Y0 (by omega) (by omega)) ?_
  rintro r M12 ⟨rfl, hB, -⟩
  have LM12 := hB.1
  replace C0 : Lv 0 M0.length M12 fun M => IntsA M v0 d0 := C0.but hB (by omega)
  replace C1 : Lv 0 M0.length M12 fun M => IntsA M v1 d1 := C1.but hB (by omega)
  replace w : Lv M2.length M3.length M12 fun M => IntsO W M2.length M3.length M vw := w.but hB (by omega)
  replace Y1 : Lv M4.length M5.length M12 fun M => IntsO d1 M4.length M5.length M Yv1 := Y1.but hB (by omega)
  replace g : Lv M5.length M6.length M12 fun M => IntsO W M5.length M6.length M vg := g.but hB (by omega)
  clear Y0 hB
  have sn1 : d1.length ≤ 1048576 := by omega
  try simp (config := {implicitDefEqProofs := false, maxDischargeDepth := 20}) (disch := first | omega | (simp only [lenE]; done) | (simp only [lenE]; omega) | rfl | (simp only [lenE, markR_len]; done) | (simp only [lenE, markR_len]; omega)) only [runE, mapE, listE, initT_5, initT_6, initT_7, initT_8, resV, oneV, binA, unA, reduceCtorEq, Nat.reduceEqDiff, Nat.reduceAdd, Nat.reduceLT, Nat.reduceLeDiff, Nat.reduceMul, Nat.reduceSub, ↓reduceIte, decide_true, decide_false, Bool.true_eq_false, Bool.false_eq_true, Bool.not_true, Bool.not_false, if_true, if_false, and_true, true_and, memE, celE, w64, Nat.zero_add, Nat.add_zero, Nat.mul_one, putL, and_self, ldn, id_eq, ext_2_0, ext_2_1, ext_3_0, ext_3_1, ext_3_2, ext_4_0, ext_4_1, ext_4_2, ext_4_3, beq_self_eq_true, bne_self_eq_false, gt_iff_lt]
  refine callH_ac (markIntsO_ac _ M4.length M5.length _ d1 _ Y1 (by omega) (by omega)) ?_
  rintro r M13 ⟨rfl, hB, -⟩
  have LM13 := hB.1
  replace C0 : Lv 0 M0.length M13 fun M => IntsA M v0 d0 := C0.but hB (by omega)
  replace C1 : Lv 0 M0.length M13 fun M => IntsA M v1 d1 := C1.but hB (by omega)
  replace w : Lv M2.length M3.length M13 fun M => IntsO W M2.length M3.length M vw := w.but hB (by omega)
  replace g : Lv M5.length M6.length M13 fun M => IntsO W M5.length M6.length M vg := g.but hB (by omega)
  clear Y1 hB
  have hkk : ¬ (1 + (d0.length : Int) + (d1.length : Int) < 0) := by omega
  try simp (config := {implicitDefEqProofs := false, maxDischargeDepth := 20}) (disch := first | omega | (simp only [lenE]; done) | (simp only [lenE]; omega) | rfl | (simp only [lenE, markR_len]; done) | (simp only [lenE, markR_len]; omega)) only [runE, mapE, listE, initT_5, initT_6, initT_7, initT_8, resV, oneV, binA, unA, reduceCtorEq, Nat.reduceEqDiff, Nat.reduceAdd, Nat.reduceLT, Nat.reduceLeDiff, Nat.reduceMul, Nat.reduceSub, ↓reduceIte, decide_true, decide_false, Bool.true_eq_false, Bool.false_eq_true, Bool.not_true, Bool.not_false, if_true, if_false, and_true, true_and, memE, celE, w64, Nat.zero_add, Nat.add_zero, Nat.mul_one, putL, and_self, ldn, id_eq, ext_2_0, ext_2_1, ext_3_0, ext_3_1, ext_3_2, ext_4_0, ext_4_1, ext_4_2, ext_4_3, beq_self_eq_true, bne_self_eq_false, gt_iff_lt, hkk]
  try simp (config := {implicitDefEqProofs := false, maxDischargeDepth := 20}) (disch := first | omega | (simp only [lenE]; done) | (simp only [lenE]; omega) | rfl | (simp only [lenE, markR_len]; done) | (simp only [lenE, markR_len]; omega)) only [runE, mapE, listE, initT_5, initT_6, initT_7, initT_8, resV, oneV, binA, unA, reduceCtorEq, Nat.reduceEqDiff, Nat.reduceAdd, Nat.reduceLT, Nat.reduceLeDiff, Nat.reduceMul, Nat.reduceSub, ↓reduceIte, decide_true, decide_false, Bool.true_eq_false, Bool.false_eq_true, Bool.not_true, Bool.not_false, if_true, if_false, and_true, true_and, memE, celE, w64, Nat.zero_add, Nat.add_zero, Nat.mul_one, putL, and_self, ldn, id_eq, ext_2_0, ext_2_1, ext_3_0, ext_3_1, ext_3_2, ext_4_0, ext_4_1, ext_4_2, ext_4_3, beq_self_eq_true, bne_self_eq_false, gt_iff_lt]
  have TT := eqIntsO_rc M13 _ _ W g.now.in w.now.in
  refine callH_rc TT ?_
  clear TT
  rintro r new ⟨rfl, nrn⟩
  obtain ⟨M14, hM14⟩ : ∃ M', M' = M13 ++ new := ⟨_, rfl⟩
  rw [← hM14]
  have LM14 : M14.length = M13.length + new.length := by rw [hM14, List.length_append]
  replace C0 : Lv 0 M0.length M14 fun M => IntsA M v0 d0 := by rw [hM14]; exact C0.ext _
  replace C1 : Lv 0 M0.length M14 fun M => IntsA M v1 d1 := by rw [hM14]; exact C1.ext _
  replace w : Lv M2.length M3.length M14 fun M => IntsO W M2.length M3.length M vw := by rw [hM14]; exact w.ext _
  replace g : Lv M5.length M6.length M14 fun M => IntsO W M5.length M6.length M vg := by rw [hM14]; exact g.ext _
  clear nrn
  try simp (config := {implicitDefEqProofs := false, maxDischargeDepth := 20}) (disch := first | omega | (simp only [lenE]; done) | (simp only [lenE]; omega) | rfl | (simp only [lenE, markR_len]; done) | (simp only [lenE, markR_len]; omega)) only [runE, mapE, listE, initT_5, initT_6, initT_7, initT_8, resV, oneV, binA, unA, reduceCtorEq, Nat.reduceEqDiff, Nat.reduceAdd, Nat.reduceLT, Nat.reduceLeDiff, Nat.reduceMul, Nat.reduceSub, ↓reduceIte, decide_true, decide_false, Bool.true_eq_false, Bool.false_eq_true, Bool.not_true, Bool.not_false, if_true, if_false, and_true, true_and, memE, celE, w64, Nat.zero_add, Nat.add_zero, Nat.mul_one, putL, and_self, ldn, id_eq, ext_2_0, ext_2_1, ext_3_0, ext_3_1, ext_3_2, ext_4_0, ext_4_1, ext_4_2, ext_4_3, beq_self_eq_true, bne_self_eq_false, gt_iff_lt]
  refine callH_ac (markIntsO_ac _ M5.length M6.length _ W 1 g (by omega) (by omega)) ?_
  rintro r M15 ⟨rfl, hB, gm⟩
  have LM15 := hB.1
  have gsm := g.now.1
  replace C0 : Lv 0 M0.length M15 fun M => IntsA M v0 d0 := C0.but hB (by omega)
  replace C1 : Lv 0 M0.length M15 fun M => IntsA M v1 d1 := C1.but hB (by omega)
  replace w : Lv M2.length M3.length M15 fun M => IntsO W M2.length M3.length M vw := w.but hB (by omega)
  clear g hB
  have hkq : ¬ (1 + (W.length : Int) < 0) := by omega
  try simp (config := {implicitDefEqProofs := false, maxDischargeDepth := 20}) (disch := first | omega | (simp only [lenE]; done) | (simp only [lenE]; omega) | rfl | (simp only [lenE, markR_len]; done) | (simp only [lenE, markR_len]; omega)) only [runE, mapE, listE, initT_5, initT_6, initT_7, initT_8, resV, oneV, binA, unA, reduceCtorEq, Nat.reduceEqDiff, Nat.reduceAdd, Nat.reduceLT, Nat.reduceLeDiff, Nat.reduceMul, Nat.reduceSub, ↓reduceIte, decide_true, decide_false, Bool.true_eq_false, Bool.false_eq_true, Bool.not_true, Bool.not_false, if_true, if_false, and_true, true_and, memE, celE, w64, Nat.zero_add, Nat.add_zero, Nat.mul_one, putL, and_self, ldn, id_eq, ext_2_0, ext_2_1, ext_3_0, ext_3_1, ext_3_2, ext_4_0, ext_4_1, ext_4_2, ext_4_3, beq_self_eq_true, bne_self_eq_false, gt_iff_lt]
  refine callH_rc (heldIntsO_rc _ _ 1 W.length gm.now.in (by omega) (by omega) (by omega)) ?_
  rintro r new ⟨rfl, nrn⟩
  obtain ⟨M16, hM16⟩ : ∃ M', M' = M15 ++ new := ⟨_, rfl⟩
  rw [← hM16]
  have LM16 : M16.length = M15.length + new.length := by rw [hM16, List.length_append]
  replace C0 : Lv 0 M0.length M16 fun M => IntsA M v0 d0 := by rw [hM16]; exact C0.ext _
  replace C1 : Lv 0 M0.length M16 fun M => IntsA M v1 d1 := by rw [hM16]; exact C1.ext _
  replace w : Lv M2.length M3.length M16 fun M => IntsO W M2.length M3.length M vw := by rw [hM16]; exact w.ext _
  replace gm : Lv M5.length M6.length M16 fun M => IntsO (imarks 1 W.length) M5.length M6.length M vg := by rw [hM16]; exact gm.ext _
  clear nrn
  try simp (config := {implicitDefEqProofs := false, maxDischargeDepth := 20}) (disch := first | omega | (simp only [lenE]; done) | (simp only [lenE]; omega) | rfl | (simp only [lenE, markR_len]; done) | (simp only [lenE, markR_len]; omega)) only [runE, mapE, listE, initT_5, initT_6, initT_7, initT_8, resV, oneV, binA, unA, reduceCtorEq, Nat.reduceEqDiff, Nat.reduceAdd, Nat.reduceLT, Nat.reduceLeDiff, Nat.reduceMul, Nat.reduceSub, ↓reduceIte, decide_true, decide_false, Bool.true_eq_false, Bool.false_eq_true, Bool.not_true, Bool.not_false, if_true, if_false, and_true, true_and, memE, celE, w64, Nat.zero_add, Nat.add_zero, Nat.mul_one, putL, and_self, ldn, id_eq, ext_2_0, ext_2_1, ext_3_0, ext_3_1, ext_3_2, ext_4_0, ext_4_1, ext_4_2, ext_4_3, beq_self_eq_true, bne_self_eq_false, gt_iff_lt, hkq]
  try simp (config := {implicitDefEqProofs := false, maxDischargeDepth := 20}) (disch := first | omega | (simp only [lenE]; done) | (simp only [lenE]; omega) | rfl | (simp only [lenE, markR_len]; done) | (simp only [lenE, markR_len]; omega)) only [runE, mapE, listE, initT_5, initT_6, initT_7, initT_8, resV, oneV, binA, unA, reduceCtorEq, Nat.reduceEqDiff, Nat.reduceAdd, Nat.reduceLT, Nat.reduceLeDiff, Nat.reduceMul, Nat.reduceSub, ↓reduceIte, decide_true, decide_false, Bool.true_eq_false, Bool.false_eq_true, Bool.not_true, Bool.not_false, if_true, if_false, and_true, true_and, memE, celE, w64, Nat.zero_add, Nat.add_zero, Nat.mul_one, putL, and_self, ldn, id_eq, ext_2_0, ext_2_1, ext_3_0, ext_3_1, ext_3_2, ext_4_0, ext_4_1, ext_4_2, ext_4_3, beq_self_eq_true, bne_self_eq_false, gt_iff_lt]
  have TT := toIntsO_rc M16 _ d0 C0.now (by omega)
  first | refine callH_rc TT ?_ | refine rcallH_rc TT ?_
  clear TT
  rintro r new ⟨nrn, Uv0, Uv0e, U0⟩
  rw [id_eq] at Uv0e
  subst r
  obtain ⟨M17, hM17⟩ : ∃ M', M' = M16 ++ new := ⟨_, rfl⟩
  rw [← hM17]
  have LM17 : M17.length = M16.length + new.length := by rw [hM17, List.length_append]
  replace C0 : Lv 0 M0.length M17 fun M => IntsA M v0 d0 := by rw [hM17]; exact C0.ext _
  replace C1 : Lv 0 M0.length M17 fun M => IntsA M v1 d1 := by rw [hM17]; exact C1.ext _
  replace w : Lv M2.length M3.length M17 fun M => IntsO W M2.length M3.length M vw := by rw [hM17]; exact w.ext _
  replace gm : Lv M5.length M6.length M17 fun M => IntsO (imarks 1 W.length) M5.length M6.length M vg := by rw [hM17]; exact gm.ext _
  clear nrn
  rw [← hM17, ← LM17] at U0
  change Lv M16.length M17.length M17 fun M => IntsO d0 M16.length M17.length M Uv0 at U0
  try simp (config := {implicitDefEqProofs := false, maxDischargeDepth := 20}) (disch := first | omega | (simp only [lenE]; done) | (simp only [lenE]; omega) | rfl | (simp only [lenE, markR_len]; done) | (simp only [lenE, markR_len]; omega)) only [runE, mapE, listE, initT_5, initT_6, initT_7, initT_8, resV, oneV, binA, unA, reduceCtorEq, Nat.reduceEqDiff, Nat.reduceAdd, Nat.reduceLT, Nat.reduceLeDiff, Nat.reduceMul, Nat.reduceSub, ↓reduceIte, decide_true, decide_false, Bool.true_eq_false, Bool.false_eq_true, Bool.not_true, Bool.not_false, if_true, if_false, and_true, true_and, memE, celE, w64, Nat.zero_add, Nat.add_zero, Nat.mul_one, putL, and_self, ldn, id_eq, ext_2_0, ext_2_1, ext_3_0, ext_3_1, ext_3_2, ext_4_0, ext_4_1, ext_4_2, ext_4_3, beq_self_eq_true, bne_self_eq_false, gt_iff_lt]
  have TT := toIntsO_rc M17 _ d1 C1.now (by omega)
  first | refine callH_rc TT ?_ | refine rcallH_rc TT ?_
  clear TT
  rintro r new ⟨nrn, Uv1, Uv1e, U1⟩
  rw [id_eq] at Uv1e
  subst r
  obtain ⟨M18, hM18⟩ : ∃ M', M' = M17 ++ new := ⟨_, rfl⟩
  rw [← hM18]
  have LM18 : M18.length = M17.length + new.length := by rw [hM18, List.length_append]
  replace C0 : Lv 0 M0.length M18 fun M => IntsA M v0 d0 := by rw [hM18]; exact C0.ext _
  replace C1 : Lv 0 M0.length M18 fun M => IntsA M v1 d1 := by rw [hM18]; exact C1.ext _
  replace w : Lv M2.length M3.length M18 fun M => IntsO W M2.length M3.length M vw := by rw [hM18]; exact w.ext _
  replace gm : Lv M5.length M6.length M18 fun M => IntsO (imarks 1 W.length) M5.length M6.length M vg := by rw [hM18]; exact gm.ext _
  replace U0 : Lv M16.length M17.length M18 fun M => IntsO d0 M16.length M17.length M Uv0 := by rw [hM18]; exact U0.ext _
  clear nrn
  rw [← hM18, ← LM18] at U1
  change Lv M17.length M18.length M18 fun M => IntsO d1 M17.length M18.length M Uv1 at U1
  try simp (config := {implicitDefEqProofs := false, maxDischargeDepth := 20}) (disch := first | omega | (simp only [lenE]; done) | (simp only [lenE]; omega) | rfl | (simp only [lenE, markR_len]; done) | (simp only [lenE, markR_len]; omega)) only [runE, mapE, listE, initT_5, initT_6, initT_7, initT_8, resV, oneV, binA, unA, reduceCtorEq, Nat.reduceEqDiff, Nat.reduceAdd, Nat.reduceLT, Nat.reduceLeDiff, Nat.reduceMul, Nat.reduceSub, ↓reduceIte, decide_true, decide_false, Bool.true_eq_false, Bool.false_eq_true, Bool.not_true, Bool.not_false, if_true, if_false, and_true, true_and, memE, celE, w64, Nat.zero_add, Nat.add_zero, Nat.mul_one, putL, and_self, ldn, id_eq, ext_2_0, ext_2_1, ext_3_0, ext_3_1, ext_3_2, ext_4_0, ext_4_1, ext_4_2, ext_4_3, beq_self_eq_true, bne_self_eq_false, gt_iff_lt]
  refine callH_rc (IMP _ _ _ U0.now.in U1.now.in) ?_
  rintro r new ⟨nrn, vh, rfl, h⟩
  obtain ⟨M19, hM19⟩ : ∃ M', M' = M18 ++ new := ⟨_, rfl⟩
  rw [← hM19]
  have LM19 : M19.length = M18.length + new.length := by rw [hM19, List.length_append]
  replace C0 : Lv 0 M0.length M19 fun M => IntsA M v0 d0 := by rw [hM19]; exact C0.ext _
  replace C1 : Lv 0 M0.length M19 fun M => IntsA M v1 d1 := by rw [hM19]; exact C1.ext _
  replace w : Lv M2.length M3.length M19 fun M => IntsO W M2.length M3.length M vw := by rw [hM19]; exact w.ext _
  replace gm : Lv M5.length M6.length M19 fun M => IntsO (imarks 1 W.length) M5.length M6.length M vg := by rw [hM19]; exact gm.ext _
  replace U0 : Lv M16.length M17.length M19 fun M => IntsO d0 M16.length M17.length M Uv0 := by rw [hM19]; exact U0.ext _
  replace U1 : Lv M17.length M18.length M19 fun M => IntsO d1 M17.length M18.length M Uv1 := by rw [hM19]; exact U1.ext _
  clear nrn
  rw [← hM19, ← LM19] at h
  clear U0
  clear U1
  try simp (config := {implicitDefEqProofs := false, maxDischargeDepth := 20}) (disch := first | omega | (simp only [lenE]; done) | (simp only [lenE]; omega) | rfl | (simp only [lenE, markR_len]; done) | (simp only [lenE, markR_len]; omega)) only [runE, mapE, listE, initT_5, initT_6, initT_7, initT_8, resV, oneV, binA, unA, reduceCtorEq, Nat.reduceEqDiff, Nat.reduceAdd, Nat.reduceLT, Nat.reduceLeDiff, Nat.reduceMul, Nat.reduceSub, ↓reduceIte, decide_true, decide_false, Bool.true_eq_false, Bool.false_eq_true, Bool.not_true, Bool.not_false, if_true, if_false, and_true, true_and, memE, celE, w64, Nat.zero_add, Nat.add_zero, Nat.mul_one, putL, and_self, ldn, id_eq, ext_2_0, ext_2_1, ext_3_0, ext_3_1, ext_3_2, ext_4_0, ext_4_1, ext_4_2, ext_4_3, beq_self_eq_true, bne_self_eq_false, gt_iff_lt]
  have TT := eqIntsO_rc M19 _ _ W h.now.in w.now.in
  refine callH_rc TT ?_
  clear TT
  rintro r new ⟨rfl, nrn⟩
  obtain ⟨M20, hM20⟩ : ∃ M', M' = M19 ++ new := ⟨_, rfl⟩
  rw [← hM20]
  have LM20 : M20.length = M19.length + new.length := by rw [hM20, List.length_append]
  replace C0 : Lv 0 M0.length M20 fun M => IntsA M v0 d0 := by rw [hM20]; exact C0.ext _
  replace C1 : Lv 0 M0.length M20 fun M => IntsA M v1 d1 := by rw [hM20]; exact C1.ext _
  replace w : Lv M2.length M3.length M20 fun M => IntsO W M2.length M3.length M vw := by rw [hM20]; exact w.ext _
  replace gm : Lv M5.length M6.length M20 fun M => IntsO (imarks 1 W.length) M5.length M6.length M vg := by rw [hM20]; exact gm.ext _
  replace h : Lv M18.length M19.length M20 fun M => IntsO W M18.length M19.length M vh := by rw [hM20]; exact h.ext _
  clear nrn
  try simp (config := {implicitDefEqProofs := false, maxDischargeDepth := 20}) (disch := first | omega | (simp only [lenE]; done) | (simp only [lenE]; omega) | rfl | (simp only [lenE, markR_len]; done) | (simp only [lenE, markR_len]; omega)) only [runE, mapE, listE, initT_5, initT_6, initT_7, initT_8, resV, oneV, binA, unA, reduceCtorEq, Nat.reduceEqDiff, Nat.reduceAdd, Nat.reduceLT, Nat.reduceLeDiff, Nat.reduceMul, Nat.reduceSub, ↓reduceIte, decide_true, decide_false, Bool.true_eq_false, Bool.false_eq_true, Bool.not_true, Bool.not_false, if_true, if_false, and_true, true_and, memE, celE, w64, Nat.zero_add, Nat.add_zero, Nat.mul_one, putL, and_self, ldn, id_eq, ext_2_0, ext_2_1, ext_3_0, ext_3_1, ext_3_2, ext_4_0, ext_4_1, ext_4_2, ext_4_3, beq_self_eq_true, bne_self_eq_false, gt_iff_lt]
  try simp (config := {implicitDefEqProofs := false, maxDischargeDepth := 20}) (disch := first | omega | (simp only [lenE]; done) | (simp only [lenE]; omega) | rfl | (simp only [lenE, markR_len]; done) | (simp only [lenE, markR_len]; omega)) only [runE, mapE, listE, initT_5, initT_6, initT_7, initT_8, resV, oneV, binA, unA, reduceCtorEq, Nat.reduceEqDiff, Nat.reduceAdd, Nat.reduceLT, Nat.reduceLeDiff, Nat.reduceMul, Nat.reduceSub, ↓reduceIte, decide_true, decide_false, Bool.true_eq_false, Bool.false_eq_true, Bool.not_true, Bool.not_false, if_true, if_false, and_true, true_and, memE, celE, w64, Nat.zero_add, Nat.add_zero, Nat.mul_one, putL, and_self, ldn, id_eq, ext_2_0, ext_2_1, ext_3_0, ext_3_1, ext_3_2, ext_4_0, ext_4_1, ext_4_2, ext_4_3, beq_self_eq_true, bne_self_eq_false, gt_iff_lt]
  refine callH_rc (heldIntsO_rc _ _ 1 W.length gm.now.in (by omega) (by omega) (by omega)) ?_
  rintro r new ⟨rfl, nrn⟩
  obtain ⟨M21, hM21⟩ : ∃ M', M' = M20 ++ new := ⟨_, rfl⟩
  rw [← hM21]
  have LM21 : M21.length = M20.length + new.length := by rw [hM21, List.length_append]
  replace C0 : Lv 0 M0.length M21 fun M => IntsA M v0 d0 := by rw [hM21]; exact C0.ext _
  replace C1 : Lv 0 M0.length M21 fun M => IntsA M v1 d1 := by rw [hM21]; exact C1.ext _
  replace w : Lv M2.length M3.length M21 fun M => IntsO W M2.length M3.length M vw := by rw [hM21]; exact w.ext _
  replace gm : Lv M5.length M6.length M21 fun M => IntsO (imarks 1 W.length) M5.length M6.length M vg := by rw [hM21]; exact gm.ext _
  replace h : Lv M18.length M19.length M21 fun M => IntsO W M18.length M19.length M vh := by rw [hM21]; exact h.ext _
  clear nrn
  try simp (config := {implicitDefEqProofs := false, maxDischargeDepth := 20}) (disch := first | omega | (simp only [lenE]; done) | (simp only [lenE]; omega) | rfl | (simp only [lenE, markR_len]; done) | (simp only [lenE, markR_len]; omega)) only [runE, mapE, listE, initT_5, initT_6, initT_7, initT_8, resV, oneV, binA, unA, reduceCtorEq, Nat.reduceEqDiff, Nat.reduceAdd, Nat.reduceLT, Nat.reduceLeDiff, Nat.reduceMul, Nat.reduceSub, ↓reduceIte, decide_true, decide_false, Bool.true_eq_false, Bool.false_eq_true, Bool.not_true, Bool.not_false, if_true, if_false, and_true, true_and, memE, celE, w64, Nat.zero_add, Nat.add_zero, Nat.mul_one, putL, and_self, ldn, id_eq, ext_2_0, ext_2_1, ext_3_0, ext_3_1, ext_3_2, ext_4_0, ext_4_1, ext_4_2, ext_4_3, beq_self_eq_true, bne_self_eq_false, gt_iff_lt, hkq]
end Go.Proofs.Ytmjnjhdacliieaa.Ab
