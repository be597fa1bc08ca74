/- FnExactParcelStocks: its running over abstract memory. -/
import Derived.Test.YtnkbjliidenldaaAbFl17
import Derived.Test.YtnkbjliidenldaaAbPc
import Derived.Test.YtnkbjliidenldaaAbMarks
import Derived.Test.YtnkbjliidenldaaAbBox
import Derived.Test.YtnkbjliidenldaaAbArg
import Derived.Test.YtnkbjliidenldaaCodLParcelStocks
namespace Go.Proofs.Ytnkbjliidenldaa.Ab
open Go Go.RowKit
set_option linter.unusedVariables false
set_option linter.unusedSimpArgs false
set_option maxRecDepth 100000

set_option maxHeartbeats 4000000 in
theorem law_FnExactParcelStocks (M0 : Mem) (d0 : Int) (d1 : List Pc) (v1 : Value) (d2 : List Int) (v2 : Value) (A1 : PcsA M0 v1 d1) (A2 : IntsA M0 v2 d2) :
    AC Try.prog 17 [.int .i64 d0, v1, v2] M0 fun r _ => r = .bool true := by
  refine ac_of_run mixed ok_laws_FnExactParcelStocks (by simp) (go_start _ _ _ ?_)
  have len2 := A2.len
  have bd2 := A2.bd
  have C1 : Lv 0 M0.length M0 fun M => PcsA M v1 d1 := Lv.all fun new => A1.ext new
  have C2 : Lv 0 M0.length M0 fun M => IntsA M v2 d2 := Lv.all fun new => A2.ext new
  by_cases s2 : 1048576 < d2.length
  · have s2' : (1048576 : Int) < d2.length := by omega
    try simp (config := {implicitDefEqProofs := false, maxDischargeDepth := 20}) (disch := first | omega | (simp only [lenE]; done) | (simp only [lenE]; omega) | rfl | (simp only [lenE, markR_len]; done) | (simp only [lenE, markR_len]; omega)) only [runE, mapE, listE, initT_5, initT_6, initT_7, initT_8, resV, oneV, binA, unA, reduceCtorEq, Nat.reduceEqDiff, Nat.reduceAdd, Nat.reduceLT, Nat.reduceLeDiff, Nat.reduceMul, Nat.reduceSub, ↓reduceIte, decide_true, decide_false, Bool.true_eq_false, Bool.false_eq_true, Bool.not_true, Bool.not_false, if_true, if_false, and_true, true_and, memE, celE, w64, Nat.zero_add, Nat.add_zero, Nat.mul_one, putL, and_self, ldn, c_laws_FnExactParcelStocks, r_laws_FnExactParcelStocks, id_eq, ext_2_0, ext_2_1, ext_3_0, ext_3_1, ext_3_2, ext_4_0, ext_4_1, ext_4_2, ext_4_3, beq_self_eq_true, bne_self_eq_false, gt_iff_lt, s2', len2]
    done
  have s2' : ¬ ((1048576 : Int) < d2.length) := by omega
  try simp (config := {implicitDefEqProofs := false, maxDischargeDepth := 20}) (disch := first | omega | (simp only [lenE]; done) | (simp only [lenE]; omega) | rfl | (simp only [lenE, markR_len]; done) | (simp only [lenE, markR_len]; omega)) only [runE, mapE, listE, initT_5, initT_6, initT_7, initT_8, resV, oneV, binA, unA, reduceCtorEq, Nat.reduceEqDiff, Nat.reduceAdd, Nat.reduceLT, Nat.reduceLeDiff, Nat.reduceMul, Nat.reduceSub, ↓reduceIte, decide_true, decide_false, Bool.true_eq_false, Bool.false_eq_true, Bool.not_true, Bool.not_false, if_true, if_false, and_true, true_and, memE, celE, w64, Nat.zero_add, Nat.add_zero, Nat.mul_one, putL, and_self, ldn, c_laws_FnExactParcelStocks, r_laws_FnExactParcelStocks, id_eq, ext_2_0, ext_2_1, ext_3_0, ext_3_1, ext_3_2, ext_4_0, ext_4_1, ext_4_2, ext_4_3, beq_self_eq_true, bne_self_eq_false, gt_iff_lt, s2', len2]
  try simp (config := {implicitDefEqProofs := false, maxDischargeDepth := 20}) (disch := first | omega | (simp only [lenE]; done) | (simp only [lenE]; omega) | rfl | (simp only [lenE, markR_len]; done) | (simp only [lenE, markR_len]; omega)) only [runE, mapE, listE, initT_5, initT_6, initT_7, initT_8, resV, oneV, binA, unA, reduceCtorEq, Nat.reduceEqDiff, Nat.reduceAdd, Nat.reduceLT, Nat.reduceLeDiff, Nat.reduceMul, Nat.reduceSub, ↓reduceIte, decide_true, decide_false, Bool.true_eq_false, Bool.false_eq_true, Bool.not_true, Bool.not_false, if_true, if_false, and_true, true_and, memE, celE, w64, Nat.zero_add, Nat.add_zero, Nat.mul_one, putL, and_self, ldn, id_eq, ext_2_0, ext_2_1, ext_3_0, ext_3_1, ext_3_2, ext_4_0, ext_4_1, ext_4_2, ext_4_3, beq_self_eq_true, bne_self_eq_false, gt_iff_lt]
  refine callH_rc (szParcelS_rc _ _ d1 1048576 C1.now (by omega) (by omega)) ?_
  rintro r new ⟨nrn, rfl | ⟨z1, za1, zb1, rfl, hs1⟩⟩
  · simp (config := {implicitDefEqProofs := false, maxDischargeDepth := 20}) (disch := first | omega | (simp only [lenE]; done) | (simp only [lenE]; omega) | rfl | (simp only [lenE, markR_len]; done) | (simp only [lenE, markR_len]; omega)) only [runE, mapE, listE, initT_5, initT_6, initT_7, initT_8, resV, oneV, binA, unA, reduceCtorEq, Nat.reduceEqDiff, Nat.reduceAdd, Nat.reduceLT, Nat.reduceLeDiff, Nat.reduceMul, Nat.reduceSub, ↓reduceIte, decide_true, decide_false, Bool.true_eq_false, Bool.false_eq_true, Bool.not_true, Bool.not_false, if_true, if_false, and_true, true_and, memE, celE, w64, Nat.zero_add, Nat.add_zero, Nat.mul_one, putL, and_self, ldn, show ((-1 : Int) < 0) = True by simp]
  have zc1 : ¬ (z1 < 0) := by omega
  obtain ⟨M1, hM1⟩ : ∃ M', M' = M0 ++ new := ⟨_, rfl⟩
  rw [← hM1]
  have LM1 : M1.length = M0.length + new.length := by rw [hM1, List.length_append]
  replace C1 : Lv 0 M0.length M1 fun M => PcsA M v1 d1 := by rw [hM1]; exact C1.ext _
  replace C2 : Lv 0 M0.length M1 fun M => IntsA M v2 d2 := by rw [hM1]; exact C2.ext _
  clear nrn
  try simp (config := {implicitDefEqProofs := false, maxDischargeDepth := 20}) (disch := first | omega | (simp only [lenE]; done) | (simp only [lenE]; omega) | rfl | (simp only [lenE, markR_len]; done) | (simp only [lenE, markR_len]; omega)) only [runE, mapE, listE, initT_5, initT_6, initT_7, initT_8, resV, oneV, binA, unA, reduceCtorEq, Nat.reduceEqDiff, Nat.reduceAdd, Nat.reduceLT, Nat.reduceLeDiff, Nat.reduceMul, Nat.reduceSub, ↓reduceIte, decide_true, decide_false, Bool.true_eq_false, Bool.false_eq_true, Bool.not_true, Bool.not_false, if_true, if_false, and_true, true_and, memE, celE, w64, Nat.zero_add, Nat.add_zero, Nat.mul_one, putL, and_self, ldn, id_eq, ext_2_0, ext_2_1, ext_3_0, ext_3_1, ext_3_2, ext_4_0, ext_4_1, ext_4_2, ext_4_3, beq_self_eq_true, bne_self_eq_false, gt_iff_lt, zc1]
  obtain ⟨W, hW⟩ : ∃ W : List Int, W = (pstA d0 d1 d2) := ⟨_, rfl⟩
  obtain ⟨q0, hq0⟩ : ∃ q : Bool, q = (pstOk d0 d1 d2) := ⟨_, rfl⟩
  have SPC := fun m u1 u2 => specParcelStocks_rc m u1 u2 d0 d1 d2
  have IMP := fun m u1 u2 => implParcelStocks_rc m u1 u2 d0 d1 d2
  try rw [← hW] at SPC
  try rw [← hW] at IMP
  try rw [← hq0] at SPC
  try rw [← hq0] at IMP
  try simp (config := {implicitDefEqProofs := false, maxDischargeDepth := 20}) (disch := first | omega | (simp only [lenE]; done) | (simp only [lenE]; omega) | rfl | (simp only [lenE, markR_len]; done) | (simp only [lenE, markR_len]; omega)) only [runE, mapE, listE, initT_5, initT_6, initT_7, initT_8, resV, oneV, binA, unA, reduceCtorEq, Nat.reduceEqDiff, Nat.reduceAdd, Nat.reduceLT, Nat.reduceLeDiff, Nat.reduceMul, Nat.reduceSub, ↓reduceIte, decide_true, decide_false, Bool.true_eq_false, Bool.false_eq_true, Bool.not_true, Bool.not_false, if_true, if_false, and_true, true_and, memE, celE, w64, Nat.zero_add, Nat.add_zero, Nat.mul_one, putL, and_self, ldn, id_eq, ext_2_0, ext_2_1, ext_3_0, ext_3_1, ext_3_2, ext_4_0, ext_4_1, ext_4_2, ext_4_3, beq_self_eq_true, bne_self_eq_false, gt_iff_lt]
  have TT := toParcelS_rc M1 _ d1 C1.now hs1
  first | refine callH_rc TT ?_ | refine rcallH_rc TT ?_
  clear TT
  rintro r new ⟨nrn, Sv1, Sv1e, S1⟩
  rw [id_eq] at Sv1e
  subst r
  obtain ⟨M2, hM2⟩ : ∃ M', M' = M1 ++ new := ⟨_, rfl⟩
  rw [← hM2]
  have LM2 : M2.length = M1.length + new.length := by rw [hM2, List.length_append]
  replace C1 : Lv 0 M0.length M2 fun M => PcsA M v1 d1 := by rw [hM2]; exact C1.ext _
  replace C2 : Lv 0 M0.length M2 fun M => IntsA M v2 d2 := by rw [hM2]; exact C2.ext _
  clear nrn
  rw [← hM2, ← LM2] at S1
  change Lv M1.length M2.length M2 fun M => PcsO 113 d1 M1.length M2.length M Sv1 at S1
  try simp (config := {implicitDefEqProofs := false, maxDischargeDepth := 20}) (disch := first | omega | (simp only [lenE]; done) | (simp only [lenE]; omega) | rfl | (simp only [lenE, markR_len]; done) | (simp only [lenE, markR_len]; omega)) only [runE, mapE, listE, initT_5, initT_6, initT_7, initT_8, resV, oneV, binA, unA, reduceCtorEq, Nat.reduceEqDiff, Nat.reduceAdd, Nat.reduceLT, Nat.reduceLeDiff, Nat.reduceMul, Nat.reduceSub, ↓reduceIte, decide_true, decide_false, Bool.true_eq_false, Bool.false_eq_true, Bool.not_true, Bool.not_false, if_true, if_false, and_true, true_and, memE, celE, w64, Nat.zero_add, Nat.add_zero, Nat.mul_one, putL, and_self, ldn, id_eq, ext_2_0, ext_2_1, ext_3_0, ext_3_1, ext_3_2, ext_4_0, ext_4_1, ext_4_2, ext_4_3, beq_self_eq_true, bne_self_eq_false, gt_iff_lt]
  have TT := toIntsO_rc M2 _ d2 C2.now (by omega)
  first | refine callH_rc TT ?_ | refine rcallH_rc TT ?_
  clear TT
  rintro r new ⟨nrn, Sv2, Sv2e, S2⟩
  rw [id_eq] at Sv2e
  subst r
  obtain ⟨M3, hM3⟩ : ∃ M', M' = M2 ++ new := ⟨_, rfl⟩
  rw [← hM3]
  have LM3 : M3.length = M2.length + new.length := by rw [hM3, List.length_append]
  replace C1 : Lv 0 M0.length M3 fun M => PcsA M v1 d1 := by rw [hM3]; exact C1.ext _
  replace C2 : Lv 0 M0.length M3 fun M => IntsA M v2 d2 := by rw [hM3]; exact C2.ext _
  replace S1 : Lv M1.length M2.length M3 fun M => PcsO 113 d1 M1.length M2.length M Sv1 := by rw [hM3]; exact S1.ext _
  clear nrn
  rw [← hM3, ← LM3] at S2
  change Lv M2.length M3.length M3 fun M => IntsO d2 M2.length M3.length M Sv2 at S2
  try simp (config := {implicitDefEqProofs := false, maxDischargeDepth := 20}) (disch := first | omega | (simp only [lenE]; done) | (simp only [lenE]; omega) | rfl | (simp only [lenE, markR_len]; done) | (simp only [lenE, markR_len]; omega)) only [runE, mapE, listE, initT_5, initT_6, initT_7, initT_8, resV, oneV, binA, unA, reduceCtorEq, Nat.reduceEqDiff, Nat.reduceAdd, Nat.reduceLT, Nat.reduceLeDiff, Nat.reduceMul, Nat.reduceSub, ↓reduceIte, decide_true, decide_false, Bool.true_eq_false, Bool.false_eq_true, Bool.not_true, Bool.not_false, if_true, if_false, and_true, true_and, memE, celE, w64, Nat.zero_add, Nat.add_zero, Nat.mul_one, putL, and_self, ldn, id_eq, ext_2_0, ext_2_1, ext_3_0, ext_3_1, ext_3_2, ext_4_0, ext_4_1, ext_4_2, ext_4_3, beq_self_eq_true, bne_self_eq_false, gt_iff_lt]
  first | refine callH_rc (SPC _ _ _ S1.now.in S2.now.in) ?_ | refine rcallH_rc (SPC _ _ _ S1.now.in S2.now.in) ?_
  rintro r new ⟨nrn, vw, rfl, w⟩
  obtain ⟨M4, hM4⟩ : ∃ M', M' = M3 ++ new := ⟨_, rfl⟩
  rw [← hM4]
  have LM4 : M4.length = M3.length + new.length := by rw [hM4, List.length_append]
  replace C1 : Lv 0 M0.length M4 fun M => PcsA M v1 d1 := by rw [hM4]; exact C1.ext _
  replace C2 : Lv 0 M0.length M4 fun M => IntsA M v2 d2 := by rw [hM4]; exact C2.ext _
  replace S1 : Lv M1.length M2.length M4 fun M => PcsO 113 d1 M1.length M2.length M Sv1 := by rw [hM4]; exact S1.ext _
  replace S2 : Lv M2.length M3.length M4 fun M => IntsO d2 M2.length M3.length M Sv2 := by rw [hM4]; exact S2.ext _
  clear nrn
  rw [← hM4, ← LM4] at w
  clear S1
  clear S2
  try simp (config := {implicitDefEqProofs := false, maxDischargeDepth := 20}) (disch := first | omega | (simp only [lenE]; done) | (simp only [lenE]; omega) | rfl | (simp only [lenE, markR_len]; done) | (simp only [lenE, markR_len]; omega)) only [runE, mapE, listE, initT_5, initT_6, initT_7, initT_8, resV, oneV, binA, unA, reduceCtorEq, Nat.reduceEqDiff, Nat.reduceAdd, Nat.reduceLT, Nat.reduceLeDiff, Nat.reduceMul, Nat.reduceSub, ↓reduceIte, decide_true, decide_false, Bool.true_eq_false, Bool.false_eq_true, Bool.not_true, Bool.not_false, if_true, if_false, and_true, true_and, memE, celE, w64, Nat.zero_add, Nat.add_zero, Nat.mul_one, putL, and_self, ldn, id_eq, ext_2_0, ext_2_1, ext_3_0, ext_3_1, ext_3_2, ext_4_0, ext_4_1, ext_4_2, ext_4_3, beq_self_eq_true, bne_self_eq_false, gt_iff_lt]
  have TT := toParcelS_rc M4 _ d1 C1.now hs1
  first | refine callH_rc TT ?_ | refine rcallH_rc TT ?_
  clear TT
  rintro r new ⟨nrn, Yv1, Yv1e, Y1⟩
  rw [id_eq] at Yv1e
  subst r
  obtain ⟨M5, hM5⟩ : ∃ M', M' = M4 ++ new := ⟨_, rfl⟩
  rw [← hM5]
  have LM5 : M5.length = M4.length + new.length := by rw [hM5, List.length_append]
  replace C1 : Lv 0 M0.length M5 fun M => PcsA M v1 d1 := by rw [hM5]; exact C1.ext _
  replace C2 : Lv 0 M0.length M5 fun M => IntsA M v2 d2 := by rw [hM5]; exact C2.ext _
  replace w : Lv M3.length M4.length M5 fun M => IntsP W M3.length M4.length M vw := by rw [hM5]; exact w.ext _
  clear nrn
  rw [← hM5, ← LM5] at Y1
  change Lv M4.length M5.length M5 fun M => PcsO 113 d1 M4.length M5.length M Yv1 at Y1
  try simp (config := {implicitDefEqProofs := false, maxDischargeDepth := 20}) (disch := first | omega | (simp only [lenE]; done) | (simp only [lenE]; omega) | rfl | (simp only [lenE, markR_len]; done) | (simp only [lenE, markR_len]; omega)) only [runE, mapE, listE, initT_5, initT_6, initT_7, initT_8, resV, oneV, binA, unA, reduceCtorEq, Nat.reduceEqDiff, Nat.reduceAdd, Nat.reduceLT, Nat.reduceLeDiff, Nat.reduceMul, Nat.reduceSub, ↓reduceIte, decide_true, decide_false, Bool.true_eq_false, Bool.false_eq_true, Bool.not_true, Bool.not_false, if_true, if_false, and_true, true_and, memE, celE, w64, Nat.zero_add, Nat.add_zero, Nat.mul_one, putL, and_self, ldn, id_eq, ext_2_0, ext_2_1, ext_3_0, ext_3_1, ext_3_2, ext_4_0, ext_4_1, ext_4_2, ext_4_3, beq_self_eq_true, bne_self_eq_false, gt_iff_lt]
  have TT := toIntsO_rc M5 _ d2 C2.now (by omega)
  first | refine callH_rc TT ?_ | refine rcallH_rc TT ?_
  clear TT
  rintro r new ⟨nrn, Yv2, Yv2e, Y2⟩
  rw [id_eq] at Yv2e
  subst r
  obtain ⟨M6, hM6⟩ : ∃ M', M' = M5 ++ new := ⟨_, rfl⟩
  rw [← hM6]
  have LM6 : M6.length = M5.length + new.length := by rw [hM6, List.length_append]
  replace C1 : Lv 0 M0.length M6 fun M => PcsA M v1 d1 := by rw [hM6]; exact C1.ext _
  replace C2 : Lv 0 M0.length M6 fun M => IntsA M v2 d2 := by rw [hM6]; exact C2.ext _
  replace w : Lv M3.length M4.length M6 fun M => IntsP W M3.length M4.length M vw := by rw [hM6]; exact w.ext _
  replace Y1 : Lv M4.length M5.length M6 fun M => PcsO 113 d1 M4.length M5.length M Yv1 := by rw [hM6]; exact Y1.ext _
  clear nrn
  rw [← hM6, ← LM6] at Y2
  change Lv M5.length M6.length M6 fun M => IntsO d2 M5.length M6.length M Yv2 at Y2
  try simp (config := {implicitDefEqProofs := false, maxDischargeDepth := 20}) (disch := first | omega | (simp only [lenE]; done) | (simp only [lenE]; omega) | rfl | (simp only [lenE, markR_len]; done) | (simp only [lenE, markR_len]; omega)) only [runE, mapE, listE, initT_5, initT_6, initT_7, initT_8, resV, oneV, binA, unA, reduceCtorEq, Nat.reduceEqDiff, Nat.reduceAdd, Nat.reduceLT, Nat.reduceLeDiff, Nat.reduceMul, Nat.reduceSub, ↓reduceIte, decide_true, decide_false, Bool.true_eq_false, Bool.false_eq_true, Bool.not_true, Bool.not_false, if_true, if_false, and_true, true_and, memE, celE, w64, Nat.zero_add, Nat.add_zero, Nat.mul_one, putL, and_self, ldn, id_eq, ext_2_0, ext_2_1, ext_3_0, ext_3_1, ext_3_2, ext_4_0, ext_4_1, ext_4_2, ext_4_3, beq_self_eq_true, bne_self_eq_false, gt_iff_lt]
  first | refine callH_rc (IMP _ _ _ Y1.now.in Y2.now.in) ?_ | refine rcallH_rc (IMP _ _ _ Y1.now.in Y2.now.in) ?_
  rintro r new ⟨nrn, vg, rfl, g⟩
  obtain ⟨M7, hM7⟩ : ∃ M', M' = M6 ++ new := ⟨_, rfl⟩
  rw [← hM7]
  have LM7 : M7.length = M6.length + new.length := by rw [hM7, List.length_append]
  replace C1 : Lv 0 M0.length M7 fun M => PcsA M v1 d1 := by rw [hM7]; exact C1.ext _
  replace C2 : Lv 0 M0.length M7 fun M => IntsA M v2 d2 := by rw [hM7]; exact C2.ext _
  replace w : Lv M3.length M4.length M7 fun M => IntsP W M3.length M4.length M vw := by rw [hM7]; exact w.ext _
  replace Y1 : Lv M4.length M5.length M7 fun M => PcsO 113 d1 M4.length M5.length M Yv1 := by rw [hM7]; exact Y1.ext _
  replace Y2 : Lv M5.length M6.length M7 fun M => IntsO d2 M5.length M6.length M Yv2 := by rw [hM7]; exact Y2.ext _
  clear nrn
  rw [← hM7, ← LM7] at g
  try simp (config := {implicitDefEqProofs := false, maxDischargeDepth := 20}) (disch := first | omega | (simp only [lenE]; done) | (simp only [lenE]; omega) | rfl | (simp only [lenE, markR_len]; done) | (simp only [lenE, markR_len]; omega)) only [runE, mapE, listE, initT_5, initT_6, initT_7, initT_8, resV, oneV, binA, unA, reduceCtorEq, Nat.reduceEqDiff, Nat.reduceAdd, Nat.reduceLT, Nat.reduceLeDiff, Nat.reduceMul, Nat.reduceSub, ↓reduceIte, decide_true, decide_false, Bool.true_eq_false, Bool.false_eq_true, Bool.not_true, Bool.not_false, if_true, if_false, and_true, true_and, memE, celE, w64, Nat.zero_add, Nat.add_zero, Nat.mul_one, putL, and_self, ldn, id_eq, ext_2_0, ext_2_1, ext_3_0, ext_3_1, ext_3_2, ext_4_0, ext_4_1, ext_4_2, ext_4_3, beq_self_eq_true, bne_self_eq_false, gt_iff_lt]
  have TT := eqIntsO_rc M7 _ _ W g.now.in w.now.in
  refine callH_rc TT ?_
  clear TT
  rintro r new ⟨rfl, nrn⟩
  obtain ⟨M8, hM8⟩ : ∃ M', M' = M7 ++ new := ⟨_, rfl⟩
  rw [← hM8]
  have LM8 : M8.length = M7.length + new.length := by rw [hM8, List.length_append]
  replace C1 : Lv 0 M0.length M8 fun M => PcsA M v1 d1 := by rw [hM8]; exact C1.ext _
  replace C2 : Lv 0 M0.length M8 fun M => IntsA M v2 d2 := by rw [hM8]; exact C2.ext _
  replace w : Lv M3.length M4.length M8 fun M => IntsP W M3.length M4.length M vw := by rw [hM8]; exact w.ext _
  replace Y1 : Lv M4.length M5.length M8 fun M => PcsO 113 d1 M4.length M5.length M Yv1 := by rw [hM8]; exact Y1.ext _
  replace Y2 : Lv M5.length M6.length M8 fun M => IntsO d2 M5.length M6.length M Yv2 := by rw [hM8]; exact Y2.ext _
  replace g : Lv M6.length M7.length M8 fun M => IntsP W M6.length M7.length M vg := by rw [hM8]; exact g.ext _
  clear nrn
  try simp (config := {implicitDefEqProofs := false, maxDischargeDepth := 20}) (disch := first | omega | (simp only [lenE]; done) | (simp only [lenE]; omega) | rfl | (simp only [lenE, markR_len]; done) | (simp only [lenE, markR_len]; omega)) only [runE, mapE, listE, initT_5, initT_6, initT_7, initT_8, resV, oneV, binA, unA, reduceCtorEq, Nat.reduceEqDiff, Nat.reduceAdd, Nat.reduceLT, Nat.reduceLeDiff, Nat.reduceMul, Nat.reduceSub, ↓reduceIte, decide_true, decide_false, Bool.true_eq_false, Bool.false_eq_true, Bool.not_true, Bool.not_false, if_true, if_false, and_true, true_and, memE, celE, w64, Nat.zero_add, Nat.add_zero, Nat.mul_one, putL, and_self, ldn, id_eq, ext_2_0, ext_2_1, ext_3_0, ext_3_1, ext_3_2, ext_4_0, ext_4_1, ext_4_2, ext_4_3, beq_self_eq_true, bne_self_eq_false, gt_iff_lt]
  try simp (config := {implicitDefEqProofs := false, maxDischargeDepth := 20}) (disch := first | omega | (simp only [lenE]; done) | (simp only [lenE]; omega) | rfl | (simp only [lenE, markR_len]; done) | (simp only [lenE, markR_len]; omega)) only [runE, mapE, listE, initT_5, initT_6, initT_7, initT_8, resV, oneV, binA, unA, reduceCtorEq, Nat.reduceEqDiff, Nat.reduceAdd, Nat.reduceLT, Nat.reduceLeDiff, Nat.reduceMul, Nat.reduceSub, ↓reduceIte, decide_true, decide_false, Bool.true_eq_false, Bool.false_eq_true, Bool.not_true, Bool.not_false, if_true, if_false, and_true, true_and, memE, celE, w64, Nat.zero_add, Nat.add_zero, Nat.mul_one, putL, and_self, ldn, id_eq, ext_2_0, ext_2_1, ext_3_0, ext_3_1, ext_3_2, ext_4_0, ext_4_1, ext_4_2, ext_4_3, beq_self_eq_true, bne_self_eq_false, gt_iff_lt]
  have TT := toParcelS_rc M8 _ d1 C1.now hs1
  first | refine callH_rc TT ?_ | refine rcallH_rc TT ?_
  clear TT
  rintro r new ⟨nrn, Tv1, Tv1e, T1⟩
  rw [id_eq] at Tv1e
  subst r
  obtain ⟨M9, hM9⟩ : ∃ M', M' = M8 ++ new := ⟨_, rfl⟩
  rw [← hM9]
  have LM9 : M9.length = M8.length + new.length := by rw [hM9, List.length_append]
  replace C1 : Lv 0 M0.length M9 fun M => PcsA M v1 d1 := by rw [hM9]; exact C1.ext _
  replace C2 : Lv 0 M0.length M9 fun M => IntsA M v2 d2 := by rw [hM9]; exact C2.ext _
  replace w : Lv M3.length M4.length M9 fun M => IntsP W M3.length M4.length M vw := by rw [hM9]; exact w.ext _
  replace Y1 : Lv M4.length M5.length M9 fun M => PcsO 113 d1 M4.length M5.length M Yv1 := by rw [hM9]; exact Y1.ext _
  replace Y2 : Lv M5.length M6.length M9 fun M => IntsO d2 M5.length M6.length M Yv2 := by rw [hM9]; exact Y2.ext _
  replace g : Lv M6.length M7.length M9 fun M => IntsP W M6.length M7.length M vg := by rw [hM9]; exact g.ext _
  clear nrn
  rw [← hM9, ← LM9] at T1
  change Lv M8.length M9.length M9 fun M => PcsO 113 d1 M8.length M9.length M Tv1 at T1
  try simp (config := {implicitDefEqProofs := false, maxDischargeDepth := 20}) (disch := first | omega | (simp only [lenE]; done) | (simp only [lenE]; omega) | rfl | (simp only [lenE, markR_len]; done) | (simp only [lenE, markR_len]; omega)) only [runE, mapE, listE, initT_5, initT_6, initT_7, initT_8, resV, oneV, binA, unA, reduceCtorEq, Nat.reduceEqDiff, Nat.reduceAdd, Nat.reduceLT, Nat.reduceLeDiff, Nat.reduceMul, Nat.reduceSub, ↓reduceIte, decide_true, decide_false, Bool.true_eq_false, Bool.false_eq_true, Bool.not_true, Bool.not_false, if_true, if_false, and_true, true_and, memE, celE, w64, Nat.zero_add, Nat.add_zero, Nat.mul_one, putL, and_self, ldn, id_eq, ext_2_0, ext_2_1, ext_3_0, ext_3_1, ext_3_2, ext_4_0, ext_4_1, ext_4_2, ext_4_3, beq_self_eq_true, bne_self_eq_false, gt_iff_lt]
  have TT := eqParcelS_rc M9 _ _ d1 Y1.now.in T1.now.in
  first | refine callH_rc TT ?_ | refine rcallH_rc TT ?_
  clear TT
  rintro r new ⟨rfl, nrn⟩
  obtain ⟨M10, hM10⟩ : ∃ M', M' = M9 ++ new := ⟨_, rfl⟩
  rw [← hM10]
  have LM10 : M10.length = M9.length + new.length := by rw [hM10, List.length_append]
  replace C1 : Lv 0 M0.length M10 fun M => PcsA M v1 d1 := by rw [hM10]; exact C1.ext _
  replace C2 : Lv 0 M0.length M10 fun M => IntsA M v2 d2 := by rw [hM10]; exact C2.ext _
  replace w : Lv M3.length M4.length M10 fun M => IntsP W M3.length M4.length M vw := by rw [hM10]; exact w.ext _
  replace Y1 : Lv M4.length M5.length M10 fun M => PcsO 113 d1 M4.length M5.length M Yv1 := by rw [hM10]; exact Y1.ext _
  replace Y2 : Lv M5.length M6.length M10 fun M => IntsO d2 M5.length M6.length M Yv2 := by rw [hM10]; exact Y2.ext _
  replace g : Lv M6.length M7.length M10 fun M => IntsP W M6.length M7.length M vg := by rw [hM10]; exact g.ext _
  replace T1 : Lv M8.length M9.length M10 fun M => PcsO 113 d1 M8.length M9.length M Tv1 := by rw [hM10]; exact T1.ext _
  clear nrn
  clear T1
  try simp (config := {implicitDefEqProofs := false, maxDischargeDepth := 20}) (disch := first | omega | (simp only [lenE]; done) | (simp only [lenE]; omega) | rfl | (simp only [lenE, markR_len]; done) | (simp only [lenE, markR_len]; omega)) only [runE, mapE, listE, initT_5, initT_6, initT_7, initT_8, resV, oneV, binA, unA, reduceCtorEq, Nat.reduceEqDiff, Nat.reduceAdd, Nat.reduceLT, Nat.reduceLeDiff, Nat.reduceMul, Nat.reduceSub, ↓reduceIte, decide_true, decide_false, Bool.true_eq_false, Bool.false_eq_true, Bool.not_true, Bool.not_false, if_true, if_false, and_true, true_and, memE, celE, w64, Nat.zero_add, Nat.add_zero, Nat.mul_one, putL, and_self, ldn, id_eq, ext_2_0, ext_2_1, ext_3_0, ext_3_1, ext_3_2, ext_4_0, ext_4_1, ext_4_2, ext_4_3, beq_self_eq_true, bne_self_eq_false, gt_iff_lt]
  try simp (config := {implicitDefEqProofs := false, maxDischargeDepth := 20}) (disch := first | omega | (simp only [lenE]; done) | (simp only [lenE]; omega) | rfl | (simp only [lenE, markR_len]; done) | (simp only [lenE, markR_len]; omega)) only [runE, mapE, listE, initT_5, initT_6, initT_7, initT_8, resV, oneV, binA, unA, reduceCtorEq, Nat.reduceEqDiff, Nat.reduceAdd, Nat.reduceLT, Nat.reduceLeDiff, Nat.reduceMul, Nat.reduceSub, ↓reduceIte, decide_true, decide_false, Bool.true_eq_false, Bool.false_eq_true, Bool.not_true, Bool.not_false, if_true, if_false, and_true, true_and, memE, celE, w64, Nat.zero_add, Nat.add_zero, Nat.mul_one, putL, and_self, ldn, id_eq, ext_2_0, ext_2_1, ext_3_0, ext_3_1, ext_3_2, ext_4_0, ext_4_1, ext_4_2, ext_4_3, beq_self_eq_true, bne_self_eq_false, gt_iff_lt]
  have TT := toIntsO_rc M10 _ d2 C2.now (by omega)
  first | refine callH_rc TT ?_ | refine rcallH_rc TT ?_
  clear TT
  rintro r new ⟨nrn, Tv2, Tv2e, T2⟩
  rw [id_eq] at Tv2e
  subst r
  obtain ⟨M11, hM11⟩ : ∃ M', M' = M10 ++ new := ⟨_, rfl⟩
  rw [← hM11]
  have LM11 : M11.length = M10.length + new.length := by rw [hM11, List.length_append]
  replace C1 : Lv 0 M0.length M11 fun M => PcsA M v1 d1 := by rw [hM11]; exact C1.ext _
  replace C2 : Lv 0 M0.length M11 fun M => IntsA M v2 d2 := by rw [hM11]; exact C2.ext _
  replace w : Lv M3.length M4.length M11 fun M => IntsP W M3.length M4.length M vw := by rw [hM11]; exact w.ext _
  replace Y1 : Lv M4.length M5.length M11 fun M => PcsO 113 d1 M4.length M5.length M Yv1 := by rw [hM11]; exact Y1.ext _
  replace Y2 : Lv M5.length M6.length M11 fun M => IntsO d2 M5.length M6.length M Yv2 := by rw [hM11]; exact Y2.ext _
  replace g : Lv M6.length M7.length M11 fun M => IntsP W M6.length M7.length M vg := by rw [hM11]; exact g.ext _
  clear nrn
  rw [← hM11, ← LM11] at T2
  change Lv M10.length M11.length M11 fun M => IntsO d2 M10.length M11.length M Tv2 at T2
  try simp (config := {implicitDefEqProofs := false, maxDischargeDepth := 20}) (disch := first | omega | (simp only [lenE]; done) | (simp only [lenE]; omega) | rfl | (simp only [lenE, markR_len]; done) | (simp only [lenE, markR_len]; omega)) only [runE, mapE, listE, initT_5, initT_6, initT_7, initT_8, resV, oneV, binA, unA, reduceCtorEq, Nat.reduceEqDiff, Nat.reduceAdd, Nat.reduceLT, Nat.reduceLeDiff, Nat.reduceMul, Nat.reduceSub, ↓reduceIte, decide_true, decide_false, Bool.true_eq_false, Bool.false_eq_true, Bool.not_true, Bool.not_false, if_true, if_false, and_true, true_and, memE, celE, w64, Nat.zero_add, Nat.add_zero, Nat.mul_one, putL, and_self, ldn, id_eq, ext_2_0, ext_2_1, ext_3_0, ext_3_1, ext_3_2, ext_4_0, ext_4_1, ext_4_2, ext_4_3, beq_self_eq_true, bne_self_eq_false, gt_iff_lt]
  have TT := eqIntsO_rc M11 _ _ d2 Y2.now.in T2.now.in
  first | refine callH_rc TT ?_ | refine rcallH_rc TT ?_
  clear TT
  rintro r new ⟨rfl, nrn⟩
  obtain ⟨M12, hM12⟩ : ∃ M', M' = M11 ++ new := ⟨_, rfl⟩
  rw [← hM12]
  have LM12 : M12.length = M11.length + new.length := by rw [hM12, List.length_append]
  replace C1 : Lv 0 M0.length M12 fun M => PcsA M v1 d1 := by rw [hM12]; exact C1.ext _
  replace C2 : Lv 0 M0.length M12 fun M => IntsA M v2 d2 := by rw [hM12]; exact C2.ext _
  replace w : Lv M3.length M4.length M12 fun M => IntsP W M3.length M4.length M vw := by rw [hM12]; exact w.ext _
  replace Y1 : Lv M4.length M5.length M12 fun M => PcsO 113 d1 M4.length M5.length M Yv1 := by rw [hM12]; exact Y1.ext _
  replace Y2 : Lv M5.length M6.length M12 fun M => IntsO d2 M5.length M6.length M Yv2 := by rw [hM12]; exact Y2.ext _
  replace g : Lv M6.length M7.length M12 fun M => IntsP W M6.length M7.length M vg := by rw [hM12]; exact g.ext _
  replace T2 : Lv M10.length M11.length M12 fun M => IntsO d2 M10.length M11.length M Tv2 := by rw [hM12]; exact T2.ext _
  clear nrn
  clear T2
  try simp (config := {implicitDefEqProofs := false, maxDischargeDepth := 20}) (disch := first | omega | (simp only [lenE]; done) | (simp only [lenE]; omega) | rfl | (simp only [lenE, markR_len]; done) | (simp only [lenE, markR_len]; omega)) only [runE, mapE, listE, initT_5, initT_6, initT_7, initT_8, resV, oneV, binA, unA, reduceCtorEq, Nat.reduceEqDiff, Nat.reduceAdd, Nat.reduceLT, Nat.reduceLeDiff, Nat.reduceMul, Nat.reduceSub, ↓reduceIte, decide_true, decide_false, Bool.true_eq_false, Bool.false_eq_true, Bool.not_true, Bool.not_false, if_true, if_false, and_true, true_and, memE, celE, w64, Nat.zero_add, Nat.add_zero, Nat.mul_one, putL, and_self, ldn, id_eq, ext_2_0, ext_2_1, ext_3_0, ext_3_1, ext_3_2, ext_4_0, ext_4_1, ext_4_2, ext_4_3, beq_self_eq_true, bne_self_eq_false, gt_iff_lt]
  try simp (config := {implicitDefEqProofs := false, maxDischargeDepth := 20}) (disch := first | omega | (simp only [lenE]; done) | (simp only [lenE]; omega) | rfl | (simp only [lenE, markR_len]; done) | (simp only [lenE, markR_len]; omega)) only [runE, mapE, listE, initT_5, initT_6, initT_7, initT_8, resV, oneV, binA, unA, reduceCtorEq, Nat.reduceEqDiff, Nat.reduceAdd, Nat.reduceLT, Nat.reduceLeDiff, Nat.reduceMul, Nat.reduceSub, ↓reduceIte, decide_true, decide_false, Bool.true_eq_false, Bool.false_eq_true, Bool.not_true, Bool.not_false, if_true, if_false, and_true, true_and, memE, celE, w64, Nat.zero_add, Nat.add_zero, Nat.mul_one, putL, and_self, ldn, id_eq, ext_2_0, ext_2_1, ext_3_0, ext_3_1, ext_3_2, ext_4_0, ext_4_1, ext_4_2, ext_4_3, beq_self_eq_true, bne_self_eq_false, gt_iff_lt]
  refine callH_ac (markParcelS_ac _ M4.length M5.length _ d1 _ Y1 (by omega) (by omega)) ?_
  rintro r M13 ⟨rfl, hB, -⟩
  have LM13 := hB.1
  replace C1 : Lv 0 M0.length M13 fun M => PcsA M v1 d1 := C1.but hB (by omega)
  replace C2 : Lv 0 M0.length M13 fun M => IntsA M v2 d2 := C2.but hB (by omega)
  replace w : Lv M3.length M4.length M13 fun M => IntsP W M3.length M4.length M vw := w.but hB (by omega)
  replace Y2 : Lv M5.length M6.length M13 fun M => IntsO d2 M5.length M6.length M Yv2 := Y2.but hB (by omega)
  replace g : Lv M6.length M7.length M13 fun M => IntsP W M6.length M7.length M vg := g.but hB (by omega)
  clear Y1 hB
  have sn2 : d2.length ≤ 1048576 := by omega
  try simp (config := {implicitDefEqProofs := false, maxDischargeDepth := 20}) (disch := first | omega | (simp only [lenE]; done) | (simp only [lenE]; omega) | rfl | (simp only [lenE, markR_len]; done) | (simp only [lenE, markR_len]; omega)) only [runE, mapE, listE, initT_5, initT_6, initT_7, initT_8, resV, oneV, binA, unA, reduceCtorEq, Nat.reduceEqDiff, Nat.reduceAdd, Nat.reduceLT, Nat.reduceLeDiff, Nat.reduceMul, Nat.reduceSub, ↓reduceIte, decide_true, decide_false, Bool.true_eq_false, Bool.false_eq_true, Bool.not_true, Bool.not_false, if_true, if_false, and_true, true_and, memE, celE, w64, Nat.zero_add, Nat.add_zero, Nat.mul_one, putL, and_self, ldn, id_eq, ext_2_0, ext_2_1, ext_3_0, ext_3_1, ext_3_2, ext_4_0, ext_4_1, ext_4_2, ext_4_3, beq_self_eq_true, bne_self_eq_false, gt_iff_lt]
  refine callH_ac (markIntsO_ac _ M5.length M6.length _ d2 _ Y2 (by omega) (by omega)) ?_
  rintro r M14 ⟨rfl, hB, -⟩
  have LM14 := hB.1
  replace C1 : Lv 0 M0.length M14 fun M => PcsA M v1 d1 := C1.but hB (by omega)
  replace C2 : Lv 0 M0.length M14 fun M => IntsA M v2 d2 := C2.but hB (by omega)
  replace w : Lv M3.length M4.length M14 fun M => IntsP W M3.length M4.length M vw := w.but hB (by omega)
  replace g : Lv M6.length M7.length M14 fun M => IntsP W M6.length M7.length M vg := g.but hB (by omega)
  clear Y2 hB
  have hkk : ¬ (1 + (3 * (d1.length : Int)) + (d2.length : Int) < 0) := by omega
  try simp (config := {implicitDefEqProofs := false, maxDischargeDepth := 20}) (disch := first | omega | (simp only [lenE]; done) | (simp only [lenE]; omega) | rfl | (simp only [lenE, markR_len]; done) | (simp only [lenE, markR_len]; omega)) only [runE, mapE, listE, initT_5, initT_6, initT_7, initT_8, resV, oneV, binA, unA, reduceCtorEq, Nat.reduceEqDiff, Nat.reduceAdd, Nat.reduceLT, Nat.reduceLeDiff, Nat.reduceMul, Nat.reduceSub, ↓reduceIte, decide_true, decide_false, Bool.true_eq_false, Bool.false_eq_true, Bool.not_true, Bool.not_false, if_true, if_false, and_true, true_and, memE, celE, w64, Nat.zero_add, Nat.add_zero, Nat.mul_one, putL, and_self, ldn, id_eq, ext_2_0, ext_2_1, ext_3_0, ext_3_1, ext_3_2, ext_4_0, ext_4_1, ext_4_2, ext_4_3, beq_self_eq_true, bne_self_eq_false, gt_iff_lt, hkk]
  try simp (config := {implicitDefEqProofs := false, maxDischargeDepth := 20}) (disch := first | omega | (simp only [lenE]; done) | (simp only [lenE]; omega) | rfl | (simp only [lenE, markR_len]; done) | (simp only [lenE, markR_len]; omega)) only [runE, mapE, listE, initT_5, initT_6, initT_7, initT_8, resV, oneV, binA, unA, reduceCtorEq, Nat.reduceEqDiff, Nat.reduceAdd, Nat.reduceLT, Nat.reduceLeDiff, Nat.reduceMul, Nat.reduceSub, ↓reduceIte, decide_true, decide_false, Bool.true_eq_false, Bool.false_eq_true, Bool.not_true, Bool.not_false, if_true, if_false, and_true, true_and, memE, celE, w64, Nat.zero_add, Nat.add_zero, Nat.mul_one, putL, and_self, ldn, id_eq, ext_2_0, ext_2_1, ext_3_0, ext_3_1, ext_3_2, ext_4_0, ext_4_1, ext_4_2, ext_4_3, beq_self_eq_true, bne_self_eq_false, gt_iff_lt]
  have TT := eqIntsO_rc M14 _ _ W g.now.in w.now.in
  refine callH_rc TT ?_
  clear TT
  rintro r new ⟨rfl, nrn⟩
  obtain ⟨M15, hM15⟩ : ∃ M', M' = M14 ++ new := ⟨_, rfl⟩
  rw [← hM15]
  have LM15 : M15.length = M14.length + new.length := by rw [hM15, List.length_append]
  replace C1 : Lv 0 M0.length M15 fun M => PcsA M v1 d1 := by rw [hM15]; exact C1.ext _
  replace C2 : Lv 0 M0.length M15 fun M => IntsA M v2 d2 := by rw [hM15]; exact C2.ext _
  replace w : Lv M3.length M4.length M15 fun M => IntsP W M3.length M4.length M vw := by rw [hM15]; exact w.ext _
  replace g : Lv M6.length M7.length M15 fun M => IntsP W M6.length M7.length M vg := by rw [hM15]; exact g.ext _
  clear nrn
  try simp (config := {implicitDefEqProofs := false, maxDischargeDepth := 20}) (disch := first | omega | (simp only [lenE]; done) | (simp only [lenE]; omega) | rfl | (simp only [lenE, markR_len]; done) | (simp only [lenE, markR_len]; omega)) only [runE, mapE, listE, initT_5, initT_6, initT_7, initT_8, resV, oneV, binA, unA, reduceCtorEq, Nat.reduceEqDiff, Nat.reduceAdd, Nat.reduceLT, Nat.reduceLeDiff, Nat.reduceMul, Nat.reduceSub, ↓reduceIte, decide_true, decide_false, Bool.true_eq_false, Bool.false_eq_true, Bool.not_true, Bool.not_false, if_true, if_false, and_true, true_and, memE, celE, w64, Nat.zero_add, Nat.add_zero, Nat.mul_one, putL, and_self, ldn, id_eq, ext_2_0, ext_2_1, ext_3_0, ext_3_1, ext_3_2, ext_4_0, ext_4_1, ext_4_2, ext_4_3, beq_self_eq_true, bne_self_eq_false, gt_iff_lt]
  refine callH_ac (markIntsP_ac _ M6.length M7.length _ W 1 g (by omega) (by omega)) ?_
  rintro r M16 ⟨rfl, hB, gm⟩
  have LM16 := hB.1
  have gsm := g.now.1
  replace C1 : Lv 0 M0.length M16 fun M => PcsA M v1 d1 := C1.but hB (by omega)
  replace C2 : Lv 0 M0.length M16 fun M => IntsA M v2 d2 := C2.but hB (by omega)
  replace w : Lv M3.length M4.length M16 fun M => IntsP W M3.length M4.length M vw := w.but hB (by omega)
  clear g hB
  have hkq : ¬ (1 + (W.length : Int) < 0) := by omega
  try simp (config := {implicitDefEqProofs := false, maxDischargeDepth := 20}) (disch := first | omega | (simp only [lenE]; done) | (simp only [lenE]; omega) | rfl | (simp only [lenE, markR_len]; done) | (simp only [lenE, markR_len]; omega)) only [runE, mapE, listE, initT_5, initT_6, initT_7, initT_8, resV, oneV, binA, unA, reduceCtorEq, Nat.reduceEqDiff, Nat.reduceAdd, Nat.reduceLT, Nat.reduceLeDiff, Nat.reduceMul, Nat.reduceSub, ↓reduceIte, decide_true, decide_false, Bool.true_eq_false, Bool.false_eq_true, Bool.not_true, Bool.not_false, if_true, if_false, and_true, true_and, memE, celE, w64, Nat.zero_add, Nat.add_zero, Nat.mul_one, putL, and_self, ldn, id_eq, ext_2_0, ext_2_1, ext_3_0, ext_3_1, ext_3_2, ext_4_0, ext_4_1, ext_4_2, ext_4_3, beq_self_eq_true, bne_self_eq_false, gt_iff_lt]
  refine callH_rc (heldIntsO_rc _ _ 1 W.length gm.now.in (by omega) (by omega) (by omega)) ?_
  rintro r new ⟨rfl, nrn⟩
  obtain ⟨M17, hM17⟩ : ∃ M', M' = M16 ++ new := ⟨_, rfl⟩
  rw [← hM17]
  have LM17 : M17.length = M16.length + new.length := by rw [hM17, List.length_append]
  replace C1 : Lv 0 M0.length M17 fun M => PcsA M v1 d1 := by rw [hM17]; exact C1.ext _
  replace C2 : Lv 0 M0.length M17 fun M => IntsA M v2 d2 := by rw [hM17]; exact C2.ext _
  replace w : Lv M3.length M4.length M17 fun M => IntsP W M3.length M4.length M vw := by rw [hM17]; exact w.ext _
  replace gm : Lv M6.length M7.length M17 fun M => IntsP (imarks 1 W.length) M6.length M7.length M vg := by rw [hM17]; exact gm.ext _
  clear nrn
  try simp (config := {implicitDefEqProofs := false, maxDischargeDepth := 20}) (disch := first | omega | (simp only [lenE]; done) | (simp only [lenE]; omega) | rfl | (simp only [lenE, markR_len]; done) | (simp only [lenE, markR_len]; omega)) only [runE, mapE, listE, initT_5, initT_6, initT_7, initT_8, resV, oneV, binA, unA, reduceCtorEq, Nat.reduceEqDiff, Nat.reduceAdd, Nat.reduceLT, Nat.reduceLeDiff, Nat.reduceMul, Nat.reduceSub, ↓reduceIte, decide_true, decide_false, Bool.true_eq_false, Bool.false_eq_true, Bool.not_true, Bool.not_false, if_true, if_false, and_true, true_and, memE, celE, w64, Nat.zero_add, Nat.add_zero, Nat.mul_one, putL, and_self, ldn, id_eq, ext_2_0, ext_2_1, ext_3_0, ext_3_1, ext_3_2, ext_4_0, ext_4_1, ext_4_2, ext_4_3, beq_self_eq_true, bne_self_eq_false, gt_iff_lt, hkq]
  try simp (config := {implicitDefEqProofs := false, maxDischargeDepth := 20}) (disch := first | omega | (simp only [lenE]; done) | (simp only [lenE]; omega) | rfl | (simp only [lenE, markR_len]; done) | (simp only [lenE, markR_len]; omega)) only [runE, mapE, listE, initT_5, initT_6, initT_7, initT_8, resV, oneV, binA, unA, reduceCtorEq, Nat.reduceEqDiff, Nat.reduceAdd, Nat.reduceLT, Nat.reduceLeDiff, Nat.reduceMul, Nat.reduceSub, ↓reduceIte, decide_true, decide_false, Bool.true_eq_false, Bool.false_eq_true, Bool.not_true, Bool.not_false, if_true, if_false, and_true, true_and, memE, celE, w64, Nat.zero_add, Nat.add_zero, Nat.mul_one, putL, and_self, ldn, id_eq, ext_2_0, ext_2_1, ext_3_0, ext_3_1, ext_3_2, ext_4_0, ext_4_1, ext_4_2, ext_4_3, beq_self_eq_true, bne_self_eq_false, gt_iff_lt]
  have TT := toParcelS_rc M17 _ d1 C1.now hs1
  first | refine callH_rc TT ?_ | refine rcallH_rc TT ?_
  clear TT
  rintro r new ⟨nrn, Uv1, Uv1e, U1⟩
  rw [id_eq] at Uv1e
  subst r
  obtain ⟨M18, hM18⟩ : ∃ M', M' = M17 ++ new := ⟨_, rfl⟩
  rw [← hM18]
  have LM18 : M18.length = M17.length + new.length := by rw [hM18, List.length_append]
  replace C1 : Lv 0 M0.length M18 fun M => PcsA M v1 d1 := by rw [hM18]; exact C1.ext _
  replace C2 : Lv 0 M0.length M18 fun M => IntsA M v2 d2 := by rw [hM18]; exact C2.ext _
  replace w : Lv M3.length M4.length M18 fun M => IntsP W M3.length M4.length M vw := by rw [hM18]; exact w.ext _
  replace gm : Lv M6.length M7.length M18 fun M => IntsP (imarks 1 W.length) M6.length M7.length M vg := by rw [hM18]; exact gm.ext _
  clear nrn
  rw [← hM18, ← LM18] at U1
  change Lv M17.length M18.length M18 fun M => PcsO 113 d1 M17.length M18.length M Uv1 at U1
  try simp (config := {implicitDefEqProofs := false, maxDischargeDepth := 20}) (disch := first | omega | (simp only [lenE]; done) | (simp only [lenE]; omega) | rfl | (simp only [lenE, markR_len]; done) | (simp only [lenE, markR_len]; omega)) only [runE, mapE, listE, initT_5, initT_6, initT_7, initT_8, resV, oneV, binA, unA, reduceCtorEq, Nat.reduceEqDiff, Nat.reduceAdd, Nat.reduceLT, Nat.reduceLeDiff, Nat.reduceMul, Nat.reduceSub, ↓reduceIte, decide_true, decide_false, Bool.true_eq_false, Bool.false_eq_true, Bool.not_true, Bool.not_false, if_true, if_false, and_true, true_and, memE, celE, w64, Nat.zero_add, Nat.add_zero, Nat.mul_one, putL, and_self, ldn, id_eq, ext_2_0, ext_2_1, ext_3_0, ext_3_1, ext_3_2, ext_4_0, ext_4_1, ext_4_2, ext_4_3, beq_self_eq_true, bne_self_eq_false, gt_iff_lt]
  have TT := toIntsO_rc M18 _ d2 C2.now (by omega)
  first | refine callH_rc TT ?_ | refine rcallH_rc TT ?_
  clear TT
  rintro r new ⟨nrn, Uv2, Uv2e, U2⟩
  rw [id_eq] at Uv2e
  subst r
  obtain ⟨M19, hM19⟩ : ∃ M', M' = M18 ++ new := ⟨_, rfl⟩
  rw [← hM19]
  have LM19 : M19.length = M18.length + new.length := by rw [hM19, List.length_append]
  replace C1 : Lv 0 M0.length M19 fun M => PcsA M v1 d1 := by rw [hM19]; exact C1.ext _
  replace C2 : Lv 0 M0.length M19 fun M => IntsA M v2 d2 := by rw [hM19]; exact C2.ext _
  replace w : Lv M3.length M4.length M19 fun M => IntsP W M3.length M4.length M vw := by rw [hM19]; exact w.ext _
  replace gm : Lv M6.length M7.length M19 fun M => IntsP (imarks 1 W.length) M6.length M7.length M vg := by rw [hM19]; exact gm.ext _
  replace U1 : Lv M17.length M18.length M19 fun M => PcsO 113 d1 M17.length M18.length M Uv1 := by rw [hM19]; exact U1.ext _
  clear nrn
  rw [← hM19, ← LM19] at U2
  change Lv M18.length M19.length M19 fun M => IntsO d2 M18.length M19.length M Uv2 at U2
  try simp (config := {implicitDefEqProofs := false, maxDischargeDepth := 20}) (disch := first | omega | (simp only [lenE]; done) | (simp only [lenE]; omega) | rfl | (simp only [lenE, markR_len]; done) | (simp only [lenE, markR_len]; omega)) only [runE, mapE, listE, initT_5, initT_6, initT_7, initT_8, resV, oneV, binA, unA, reduceCtorEq, Nat.reduceEqDiff, Nat.reduceAdd, Nat.reduceLT, Nat.reduceLeDiff, Nat.reduceMul, Nat.reduceSub, ↓reduceIte, decide_true, decide_false, Bool.true_eq_false, Bool.false_eq_true, Bool.not_true, Bool.not_false, if_true, if_false, and_true, true_and, memE, celE, w64, Nat.zero_add, Nat.add_zero, Nat.mul_one, putL, and_self, ldn, id_eq, ext_2_0, ext_2_1, ext_3_0, ext_3_1, ext_3_2, ext_4_0, ext_4_1, ext_4_2, ext_4_3, beq_self_eq_true, bne_self_eq_false, gt_iff_lt]
  first | refine callH_rc (IMP _ _ _ U1.now.in U2.now.in) ?_ | refine rcallH_rc (IMP _ _ _ U1.now.in U2.now.in) ?_
  rintro r new ⟨nrn, vh, rfl, h⟩
  obtain ⟨M20, hM20⟩ : ∃ M', M' = M19 ++ new := ⟨_, rfl⟩
  rw [← hM20]
  have LM20 : M20.length = M19.length + new.length := by rw [hM20, List.length_append]
  replace C1 : Lv 0 M0.length M20 fun M => PcsA M v1 d1 := by rw [hM20]; exact C1.ext _
  replace C2 : Lv 0 M0.length M20 fun M => IntsA M v2 d2 := by rw [hM20]; exact C2.ext _
  replace w : Lv M3.length M4.length M20 fun M => IntsP W M3.length M4.length M vw := by rw [hM20]; exact w.ext _
  replace gm : Lv M6.length M7.length M20 fun M => IntsP (imarks 1 W.length) M6.length M7.length M vg := by rw [hM20]; exact gm.ext _
  replace U1 : Lv M17.length M18.length M20 fun M => PcsO 113 d1 M17.length M18.length M Uv1 := by rw [hM20]; exact U1.ext _
  replace U2 : Lv M18.length M19.length M20 fun M => IntsO d2 M18.length M19.length M Uv2 := by rw [hM20]; exact U2.ext _
  clear nrn
  rw [← hM20, ← LM20] at h
  clear U1
  clear U2
  try simp (config := {implicitDefEqProofs := false, maxDischargeDepth := 20}) (disch := first | omega | (simp only [lenE]; done) | (simp only [lenE]; omega) | rfl | (simp only [lenE, markR_len]; done) | (simp only [lenE, markR_len]; omega)) only [runE, mapE, listE, initT_5, initT_6, initT_7, initT_8, resV, oneV, binA, unA, reduceCtorEq, Nat.reduceEqDiff, Nat.reduceAdd, Nat.reduceLT, Nat.reduceLeDiff, Nat.reduceMul, Nat.reduceSub, ↓reduceIte, decide_true, decide_false, Bool.true_eq_false, Bool.false_eq_true, Bool.not_true, Bool.not_false, if_true, if_false, and_true, true_and, memE, celE, w64, Nat.zero_add, Nat.add_zero, Nat.mul_one, putL, and_self, ldn, id_eq, ext_2_0, ext_2_1, ext_3_0, ext_3_1, ext_3_2, ext_4_0, ext_4_1, ext_4_2, ext_4_3, beq_self_eq_true, bne_self_eq_false, gt_iff_lt]
  have TT := eqIntsO_rc M20 _ _ W h.now.in w.now.in
  refine callH_rc TT ?_
  clear TT
  rintro r new ⟨rfl, nrn⟩
  obtain ⟨M21, hM21⟩ : ∃ M', M' = M20 ++ new := ⟨_, rfl⟩
  rw [← hM21]
  have LM21 : M21.length = M20.length + new.length := by rw [hM21, List.length_append]
  replace C1 : Lv 0 M0.length M21 fun M => PcsA M v1 d1 := by rw [hM21]; exact C1.ext _
  replace C2 : Lv 0 M0.length M21 fun M => IntsA M v2 d2 := by rw [hM21]; exact C2.ext _
  replace w : Lv M3.length M4.length M21 fun M => IntsP W M3.length M4.length M vw := by rw [hM21]; exact w.ext _
  replace gm : Lv M6.length M7.length M21 fun M => IntsP (imarks 1 W.length) M6.length M7.length M vg := by rw [hM21]; exact gm.ext _
  replace h : Lv M19.length M20.length M21 fun M => IntsP W M19.length M20.length M vh := by rw [hM21]; exact h.ext _
  clear nrn
  try simp (config := {implicitDefEqProofs := false, maxDischargeDepth := 20}) (disch := first | omega | (simp only [lenE]; done) | (simp only [lenE]; omega) | rfl | (simp only [lenE, markR_len]; done) | (simp only [lenE, markR_len]; omega)) only [runE, mapE, listE, initT_5, initT_6, initT_7, initT_8, resV, oneV, binA, unA, reduceCtorEq, Nat.reduceEqDiff, Nat.reduceAdd, Nat.reduceLT, Nat.reduceLeDiff, Nat.reduceMul, Nat.reduceSub, ↓reduceIte, decide_true, decide_false, Bool.true_eq_false, Bool.false_eq_true, Bool.not_true, Bool.not_false, if_true, if_false, and_true, true_and, memE, celE, w64, Nat.zero_add, Nat.add_zero, Nat.mul_one, putL, and_self, ldn, id_eq, ext_2_0, ext_2_1, ext_3_0, ext_3_1, ext_3_2, ext_4_0, ext_4_1, ext_4_2, ext_4_3, beq_self_eq_true, bne_self_eq_false, gt_iff_lt]
  try simp (config := {implicitDefEqProofs := false, maxDischargeDepth := 20}) (disch := first | omega | (simp only [lenE]; done) | (simp only [lenE]; omega) | rfl | (simp only [lenE, markR_len]; done) | (simp only [lenE, markR_len]; omega)) only [runE, mapE, listE, initT_5, initT_6, initT_7, initT_8, resV, oneV, binA, unA, reduceCtorEq, Nat.reduceEqDiff, Nat.reduceAdd, Nat.reduceLT, Nat.reduceLeDiff, Nat.reduceMul, Nat.reduceSub, ↓reduceIte, decide_true, decide_false, Bool.true_eq_false, Bool.false_eq_true, Bool.not_true, Bool.not_false, if_true, if_false, and_true, true_and, memE, celE, w64, Nat.zero_add, Nat.add_zero, Nat.mul_one, putL, and_self, ldn, id_eq, ext_2_0, ext_2_1, ext_3_0, ext_3_1, ext_3_2, ext_4_0, ext_4_1, ext_4_2, ext_4_3, beq_self_eq_true, bne_self_eq_false, gt_iff_lt]
  refine callH_rc (heldIntsO_rc _ _ 1 W.length gm.now.in (by omega) (by omega) (by omega)) ?_
  rintro r new ⟨rfl, nrn⟩
  obtain ⟨M22, hM22⟩ : ∃ M', M' = M21 ++ new := ⟨_, rfl⟩
  rw [← hM22]
  have LM22 : M22.length = M21.length + new.length := by rw [hM22, List.length_append]
  replace C1 : Lv 0 M0.length M22 fun M => PcsA M v1 d1 := by rw [hM22]; exact C1.ext _
  replace C2 : Lv 0 M0.length M22 fun M => IntsA M v2 d2 := by rw [hM22]; exact C2.ext _
  replace w : Lv M3.length M4.length M22 fun M => IntsP W M3.length M4.length M vw := by rw [hM22]; exact w.ext _
  replace gm : Lv M6.length M7.length M22 fun M => IntsP (imarks 1 W.length) M6.length M7.length M vg := by rw [hM22]; exact gm.ext _
  replace h : Lv M19.length M20.length M22 fun M => IntsP W M19.length M20.length M vh := by rw [hM22]; exact h.ext _
  clear nrn
  try simp (config := {implicitDefEqProofs := false, maxDischargeDepth := 20}) (disch := first | omega | (simp only [lenE]; done) | (simp only [lenE]; omega) | rfl | (simp only [lenE, markR_len]; done) | (simp only [lenE, markR_len]; omega)) only [runE, mapE, listE, initT_5, initT_6, initT_7, initT_8, resV, oneV, binA, unA, reduceCtorEq, Nat.reduceEqDiff, Nat.reduceAdd, Nat.reduceLT, Nat.reduceLeDiff, Nat.reduceMul, Nat.reduceSub, ↓reduceIte, decide_true, decide_false, Bool.true_eq_false, Bool.false_eq_true, Bool.not_true, Bool.not_false, if_true, if_false, and_true, true_and, memE, celE, w64, Nat.zero_add, Nat.add_zero, Nat.mul_one, putL, and_self, ldn, id_eq, ext_2_0, ext_2_1, ext_3_0, ext_3_1, ext_3_2, ext_4_0, ext_4_1, ext_4_2, ext_4_3, beq_self_eq_true, bne_self_eq_false, gt_iff_lt, hkq]
end Go.Proofs.Ytnkbjliidenldaa.Ab
