/- FnExactStraightLeads: its running over abstract memory. -/
import Derived.Test.YtnkbjliidenldaaAbFl20
import Derived.Test.YtnkbjliidenldaaAbPc
import Derived.Test.YtnkbjliidenldaaAbMarks
import Derived.Test.YtnkbjliidenldaaAbBox
import Derived.Test.YtnkbjliidenldaaAbArg
import Derived.Test.YtnkbjliidenldaaCodLStraightLeads
namespace Go.Proofs.Ytnkbjliidenldaa.Ab
open Go Go.RowKit
set_option linter.unusedVariables false
set_option linter.unusedSimpArgs false
set_option maxRecDepth 100000

set_option maxHeartbeats 4000000 in
theorem law_FnExactStraightLeads (M0 : Mem) (d0 : List Pc) (v0 : Value) (A0 : PcsA M0 v0 d0) :
    AC Try.prog 16 [v0] M0 fun r _ => r = .bool true := by
  refine ac_of_run mixed ok_laws_FnExactStraightLeads (by simp) (go_start _ _ _ ?_)
  have C0 : Lv 0 M0.length M0 fun M => PcsA M v0 d0 := Lv.all fun new => A0.ext new
  try simp (config := {implicitDefEqProofs := false, maxDischargeDepth := 20}) (disch := first | omega | (simp only [lenE]; done) | (simp only [lenE]; omega) | rfl | (simp only [lenE, markR_len]; done) | (simp only [lenE, markR_len]; omega)) only [runE, mapE, listE, initT_5, initT_6, initT_7, initT_8, resV, oneV, binA, unA, reduceCtorEq, Nat.reduceEqDiff, Nat.reduceAdd, Nat.reduceLT, Nat.reduceLeDiff, Nat.reduceMul, Nat.reduceSub, ↓reduceIte, decide_true, decide_false, Bool.true_eq_false, Bool.false_eq_true, Bool.not_true, Bool.not_false, if_true, if_false, and_true, true_and, memE, celE, w64, Nat.zero_add, Nat.add_zero, Nat.mul_one, putL, and_self, ldn, c_laws_FnExactStraightLeads, r_laws_FnExactStraightLeads, id_eq, ext_2_0, ext_2_1, ext_3_0, ext_3_1, ext_3_2, ext_4_0, ext_4_1, ext_4_2, ext_4_3, beq_self_eq_true, bne_self_eq_false, gt_iff_lt]
  try simp (config := {implicitDefEqProofs := false, maxDischargeDepth := 20}) (disch := first | omega | (simp only [lenE]; done) | (simp only [lenE]; omega) | rfl | (simp only [lenE, markR_len]; done) | (simp only [lenE, markR_len]; omega)) only [runE, mapE, listE, initT_5, initT_6, initT_7, initT_8, resV, oneV, binA, unA, reduceCtorEq, Nat.reduceEqDiff, Nat.reduceAdd, Nat.reduceLT, Nat.reduceLeDiff, Nat.reduceMul, Nat.reduceSub, ↓reduceIte, decide_true, decide_false, Bool.true_eq_false, Bool.false_eq_true, Bool.not_true, Bool.not_false, if_true, if_false, and_true, true_and, memE, celE, w64, Nat.zero_add, Nat.add_zero, Nat.mul_one, putL, and_self, ldn, id_eq, ext_2_0, ext_2_1, ext_3_0, ext_3_1, ext_3_2, ext_4_0, ext_4_1, ext_4_2, ext_4_3, beq_self_eq_true, bne_self_eq_false, gt_iff_lt]
  refine callH_rc (szParcelS_rc _ _ d0 1048576 C0.now (by omega) (by omega)) ?_
  rintro r new ⟨nrn, rfl | ⟨z1, za1, zb1, rfl, hs0⟩⟩
  · simp (config := {implicitDefEqProofs := false, maxDischargeDepth := 20}) (disch := first | omega | (simp only [lenE]; done) | (simp only [lenE]; omega) | rfl | (simp only [lenE, markR_len]; done) | (simp only [lenE, markR_len]; omega)) only [runE, mapE, listE, initT_5, initT_6, initT_7, initT_8, resV, oneV, binA, unA, reduceCtorEq, Nat.reduceEqDiff, Nat.reduceAdd, Nat.reduceLT, Nat.reduceLeDiff, Nat.reduceMul, Nat.reduceSub, ↓reduceIte, decide_true, decide_false, Bool.true_eq_false, Bool.false_eq_true, Bool.not_true, Bool.not_false, if_true, if_false, and_true, true_and, memE, celE, w64, Nat.zero_add, Nat.add_zero, Nat.mul_one, putL, and_self, ldn, show ((-1 : Int) < 0) = True by simp]
  have zc1 : ¬ (z1 < 0) := by omega
  obtain ⟨M1, hM1⟩ : ∃ M', M' = M0 ++ new := ⟨_, rfl⟩
  rw [← hM1]
  have LM1 : M1.length = M0.length + new.length := by rw [hM1, List.length_append]
  replace C0 : Lv 0 M0.length M1 fun M => PcsA M v0 d0 := by rw [hM1]; exact C0.ext _
  clear nrn
  try simp (config := {implicitDefEqProofs := false, maxDischargeDepth := 20}) (disch := first | omega | (simp only [lenE]; done) | (simp only [lenE]; omega) | rfl | (simp only [lenE, markR_len]; done) | (simp only [lenE, markR_len]; omega)) only [runE, mapE, listE, initT_5, initT_6, initT_7, initT_8, resV, oneV, binA, unA, reduceCtorEq, Nat.reduceEqDiff, Nat.reduceAdd, Nat.reduceLT, Nat.reduceLeDiff, Nat.reduceMul, Nat.reduceSub, ↓reduceIte, decide_true, decide_false, Bool.true_eq_false, Bool.false_eq_true, Bool.not_true, Bool.not_false, if_true, if_false, and_true, true_and, memE, celE, w64, Nat.zero_add, Nat.add_zero, Nat.mul_one, putL, and_self, ldn, id_eq, ext_2_0, ext_2_1, ext_3_0, ext_3_1, ext_3_2, ext_4_0, ext_4_1, ext_4_2, ext_4_3, beq_self_eq_true, bne_self_eq_false, gt_iff_lt, zc1]
  obtain ⟨W, hW⟩ : ∃ W : List Pc, W = (strA d0) := ⟨_, rfl⟩
  obtain ⟨q0, hq0⟩ : ∃ q : Bool, q = (strOk d0) := ⟨_, rfl⟩
  have SPC := fun m u0 => specStraight_rc m u0 d0
  have IMP := fun m u0 => implStraight_rc m u0 d0
  try rw [← hW] at SPC
  try rw [← hW] at IMP
  try rw [← hq0] at SPC
  try rw [← hq0] at IMP
  try simp (config := {implicitDefEqProofs := false, maxDischargeDepth := 20}) (disch := first | omega | (simp only [lenE]; done) | (simp only [lenE]; omega) | rfl | (simp only [lenE, markR_len]; done) | (simp only [lenE, markR_len]; omega)) only [runE, mapE, listE, initT_5, initT_6, initT_7, initT_8, resV, oneV, binA, unA, reduceCtorEq, Nat.reduceEqDiff, Nat.reduceAdd, Nat.reduceLT, Nat.reduceLeDiff, Nat.reduceMul, Nat.reduceSub, ↓reduceIte, decide_true, decide_false, Bool.true_eq_false, Bool.false_eq_true, Bool.not_true, Bool.not_false, if_true, if_false, and_true, true_and, memE, celE, w64, Nat.zero_add, Nat.add_zero, Nat.mul_one, putL, and_self, ldn, id_eq, ext_2_0, ext_2_1, ext_3_0, ext_3_1, ext_3_2, ext_4_0, ext_4_1, ext_4_2, ext_4_3, beq_self_eq_true, bne_self_eq_false, gt_iff_lt]
  have TT := toParcelS_rc M1 _ d0 C0.now hs0
  first | refine callH_rc TT ?_ | refine rcallH_rc TT ?_
  clear TT
  rintro r new ⟨nrn, Sv0, Sv0e, S0⟩
  rw [id_eq] at Sv0e
  subst r
  obtain ⟨M2, hM2⟩ : ∃ M', M' = M1 ++ new := ⟨_, rfl⟩
  rw [← hM2]
  have LM2 : M2.length = M1.length + new.length := by rw [hM2, List.length_append]
  replace C0 : Lv 0 M0.length M2 fun M => PcsA M v0 d0 := by rw [hM2]; exact C0.ext _
  clear nrn
  rw [← hM2, ← LM2] at S0
  change Lv M1.length M2.length M2 fun M => PcsO 113 d0 M1.length M2.length M Sv0 at S0
  try simp (config := {implicitDefEqProofs := false, maxDischargeDepth := 20}) (disch := first | omega | (simp only [lenE]; done) | (simp only [lenE]; omega) | rfl | (simp only [lenE, markR_len]; done) | (simp only [lenE, markR_len]; omega)) only [runE, mapE, listE, initT_5, initT_6, initT_7, initT_8, resV, oneV, binA, unA, reduceCtorEq, Nat.reduceEqDiff, Nat.reduceAdd, Nat.reduceLT, Nat.reduceLeDiff, Nat.reduceMul, Nat.reduceSub, ↓reduceIte, decide_true, decide_false, Bool.true_eq_false, Bool.false_eq_true, Bool.not_true, Bool.not_false, if_true, if_false, and_true, true_and, memE, celE, w64, Nat.zero_add, Nat.add_zero, Nat.mul_one, putL, and_self, ldn, id_eq, ext_2_0, ext_2_1, ext_3_0, ext_3_1, ext_3_2, ext_4_0, ext_4_1, ext_4_2, ext_4_3, beq_self_eq_true, bne_self_eq_false, gt_iff_lt]
  first | refine callH_rc (SPC _ _ S0.now.in) ?_ | refine rcallH_rc (SPC _ _ S0.now.in) ?_
  rintro r new ⟨nrn, vw, rfl, w⟩
  obtain ⟨M3, hM3⟩ : ∃ M', M' = M2 ++ new := ⟨_, rfl⟩
  rw [← hM3]
  have LM3 : M3.length = M2.length + new.length := by rw [hM3, List.length_append]
  replace C0 : Lv 0 M0.length M3 fun M => PcsA M v0 d0 := by rw [hM3]; exact C0.ext _
  replace S0 : Lv M1.length M2.length M3 fun M => PcsO 113 d0 M1.length M2.length M Sv0 := by rw [hM3]; exact S0.ext _
  clear nrn
  rw [← hM3, ← LM3] at w
  clear S0
  try simp (config := {implicitDefEqProofs := false, maxDischargeDepth := 20}) (disch := first | omega | (simp only [lenE]; done) | (simp only [lenE]; omega) | rfl | (simp only [lenE, markR_len]; done) | (simp only [lenE, markR_len]; omega)) only [runE, mapE, listE, initT_5, initT_6, initT_7, initT_8, resV, oneV, binA, unA, reduceCtorEq, Nat.reduceEqDiff, Nat.reduceAdd, Nat.reduceLT, Nat.reduceLeDiff, Nat.reduceMul, Nat.reduceSub, ↓reduceIte, decide_true, decide_false, Bool.true_eq_false, Bool.false_eq_true, Bool.not_true, Bool.not_false, if_true, if_false, and_true, true_and, memE, celE, w64, Nat.zero_add, Nat.add_zero, Nat.mul_one, putL, and_self, ldn, id_eq, ext_2_0, ext_2_1, ext_3_0, ext_3_1, ext_3_2, ext_4_0, ext_4_1, ext_4_2, ext_4_3, beq_self_eq_true, bne_self_eq_false, gt_iff_lt]
  have TT := toParcelS_rc M3 _ d0 C0.now hs0
  first | refine callH_rc TT ?_ | refine rcallH_rc TT ?_
  clear TT
  rintro r new ⟨nrn, Yv0, Yv0e, Y0⟩
  rw [id_eq] at Yv0e
  subst r
  obtain ⟨M4, hM4⟩ : ∃ M', M' = M3 ++ new := ⟨_, rfl⟩
  rw [← hM4]
  have LM4 : M4.length = M3.length + new.length := by rw [hM4, List.length_append]
  replace C0 : Lv 0 M0.length M4 fun M => PcsA M v0 d0 := by rw [hM4]; exact C0.ext _
  replace w : Lv M2.length M3.length M4 fun M => PcsO 113 W M2.length M3.length M vw := by rw [hM4]; exact w.ext _
  clear nrn
  rw [← hM4, ← LM4] at Y0
  change Lv M3.length M4.length M4 fun M => PcsO 113 d0 M3.length M4.length M Yv0 at Y0
  try simp (config := {implicitDefEqProofs := false, maxDischargeDepth := 20}) (disch := first | omega | (simp only [lenE]; done) | (simp only [lenE]; omega) | rfl | (simp only [lenE, markR_len]; done) | (simp only [lenE, markR_len]; omega)) only [runE, mapE, listE, initT_5, initT_6, initT_7, initT_8, resV, oneV, binA, unA, reduceCtorEq, Nat.reduceEqDiff, Nat.reduceAdd, Nat.reduceLT, Nat.reduceLeDiff, Nat.reduceMul, Nat.reduceSub, ↓reduceIte, decide_true, decide_false, Bool.true_eq_false, Bool.false_eq_true, Bool.not_true, Bool.not_false, if_true, if_false, and_true, true_and, memE, celE, w64, Nat.zero_add, Nat.add_zero, Nat.mul_one, putL, and_self, ldn, id_eq, ext_2_0, ext_2_1, ext_3_0, ext_3_1, ext_3_2, ext_4_0, ext_4_1, ext_4_2, ext_4_3, beq_self_eq_true, bne_self_eq_false, gt_iff_lt]
  first | refine callH_rc (IMP _ _ Y0.now.in) ?_ | refine rcallH_rc (IMP _ _ Y0.now.in) ?_
  rintro r new ⟨nrn, vg, rfl, g⟩
  obtain ⟨M5, hM5⟩ : ∃ M', M' = M4 ++ new := ⟨_, rfl⟩
  rw [← hM5]
  have LM5 : M5.length = M4.length + new.length := by rw [hM5, List.length_append]
  replace C0 : Lv 0 M0.length M5 fun M => PcsA M v0 d0 := by rw [hM5]; exact C0.ext _
  replace w : Lv M2.length M3.length M5 fun M => PcsO 113 W M2.length M3.length M vw := by rw [hM5]; exact w.ext _
  replace Y0 : Lv M3.length M4.length M5 fun M => PcsO 113 d0 M3.length M4.length M Yv0 := by rw [hM5]; exact Y0.ext _
  clear nrn
  rw [← hM5, ← LM5] at g
  try simp (config := {implicitDefEqProofs := false, maxDischargeDepth := 20}) (disch := first | omega | (simp only [lenE]; done) | (simp only [lenE]; omega) | rfl | (simp only [lenE, markR_len]; done) | (simp only [lenE, markR_len]; omega)) only [runE, mapE, listE, initT_5, initT_6, initT_7, initT_8, resV, oneV, binA, unA, reduceCtorEq, Nat.reduceEqDiff, Nat.reduceAdd, Nat.reduceLT, Nat.reduceLeDiff, Nat.reduceMul, Nat.reduceSub, ↓reduceIte, decide_true, decide_false, Bool.true_eq_false, Bool.false_eq_true, Bool.not_true, Bool.not_false, if_true, if_false, and_true, true_and, memE, celE, w64, Nat.zero_add, Nat.add_zero, Nat.mul_one, putL, and_self, ldn, id_eq, ext_2_0, ext_2_1, ext_3_0, ext_3_1, ext_3_2, ext_4_0, ext_4_1, ext_4_2, ext_4_3, beq_self_eq_true, bne_self_eq_false, gt_iff_lt]
  have TT := eqParcelS_rc M5 _ _ W g.now.in w.now.in
  refine callH_rc TT ?_
  clear TT
  rintro r new ⟨rfl, nrn⟩
  obtain ⟨M6, hM6⟩ : ∃ M', M' = M5 ++ new := ⟨_, rfl⟩
  rw [← hM6]
  have LM6 : M6.length = M5.length + new.length := by rw [hM6, List.length_append]
  replace C0 : Lv 0 M0.length M6 fun M => PcsA M v0 d0 := by rw [hM6]; exact C0.ext _
  replace w : Lv M2.length M3.length M6 fun M => PcsO 113 W M2.length M3.length M vw := by rw [hM6]; exact w.ext _
  replace Y0 : Lv M3.length M4.length M6 fun M => PcsO 113 d0 M3.length M4.length M Yv0 := by rw [hM6]; exact Y0.ext _
  replace g : Lv M4.length M5.length M6 fun M => PcsO 113 W M4.length M5.length M vg := by rw [hM6]; exact g.ext _
  clear nrn
  try simp (config := {implicitDefEqProofs := false, maxDischargeDepth := 20}) (disch := first | omega | (simp only [lenE]; done) | (simp only [lenE]; omega) | rfl | (simp only [lenE, markR_len]; done) | (simp only [lenE, markR_len]; omega)) only [runE, mapE, listE, initT_5, initT_6, initT_7, initT_8, resV, oneV, binA, unA, reduceCtorEq, Nat.reduceEqDiff, Nat.reduceAdd, Nat.reduceLT, Nat.reduceLeDiff, Nat.reduceMul, Nat.reduceSub, ↓reduceIte, decide_true, decide_false, Bool.true_eq_false, Bool.false_eq_true, Bool.not_true, Bool.not_false, if_true, if_false, and_true, true_and, memE, celE, w64, Nat.zero_add, Nat.add_zero, Nat.mul_one, putL, and_self, ldn, id_eq, ext_2_0, ext_2_1, ext_3_0, ext_3_1, ext_3_2, ext_4_0, ext_4_1, ext_4_2, ext_4_3, beq_self_eq_true, bne_self_eq_false, gt_iff_lt]
  try simp (config := {implicitDefEqProofs := false, maxDischargeDepth := 20}) (disch := first | omega | (simp only [lenE]; done) | (simp only [lenE]; omega) | rfl | (simp only [lenE, markR_len]; done) | (simp only [lenE, markR_len]; omega)) only [runE, mapE, listE, initT_5, initT_6, initT_7, initT_8, resV, oneV, binA, unA, reduceCtorEq, Nat.reduceEqDiff, Nat.reduceAdd, Nat.reduceLT, Nat.reduceLeDiff, Nat.reduceMul, Nat.reduceSub, ↓reduceIte, decide_true, decide_false, Bool.true_eq_false, Bool.false_eq_true, Bool.not_true, Bool.not_false, if_true, if_false, and_true, true_and, memE, celE, w64, Nat.zero_add, Nat.add_zero, Nat.mul_one, putL, and_self, ldn, id_eq, ext_2_0, ext_2_1, ext_3_0, ext_3_1, ext_3_2, ext_4_0, ext_4_1, ext_4_2, ext_4_3, beq_self_eq_true, bne_self_eq_false, gt_iff_lt]
  have TT := toParcelS_rc M6 _ d0 C0.now hs0
  first | refine callH_rc TT ?_ | refine rcallH_rc TT ?_
  clear TT
  rintro r new ⟨nrn, Tv0, Tv0e, T0⟩
  rw [id_eq] at Tv0e
  subst r
  obtain ⟨M7, hM7⟩ : ∃ M', M' = M6 ++ new := ⟨_, rfl⟩
  rw [← hM7]
  have LM7 : M7.length = M6.length + new.length := by rw [hM7, List.length_append]
  replace C0 : Lv 0 M0.length M7 fun M => PcsA M v0 d0 := by rw [hM7]; exact C0.ext _
  replace w : Lv M2.length M3.length M7 fun M => PcsO 113 W M2.length M3.length M vw := by rw [hM7]; exact w.ext _
  replace Y0 : Lv M3.length M4.length M7 fun M => PcsO 113 d0 M3.length M4.length M Yv0 := by rw [hM7]; exact Y0.ext _
  replace g : Lv M4.length M5.length M7 fun M => PcsO 113 W M4.length M5.length M vg := by rw [hM7]; exact g.ext _
  clear nrn
  rw [← hM7, ← LM7] at T0
  change Lv M6.length M7.length M7 fun M => PcsO 113 d0 M6.length M7.length M Tv0 at T0
  try simp (config := {implicitDefEqProofs := false, maxDischargeDepth := 20}) (disch := first | omega | (simp only [lenE]; done) | (simp only [lenE]; omega) | rfl | (simp only [lenE, markR_len]; done) | (simp only [lenE, markR_len]; omega)) only [runE, mapE, listE, initT_5, initT_6, initT_7, initT_8, resV, oneV, binA, unA, reduceCtorEq, Nat.reduceEqDiff, Nat.reduceAdd, Nat.reduceLT, Nat.reduceLeDiff, Nat.reduceMul, Nat.reduceSub, ↓reduceIte, decide_true, decide_false, Bool.true_eq_false, Bool.false_eq_true, Bool.not_true, Bool.not_false, if_true, if_false, and_true, true_and, memE, celE, w64, Nat.zero_add, Nat.add_zero, Nat.mul_one, putL, and_self, ldn, id_eq, ext_2_0, ext_2_1, ext_3_0, ext_3_1, ext_3_2, ext_4_0, ext_4_1, ext_4_2, ext_4_3, beq_self_eq_true, bne_self_eq_false, gt_iff_lt]
  have TT := eqParcelS_rc M7 _ _ d0 Y0.now.in T0.now.in
  first | refine callH_rc TT ?_ | refine rcallH_rc TT ?_
  clear TT
  rintro r new ⟨rfl, nrn⟩
  obtain ⟨M8, hM8⟩ : ∃ M', M' = M7 ++ new := ⟨_, rfl⟩
  rw [← hM8]
  have LM8 : M8.length = M7.length + new.length := by rw [hM8, List.length_append]
  replace C0 : Lv 0 M0.length M8 fun M => PcsA M v0 d0 := by rw [hM8]; exact C0.ext _
  replace w : Lv M2.length M3.length M8 fun M => PcsO 113 W M2.length M3.length M vw := by rw [hM8]; exact w.ext _
  replace Y0 : Lv M3.length M4.length M8 fun M => PcsO 113 d0 M3.length M4.length M Yv0 := by rw [hM8]; exact Y0.ext _
  replace g : Lv M4.length M5.length M8 fun M => PcsO 113 W M4.length M5.length M vg := by rw [hM8]; exact g.ext _
  replace T0 : Lv M6.length M7.length M8 fun M => PcsO 113 d0 M6.length M7.length M Tv0 := by rw [hM8]; exact T0.ext _
  clear nrn
  clear T0
  try simp (config := {implicitDefEqProofs := false, maxDischargeDepth := 20}) (disch := first | omega | (simp only [lenE]; done) | (simp only [lenE]; omega) | rfl | (simp only [lenE, markR_len]; done) | (simp only [lenE, markR_len]; omega)) only [runE, mapE, listE, initT_5, initT_6, initT_7, initT_8, resV, oneV, binA, unA, reduceCtorEq, Nat.reduceEqDiff, Nat.reduceAdd, Nat.reduceLT, Nat.reduceLeDiff, Nat.reduceMul, Nat.reduceSub, ↓reduceIte, decide_true, decide_false, Bool.true_eq_false, Bool.false_eq_true, Bool.not_true, Bool.not_false, if_true, if_false, and_true, true_and, memE, celE, w64, Nat.zero_add, Nat.add_zero, Nat.mul_one, putL, and_self, ldn, id_eq, ext_2_0, ext_2_1, ext_3_0, ext_3_1, ext_3_2, ext_4_0, ext_4_1, ext_4_2, ext_4_3, beq_self_eq_true, bne_self_eq_false, gt_iff_lt]
  try simp (config := {implicitDefEqProofs := false, maxDischargeDepth := 20}) (disch := first | omega | (simp only [lenE]; done) | (simp only [lenE]; omega) | rfl | (simp only [lenE, markR_len]; done) | (simp only [lenE, markR_len]; omega)) only [runE, mapE, listE, initT_5, initT_6, initT_7, initT_8, resV, oneV, binA, unA, reduceCtorEq, Nat.reduceEqDiff, Nat.reduceAdd, Nat.reduceLT, Nat.reduceLeDiff, Nat.reduceMul, Nat.reduceSub, ↓reduceIte, decide_true, decide_false, Bool.true_eq_false, Bool.false_eq_true, Bool.not_true, Bool.not_false, if_true, if_false, and_true, true_and, memE, celE, w64, Nat.zero_add, Nat.add_zero, Nat.mul_one, putL, and_self, ldn, id_eq, ext_2_0, ext_2_1, ext_3_0, ext_3_1, ext_3_2, ext_4_0, ext_4_1, ext_4_2, ext_4_3, beq_self_eq_true, bne_self_eq_false, gt_iff_lt]
  refine callH_ac (markParcelS_ac _ M3.length M4.length _ d0 _ Y0 (by omega) (by omega)) ?_
  rintro r M9 ⟨rfl, hB, -⟩
  have LM9 := hB.1
  replace C0 : Lv 0 M0.length M9 fun M => PcsA M v0 d0 := C0.but hB (by omega)
  replace w : Lv M2.length M3.length M9 fun M => PcsO 113 W M2.length M3.length M vw := w.but hB (by omega)
  replace g : Lv M4.length M5.length M9 fun M => PcsO 113 W M4.length M5.length M vg := g.but hB (by omega)
  clear Y0 hB
  have hkk : ¬ (1 + (3 * (d0.length : Int)) < 0) := by omega
  try simp (config := {implicitDefEqProofs := false, maxDischargeDepth := 20}) (disch := first | omega | (simp only [lenE]; done) | (simp only [lenE]; omega) | rfl | (simp only [lenE, markR_len]; done) | (simp only [lenE, markR_len]; omega)) only [runE, mapE, listE, initT_5, initT_6, initT_7, initT_8, resV, oneV, binA, unA, reduceCtorEq, Nat.reduceEqDiff, Nat.reduceAdd, Nat.reduceLT, Nat.reduceLeDiff, Nat.reduceMul, Nat.reduceSub, ↓reduceIte, decide_true, decide_false, Bool.true_eq_false, Bool.false_eq_true, Bool.not_true, Bool.not_false, if_true, if_false, and_true, true_and, memE, celE, w64, Nat.zero_add, Nat.add_zero, Nat.mul_one, putL, and_self, ldn, id_eq, ext_2_0, ext_2_1, ext_3_0, ext_3_1, ext_3_2, ext_4_0, ext_4_1, ext_4_2, ext_4_3, beq_self_eq_true, bne_self_eq_false, gt_iff_lt, hkk]
  try simp (config := {implicitDefEqProofs := false, maxDischargeDepth := 20}) (disch := first | omega | (simp only [lenE]; done) | (simp only [lenE]; omega) | rfl | (simp only [lenE, markR_len]; done) | (simp only [lenE, markR_len]; omega)) only [runE, mapE, listE, initT_5, initT_6, initT_7, initT_8, resV, oneV, binA, unA, reduceCtorEq, Nat.reduceEqDiff, Nat.reduceAdd, Nat.reduceLT, Nat.reduceLeDiff, Nat.reduceMul, Nat.reduceSub, ↓reduceIte, decide_true, decide_false, Bool.true_eq_false, Bool.false_eq_true, Bool.not_true, Bool.not_false, if_true, if_false, and_true, true_and, memE, celE, w64, Nat.zero_add, Nat.add_zero, Nat.mul_one, putL, and_self, ldn, id_eq, ext_2_0, ext_2_1, ext_3_0, ext_3_1, ext_3_2, ext_4_0, ext_4_1, ext_4_2, ext_4_3, beq_self_eq_true, bne_self_eq_false, gt_iff_lt]
  have TT := eqParcelS_rc M9 _ _ W g.now.in w.now.in
  refine callH_rc TT ?_
  clear TT
  rintro r new ⟨rfl, nrn⟩
  obtain ⟨M10, hM10⟩ : ∃ M', M' = M9 ++ new := ⟨_, rfl⟩
  rw [← hM10]
  have LM10 : M10.length = M9.length + new.length := by rw [hM10, List.length_append]
  replace C0 : Lv 0 M0.length M10 fun M => PcsA M v0 d0 := by rw [hM10]; exact C0.ext _
  replace w : Lv M2.length M3.length M10 fun M => PcsO 113 W M2.length M3.length M vw := by rw [hM10]; exact w.ext _
  replace g : Lv M4.length M5.length M10 fun M => PcsO 113 W M4.length M5.length M vg := by rw [hM10]; exact g.ext _
  clear nrn
  try simp (config := {implicitDefEqProofs := false, maxDischargeDepth := 20}) (disch := first | omega | (simp only [lenE]; done) | (simp only [lenE]; omega) | rfl | (simp only [lenE, markR_len]; done) | (simp only [lenE, markR_len]; omega)) only [runE, mapE, listE, initT_5, initT_6, initT_7, initT_8, resV, oneV, binA, unA, reduceCtorEq, Nat.reduceEqDiff, Nat.reduceAdd, Nat.reduceLT, Nat.reduceLeDiff, Nat.reduceMul, Nat.reduceSub, ↓reduceIte, decide_true, decide_false, Bool.true_eq_false, Bool.false_eq_true, Bool.not_true, Bool.not_false, if_true, if_false, and_true, true_and, memE, celE, w64, Nat.zero_add, Nat.add_zero, Nat.mul_one, putL, and_self, ldn, id_eq, ext_2_0, ext_2_1, ext_3_0, ext_3_1, ext_3_2, ext_4_0, ext_4_1, ext_4_2, ext_4_3, beq_self_eq_true, bne_self_eq_false, gt_iff_lt]
  refine callH_ac (markParcelS_ac _ M4.length M5.length _ W 1 g (by omega) (by omega)) ?_
  rintro r M11 ⟨rfl, hB, gm⟩
  have LM11 := hB.1
  have gsm := g.now.1
  replace C0 : Lv 0 M0.length M11 fun M => PcsA M v0 d0 := C0.but hB (by omega)
  replace w : Lv M2.length M3.length M11 fun M => PcsO 113 W M2.length M3.length M vw := w.but hB (by omega)
  clear g hB
  have hkq : ¬ (1 + (3 * (W.length : Int)) < 0) := by omega
  try simp (config := {implicitDefEqProofs := false, maxDischargeDepth := 20}) (disch := first | omega | (simp only [lenE]; done) | (simp only [lenE]; omega) | rfl | (simp only [lenE, markR_len]; done) | (simp only [lenE, markR_len]; omega)) only [runE, mapE, listE, initT_5, initT_6, initT_7, initT_8, resV, oneV, binA, unA, reduceCtorEq, Nat.reduceEqDiff, Nat.reduceAdd, Nat.reduceLT, Nat.reduceLeDiff, Nat.reduceMul, Nat.reduceSub, ↓reduceIte, decide_true, decide_false, Bool.true_eq_false, Bool.false_eq_true, Bool.not_true, Bool.not_false, if_true, if_false, and_true, true_and, memE, celE, w64, Nat.zero_add, Nat.add_zero, Nat.mul_one, putL, and_self, ldn, id_eq, ext_2_0, ext_2_1, ext_3_0, ext_3_1, ext_3_2, ext_4_0, ext_4_1, ext_4_2, ext_4_3, beq_self_eq_true, bne_self_eq_false, gt_iff_lt]
  refine callH_rc (heldParcelS_rc _ _ 1 W.length gm.now.in (by omega) (by omega) (by omega)) ?_
  rintro r new ⟨rfl, nrn⟩
  obtain ⟨M12, hM12⟩ : ∃ M', M' = M11 ++ new := ⟨_, rfl⟩
  rw [← hM12]
  have LM12 : M12.length = M11.length + new.length := by rw [hM12, List.length_append]
  replace C0 : Lv 0 M0.length M12 fun M => PcsA M v0 d0 := by rw [hM12]; exact C0.ext _
  replace w : Lv M2.length M3.length M12 fun M => PcsO 113 W M2.length M3.length M vw := by rw [hM12]; exact w.ext _
  replace gm : Lv M4.length M5.length M12 fun M => PcsO 113 (qmarks 1 W.length) M4.length M5.length M vg := by rw [hM12]; exact gm.ext _
  clear nrn
  try simp (config := {implicitDefEqProofs := false, maxDischargeDepth := 20}) (disch := first | omega | (simp only [lenE]; done) | (simp only [lenE]; omega) | rfl | (simp only [lenE, markR_len]; done) | (simp only [lenE, markR_len]; omega)) only [runE, mapE, listE, initT_5, initT_6, initT_7, initT_8, resV, oneV, binA, unA, reduceCtorEq, Nat.reduceEqDiff, Nat.reduceAdd, Nat.reduceLT, Nat.reduceLeDiff, Nat.reduceMul, Nat.reduceSub, ↓reduceIte, decide_true, decide_false, Bool.true_eq_false, Bool.false_eq_true, Bool.not_true, Bool.not_false, if_true, if_false, and_true, true_and, memE, celE, w64, Nat.zero_add, Nat.add_zero, Nat.mul_one, putL, and_self, ldn, id_eq, ext_2_0, ext_2_1, ext_3_0, ext_3_1, ext_3_2, ext_4_0, ext_4_1, ext_4_2, ext_4_3, beq_self_eq_true, bne_self_eq_false, gt_iff_lt, hkq]
  try simp (config := {implicitDefEqProofs := false, maxDischargeDepth := 20}) (disch := first | omega | (simp only [lenE]; done) | (simp only [lenE]; omega) | rfl | (simp only [lenE, markR_len]; done) | (simp only [lenE, markR_len]; omega)) only [runE, mapE, listE, initT_5, initT_6, initT_7, initT_8, resV, oneV, binA, unA, reduceCtorEq, Nat.reduceEqDiff, Nat.reduceAdd, Nat.reduceLT, Nat.reduceLeDiff, Nat.reduceMul, Nat.reduceSub, ↓reduceIte, decide_true, decide_false, Bool.true_eq_false, Bool.false_eq_true, Bool.not_true, Bool.not_false, if_true, if_false, and_true, true_and, memE, celE, w64, Nat.zero_add, Nat.add_zero, Nat.mul_one, putL, and_self, ldn, id_eq, ext_2_0, ext_2_1, ext_3_0, ext_3_1, ext_3_2, ext_4_0, ext_4_1, ext_4_2, ext_4_3, beq_self_eq_true, bne_self_eq_false, gt_iff_lt]
  have TT := toParcelS_rc M12 _ d0 C0.now hs0
  first | refine callH_rc TT ?_ | refine rcallH_rc TT ?_
  clear TT
  rintro r new ⟨nrn, Uv0, Uv0e, U0⟩
  rw [id_eq] at Uv0e
  subst r
  obtain ⟨M13, hM13⟩ : ∃ M', M' = M12 ++ new := ⟨_, rfl⟩
  rw [← hM13]
  have LM13 : M13.length = M12.length + new.length := by rw [hM13, List.length_append]
  replace C0 : Lv 0 M0.length M13 fun M => PcsA M v0 d0 := by rw [hM13]; exact C0.ext _
  replace w : Lv M2.length M3.length M13 fun M => PcsO 113 W M2.length M3.length M vw := by rw [hM13]; exact w.ext _
  replace gm : Lv M4.length M5.length M13 fun M => PcsO 113 (qmarks 1 W.length) M4.length M5.length M vg := by rw [hM13]; exact gm.ext _
  clear nrn
  rw [← hM13, ← LM13] at U0
  change Lv M12.length M13.length M13 fun M => PcsO 113 d0 M12.length M13.length M Uv0 at U0
  try simp (config := {implicitDefEqProofs := false, maxDischargeDepth := 20}) (disch := first | omega | (simp only [lenE]; done) | (simp only [lenE]; omega) | rfl | (simp only [lenE, markR_len]; done) | (simp only [lenE, markR_len]; omega)) only [runE, mapE, listE, initT_5, initT_6, initT_7, initT_8, resV, oneV, binA, unA, reduceCtorEq, Nat.reduceEqDiff, Nat.reduceAdd, Nat.reduceLT, Nat.reduceLeDiff, Nat.reduceMul, Nat.reduceSub, ↓reduceIte, decide_true, decide_false, Bool.true_eq_false, Bool.false_eq_true, Bool.not_true, Bool.not_false, if_true, if_false, and_true, true_and, memE, celE, w64, Nat.zero_add, Nat.add_zero, Nat.mul_one, putL, and_self, ldn, id_eq, ext_2_0, ext_2_1, ext_3_0, ext_3_1, ext_3_2, ext_4_0, ext_4_1, ext_4_2, ext_4_3, beq_self_eq_true, bne_self_eq_false, gt_iff_lt]
  first | refine callH_rc (IMP _ _ U0.now.in) ?_ | refine rcallH_rc (IMP _ _ U0.now.in) ?_
  rintro r new ⟨nrn, vh, rfl, h⟩
  obtain ⟨M14, hM14⟩ : ∃ M', M' = M13 ++ new := ⟨_, rfl⟩
  rw [← hM14]
  have LM14 : M14.length = M13.length + new.length := by rw [hM14, List.length_append]
  replace C0 : Lv 0 M0.length M14 fun M => PcsA M v0 d0 := by rw [hM14]; exact C0.ext _
  replace w : Lv M2.length M3.length M14 fun M => PcsO 113 W M2.length M3.length M vw := by rw [hM14]; exact w.ext _
  replace gm : Lv M4.length M5.length M14 fun M => PcsO 113 (qmarks 1 W.length) M4.length M5.length M vg := by rw [hM14]; exact gm.ext _
  replace U0 : Lv M12.length M13.length M14 fun M => PcsO 113 d0 M12.length M13.length M Uv0 := by rw [hM14]; exact U0.ext _
  clear nrn
  rw [← hM14, ← LM14] at h
  clear U0
  try simp (config := {implicitDefEqProofs := false, maxDischargeDepth := 20}) (disch := first | omega | (simp only [lenE]; done) | (simp only [lenE]; omega) | rfl | (simp only [lenE, markR_len]; done) | (simp only [lenE, markR_len]; omega)) only [runE, mapE, listE, initT_5, initT_6, initT_7, initT_8, resV, oneV, binA, unA, reduceCtorEq, Nat.reduceEqDiff, Nat.reduceAdd, Nat.reduceLT, Nat.reduceLeDiff, Nat.reduceMul, Nat.reduceSub, ↓reduceIte, decide_true, decide_false, Bool.true_eq_false, Bool.false_eq_true, Bool.not_true, Bool.not_false, if_true, if_false, and_true, true_and, memE, celE, w64, Nat.zero_add, Nat.add_zero, Nat.mul_one, putL, and_self, ldn, id_eq, ext_2_0, ext_2_1, ext_3_0, ext_3_1, ext_3_2, ext_4_0, ext_4_1, ext_4_2, ext_4_3, beq_self_eq_true, bne_self_eq_false, gt_iff_lt]
  have TT := eqParcelS_rc M14 _ _ W h.now.in w.now.in
  refine callH_rc TT ?_
  clear TT
  rintro r new ⟨rfl, nrn⟩
  obtain ⟨M15, hM15⟩ : ∃ M', M' = M14 ++ new := ⟨_, rfl⟩
  rw [← hM15]
  have LM15 : M15.length = M14.length + new.length := by rw [hM15, List.length_append]
  replace C0 : Lv 0 M0.length M15 fun M => PcsA M v0 d0 := by rw [hM15]; exact C0.ext _
  replace w : Lv M2.length M3.length M15 fun M => PcsO 113 W M2.length M3.length M vw := by rw [hM15]; exact w.ext _
  replace gm : Lv M4.length M5.length M15 fun M => PcsO 113 (qmarks 1 W.length) M4.length M5.length M vg := by rw [hM15]; exact gm.ext _
  replace h : Lv M13.length M14.length M15 fun M => PcsO 113 W M13.length M14.length M vh := by rw [hM15]; exact h.ext _
  clear nrn
  try simp (config := {implicitDefEqProofs := false, maxDischargeDepth := 20}) (disch := first | omega | (simp only [lenE]; done) | (simp only [lenE]; omega) | rfl | (simp only [lenE, markR_len]; done) | (simp only [lenE, markR_len]; omega)) only [runE, mapE, listE, initT_5, initT_6, initT_7, initT_8, resV, oneV, binA, unA, reduceCtorEq, Nat.reduceEqDiff, Nat.reduceAdd, Nat.reduceLT, Nat.reduceLeDiff, Nat.reduceMul, Nat.reduceSub, ↓reduceIte, decide_true, decide_false, Bool.true_eq_false, Bool.false_eq_true, Bool.not_true, Bool.not_false, if_true, if_false, and_true, true_and, memE, celE, w64, Nat.zero_add, Nat.add_zero, Nat.mul_one, putL, and_self, ldn, id_eq, ext_2_0, ext_2_1, ext_3_0, ext_3_1, ext_3_2, ext_4_0, ext_4_1, ext_4_2, ext_4_3, beq_self_eq_true, bne_self_eq_false, gt_iff_lt]
  try simp (config := {implicitDefEqProofs := false, maxDischargeDepth := 20}) (disch := first | omega | (simp only [lenE]; done) | (simp only [lenE]; omega) | rfl | (simp only [lenE, markR_len]; done) | (simp only [lenE, markR_len]; omega)) only [runE, mapE, listE, initT_5, initT_6, initT_7, initT_8, resV, oneV, binA, unA, reduceCtorEq, Nat.reduceEqDiff, Nat.reduceAdd, Nat.reduceLT, Nat.reduceLeDiff, Nat.reduceMul, Nat.reduceSub, ↓reduceIte, decide_true, decide_false, Bool.true_eq_false, Bool.false_eq_true, Bool.not_true, Bool.not_false, if_true, if_false, and_true, true_and, memE, celE, w64, Nat.zero_add, Nat.add_zero, Nat.mul_one, putL, and_self, ldn, id_eq, ext_2_0, ext_2_1, ext_3_0, ext_3_1, ext_3_2, ext_4_0, ext_4_1, ext_4_2, ext_4_3, beq_self_eq_true, bne_self_eq_false, gt_iff_lt]
  refine callH_rc (heldParcelS_rc _ _ 1 W.length gm.now.in (by omega) (by omega) (by omega)) ?_
  rintro r new ⟨rfl, nrn⟩
  obtain ⟨M16, hM16⟩ : ∃ M', M' = M15 ++ new := ⟨_, rfl⟩
  rw [← hM16]
  have LM16 : M16.length = M15.length + new.length := by rw [hM16, List.length_append]
  replace C0 : Lv 0 M0.length M16 fun M => PcsA M v0 d0 := by rw [hM16]; exact C0.ext _
  replace w : Lv M2.length M3.length M16 fun M => PcsO 113 W M2.length M3.length M vw := by rw [hM16]; exact w.ext _
  replace gm : Lv M4.length M5.length M16 fun M => PcsO 113 (qmarks 1 W.length) M4.length M5.length M vg := by rw [hM16]; exact gm.ext _
  replace h : Lv M13.length M14.length M16 fun M => PcsO 113 W M13.length M14.length M vh := by rw [hM16]; exact h.ext _
  clear nrn
  try simp (config := {implicitDefEqProofs := false, maxDischargeDepth := 20}) (disch := first | omega | (simp only [lenE]; done) | (simp only [lenE]; omega) | rfl | (simp only [lenE, markR_len]; done) | (simp only [lenE, markR_len]; omega)) only [runE, mapE, listE, initT_5, initT_6, initT_7, initT_8, resV, oneV, binA, unA, reduceCtorEq, Nat.reduceEqDiff, Nat.reduceAdd, Nat.reduceLT, Nat.reduceLeDiff, Nat.reduceMul, Nat.reduceSub, ↓reduceIte, decide_true, decide_false, Bool.true_eq_false, Bool.false_eq_true, Bool.not_true, Bool.not_false, if_true, if_false, and_true, true_and, memE, celE, w64, Nat.zero_add, Nat.add_zero, Nat.mul_one, putL, and_self, ldn, id_eq, ext_2_0, ext_2_1, ext_3_0, ext_3_1, ext_3_2, ext_4_0, ext_4_1, ext_4_2, ext_4_3, beq_self_eq_true, bne_self_eq_false, gt_iff_lt, hkq]
end Go.Proofs.Ytnkbjliidenldaa.Ab
