/- FnExactIsFlow: its running over abstract memory. -/
import Derived.Test.YtnkbjliidenldaaAbFl1
import Derived.Test.YtnkbjliidenldaaAbFl
import Derived.Test.YtnkbjliidenldaaAbMarks
import Derived.Test.YtnkbjliidenldaaAbBox
import Derived.Test.YtnkbjliidenldaaAbArg
import Derived.Test.YtnkbjliidenldaaCodLIsFlow
namespace Go.Proofs.Ytnkbjliidenldaa.Ab
open Go Go.RowKit
set_option linter.unusedVariables false
set_option linter.unusedSimpArgs false
set_option maxRecDepth 100000

set_option maxHeartbeats 4000000 in
theorem law_FnExactIsFlow (M0 : Mem) (d0 : Fl) (v0 : Value) (A0 : FlA M0 v0 d0) :
    AC Try.prog 3 [v0] M0 fun r _ => r = .bool true := by
  refine ac_of_run mixed ok_laws_FnExactIsFlow (by simp) (go_start _ _ _ ?_)
  have A0c := A0
  obtain ⟨u0, rfl, -⟩ := A0c
  have C0 : Lv 0 M0.length M0 fun M => FlA M (flV d0 u0) d0 := Lv.all fun new => A0.ext new
  try simp (config := {implicitDefEqProofs := false, maxDischargeDepth := 20}) (disch := first | omega | (simp only [lenE]; done) | (simp only [lenE]; omega) | rfl | (simp only [lenE, markR_len]; done) | (simp only [lenE, markR_len]; omega)) only [runE, mapE, listE, initT_5, initT_6, initT_7, initT_8, resV, oneV, binA, unA, reduceCtorEq, Nat.reduceEqDiff, Nat.reduceAdd, Nat.reduceLT, Nat.reduceLeDiff, Nat.reduceMul, Nat.reduceSub, ↓reduceIte, decide_true, decide_false, Bool.true_eq_false, Bool.false_eq_true, Bool.not_true, Bool.not_false, if_true, if_false, and_true, true_and, memE, celE, w64, Nat.zero_add, Nat.add_zero, Nat.mul_one, putL, and_self, ldn, c_laws_FnExactIsFlow, r_laws_FnExactIsFlow, id_eq, ext_2_0, ext_2_1, ext_3_0, ext_3_1, ext_3_2, ext_4_0, ext_4_1, ext_4_2, ext_4_3, beq_self_eq_true, bne_self_eq_false, gt_iff_lt]
  obtain ⟨M1, hM1⟩ : ∃ M', M' = M0 ++ [⟨.own, 24, [.int .i64 d0.stock, u0]⟩] := ⟨_, rfl⟩
  rw [← hM1]
  have LM1 : M1.length = M0.length + 1 := by rw [hM1, List.length_append]; rfl
  replace C0 : Lv 0 M0.length M1 fun M => FlA M (flV d0 u0) d0 := by rw [hM1]; exact C0.ext _
  have X0 : BoxA M1 M0.length [.int .i64 d0.stock, u0] := by rw [hM1]; exact BoxA.here _ _ _ (by omega)
  try simp (config := {implicitDefEqProofs := false, maxDischargeDepth := 20}) (disch := first | omega | (simp only [lenE]; done) | (simp only [lenE]; omega) | rfl | (simp only [lenE, markR_len]; done) | (simp only [lenE, markR_len]; omega)) only [runE, mapE, listE, initT_5, initT_6, initT_7, initT_8, resV, oneV, binA, unA, reduceCtorEq, Nat.reduceEqDiff, Nat.reduceAdd, Nat.reduceLT, Nat.reduceLeDiff, Nat.reduceMul, Nat.reduceSub, ↓reduceIte, decide_true, decide_false, Bool.true_eq_false, Bool.false_eq_true, Bool.not_true, Bool.not_false, if_true, if_false, and_true, true_and, memE, celE, w64, Nat.zero_add, Nat.add_zero, Nat.mul_one, putL, and_self, ldn, id_eq, ext_2_0, ext_2_1, ext_3_0, ext_3_1, ext_3_2, ext_4_0, ext_4_1, ext_4_2, ext_4_3, beq_self_eq_true, bne_self_eq_false, gt_iff_lt, X0.mk2]
  refine callH_rc (szFlow_rc _ _ d0 1048576 C0.now (by omega) (by omega)) ?_
  rintro r new ⟨nrn, rfl | ⟨z1, za1, zb1, rfl, hs0⟩⟩
  · simp (config := {implicitDefEqProofs := false, maxDischargeDepth := 20}) (disch := first | omega | (simp only [lenE]; done) | (simp only [lenE]; omega) | rfl | (simp only [lenE, markR_len]; done) | (simp only [lenE, markR_len]; omega)) only [runE, mapE, listE, initT_5, initT_6, initT_7, initT_8, resV, oneV, binA, unA, reduceCtorEq, Nat.reduceEqDiff, Nat.reduceAdd, Nat.reduceLT, Nat.reduceLeDiff, Nat.reduceMul, Nat.reduceSub, ↓reduceIte, decide_true, decide_false, Bool.true_eq_false, Bool.false_eq_true, Bool.not_true, Bool.not_false, if_true, if_false, and_true, true_and, memE, celE, w64, Nat.zero_add, Nat.add_zero, Nat.mul_one, putL, and_self, ldn, show ((-1 : Int) < 0) = True by simp]
  have zc1 : ¬ (z1 < 0) := by omega
  obtain ⟨M2, hM2⟩ : ∃ M', M' = M1 ++ new := ⟨_, rfl⟩
  rw [← hM2]
  have LM2 : M2.length = M1.length + new.length := by rw [hM2, List.length_append]
  replace C0 : Lv 0 M0.length M2 fun M => FlA M (flV d0 u0) d0 := by rw [hM2]; exact C0.ext _
  replace X0 : BoxA M2 M0.length [.int .i64 d0.stock, u0] := by rw [hM2]; exact X0.ext _
  clear nrn
  try simp (config := {implicitDefEqProofs := false, maxDischargeDepth := 20}) (disch := first | omega | (simp only [lenE]; done) | (simp only [lenE]; omega) | rfl | (simp only [lenE, markR_len]; done) | (simp only [lenE, markR_len]; omega)) only [runE, mapE, listE, initT_5, initT_6, initT_7, initT_8, resV, oneV, binA, unA, reduceCtorEq, Nat.reduceEqDiff, Nat.reduceAdd, Nat.reduceLT, Nat.reduceLeDiff, Nat.reduceMul, Nat.reduceSub, ↓reduceIte, decide_true, decide_false, Bool.true_eq_false, Bool.false_eq_true, Bool.not_true, Bool.not_false, if_true, if_false, and_true, true_and, memE, celE, w64, Nat.zero_add, Nat.add_zero, Nat.mul_one, putL, and_self, ldn, id_eq, ext_2_0, ext_2_1, ext_3_0, ext_3_1, ext_3_2, ext_4_0, ext_4_1, ext_4_2, ext_4_3, beq_self_eq_true, bne_self_eq_false, gt_iff_lt, zc1, X0.mk2]
  obtain ⟨q0, hq0⟩ : ∃ q : Bool, q = d0.good := ⟨_, rfl⟩
  have SPC := fun m u0 => specIsFlow_rc m u0 d0
  have IMP := fun m u0 => IsFlow_rc m u0 d0
  try rw [← hq0] at SPC
  try rw [← hq0] at IMP
  try simp (config := {implicitDefEqProofs := false, maxDischargeDepth := 20}) (disch := first | omega | (simp only [lenE]; done) | (simp only [lenE]; omega) | rfl | (simp only [lenE, markR_len]; done) | (simp only [lenE, markR_len]; omega)) only [runE, mapE, listE, initT_5, initT_6, initT_7, initT_8, resV, oneV, binA, unA, reduceCtorEq, Nat.reduceEqDiff, Nat.reduceAdd, Nat.reduceLT, Nat.reduceLeDiff, Nat.reduceMul, Nat.reduceSub, ↓reduceIte, decide_true, decide_false, Bool.true_eq_false, Bool.false_eq_true, Bool.not_true, Bool.not_false, if_true, if_false, and_true, true_and, memE, celE, w64, Nat.zero_add, Nat.add_zero, Nat.mul_one, putL, and_self, ldn, id_eq, ext_2_0, ext_2_1, ext_3_0, ext_3_1, ext_3_2, ext_4_0, ext_4_1, ext_4_2, ext_4_3, beq_self_eq_true, bne_self_eq_false, gt_iff_lt, X0.mk2]
  have TT := toFlow_rc M2 _ d0 C0.now hs0
  first | refine callH_rc TT ?_ | refine rcallH_rc TT ?_
  clear TT
  rintro r new ⟨nrn, Sv0, Sv0e, S0⟩
  rw [id_eq] at Sv0e
  subst r
  obtain ⟨M3, hM3⟩ : ∃ M', M' = M2 ++ new := ⟨_, rfl⟩
  rw [← hM3]
  have LM3 : M3.length = M2.length + new.length := by rw [hM3, List.length_append]
  replace C0 : Lv 0 M0.length M3 fun M => FlA M (flV d0 u0) d0 := by rw [hM3]; exact C0.ext _
  replace X0 : BoxA M3 M0.length [.int .i64 d0.stock, u0] := by rw [hM3]; exact X0.ext _
  clear nrn
  rw [← hM3, ← LM3] at S0
  obtain ⟨Su0, rfl, -⟩ := S0.now.in
  change Lv M2.length M3.length M3 fun M => FlO d0 M2.length M3.length M (flV d0 Su0) at S0
  try simp (config := {implicitDefEqProofs := false, maxDischargeDepth := 20}) (disch := first | omega | (simp only [lenE]; done) | (simp only [lenE]; omega) | rfl | (simp only [lenE, markR_len]; done) | (simp only [lenE, markR_len]; omega)) only [runE, mapE, listE, initT_5, initT_6, initT_7, initT_8, resV, oneV, binA, unA, reduceCtorEq, Nat.reduceEqDiff, Nat.reduceAdd, Nat.reduceLT, Nat.reduceLeDiff, Nat.reduceMul, Nat.reduceSub, ↓reduceIte, decide_true, decide_false, Bool.true_eq_false, Bool.false_eq_true, Bool.not_true, Bool.not_false, if_true, if_false, and_true, true_and, memE, celE, w64, Nat.zero_add, Nat.add_zero, Nat.mul_one, putL, and_self, ldn, id_eq, ext_2_0, ext_2_1, ext_3_0, ext_3_1, ext_3_2, ext_4_0, ext_4_1, ext_4_2, ext_4_3, beq_self_eq_true, bne_self_eq_false, gt_iff_lt, X0.mk2]
  first | refine callH_rc (SPC _ _ S0.now.in) ?_ | refine rcallH_rc (SPC _ _ S0.now.in) ?_
  rintro r new ⟨rfl, nrn⟩
  obtain ⟨M4, hM4⟩ : ∃ M', M' = M3 ++ new := ⟨_, rfl⟩
  rw [← hM4]
  have LM4 : M4.length = M3.length + new.length := by rw [hM4, List.length_append]
  replace C0 : Lv 0 M0.length M4 fun M => FlA M (flV d0 u0) d0 := by rw [hM4]; exact C0.ext _
  replace X0 : BoxA M4 M0.length [.int .i64 d0.stock, u0] := by rw [hM4]; exact X0.ext _
  replace S0 : Lv M2.length M3.length M4 fun M => FlO d0 M2.length M3.length M (flV d0 Su0) := by rw [hM4]; exact S0.ext _
  clear nrn
  clear S0
  try simp (config := {implicitDefEqProofs := false, maxDischargeDepth := 20}) (disch := first | omega | (simp only [lenE]; done) | (simp only [lenE]; omega) | rfl | (simp only [lenE, markR_len]; done) | (simp only [lenE, markR_len]; omega)) only [runE, mapE, listE, initT_5, initT_6, initT_7, initT_8, resV, oneV, binA, unA, reduceCtorEq, Nat.reduceEqDiff, Nat.reduceAdd, Nat.reduceLT, Nat.reduceLeDiff, Nat.reduceMul, Nat.reduceSub, ↓reduceIte, decide_true, decide_false, Bool.true_eq_false, Bool.false_eq_true, Bool.not_true, Bool.not_false, if_true, if_false, and_true, true_and, memE, celE, w64, Nat.zero_add, Nat.add_zero, Nat.mul_one, putL, and_self, ldn, id_eq, ext_2_0, ext_2_1, ext_3_0, ext_3_1, ext_3_2, ext_4_0, ext_4_1, ext_4_2, ext_4_3, beq_self_eq_true, bne_self_eq_false, gt_iff_lt, X0.mk2]
  have TT := toFlow_rc M4 _ d0 C0.now hs0
  first | refine callH_rc TT ?_ | refine rcallH_rc TT ?_
  clear TT
  rintro r new ⟨nrn, Yv0, Yv0e, Y0⟩
  rw [id_eq] at Yv0e
  subst r
  obtain ⟨M5, hM5⟩ : ∃ M', M' = M4 ++ new := ⟨_, rfl⟩
  rw [← hM5]
  have LM5 : M5.length = M4.length + new.length := by rw [hM5, List.length_append]
  replace C0 : Lv 0 M0.length M5 fun M => FlA M (flV d0 u0) d0 := by rw [hM5]; exact C0.ext _
  replace X0 : BoxA M5 M0.length [.int .i64 d0.stock, u0] := by rw [hM5]; exact X0.ext _
  clear nrn
  rw [← hM5, ← LM5] at Y0
  obtain ⟨Yu0, rfl, -⟩ := Y0.now.in
  change Lv M4.length M5.length M5 fun M => FlO d0 M4.length M5.length M (flV d0 Yu0) at Y0
  have on00 := fun xs => FlA.one Y0.now.in xs
  try simp (config := {implicitDefEqProofs := false, maxDischargeDepth := 20}) (disch := first | omega | (simp only [lenE]; done) | (simp only [lenE]; omega) | rfl | (simp only [lenE, markR_len]; done) | (simp only [lenE, markR_len]; omega)) only [runE, mapE, listE, initT_5, initT_6, initT_7, initT_8, resV, oneV, binA, unA, reduceCtorEq, Nat.reduceEqDiff, Nat.reduceAdd, Nat.reduceLT, Nat.reduceLeDiff, Nat.reduceMul, Nat.reduceSub, ↓reduceIte, decide_true, decide_false, Bool.true_eq_false, Bool.false_eq_true, Bool.not_true, Bool.not_false, if_true, if_false, and_true, true_and, memE, celE, w64, Nat.zero_add, Nat.add_zero, Nat.mul_one, putL, and_self, ldn, id_eq, ext_2_0, ext_2_1, ext_3_0, ext_3_1, ext_3_2, ext_4_0, ext_4_1, ext_4_2, ext_4_3, beq_self_eq_true, bne_self_eq_false, gt_iff_lt, on00, X0.mk2]
  obtain ⟨M6, hM6⟩ : ∃ M', M' = M5 ++ [⟨.own, 27, [.int .i64 d0.stock, Yu0]⟩] := ⟨_, rfl⟩
  rw [← hM6]
  have LM6 : M6.length = M5.length + 1 := by rw [hM6, List.length_append]; rfl
  replace C0 : Lv 0 M0.length M6 fun M => FlA M (flV d0 u0) d0 := by rw [hM6]; exact C0.ext _
  replace X0 : BoxA M6 M0.length [.int .i64 d0.stock, u0] := by rw [hM6]; exact X0.ext _
  replace Y0 : Lv M4.length M5.length M6 fun M => FlO d0 M4.length M5.length M (flV d0 Yu0) := by rw [hM6]; exact Y0.ext _
  have Z0 : BoxA M6 M5.length [.int .i64 d0.stock, Yu0] := by rw [hM6]; exact BoxA.here _ _ _ rfl
  try simp (config := {implicitDefEqProofs := false, maxDischargeDepth := 20}) (disch := first | omega | (simp only [lenE]; done) | (simp only [lenE]; omega) | rfl | (simp only [lenE, markR_len]; done) | (simp only [lenE, markR_len]; omega)) only [runE, mapE, listE, initT_5, initT_6, initT_7, initT_8, resV, oneV, binA, unA, reduceCtorEq, Nat.reduceEqDiff, Nat.reduceAdd, Nat.reduceLT, Nat.reduceLeDiff, Nat.reduceMul, Nat.reduceSub, ↓reduceIte, decide_true, decide_false, Bool.true_eq_false, Bool.false_eq_true, Bool.not_true, Bool.not_false, if_true, if_false, and_true, true_and, memE, celE, w64, Nat.zero_add, Nat.add_zero, Nat.mul_one, putL, and_self, ldn, id_eq, ext_2_0, ext_2_1, ext_3_0, ext_3_1, ext_3_2, ext_4_0, ext_4_1, ext_4_2, ext_4_3, beq_self_eq_true, bne_self_eq_false, gt_iff_lt, X0.mk2, Z0.mk2]
  first | refine callH_rc (IMP _ _ Y0.now.in) ?_ | refine rcallH_rc (IMP _ _ Y0.now.in) ?_
  rintro r new ⟨rfl, nrn⟩
  obtain ⟨M7, hM7⟩ : ∃ M', M' = M6 ++ new := ⟨_, rfl⟩
  rw [← hM7]
  have LM7 : M7.length = M6.length + new.length := by rw [hM7, List.length_append]
  replace C0 : Lv 0 M0.length M7 fun M => FlA M (flV d0 u0) d0 := by rw [hM7]; exact C0.ext _
  replace X0 : BoxA M7 M0.length [.int .i64 d0.stock, u0] := by rw [hM7]; exact X0.ext _
  replace Y0 : Lv M4.length M5.length M7 fun M => FlO d0 M4.length M5.length M (flV d0 Yu0) := by rw [hM7]; exact Y0.ext _
  replace Z0 : BoxA M7 M5.length [.int .i64 d0.stock, Yu0] := by rw [hM7]; exact Z0.ext _
  clear nrn
  try simp (config := {implicitDefEqProofs := false, maxDischargeDepth := 20}) (disch := first | omega | (simp only [lenE]; done) | (simp only [lenE]; omega) | rfl | (simp only [lenE, markR_len]; done) | (simp only [lenE, markR_len]; omega)) only [runE, mapE, listE, initT_5, initT_6, initT_7, initT_8, resV, oneV, binA, unA, reduceCtorEq, Nat.reduceEqDiff, Nat.reduceAdd, Nat.reduceLT, Nat.reduceLeDiff, Nat.reduceMul, Nat.reduceSub, ↓reduceIte, decide_true, decide_false, Bool.true_eq_false, Bool.false_eq_true, Bool.not_true, Bool.not_false, if_true, if_false, and_true, true_and, memE, celE, w64, Nat.zero_add, Nat.add_zero, Nat.mul_one, putL, and_self, ldn, id_eq, ext_2_0, ext_2_1, ext_3_0, ext_3_1, ext_3_2, ext_4_0, ext_4_1, ext_4_2, ext_4_3, beq_self_eq_true, bne_self_eq_false, gt_iff_lt, X0.mk2, Z0.mk2]
  try simp (config := {implicitDefEqProofs := false, maxDischargeDepth := 20}) (disch := first | omega | (simp only [lenE]; done) | (simp only [lenE]; omega) | rfl | (simp only [lenE, markR_len]; done) | (simp only [lenE, markR_len]; omega)) only [runE, mapE, listE, initT_5, initT_6, initT_7, initT_8, resV, oneV, binA, unA, reduceCtorEq, Nat.reduceEqDiff, Nat.reduceAdd, Nat.reduceLT, Nat.reduceLeDiff, Nat.reduceMul, Nat.reduceSub, ↓reduceIte, decide_true, decide_false, Bool.true_eq_false, Bool.false_eq_true, Bool.not_true, Bool.not_false, if_true, if_false, and_true, true_and, memE, celE, w64, Nat.zero_add, Nat.add_zero, Nat.mul_one, putL, and_self, ldn, id_eq, ext_2_0, ext_2_1, ext_3_0, ext_3_1, ext_3_2, ext_4_0, ext_4_1, ext_4_2, ext_4_3, beq_self_eq_true, bne_self_eq_false, gt_iff_lt, X0.mk2, Z0.mk2]
  have TT := toFlow_rc M7 _ d0 C0.now hs0
  first | refine callH_rc TT ?_ | refine rcallH_rc TT ?_
  clear TT
  rintro r new ⟨nrn, Tv0, Tv0e, T0⟩
  rw [id_eq] at Tv0e
  subst r
  obtain ⟨M8, hM8⟩ : ∃ M', M' = M7 ++ new := ⟨_, rfl⟩
  rw [← hM8]
  have LM8 : M8.length = M7.length + new.length := by rw [hM8, List.length_append]
  replace C0 : Lv 0 M0.length M8 fun M => FlA M (flV d0 u0) d0 := by rw [hM8]; exact C0.ext _
  replace X0 : BoxA M8 M0.length [.int .i64 d0.stock, u0] := by rw [hM8]; exact X0.ext _
  replace Y0 : Lv M4.length M5.length M8 fun M => FlO d0 M4.length M5.length M (flV d0 Yu0) := by rw [hM8]; exact Y0.ext _
  replace Z0 : BoxA M8 M5.length [.int .i64 d0.stock, Yu0] := by rw [hM8]; exact Z0.ext _
  clear nrn
  rw [← hM8, ← LM8] at T0
  obtain ⟨Tu0, rfl, -⟩ := T0.now.in
  change Lv M7.length M8.length M8 fun M => FlO d0 M7.length M8.length M (flV d0 Tu0) at T0
  try simp (config := {implicitDefEqProofs := false, maxDischargeDepth := 20}) (disch := first | omega | (simp only [lenE]; done) | (simp only [lenE]; omega) | rfl | (simp only [lenE, markR_len]; done) | (simp only [lenE, markR_len]; omega)) only [runE, mapE, listE, initT_5, initT_6, initT_7, initT_8, resV, oneV, binA, unA, reduceCtorEq, Nat.reduceEqDiff, Nat.reduceAdd, Nat.reduceLT, Nat.reduceLeDiff, Nat.reduceMul, Nat.reduceSub, ↓reduceIte, decide_true, decide_false, Bool.true_eq_false, Bool.false_eq_true, Bool.not_true, Bool.not_false, if_true, if_false, and_true, true_and, memE, celE, w64, Nat.zero_add, Nat.add_zero, Nat.mul_one, putL, and_self, ldn, id_eq, ext_2_0, ext_2_1, ext_3_0, ext_3_1, ext_3_2, ext_4_0, ext_4_1, ext_4_2, ext_4_3, beq_self_eq_true, bne_self_eq_false, gt_iff_lt, X0.mk2, Z0.mk2]
  have TT := eqFlow_rc M8 _ _ d0 Y0.now.in T0.now.in
  first | refine callH_rc TT ?_ | refine rcallH_rc TT ?_
  clear TT
  rintro r new ⟨rfl, nrn⟩
  obtain ⟨M9, hM9⟩ : ∃ M', M' = M8 ++ new := ⟨_, rfl⟩
  rw [← hM9]
  have LM9 : M9.length = M8.length + new.length := by rw [hM9, List.length_append]
  replace C0 : Lv 0 M0.length M9 fun M => FlA M (flV d0 u0) d0 := by rw [hM9]; exact C0.ext _
  replace X0 : BoxA M9 M0.length [.int .i64 d0.stock, u0] := by rw [hM9]; exact X0.ext _
  replace Y0 : Lv M4.length M5.length M9 fun M => FlO d0 M4.length M5.length M (flV d0 Yu0) := by rw [hM9]; exact Y0.ext _
  replace Z0 : BoxA M9 M5.length [.int .i64 d0.stock, Yu0] := by rw [hM9]; exact Z0.ext _
  replace T0 : Lv M7.length M8.length M9 fun M => FlO d0 M7.length M8.length M (flV d0 Tu0) := by rw [hM9]; exact T0.ext _
  clear nrn
  clear T0
  try simp (config := {implicitDefEqProofs := false, maxDischargeDepth := 20}) (disch := first | omega | (simp only [lenE]; done) | (simp only [lenE]; omega) | rfl | (simp only [lenE, markR_len]; done) | (simp only [lenE, markR_len]; omega)) only [runE, mapE, listE, initT_5, initT_6, initT_7, initT_8, resV, oneV, binA, unA, reduceCtorEq, Nat.reduceEqDiff, Nat.reduceAdd, Nat.reduceLT, Nat.reduceLeDiff, Nat.reduceMul, Nat.reduceSub, ↓reduceIte, decide_true, decide_false, Bool.true_eq_false, Bool.false_eq_true, Bool.not_true, Bool.not_false, if_true, if_false, and_true, true_and, memE, celE, w64, Nat.zero_add, Nat.add_zero, Nat.mul_one, putL, and_self, ldn, id_eq, ext_2_0, ext_2_1, ext_3_0, ext_3_1, ext_3_2, ext_4_0, ext_4_1, ext_4_2, ext_4_3, beq_self_eq_true, bne_self_eq_false, gt_iff_lt, X0.mk2, Z0.mk2]
end Go.Proofs.Ytnkbjliidenldaa.Ab
