/- FnExactServiceOf: its running over abstract memory. -/
import Derived.Test.YtnkbjliidenldaaAbFl11
import Derived.Test.YtnkbjliidenldaaAbFl
import Derived.Test.YtnkbjliidenldaaAbMarks
import Derived.Test.YtnkbjliidenldaaAbBox
import Derived.Test.YtnkbjliidenldaaAbArg
import Derived.Test.YtnkbjliidenldaaCodLServiceOf
namespace Go.Proofs.Ytnkbjliidenldaa.Ab
open Go Go.RowKit
set_option linter.unusedVariables false
set_option linter.unusedSimpArgs false
set_option maxRecDepth 100000

set_option maxHeartbeats 4000000 in
theorem law_FnExactServiceOf (M0 : Mem) (d0 : Fl) (v0 : Value) (d1 : Rl) (d2 : List Int) (v2 : Value) (A0 : FlA M0 v0 d0) (A2 : IntsA M0 v2 d2) :
    AC Try.prog 10 [v0, rlV d1, v2] M0 fun r _ => r = .bool true := by
  refine ac_of_run mixed ok_laws_FnExactServiceOf (by simp) (go_start _ _ _ ?_)
  have A0c := A0
  obtain ⟨u0, rfl, -⟩ := A0c
  have len2 := A2.len
  have bd2 := A2.bd
  have C0 : Lv 0 M0.length M0 fun M => FlA M (flV d0 u0) d0 := Lv.all fun new => A0.ext new
  have C2 : Lv 0 M0.length M0 fun M => IntsA M v2 d2 := Lv.all fun new => A2.ext new
  by_cases s2 : 1048576 < d2.length
  · have s2' : (1048576 : Int) < d2.length := by omega
    try simp (config := {implicitDefEqProofs := false, maxDischargeDepth := 20}) (disch := first | omega | (simp only [lenE]; done) | (simp only [lenE]; omega) | rfl | (simp only [lenE, markR_len]; done) | (simp only [lenE, markR_len]; omega)) only [runE, mapE, listE, initT_5, initT_6, initT_7, initT_8, resV, oneV, binA, unA, reduceCtorEq, Nat.reduceEqDiff, Nat.reduceAdd, Nat.reduceLT, Nat.reduceLeDiff, Nat.reduceMul, Nat.reduceSub, ↓reduceIte, decide_true, decide_false, Bool.true_eq_false, Bool.false_eq_true, Bool.not_true, Bool.not_false, if_true, if_false, and_true, true_and, memE, celE, w64, Nat.zero_add, Nat.add_zero, Nat.mul_one, putL, and_self, ldn, c_laws_FnExactServiceOf, r_laws_FnExactServiceOf, id_eq, ext_2_0, ext_2_1, ext_3_0, ext_3_1, ext_3_2, ext_4_0, ext_4_1, ext_4_2, ext_4_3, beq_self_eq_true, bne_self_eq_false, gt_iff_lt, rlV, s2', len2]
    done
  have s2' : ¬ ((1048576 : Int) < d2.length) := by omega
  try simp (config := {implicitDefEqProofs := false, maxDischargeDepth := 20}) (disch := first | omega | (simp only [lenE]; done) | (simp only [lenE]; omega) | rfl | (simp only [lenE, markR_len]; done) | (simp only [lenE, markR_len]; omega)) only [runE, mapE, listE, initT_5, initT_6, initT_7, initT_8, resV, oneV, binA, unA, reduceCtorEq, Nat.reduceEqDiff, Nat.reduceAdd, Nat.reduceLT, Nat.reduceLeDiff, Nat.reduceMul, Nat.reduceSub, ↓reduceIte, decide_true, decide_false, Bool.true_eq_false, Bool.false_eq_true, Bool.not_true, Bool.not_false, if_true, if_false, and_true, true_and, memE, celE, w64, Nat.zero_add, Nat.add_zero, Nat.mul_one, putL, and_self, ldn, c_laws_FnExactServiceOf, r_laws_FnExactServiceOf, id_eq, ext_2_0, ext_2_1, ext_3_0, ext_3_1, ext_3_2, ext_4_0, ext_4_1, ext_4_2, ext_4_3, beq_self_eq_true, bne_self_eq_false, gt_iff_lt, rlV, s2', len2]
  obtain ⟨M1, hM1⟩ : ∃ M', M' = M0 ++ [⟨.own, 24, [.int .i64 d0.stock, u0]⟩] := ⟨_, rfl⟩
  rw [← hM1]
  have LM1 : M1.length = M0.length + 1 := by rw [hM1, List.length_append]; rfl
  replace C0 : Lv 0 M0.length M1 fun M => FlA M (flV d0 u0) d0 := by rw [hM1]; exact C0.ext _
  replace C2 : Lv 0 M0.length M1 fun M => IntsA M v2 d2 := by rw [hM1]; exact C2.ext _
  have X0 : BoxA M1 M0.length [.int .i64 d0.stock, u0] := by rw [hM1]; exact BoxA.here _ _ _ (by omega)
  obtain ⟨M2, hM2⟩ : ∃ M', M' = M1 ++ [⟨.own, 38, [.int .i64 d1.kind, .int .i64 d1.low, .int .i64 d1.high]⟩] := ⟨_, rfl⟩
  rw [← hM2]
  have LM2 : M2.length = M1.length + 1 := by rw [hM2, List.length_append]; rfl
  replace C0 : Lv 0 M0.length M2 fun M => FlA M (flV d0 u0) d0 := by rw [hM2]; exact C0.ext _
  replace C2 : Lv 0 M0.length M2 fun M => IntsA M v2 d2 := by rw [hM2]; exact C2.ext _
  replace X0 : BoxA M2 M0.length [.int .i64 d0.stock, u0] := by rw [hM2]; exact X0.ext _
  have X1 : BoxA M2 (M0.length + 1) [.int .i64 d1.kind, .int .i64 d1.low, .int .i64 d1.high] := by rw [hM2]; exact BoxA.here _ _ _ (by omega)
  try simp (config := {implicitDefEqProofs := false, maxDischargeDepth := 20}) (disch := first | omega | (simp only [lenE]; done) | (simp only [lenE]; omega) | rfl | (simp only [lenE, markR_len]; done) | (simp only [lenE, markR_len]; omega)) only [runE, mapE, listE, initT_5, initT_6, initT_7, initT_8, resV, oneV, binA, unA, reduceCtorEq, Nat.reduceEqDiff, Nat.reduceAdd, Nat.reduceLT, Nat.reduceLeDiff, Nat.reduceMul, Nat.reduceSub, ↓reduceIte, decide_true, decide_false, Bool.true_eq_false, Bool.false_eq_true, Bool.not_true, Bool.not_false, if_true, if_false, and_true, true_and, memE, celE, w64, Nat.zero_add, Nat.add_zero, Nat.mul_one, putL, and_self, ldn, id_eq, ext_2_0, ext_2_1, ext_3_0, ext_3_1, ext_3_2, ext_4_0, ext_4_1, ext_4_2, ext_4_3, beq_self_eq_true, bne_self_eq_false, gt_iff_lt, X0.mk2, X1.mk3]
  refine callH_rc (szFlow_rc _ _ d0 1048576 C0.now (by omega) (by omega)) ?_
  rintro r new ⟨nrn, rfl | ⟨z1, za1, zb1, rfl, hs0⟩⟩
  · simp (config := {implicitDefEqProofs := false, maxDischargeDepth := 20}) (disch := first | omega | (simp only [lenE]; done) | (simp only [lenE]; omega) | rfl | (simp only [lenE, markR_len]; done) | (simp only [lenE, markR_len]; omega)) only [runE, mapE, listE, initT_5, initT_6, initT_7, initT_8, resV, oneV, binA, unA, reduceCtorEq, Nat.reduceEqDiff, Nat.reduceAdd, Nat.reduceLT, Nat.reduceLeDiff, Nat.reduceMul, Nat.reduceSub, ↓reduceIte, decide_true, decide_false, Bool.true_eq_false, Bool.false_eq_true, Bool.not_true, Bool.not_false, if_true, if_false, and_true, true_and, memE, celE, w64, Nat.zero_add, Nat.add_zero, Nat.mul_one, putL, and_self, ldn, show ((-1 : Int) < 0) = True by simp]
  have zc1 : ¬ (z1 < 0) := by omega
  obtain ⟨M3, hM3⟩ : ∃ M', M' = M2 ++ new := ⟨_, rfl⟩
  rw [← hM3]
  have LM3 : M3.length = M2.length + new.length := by rw [hM3, List.length_append]
  replace C0 : Lv 0 M0.length M3 fun M => FlA M (flV d0 u0) d0 := by rw [hM3]; exact C0.ext _
  replace C2 : Lv 0 M0.length M3 fun M => IntsA M v2 d2 := by rw [hM3]; exact C2.ext _
  replace X0 : BoxA M3 M0.length [.int .i64 d0.stock, u0] := by rw [hM3]; exact X0.ext _
  replace X1 : BoxA M3 (M0.length + 1) [.int .i64 d1.kind, .int .i64 d1.low, .int .i64 d1.high] := by rw [hM3]; exact X1.ext _
  clear nrn
  try simp (config := {implicitDefEqProofs := false, maxDischargeDepth := 20}) (disch := first | omega | (simp only [lenE]; done) | (simp only [lenE]; omega) | rfl | (simp only [lenE, markR_len]; done) | (simp only [lenE, markR_len]; omega)) only [runE, mapE, listE, initT_5, initT_6, initT_7, initT_8, resV, oneV, binA, unA, reduceCtorEq, Nat.reduceEqDiff, Nat.reduceAdd, Nat.reduceLT, Nat.reduceLeDiff, Nat.reduceMul, Nat.reduceSub, ↓reduceIte, decide_true, decide_false, Bool.true_eq_false, Bool.false_eq_true, Bool.not_true, Bool.not_false, if_true, if_false, and_true, true_and, memE, celE, w64, Nat.zero_add, Nat.add_zero, Nat.mul_one, putL, and_self, ldn, id_eq, ext_2_0, ext_2_1, ext_3_0, ext_3_1, ext_3_2, ext_4_0, ext_4_1, ext_4_2, ext_4_3, beq_self_eq_true, bne_self_eq_false, gt_iff_lt, zc1, X0.mk2, X1.mk3]
  obtain ⟨q0, hq0⟩ : ∃ q : Int, q = (trSrv d0 d1 d2) := ⟨_, rfl⟩
  obtain ⟨q1, hq1⟩ : ∃ q : Int, q = (trSum d0 d1 d2) := ⟨_, rfl⟩
  obtain ⟨q2, hq2⟩ : ∃ q : Bool, q = (trOk d0 d1 d2) := ⟨_, rfl⟩
  have SPC := fun m u0 u2 => specServiceOf_rc m u0 u2 d0 d1 d2
  have IMP := fun m u0 u2 => implServiceOf_rc m u0 u2 d0 d1 d2
  try rw [← hq0] at SPC
  try rw [← hq0] at IMP
  try rw [← hq1] at SPC
  try rw [← hq1] at IMP
  try rw [← hq2] at SPC
  try rw [← hq2] at IMP
  try simp (config := {implicitDefEqProofs := false, maxDischargeDepth := 20}) (disch := first | omega | (simp only [lenE]; done) | (simp only [lenE]; omega) | rfl | (simp only [lenE, markR_len]; done) | (simp only [lenE, markR_len]; omega)) only [runE, mapE, listE, initT_5, initT_6, initT_7, initT_8, resV, oneV, binA, unA, reduceCtorEq, Nat.reduceEqDiff, Nat.reduceAdd, Nat.reduceLT, Nat.reduceLeDiff, Nat.reduceMul, Nat.reduceSub, ↓reduceIte, decide_true, decide_false, Bool.true_eq_false, Bool.false_eq_true, Bool.not_true, Bool.not_false, if_true, if_false, and_true, true_and, memE, celE, w64, Nat.zero_add, Nat.add_zero, Nat.mul_one, putL, and_self, ldn, id_eq, ext_2_0, ext_2_1, ext_3_0, ext_3_1, ext_3_2, ext_4_0, ext_4_1, ext_4_2, ext_4_3, beq_self_eq_true, bne_self_eq_false, gt_iff_lt, X0.mk2, X1.mk3]
  have TT := toFlow_rc M3 _ d0 C0.now hs0
  first | refine callH_rc TT ?_ | refine rcallH_rc TT ?_
  clear TT
  rintro r new ⟨nrn, Sv0, Sv0e, S0⟩
  rw [id_eq] at Sv0e
  subst r
  obtain ⟨M4, hM4⟩ : ∃ M', M' = M3 ++ new := ⟨_, rfl⟩
  rw [← hM4]
  have LM4 : M4.length = M3.length + new.length := by rw [hM4, List.length_append]
  replace C0 : Lv 0 M0.length M4 fun M => FlA M (flV d0 u0) d0 := by rw [hM4]; exact C0.ext _
  replace C2 : Lv 0 M0.length M4 fun M => IntsA M v2 d2 := by rw [hM4]; exact C2.ext _
  replace X0 : BoxA M4 M0.length [.int .i64 d0.stock, u0] := by rw [hM4]; exact X0.ext _
  replace X1 : BoxA M4 (M0.length + 1) [.int .i64 d1.kind, .int .i64 d1.low, .int .i64 d1.high] := by rw [hM4]; exact X1.ext _
  clear nrn
  rw [← hM4, ← LM4] at S0
  obtain ⟨Su0, rfl, -⟩ := S0.now.in
  change Lv M3.length M4.length M4 fun M => FlO d0 M3.length M4.length M (flV d0 Su0) at S0
  try simp (config := {implicitDefEqProofs := false, maxDischargeDepth := 20}) (disch := first | omega | (simp only [lenE]; done) | (simp only [lenE]; omega) | rfl | (simp only [lenE, markR_len]; done) | (simp only [lenE, markR_len]; omega)) only [runE, mapE, listE, initT_5, initT_6, initT_7, initT_8, resV, oneV, binA, unA, reduceCtorEq, Nat.reduceEqDiff, Nat.reduceAdd, Nat.reduceLT, Nat.reduceLeDiff, Nat.reduceMul, Nat.reduceSub, ↓reduceIte, decide_true, decide_false, Bool.true_eq_false, Bool.false_eq_true, Bool.not_true, Bool.not_false, if_true, if_false, and_true, true_and, memE, celE, w64, Nat.zero_add, Nat.add_zero, Nat.mul_one, putL, and_self, ldn, id_eq, ext_2_0, ext_2_1, ext_3_0, ext_3_1, ext_3_2, ext_4_0, ext_4_1, ext_4_2, ext_4_3, beq_self_eq_true, bne_self_eq_false, gt_iff_lt, rlV, X0.mk2, X1.mk3]
  first | refine callH_rc (toRule_rc _ d1) ?_ | refine rcallH_rc (toRule_rc _ d1) ?_
  rintro r new ⟨rfl, nrn⟩
  obtain ⟨M5, hM5⟩ : ∃ M', M' = M4 ++ new := ⟨_, rfl⟩
  rw [← hM5]
  have LM5 : M5.length = M4.length + new.length := by rw [hM5, List.length_append]
  replace C0 : Lv 0 M0.length M5 fun M => FlA M (flV d0 u0) d0 := by rw [hM5]; exact C0.ext _
  replace C2 : Lv 0 M0.length M5 fun M => IntsA M v2 d2 := by rw [hM5]; exact C2.ext _
  replace X0 : BoxA M5 M0.length [.int .i64 d0.stock, u0] := by rw [hM5]; exact X0.ext _
  replace X1 : BoxA M5 (M0.length + 1) [.int .i64 d1.kind, .int .i64 d1.low, .int .i64 d1.high] := by rw [hM5]; exact X1.ext _
  replace S0 : Lv M3.length M4.length M5 fun M => FlO d0 M3.length M4.length M (flV d0 Su0) := by rw [hM5]; exact S0.ext _
  clear nrn
  try simp (config := {implicitDefEqProofs := false, maxDischargeDepth := 20}) (disch := first | omega | (simp only [lenE]; done) | (simp only [lenE]; omega) | rfl | (simp only [lenE, markR_len]; done) | (simp only [lenE, markR_len]; omega)) only [runE, mapE, listE, initT_5, initT_6, initT_7, initT_8, resV, oneV, binA, unA, reduceCtorEq, Nat.reduceEqDiff, Nat.reduceAdd, Nat.reduceLT, Nat.reduceLeDiff, Nat.reduceMul, Nat.reduceSub, ↓reduceIte, decide_true, decide_false, Bool.true_eq_false, Bool.false_eq_true, Bool.not_true, Bool.not_false, if_true, if_false, and_true, true_and, memE, celE, w64, Nat.zero_add, Nat.add_zero, Nat.mul_one, putL, and_self, ldn, id_eq, ext_2_0, ext_2_1, ext_3_0, ext_3_1, ext_3_2, ext_4_0, ext_4_1, ext_4_2, ext_4_3, beq_self_eq_true, bne_self_eq_false, gt_iff_lt, X0.mk2, X1.mk3]
  have TT := toIntsO_rc M5 _ d2 C2.now (by omega)
  first | refine callH_rc TT ?_ | refine rcallH_rc TT ?_
  clear TT
  rintro r new ⟨nrn, Sv2, Sv2e, S2⟩
  rw [id_eq] at Sv2e
  subst r
  obtain ⟨M6, hM6⟩ : ∃ M', M' = M5 ++ new := ⟨_, rfl⟩
  rw [← hM6]
  have LM6 : M6.length = M5.length + new.length := by rw [hM6, List.length_append]
  replace C0 : Lv 0 M0.length M6 fun M => FlA M (flV d0 u0) d0 := by rw [hM6]; exact C0.ext _
  replace C2 : Lv 0 M0.length M6 fun M => IntsA M v2 d2 := by rw [hM6]; exact C2.ext _
  replace X0 : BoxA M6 M0.length [.int .i64 d0.stock, u0] := by rw [hM6]; exact X0.ext _
  replace X1 : BoxA M6 (M0.length + 1) [.int .i64 d1.kind, .int .i64 d1.low, .int .i64 d1.high] := by rw [hM6]; exact X1.ext _
  replace S0 : Lv M3.length M4.length M6 fun M => FlO d0 M3.length M4.length M (flV d0 Su0) := by rw [hM6]; exact S0.ext _
  clear nrn
  rw [← hM6, ← LM6] at S2
  change Lv M5.length M6.length M6 fun M => IntsO d2 M5.length M6.length M Sv2 at S2
  try simp (config := {implicitDefEqProofs := false, maxDischargeDepth := 20}) (disch := first | omega | (simp only [lenE]; done) | (simp only [lenE]; omega) | rfl | (simp only [lenE, markR_len]; done) | (simp only [lenE, markR_len]; omega)) only [runE, mapE, listE, initT_5, initT_6, initT_7, initT_8, resV, oneV, binA, unA, reduceCtorEq, Nat.reduceEqDiff, Nat.reduceAdd, Nat.reduceLT, Nat.reduceLeDiff, Nat.reduceMul, Nat.reduceSub, ↓reduceIte, decide_true, decide_false, Bool.true_eq_false, Bool.false_eq_true, Bool.not_true, Bool.not_false, if_true, if_false, and_true, true_and, memE, celE, w64, Nat.zero_add, Nat.add_zero, Nat.mul_one, putL, and_self, ldn, id_eq, ext_2_0, ext_2_1, ext_3_0, ext_3_1, ext_3_2, ext_4_0, ext_4_1, ext_4_2, ext_4_3, beq_self_eq_true, bne_self_eq_false, gt_iff_lt, X0.mk2, X1.mk3]
  first | refine callH_rc (SPC _ _ _ S0.now.in S2.now.in) ?_ | refine rcallH_rc (SPC _ _ _ S0.now.in S2.now.in) ?_
  rintro r new ⟨rfl, nrn⟩
  obtain ⟨M7, hM7⟩ : ∃ M', M' = M6 ++ new := ⟨_, rfl⟩
  rw [← hM7]
  have LM7 : M7.length = M6.length + new.length := by rw [hM7, List.length_append]
  replace C0 : Lv 0 M0.length M7 fun M => FlA M (flV d0 u0) d0 := by rw [hM7]; exact C0.ext _
  replace C2 : Lv 0 M0.length M7 fun M => IntsA M v2 d2 := by rw [hM7]; exact C2.ext _
  replace X0 : BoxA M7 M0.length [.int .i64 d0.stock, u0] := by rw [hM7]; exact X0.ext _
  replace X1 : BoxA M7 (M0.length + 1) [.int .i64 d1.kind, .int .i64 d1.low, .int .i64 d1.high] := by rw [hM7]; exact X1.ext _
  replace S0 : Lv M3.length M4.length M7 fun M => FlO d0 M3.length M4.length M (flV d0 Su0) := by rw [hM7]; exact S0.ext _
  replace S2 : Lv M5.length M6.length M7 fun M => IntsO d2 M5.length M6.length M Sv2 := by rw [hM7]; exact S2.ext _
  clear nrn
  clear S0
  clear S2
  try simp (config := {implicitDefEqProofs := false, maxDischargeDepth := 20}) (disch := first | omega | (simp only [lenE]; done) | (simp only [lenE]; omega) | rfl | (simp only [lenE, markR_len]; done) | (simp only [lenE, markR_len]; omega)) only [runE, mapE, listE, initT_5, initT_6, initT_7, initT_8, resV, oneV, binA, unA, reduceCtorEq, Nat.reduceEqDiff, Nat.reduceAdd, Nat.reduceLT, Nat.reduceLeDiff, Nat.reduceMul, Nat.reduceSub, ↓reduceIte, decide_true, decide_false, Bool.true_eq_false, Bool.false_eq_true, Bool.not_true, Bool.not_false, if_true, if_false, and_true, true_and, memE, celE, w64, Nat.zero_add, Nat.add_zero, Nat.mul_one, putL, and_self, ldn, id_eq, ext_2_0, ext_2_1, ext_3_0, ext_3_1, ext_3_2, ext_4_0, ext_4_1, ext_4_2, ext_4_3, beq_self_eq_true, bne_self_eq_false, gt_iff_lt, X0.mk2, X1.mk3]
  have TT := toFlow_rc M7 _ d0 C0.now hs0
  first | refine callH_rc TT ?_ | refine rcallH_rc TT ?_
  clear TT
  rintro r new ⟨nrn, Yv0, Yv0e, Y0⟩
  rw [id_eq] at Yv0e
  subst r
  obtain ⟨M8, hM8⟩ : ∃ M', M' = M7 ++ new := ⟨_, rfl⟩
  rw [← hM8]
  have LM8 : M8.length = M7.length + new.length := by rw [hM8, List.length_append]
  replace C0 : Lv 0 M0.length M8 fun M => FlA M (flV d0 u0) d0 := by rw [hM8]; exact C0.ext _
  replace C2 : Lv 0 M0.length M8 fun M => IntsA M v2 d2 := by rw [hM8]; exact C2.ext _
  replace X0 : BoxA M8 M0.length [.int .i64 d0.stock, u0] := by rw [hM8]; exact X0.ext _
  replace X1 : BoxA M8 (M0.length + 1) [.int .i64 d1.kind, .int .i64 d1.low, .int .i64 d1.high] := by rw [hM8]; exact X1.ext _
  clear nrn
  rw [← hM8, ← LM8] at Y0
  obtain ⟨Yu0, rfl, -⟩ := Y0.now.in
  change Lv M7.length M8.length M8 fun M => FlO d0 M7.length M8.length M (flV d0 Yu0) at Y0
  have on00 := fun xs => FlA.one Y0.now.in xs
  try simp (config := {implicitDefEqProofs := false, maxDischargeDepth := 20}) (disch := first | omega | (simp only [lenE]; done) | (simp only [lenE]; omega) | rfl | (simp only [lenE, markR_len]; done) | (simp only [lenE, markR_len]; omega)) only [runE, mapE, listE, initT_5, initT_6, initT_7, initT_8, resV, oneV, binA, unA, reduceCtorEq, Nat.reduceEqDiff, Nat.reduceAdd, Nat.reduceLT, Nat.reduceLeDiff, Nat.reduceMul, Nat.reduceSub, ↓reduceIte, decide_true, decide_false, Bool.true_eq_false, Bool.false_eq_true, Bool.not_true, Bool.not_false, if_true, if_false, and_true, true_and, memE, celE, w64, Nat.zero_add, Nat.add_zero, Nat.mul_one, putL, and_self, ldn, id_eq, ext_2_0, ext_2_1, ext_3_0, ext_3_1, ext_3_2, ext_4_0, ext_4_1, ext_4_2, ext_4_3, beq_self_eq_true, bne_self_eq_false, gt_iff_lt, on00, X0.mk2, X1.mk3]
  obtain ⟨M9, hM9⟩ : ∃ M', M' = M8 ++ [⟨.own, 27, [.int .i64 d0.stock, Yu0]⟩] := ⟨_, rfl⟩
  rw [← hM9]
  have LM9 : M9.length = M8.length + 1 := by rw [hM9, List.length_append]; rfl
  replace C0 : Lv 0 M0.length M9 fun M => FlA M (flV d0 u0) d0 := by rw [hM9]; exact C0.ext _
  replace C2 : Lv 0 M0.length M9 fun M => IntsA M v2 d2 := by rw [hM9]; exact C2.ext _
  replace X0 : BoxA M9 M0.length [.int .i64 d0.stock, u0] := by rw [hM9]; exact X0.ext _
  replace X1 : BoxA M9 (M0.length + 1) [.int .i64 d1.kind, .int .i64 d1.low, .int .i64 d1.high] := by rw [hM9]; exact X1.ext _
  replace Y0 : Lv M7.length M8.length M9 fun M => FlO d0 M7.length M8.length M (flV d0 Yu0) := by rw [hM9]; exact Y0.ext _
  have Z0 : BoxA M9 M8.length [.int .i64 d0.stock, Yu0] := by rw [hM9]; exact BoxA.here _ _ _ rfl
  try simp (config := {implicitDefEqProofs := false, maxDischargeDepth := 20}) (disch := first | omega | (simp only [lenE]; done) | (simp only [lenE]; omega) | rfl | (simp only [lenE, markR_len]; done) | (simp only [lenE, markR_len]; omega)) only [runE, mapE, listE, initT_5, initT_6, initT_7, initT_8, resV, oneV, binA, unA, reduceCtorEq, Nat.reduceEqDiff, Nat.reduceAdd, Nat.reduceLT, Nat.reduceLeDiff, Nat.reduceMul, Nat.reduceSub, ↓reduceIte, decide_true, decide_false, Bool.true_eq_false, Bool.false_eq_true, Bool.not_true, Bool.not_false, if_true, if_false, and_true, true_and, memE, celE, w64, Nat.zero_add, Nat.add_zero, Nat.mul_one, putL, and_self, ldn, id_eq, ext_2_0, ext_2_1, ext_3_0, ext_3_1, ext_3_2, ext_4_0, ext_4_1, ext_4_2, ext_4_3, beq_self_eq_true, bne_self_eq_false, gt_iff_lt, X0.mk2, X1.mk3, Z0.mk2]
  have TT := toIntsO_rc M9 _ d2 C2.now (by omega)
  first | refine callH_rc TT ?_ | refine rcallH_rc TT ?_
  clear TT
  rintro r new ⟨nrn, Yv2, Yv2e, Y2⟩
  rw [id_eq] at Yv2e
  subst r
  obtain ⟨M10, hM10⟩ : ∃ M', M' = M9 ++ new := ⟨_, rfl⟩
  rw [← hM10]
  have LM10 : M10.length = M9.length + new.length := by rw [hM10, List.length_append]
  replace C0 : Lv 0 M0.length M10 fun M => FlA M (flV d0 u0) d0 := by rw [hM10]; exact C0.ext _
  replace C2 : Lv 0 M0.length M10 fun M => IntsA M v2 d2 := by rw [hM10]; exact C2.ext _
  replace X0 : BoxA M10 M0.length [.int .i64 d0.stock, u0] := by rw [hM10]; exact X0.ext _
  replace X1 : BoxA M10 (M0.length + 1) [.int .i64 d1.kind, .int .i64 d1.low, .int .i64 d1.high] := by rw [hM10]; exact X1.ext _
  replace Y0 : Lv M7.length M8.length M10 fun M => FlO d0 M7.length M8.length M (flV d0 Yu0) := by rw [hM10]; exact Y0.ext _
  replace Z0 : BoxA M10 M8.length [.int .i64 d0.stock, Yu0] := by rw [hM10]; exact Z0.ext _
  clear nrn
  rw [← hM10, ← LM10] at Y2
  change Lv M9.length M10.length M10 fun M => IntsO d2 M9.length M10.length M Yv2 at Y2
  try simp (config := {implicitDefEqProofs := false, maxDischargeDepth := 20}) (disch := first | omega | (simp only [lenE]; done) | (simp only [lenE]; omega) | rfl | (simp only [lenE, markR_len]; done) | (simp only [lenE, markR_len]; omega)) only [runE, mapE, listE, initT_5, initT_6, initT_7, initT_8, resV, oneV, binA, unA, reduceCtorEq, Nat.reduceEqDiff, Nat.reduceAdd, Nat.reduceLT, Nat.reduceLeDiff, Nat.reduceMul, Nat.reduceSub, ↓reduceIte, decide_true, decide_false, Bool.true_eq_false, Bool.false_eq_true, Bool.not_true, Bool.not_false, if_true, if_false, and_true, true_and, memE, celE, w64, Nat.zero_add, Nat.add_zero, Nat.mul_one, putL, and_self, ldn, id_eq, ext_2_0, ext_2_1, ext_3_0, ext_3_1, ext_3_2, ext_4_0, ext_4_1, ext_4_2, ext_4_3, beq_self_eq_true, bne_self_eq_false, gt_iff_lt, rlV, X0.mk2, X1.mk3, Z0.mk2]
  first | refine callH_rc (toRule_rc _ d1) ?_ | refine rcallH_rc (toRule_rc _ d1) ?_
  rintro r new ⟨rfl, nrn⟩
  obtain ⟨M11, hM11⟩ : ∃ M', M' = M10 ++ new := ⟨_, rfl⟩
  rw [← hM11]
  have LM11 : M11.length = M10.length + new.length := by rw [hM11, List.length_append]
  replace C0 : Lv 0 M0.length M11 fun M => FlA M (flV d0 u0) d0 := by rw [hM11]; exact C0.ext _
  replace C2 : Lv 0 M0.length M11 fun M => IntsA M v2 d2 := by rw [hM11]; exact C2.ext _
  replace X0 : BoxA M11 M0.length [.int .i64 d0.stock, u0] := by rw [hM11]; exact X0.ext _
  replace X1 : BoxA M11 (M0.length + 1) [.int .i64 d1.kind, .int .i64 d1.low, .int .i64 d1.high] := by rw [hM11]; exact X1.ext _
  replace Y0 : Lv M7.length M8.length M11 fun M => FlO d0 M7.length M8.length M (flV d0 Yu0) := by rw [hM11]; exact Y0.ext _
  replace Z0 : BoxA M11 M8.length [.int .i64 d0.stock, Yu0] := by rw [hM11]; exact Z0.ext _
  replace Y2 : Lv M9.length M10.length M11 fun M => IntsO d2 M9.length M10.length M Yv2 := by rw [hM11]; exact Y2.ext _
  clear nrn
  try simp (config := {implicitDefEqProofs := false, maxDischargeDepth := 20}) (disch := first | omega | (simp only [lenE]; done) | (simp only [lenE]; omega) | rfl | (simp only [lenE, markR_len]; done) | (simp only [lenE, markR_len]; omega)) only [runE, mapE, listE, initT_5, initT_6, initT_7, initT_8, resV, oneV, binA, unA, reduceCtorEq, Nat.reduceEqDiff, Nat.reduceAdd, Nat.reduceLT, Nat.reduceLeDiff, Nat.reduceMul, Nat.reduceSub, ↓reduceIte, decide_true, decide_false, Bool.true_eq_false, Bool.false_eq_true, Bool.not_true, Bool.not_false, if_true, if_false, and_true, true_and, memE, celE, w64, Nat.zero_add, Nat.add_zero, Nat.mul_one, putL, and_self, ldn, id_eq, ext_2_0, ext_2_1, ext_3_0, ext_3_1, ext_3_2, ext_4_0, ext_4_1, ext_4_2, ext_4_3, beq_self_eq_true, bne_self_eq_false, gt_iff_lt, X0.mk2, X1.mk3, Z0.mk2]
  first | refine callH_rc (IMP _ _ _ Y0.now.in Y2.now.in) ?_ | refine rcallH_rc (IMP _ _ _ Y0.now.in Y2.now.in) ?_
  rintro r new ⟨rfl, nrn⟩
  obtain ⟨M12, hM12⟩ : ∃ M', M' = M11 ++ new := ⟨_, rfl⟩
  rw [← hM12]
  have LM12 : M12.length = M11.length + new.length := by rw [hM12, List.length_append]
  replace C0 : Lv 0 M0.length M12 fun M => FlA M (flV d0 u0) d0 := by rw [hM12]; exact C0.ext _
  replace C2 : Lv 0 M0.length M12 fun M => IntsA M v2 d2 := by rw [hM12]; exact C2.ext _
  replace X0 : BoxA M12 M0.length [.int .i64 d0.stock, u0] := by rw [hM12]; exact X0.ext _
  replace X1 : BoxA M12 (M0.length + 1) [.int .i64 d1.kind, .int .i64 d1.low, .int .i64 d1.high] := by rw [hM12]; exact X1.ext _
  replace Y0 : Lv M7.length M8.length M12 fun M => FlO d0 M7.length M8.length M (flV d0 Yu0) := by rw [hM12]; exact Y0.ext _
  replace Z0 : BoxA M12 M8.length [.int .i64 d0.stock, Yu0] := by rw [hM12]; exact Z0.ext _
  replace Y2 : Lv M9.length M10.length M12 fun M => IntsO d2 M9.length M10.length M Yv2 := by rw [hM12]; exact Y2.ext _
  clear nrn
  try simp (config := {implicitDefEqProofs := false, maxDischargeDepth := 20}) (disch := first | omega | (simp only [lenE]; done) | (simp only [lenE]; omega) | rfl | (simp only [lenE, markR_len]; done) | (simp only [lenE, markR_len]; omega)) only [runE, mapE, listE, initT_5, initT_6, initT_7, initT_8, resV, oneV, binA, unA, reduceCtorEq, Nat.reduceEqDiff, Nat.reduceAdd, Nat.reduceLT, Nat.reduceLeDiff, Nat.reduceMul, Nat.reduceSub, ↓reduceIte, decide_true, decide_false, Bool.true_eq_false, Bool.false_eq_true, Bool.not_true, Bool.not_false, if_true, if_false, and_true, true_and, memE, celE, w64, Nat.zero_add, Nat.add_zero, Nat.mul_one, putL, and_self, ldn, id_eq, ext_2_0, ext_2_1, ext_3_0, ext_3_1, ext_3_2, ext_4_0, ext_4_1, ext_4_2, ext_4_3, beq_self_eq_true, bne_self_eq_false, gt_iff_lt, X0.mk2, X1.mk3, Z0.mk2]
  try simp (config := {implicitDefEqProofs := false, maxDischargeDepth := 20}) (disch := first | omega | (simp only [lenE]; done) | (simp only [lenE]; omega) | rfl | (simp only [lenE, markR_len]; done) | (simp only [lenE, markR_len]; omega)) only [runE, mapE, listE, initT_5, initT_6, initT_7, initT_8, resV, oneV, binA, unA, reduceCtorEq, Nat.reduceEqDiff, Nat.reduceAdd, Nat.reduceLT, Nat.reduceLeDiff, Nat.reduceMul, Nat.reduceSub, ↓reduceIte, decide_true, decide_false, Bool.true_eq_false, Bool.false_eq_true, Bool.not_true, Bool.not_false, if_true, if_false, and_true, true_and, memE, celE, w64, Nat.zero_add, Nat.add_zero, Nat.mul_one, putL, and_self, ldn, id_eq, ext_2_0, ext_2_1, ext_3_0, ext_3_1, ext_3_2, ext_4_0, ext_4_1, ext_4_2, ext_4_3, beq_self_eq_true, bne_self_eq_false, gt_iff_lt, X0.mk2, X1.mk3, Z0.mk2]
  have TT := toFlow_rc M12 _ d0 C0.now hs0
  first | refine callH_rc TT ?_ | refine rcallH_rc TT ?_
  clear TT
  rintro r new ⟨nrn, Tv0, Tv0e, T0⟩
  rw [id_eq] at Tv0e
  subst r
  obtain ⟨M13, hM13⟩ : ∃ M', M' = M12 ++ new := ⟨_, rfl⟩
  rw [← hM13]
  have LM13 : M13.length = M12.length + new.length := by rw [hM13, List.length_append]
  replace C0 : Lv 0 M0.length M13 fun M => FlA M (flV d0 u0) d0 := by rw [hM13]; exact C0.ext _
  replace C2 : Lv 0 M0.length M13 fun M => IntsA M v2 d2 := by rw [hM13]; exact C2.ext _
  replace X0 : BoxA M13 M0.length [.int .i64 d0.stock, u0] := by rw [hM13]; exact X0.ext _
  replace X1 : BoxA M13 (M0.length + 1) [.int .i64 d1.kind, .int .i64 d1.low, .int .i64 d1.high] := by rw [hM13]; exact X1.ext _
  replace Y0 : Lv M7.length M8.length M13 fun M => FlO d0 M7.length M8.length M (flV d0 Yu0) := by rw [hM13]; exact Y0.ext _
  replace Z0 : BoxA M13 M8.length [.int .i64 d0.stock, Yu0] := by rw [hM13]; exact Z0.ext _
  replace Y2 : Lv M9.length M10.length M13 fun M => IntsO d2 M9.length M10.length M Yv2 := by rw [hM13]; exact Y2.ext _
  clear nrn
  rw [← hM13, ← LM13] at T0
  obtain ⟨Tu0, rfl, -⟩ := T0.now.in
  change Lv M12.length M13.length M13 fun M => FlO d0 M12.length M13.length M (flV d0 Tu0) at T0
  try simp (config := {implicitDefEqProofs := false, maxDischargeDepth := 20}) (disch := first | omega | (simp only [lenE]; done) | (simp only [lenE]; omega) | rfl | (simp only [lenE, markR_len]; done) | (simp only [lenE, markR_len]; omega)) only [runE, mapE, listE, initT_5, initT_6, initT_7, initT_8, resV, oneV, binA, unA, reduceCtorEq, Nat.reduceEqDiff, Nat.reduceAdd, Nat.reduceLT, Nat.reduceLeDiff, Nat.reduceMul, Nat.reduceSub, ↓reduceIte, decide_true, decide_false, Bool.true_eq_false, Bool.false_eq_true, Bool.not_true, Bool.not_false, if_true, if_false, and_true, true_and, memE, celE, w64, Nat.zero_add, Nat.add_zero, Nat.mul_one, putL, and_self, ldn, id_eq, ext_2_0, ext_2_1, ext_3_0, ext_3_1, ext_3_2, ext_4_0, ext_4_1, ext_4_2, ext_4_3, beq_self_eq_true, bne_self_eq_false, gt_iff_lt, X0.mk2, X1.mk3, Z0.mk2]
  have TT := eqFlow_rc M13 _ _ d0 Y0.now.in T0.now.in
  first | refine callH_rc TT ?_ | refine rcallH_rc TT ?_
  clear TT
  rintro r new ⟨rfl, nrn⟩
  obtain ⟨M14, hM14⟩ : ∃ M', M' = M13 ++ new := ⟨_, rfl⟩
  rw [← hM14]
  have LM14 : M14.length = M13.length + new.length := by rw [hM14, List.length_append]
  replace C0 : Lv 0 M0.length M14 fun M => FlA M (flV d0 u0) d0 := by rw [hM14]; exact C0.ext _
  replace C2 : Lv 0 M0.length M14 fun M => IntsA M v2 d2 := by rw [hM14]; exact C2.ext _
  replace X0 : BoxA M14 M0.length [.int .i64 d0.stock, u0] := by rw [hM14]; exact X0.ext _
  replace X1 : BoxA M14 (M0.length + 1) [.int .i64 d1.kind, .int .i64 d1.low, .int .i64 d1.high] := by rw [hM14]; exact X1.ext _
  replace Y0 : Lv M7.length M8.length M14 fun M => FlO d0 M7.length M8.length M (flV d0 Yu0) := by rw [hM14]; exact Y0.ext _
  replace Z0 : BoxA M14 M8.length [.int .i64 d0.stock, Yu0] := by rw [hM14]; exact Z0.ext _
  replace Y2 : Lv M9.length M10.length M14 fun M => IntsO d2 M9.length M10.length M Yv2 := by rw [hM14]; exact Y2.ext _
  replace T0 : Lv M12.length M13.length M14 fun M => FlO d0 M12.length M13.length M (flV d0 Tu0) := by rw [hM14]; exact T0.ext _
  clear nrn
  clear T0
  try simp (config := {implicitDefEqProofs := false, maxDischargeDepth := 20}) (disch := first | omega | (simp only [lenE]; done) | (simp only [lenE]; omega) | rfl | (simp only [lenE, markR_len]; done) | (simp only [lenE, markR_len]; omega)) only [runE, mapE, listE, initT_5, initT_6, initT_7, initT_8, resV, oneV, binA, unA, reduceCtorEq, Nat.reduceEqDiff, Nat.reduceAdd, Nat.reduceLT, Nat.reduceLeDiff, Nat.reduceMul, Nat.reduceSub, ↓reduceIte, decide_true, decide_false, Bool.true_eq_false, Bool.false_eq_true, Bool.not_true, Bool.not_false, if_true, if_false, and_true, true_and, memE, celE, w64, Nat.zero_add, Nat.add_zero, Nat.mul_one, putL, and_self, ldn, id_eq, ext_2_0, ext_2_1, ext_3_0, ext_3_1, ext_3_2, ext_4_0, ext_4_1, ext_4_2, ext_4_3, beq_self_eq_true, bne_self_eq_false, gt_iff_lt, X0.mk2, X1.mk3, Z0.mk2]
  try simp (config := {implicitDefEqProofs := false, maxDischargeDepth := 20}) (disch := first | omega | (simp only [lenE]; done) | (simp only [lenE]; omega) | rfl | (simp only [lenE, markR_len]; done) | (simp only [lenE, markR_len]; omega)) only [runE, mapE, listE, initT_5, initT_6, initT_7, initT_8, resV, oneV, binA, unA, reduceCtorEq, Nat.reduceEqDiff, Nat.reduceAdd, Nat.reduceLT, Nat.reduceLeDiff, Nat.reduceMul, Nat.reduceSub, ↓reduceIte, decide_true, decide_false, Bool.true_eq_false, Bool.false_eq_true, Bool.not_true, Bool.not_false, if_true, if_false, and_true, true_and, memE, celE, w64, Nat.zero_add, Nat.add_zero, Nat.mul_one, putL, and_self, ldn, id_eq, ext_2_0, ext_2_1, ext_3_0, ext_3_1, ext_3_2, ext_4_0, ext_4_1, ext_4_2, ext_4_3, beq_self_eq_true, bne_self_eq_false, gt_iff_lt, X0.mk2, X1.mk3, Z0.mk2]
  have TT := toIntsO_rc M14 _ d2 C2.now (by omega)
  first | refine callH_rc TT ?_ | refine rcallH_rc TT ?_
  clear TT
  rintro r new ⟨nrn, Tv2, Tv2e, T2⟩
  rw [id_eq] at Tv2e
  subst r
  obtain ⟨M15, hM15⟩ : ∃ M', M' = M14 ++ new := ⟨_, rfl⟩
  rw [← hM15]
  have LM15 : M15.length = M14.length + new.length := by rw [hM15, List.length_append]
  replace C0 : Lv 0 M0.length M15 fun M => FlA M (flV d0 u0) d0 := by rw [hM15]; exact C0.ext _
  replace C2 : Lv 0 M0.length M15 fun M => IntsA M v2 d2 := by rw [hM15]; exact C2.ext _
  replace X0 : BoxA M15 M0.length [.int .i64 d0.stock, u0] := by rw [hM15]; exact X0.ext _
  replace X1 : BoxA M15 (M0.length + 1) [.int .i64 d1.kind, .int .i64 d1.low, .int .i64 d1.high] := by rw [hM15]; exact X1.ext _
  replace Y0 : Lv M7.length M8.length M15 fun M => FlO d0 M7.length M8.length M (flV d0 Yu0) := by rw [hM15]; exact Y0.ext _
  replace Z0 : BoxA M15 M8.length [.int .i64 d0.stock, Yu0] := by rw [hM15]; exact Z0.ext _
  replace Y2 : Lv M9.length M10.length M15 fun M => IntsO d2 M9.length M10.length M Yv2 := by rw [hM15]; exact Y2.ext _
  clear nrn
  rw [← hM15, ← LM15] at T2
  change Lv M14.length M15.length M15 fun M => IntsO d2 M14.length M15.length M Tv2 at T2
  try simp (config := {implicitDefEqProofs := false, maxDischargeDepth := 20}) (disch := first | omega | (simp only [lenE]; done) | (simp only [lenE]; omega) | rfl | (simp only [lenE, markR_len]; done) | (simp only [lenE, markR_len]; omega)) only [runE, mapE, listE, initT_5, initT_6, initT_7, initT_8, resV, oneV, binA, unA, reduceCtorEq, Nat.reduceEqDiff, Nat.reduceAdd, Nat.reduceLT, Nat.reduceLeDiff, Nat.reduceMul, Nat.reduceSub, ↓reduceIte, decide_true, decide_false, Bool.true_eq_false, Bool.false_eq_true, Bool.not_true, Bool.not_false, if_true, if_false, and_true, true_and, memE, celE, w64, Nat.zero_add, Nat.add_zero, Nat.mul_one, putL, and_self, ldn, id_eq, ext_2_0, ext_2_1, ext_3_0, ext_3_1, ext_3_2, ext_4_0, ext_4_1, ext_4_2, ext_4_3, beq_self_eq_true, bne_self_eq_false, gt_iff_lt, X0.mk2, X1.mk3, Z0.mk2]
  have TT := eqIntsO_rc M15 _ _ d2 Y2.now.in T2.now.in
  first | refine callH_rc TT ?_ | refine rcallH_rc TT ?_
  clear TT
  rintro r new ⟨rfl, nrn⟩
  obtain ⟨M16, hM16⟩ : ∃ M', M' = M15 ++ new := ⟨_, rfl⟩
  rw [← hM16]
  have LM16 : M16.length = M15.length + new.length := by rw [hM16, List.length_append]
  replace C0 : Lv 0 M0.length M16 fun M => FlA M (flV d0 u0) d0 := by rw [hM16]; exact C0.ext _
  replace C2 : Lv 0 M0.length M16 fun M => IntsA M v2 d2 := by rw [hM16]; exact C2.ext _
  replace X0 : BoxA M16 M0.length [.int .i64 d0.stock, u0] := by rw [hM16]; exact X0.ext _
  replace X1 : BoxA M16 (M0.length + 1) [.int .i64 d1.kind, .int .i64 d1.low, .int .i64 d1.high] := by rw [hM16]; exact X1.ext _
  replace Y0 : Lv M7.length M8.length M16 fun M => FlO d0 M7.length M8.length M (flV d0 Yu0) := by rw [hM16]; exact Y0.ext _
  replace Z0 : BoxA M16 M8.length [.int .i64 d0.stock, Yu0] := by rw [hM16]; exact Z0.ext _
  replace Y2 : Lv M9.length M10.length M16 fun M => IntsO d2 M9.length M10.length M Yv2 := by rw [hM16]; exact Y2.ext _
  replace T2 : Lv M14.length M15.length M16 fun M => IntsO d2 M14.length M15.length M Tv2 := by rw [hM16]; exact T2.ext _
  clear nrn
  clear T2
  try simp (config := {implicitDefEqProofs := false, maxDischargeDepth := 20}) (disch := first | omega | (simp only [lenE]; done) | (simp only [lenE]; omega) | rfl | (simp only [lenE, markR_len]; done) | (simp only [lenE, markR_len]; omega)) only [runE, mapE, listE, initT_5, initT_6, initT_7, initT_8, resV, oneV, binA, unA, reduceCtorEq, Nat.reduceEqDiff, Nat.reduceAdd, Nat.reduceLT, Nat.reduceLeDiff, Nat.reduceMul, Nat.reduceSub, ↓reduceIte, decide_true, decide_false, Bool.true_eq_false, Bool.false_eq_true, Bool.not_true, Bool.not_false, if_true, if_false, and_true, true_and, memE, celE, w64, Nat.zero_add, Nat.add_zero, Nat.mul_one, putL, and_self, ldn, id_eq, ext_2_0, ext_2_1, ext_3_0, ext_3_1, ext_3_2, ext_4_0, ext_4_1, ext_4_2, ext_4_3, beq_self_eq_true, bne_self_eq_false, gt_iff_lt, X0.mk2, X1.mk3, Z0.mk2]
end Go.Proofs.Ytnkbjliidenldaa.Ab
