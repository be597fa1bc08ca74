/- FnExactRunRule: its running over abstract memory. -/
import Derived.Test.YtnkbjliidenldaaAbFl11
import Derived.Test.YtnkbjliidenldaaAbFl
import Derived.Test.YtnkbjliidenldaaAbMarks
import Derived.Test.YtnkbjliidenldaaAbBox
import Derived.Test.YtnkbjliidenldaaAbArg
import Derived.Test.YtnkbjliidenldaaCodLRunRule
namespace Go.Proofs.Ytnkbjliidenldaa.Ab
open Go Go.RowKit
set_option linter.unusedVariables false
set_option linter.unusedSimpArgs false
set_option maxRecDepth 100000

set_option maxHeartbeats 4000000 in
theorem law_FnExactRunRule (M0 : Mem) (d0 : Fl) (v0 : Value) (d1 : Rl) (d2 : List Int) (v2 : Value) (A0 : FlA M0 v0 d0) (A2 : IntsA M0 v2 d2) :
    AC Try.prog 9 [v0, rlV d1, v2] M0 fun r _ => r = .bool true := by
  refine ac_of_run mixed ok_laws_FnExactRunRule (by simp) (go_start _ _ _ ?_)
  have A0c := A0
  obtain ⟨u0, rfl, -⟩ := A0c
  have len2 := A2.len
  have bd2 := A2.bd
  have C0 : Lv 0 M0.length M0 fun M => FlA M (flV d0 u0) d0 := Lv.all fun new => A0.ext new
  have C2 : Lv 0 M0.length M0 fun M => IntsA M v2 d2 := Lv.all fun new => A2.ext new
  by_cases s2 : 1048576 < d2.length
  · have s2' : (1048576 : Int) < d2.length := by omega
    try simp (config := {implicitDefEqProofs := false, maxDischargeDepth := 20}) (disch := first | omega | (simp only [lenE]; done) | (simp only [lenE]; omega) | rfl | (simp only [lenE, markR_len]; done) | (simp only [lenE, markR_len]; omega)) only [runE, mapE, listE, initT_5, initT_6, initT_7, initT_8, resV, oneV, binA, unA, reduceCtorEq, Nat.reduceEqDiff, Nat.reduceAdd, Nat.reduceLT, Nat.reduceLeDiff, Nat.reduceMul, Nat.reduceSub, ↓reduceIte, decide_true, decide_false, Bool.true_eq_false, Bool.false_eq_true, Bool.not_true, Bool.not_false, if_true, if_false, and_true, true_and, memE, celE, w64, Nat.zero_add, Nat.add_zero, Nat.mul_one, putL, and_self, ldn, c_laws_FnExactRunRule, r_laws_FnExactRunRule, id_eq, ext_2_0, ext_2_1, ext_3_0, ext_3_1, ext_3_2, ext_4_0, ext_4_1, ext_4_2, ext_4_3, beq_self_eq_true, bne_self_eq_false, gt_iff_lt, rlV, s2', len2]
    done
  have s2' : ¬ ((1048576 : Int) < d2.length) := by omega
  try simp (config := {implicitDefEqProofs := false, maxDischargeDepth := 20}) (disch := first | omega | (simp only [lenE]; done) | (simp only [lenE]; omega) | rfl | (simp only [lenE, markR_len]; done) | (simp only [lenE, markR_len]; omega)) only [runE, mapE, listE, initT_5, initT_6, initT_7, initT_8, resV, oneV, binA, unA, reduceCtorEq, Nat.reduceEqDiff, Nat.reduceAdd, Nat.reduceLT, Nat.reduceLeDiff, Nat.reduceMul, Nat.reduceSub, ↓reduceIte, decide_true, decide_false, Bool.true_eq_false, Bool.false_eq_true, Bool.not_true, Bool.not_false, if_true, if_false, and_true, true_and, memE, celE, w64, Nat.zero_add, Nat.add_zero, Nat.mul_one, putL, and_self, ldn, c_laws_FnExactRunRule, r_laws_FnExactRunRule, id_eq, ext_2_0, ext_2_1, ext_3_0, ext_3_1, ext_3_2, ext_4_0, ext_4_1, ext_4_2, ext_4_3, beq_self_eq_true, bne_self_eq_false, gt_iff_lt, rlV, s2', len2]
  obtain ⟨M1, hM1⟩ : ∃ M', M' = M0 ++ [⟨.own, 24, [.int .i64 d0.stock, u0]⟩] := ⟨_, rfl⟩
  rw [← hM1]
  have LM1 : M1.length = M0.length + 1 := by rw [hM1, List.length_append]; rfl
  replace C0 : Lv 0 M0.length M1 fun M => FlA M (flV d0 u0) d0 := by rw [hM1]; exact C0.ext _
  replace C2 : Lv 0 M0.length M1 fun M => IntsA M v2 d2 := by rw [hM1]; exact C2.ext _
  have X0 : BoxA M1 M0.length [.int .i64 d0.stock, u0] := by rw [hM1]; exact BoxA.here _ _ _ (by omega)
  obtain ⟨M2, hM2⟩ : ∃ M', M' = M1 ++ [⟨.own, 38, [.int .i64 d1.kind, .int .i64 d1.low, .int .i64 d1.high]⟩] := ⟨_, rfl⟩
  rw [← hM2]
  have LM2 : M2.length = M1.length + 1 := by rw [hM2, List.length_append]; rfl
  replace C0 : Lv 0 M0.length M2 fun M => FlA M (flV d0 u0) d0 := by rw [hM2]; exact C0.ext _
  replace C2 : Lv 0 M0.length M2 fun M => IntsA M v2 d2 := by rw [hM2]; exact C2.ext _
  replace X0 : BoxA M2 M0.length [.int .i64 d0.stock, u0] := by rw [hM2]; exact X0.ext _
  have X1 : BoxA M2 (M0.length + 1) [.int .i64 d1.kind, .int .i64 d1.low, .int .i64 d1.high] := by rw [hM2]; exact BoxA.here _ _ _ (by omega)
  try simp (config := {implicitDefEqProofs := false, maxDischargeDepth := 20}) (disch := first | omega | (simp only [lenE]; done) | (simp only [lenE]; omega) | rfl | (simp only [lenE, markR_len]; done) | (simp only [lenE, markR_len]; omega)) only [runE, mapE, listE, initT_5, initT_6, initT_7, initT_8, resV, oneV, binA, unA, reduceCtorEq, Nat.reduceEqDiff, Nat.reduceAdd, Nat.reduceLT, Nat.reduceLeDiff, Nat.reduceMul, Nat.reduceSub, ↓reduceIte, decide_true, decide_false, Bool.true_eq_false, Bool.false_eq_true, Bool.not_true, Bool.not_false, if_true, if_false, and_true, true_and, memE, celE, w64, Nat.zero_add, Nat.add_zero, Nat.mul_one, putL, and_self, ldn, id_eq, ext_2_0, ext_2_1, ext_3_0, ext_3_1, ext_3_2, ext_4_0, ext_4_1, ext_4_2, ext_4_3, beq_self_eq_true, bne_self_eq_false, gt_iff_lt, X0.mk2, X1.mk3]
  refine callH_rc (szFlow_rc _ _ d0 1048576 C0.now (by omega) (by omega)) ?_
  rintro r new ⟨nrn, rfl | ⟨z1, za1, zb1, rfl, hs0⟩⟩
  · simp (config := {implicitDefEqProofs := false, maxDischargeDepth := 20}) (disch := first | omega | (simp only [lenE]; done) | (simp only [lenE]; omega) | rfl | (simp only [lenE, markR_len]; done) | (simp only [lenE, markR_len]; omega)) only [runE, mapE, listE, initT_5, initT_6, initT_7, initT_8, resV, oneV, binA, unA, reduceCtorEq, Nat.reduceEqDiff, Nat.reduceAdd, Nat.reduceLT, Nat.reduceLeDiff, Nat.reduceMul, Nat.reduceSub, ↓reduceIte, decide_true, decide_false, Bool.true_eq_false, Bool.false_eq_true, Bool.not_true, Bool.not_false, if_true, if_false, and_true, true_and, memE, celE, w64, Nat.zero_add, Nat.add_zero, Nat.mul_one, putL, and_self, ldn, show ((-1 : Int) < 0) = True by simp]
  have zc1 : ¬ (z1 < 0) := by omega
  obtain ⟨M3, hM3⟩ : ∃ M', M' = M2 ++ new := ⟨_, rfl⟩
  rw [← hM3]
  have LM3 : M3.length = M2.length + new.length := by rw [hM3, List.length_append]
  replace C0 : Lv 0 M0.length M3 fun M => FlA M (flV d0 u0) d0 := by rw [hM3]; exact C0.ext _
  replace C2 : Lv 0 M0.length M3 fun M => IntsA M v2 d2 := by rw [hM3]; exact C2.ext _
  replace X0 : BoxA M3 M0.length [.int .i64 d0.stock, u0] := by rw [hM3]; exact X0.ext _
  replace X1 : BoxA M3 (M0.length + 1) [.int .i64 d1.kind, .int .i64 d1.low, .int .i64 d1.high] := by rw [hM3]; exact X1.ext _
  clear nrn
  try simp (config := {implicitDefEqProofs := false, maxDischargeDepth := 20}) (disch := first | omega | (simp only [lenE]; done) | (simp only [lenE]; omega) | rfl | (simp only [lenE, markR_len]; done) | (simp only [lenE, markR_len]; omega)) only [runE, mapE, listE, initT_5, initT_6, initT_7, initT_8, resV, oneV, binA, unA, reduceCtorEq, Nat.reduceEqDiff, Nat.reduceAdd, Nat.reduceLT, Nat.reduceLeDiff, Nat.reduceMul, Nat.reduceSub, ↓reduceIte, decide_true, decide_false, Bool.true_eq_false, Bool.false_eq_true, Bool.not_true, Bool.not_false, if_true, if_false, and_true, true_and, memE, celE, w64, Nat.zero_add, Nat.add_zero, Nat.mul_one, putL, and_self, ldn, id_eq, ext_2_0, ext_2_1, ext_3_0, ext_3_1, ext_3_2, ext_4_0, ext_4_1, ext_4_2, ext_4_3, beq_self_eq_true, bne_self_eq_false, gt_iff_lt, zc1, X0.mk2, X1.mk3]
  obtain ⟨W0, hW0⟩ : ∃ W : List Int, W = (trOrders d0 d1 d2) := ⟨_, rfl⟩
  obtain ⟨W1, hW1⟩ : ∃ W : List Int, W = (trStocks d0 d1 d2) := ⟨_, rfl⟩
  obtain ⟨q0, hq0⟩ : ∃ q : Bool, q = (trOk d0 d1 d2) := ⟨_, rfl⟩
  have SPC := fun m u0 u2 => specRunRule_rc m u0 u2 d0 d1 d2
  have IMP := fun m u0 u2 => implRunRule_rc m u0 u2 d0 d1 d2
  try rw [← hW0] at SPC
  try rw [← hW0] at IMP
  try rw [← hW1] at SPC
  try rw [← hW1] at IMP
  try rw [← hq0] at SPC
  try rw [← hq0] at IMP
  try simp (config := {implicitDefEqProofs := false, maxDischargeDepth := 20}) (disch := first | omega | (simp only [lenE]; done) | (simp only [lenE]; omega) | rfl | (simp only [lenE, markR_len]; done) | (simp only [lenE, markR_len]; omega)) only [runE, mapE, listE, initT_5, initT_6, initT_7, initT_8, resV, oneV, binA, unA, reduceCtorEq, Nat.reduceEqDiff, Nat.reduceAdd, Nat.reduceLT, Nat.reduceLeDiff, Nat.reduceMul, Nat.reduceSub, ↓reduceIte, decide_true, decide_false, Bool.true_eq_false, Bool.false_eq_true, Bool.not_true, Bool.not_false, if_true, if_false, and_true, true_and, memE, celE, w64, Nat.zero_add, Nat.add_zero, Nat.mul_one, putL, and_self, ldn, id_eq, ext_2_0, ext_2_1, ext_3_0, ext_3_1, ext_3_2, ext_4_0, ext_4_1, ext_4_2, ext_4_3, beq_self_eq_true, bne_self_eq_false, gt_iff_lt, X0.mk2, X1.mk3]
  have TT := toFlow_rc M3 _ d0 C0.now hs0
  first | refine callH_rc TT ?_ | refine rcallH_rc TT ?_
  clear TT
  rintro r new ⟨nrn, Sv0, Sv0e, S0⟩
  rw [id_eq] at Sv0e
  subst r
  obtain ⟨M4, hM4⟩ : ∃ M', M' = M3 ++ new := ⟨_, rfl⟩
  rw [← hM4]
  have LM4 : M4.length = M3.length + new.length := by rw [hM4, List.length_append]
  replace C0 : Lv 0 M0.length M4 fun M => FlA M (flV d0 u0) d0 := by rw [hM4]; exact C0.ext _
  replace C2 : Lv 0 M0.length M4 fun M => IntsA M v2 d2 := by rw [hM4]; exact C2.ext _
  replace X0 : BoxA M4 M0.length [.int .i64 d0.stock, u0] := by rw [hM4]; exact X0.ext _
  replace X1 : BoxA M4 (M0.length + 1) [.int .i64 d1.kind, .int .i64 d1.low, .int .i64 d1.high] := by rw [hM4]; exact X1.ext _
  clear nrn
  rw [← hM4, ← LM4] at S0
  obtain ⟨Su0, rfl, -⟩ := S0.now.in
  change Lv M3.length M4.length M4 fun M => FlO d0 M3.length M4.length M (flV d0 Su0) at S0
  try simp (config := {implicitDefEqProofs := false, maxDischargeDepth := 20}) (disch := first | omega | (simp only [lenE]; done) | (simp only [lenE]; omega) | rfl | (simp only [lenE, markR_len]; done) | (simp only [lenE, markR_len]; omega)) only [runE, mapE, listE, initT_5, initT_6, initT_7, initT_8, resV, oneV, binA, unA, reduceCtorEq, Nat.reduceEqDiff, Nat.reduceAdd, Nat.reduceLT, Nat.reduceLeDiff, Nat.reduceMul, Nat.reduceSub, ↓reduceIte, decide_true, decide_false, Bool.true_eq_false, Bool.false_eq_true, Bool.not_true, Bool.not_false, if_true, if_false, and_true, true_and, memE, celE, w64, Nat.zero_add, Nat.add_zero, Nat.mul_one, putL, and_self, ldn, id_eq, ext_2_0, ext_2_1, ext_3_0, ext_3_1, ext_3_2, ext_4_0, ext_4_1, ext_4_2, ext_4_3, beq_self_eq_true, bne_self_eq_false, gt_iff_lt, rlV, X0.mk2, X1.mk3]
  first | refine callH_rc (toRule_rc _ d1) ?_ | refine rcallH_rc (toRule_rc _ d1) ?_
  rintro r new ⟨rfl, nrn⟩
  obtain ⟨M5, hM5⟩ : ∃ M', M' = M4 ++ new := ⟨_, rfl⟩
  rw [← hM5]
  have LM5 : M5.length = M4.length + new.length := by rw [hM5, List.length_append]
  replace C0 : Lv 0 M0.length M5 fun M => FlA M (flV d0 u0) d0 := by rw [hM5]; exact C0.ext _
  replace C2 : Lv 0 M0.length M5 fun M => IntsA M v2 d2 := by rw [hM5]; exact C2.ext _
  replace X0 : BoxA M5 M0.length [.int .i64 d0.stock, u0] := by rw [hM5]; exact X0.ext _
  replace X1 : BoxA M5 (M0.length + 1) [.int .i64 d1.kind, .int .i64 d1.low, .int .i64 d1.high] := by rw [hM5]; exact X1.ext _
  replace S0 : Lv M3.length M4.length M5 fun M => FlO d0 M3.length M4.length M (flV d0 Su0) := by rw [hM5]; exact S0.ext _
  clear nrn
  try simp (config := {implicitDefEqProofs := false, maxDischargeDepth := 20}) (disch := first | omega | (simp only [lenE]; done) | (simp only [lenE]; omega) | rfl | (simp only [lenE, markR_len]; done) | (simp only [lenE, markR_len]; omega)) only [runE, mapE, listE, initT_5, initT_6, initT_7, initT_8, resV, oneV, binA, unA, reduceCtorEq, Nat.reduceEqDiff, Nat.reduceAdd, Nat.reduceLT, Nat.reduceLeDiff, Nat.reduceMul, Nat.reduceSub, ↓reduceIte, decide_true, decide_false, Bool.true_eq_false, Bool.false_eq_true, Bool.not_true, Bool.not_false, if_true, if_false, and_true, true_and, memE, celE, w64, Nat.zero_add, Nat.add_zero, Nat.mul_one, putL, and_self, ldn, id_eq, ext_2_0, ext_2_1, ext_3_0, ext_3_1, ext_3_2, ext_4_0, ext_4_1, ext_4_2, ext_4_3, beq_self_eq_true, bne_self_eq_false, gt_iff_lt, X0.mk2, X1.mk3]
  have TT := toIntsO_rc M5 _ d2 C2.now (by omega)
  first | refine callH_rc TT ?_ | refine rcallH_rc TT ?_
  clear TT
  rintro r new ⟨nrn, Sv2, Sv2e, S2⟩
  rw [id_eq] at Sv2e
  subst r
  obtain ⟨M6, hM6⟩ : ∃ M', M' = M5 ++ new := ⟨_, rfl⟩
  rw [← hM6]
  have LM6 : M6.length = M5.length + new.length := by rw [hM6, List.length_append]
  replace C0 : Lv 0 M0.length M6 fun M => FlA M (flV d0 u0) d0 := by rw [hM6]; exact C0.ext _
  replace C2 : Lv 0 M0.length M6 fun M => IntsA M v2 d2 := by rw [hM6]; exact C2.ext _
  replace X0 : BoxA M6 M0.length [.int .i64 d0.stock, u0] := by rw [hM6]; exact X0.ext _
  replace X1 : BoxA M6 (M0.length + 1) [.int .i64 d1.kind, .int .i64 d1.low, .int .i64 d1.high] := by rw [hM6]; exact X1.ext _
  replace S0 : Lv M3.length M4.length M6 fun M => FlO d0 M3.length M4.length M (flV d0 Su0) := by rw [hM6]; exact S0.ext _
  clear nrn
  rw [← hM6, ← LM6] at S2
  change Lv M5.length M6.length M6 fun M => IntsO d2 M5.length M6.length M Sv2 at S2
  try simp (config := {implicitDefEqProofs := false, maxDischargeDepth := 20}) (disch := first | omega | (simp only [lenE]; done) | (simp only [lenE]; omega) | rfl | (simp only [lenE, markR_len]; done) | (simp only [lenE, markR_len]; omega)) only [runE, mapE, listE, initT_5, initT_6, initT_7, initT_8, resV, oneV, binA, unA, reduceCtorEq, Nat.reduceEqDiff, Nat.reduceAdd, Nat.reduceLT, Nat.reduceLeDiff, Nat.reduceMul, Nat.reduceSub, ↓reduceIte, decide_true, decide_false, Bool.true_eq_false, Bool.false_eq_true, Bool.not_true, Bool.not_false, if_true, if_false, and_true, true_and, memE, celE, w64, Nat.zero_add, Nat.add_zero, Nat.mul_one, putL, and_self, ldn, id_eq, ext_2_0, ext_2_1, ext_3_0, ext_3_1, ext_3_2, ext_4_0, ext_4_1, ext_4_2, ext_4_3, beq_self_eq_true, bne_self_eq_false, gt_iff_lt, X0.mk2, X1.mk3]
  first | refine callH_rc (SPC _ _ _ S0.now.in S2.now.in) ?_ | refine rcallH_rc (SPC _ _ _ S0.now.in S2.now.in) ?_
  rintro r new ⟨nrn, vw0, vw1, aw, bw, cw, dw, rfl, raw, rbw, rcw, rdw, rxw, w0, w1⟩
  obtain ⟨M7, hM7⟩ : ∃ M', M' = M6 ++ new := ⟨_, rfl⟩
  rw [← hM7]
  have LM7 : M7.length = M6.length + new.length := by rw [hM7, List.length_append]
  replace C0 : Lv 0 M0.length M7 fun M => FlA M (flV d0 u0) d0 := by rw [hM7]; exact C0.ext _
  replace C2 : Lv 0 M0.length M7 fun M => IntsA M v2 d2 := by rw [hM7]; exact C2.ext _
  replace X0 : BoxA M7 M0.length [.int .i64 d0.stock, u0] := by rw [hM7]; exact X0.ext _
  replace X1 : BoxA M7 (M0.length + 1) [.int .i64 d1.kind, .int .i64 d1.low, .int .i64 d1.high] := by rw [hM7]; exact X1.ext _
  replace S0 : Lv M3.length M4.length M7 fun M => FlO d0 M3.length M4.length M (flV d0 Su0) := by rw [hM7]; exact S0.ext _
  replace S2 : Lv M5.length M6.length M7 fun M => IntsO d2 M5.length M6.length M Sv2 := by rw [hM7]; exact S2.ext _
  clear nrn
  rw [← hM7] at w0 w1 rbw rdw
  have rpw := w0.1
  have rqw := w1.1
  clear rxw
  clear S0
  clear S2
  try simp (config := {implicitDefEqProofs := false, maxDischargeDepth := 20}) (disch := first | omega | (simp only [lenE]; done) | (simp only [lenE]; omega) | rfl | (simp only [lenE, markR_len]; done) | (simp only [lenE, markR_len]; omega)) only [runE, mapE, listE, initT_5, initT_6, initT_7, initT_8, resV, oneV, binA, unA, reduceCtorEq, Nat.reduceEqDiff, Nat.reduceAdd, Nat.reduceLT, Nat.reduceLeDiff, Nat.reduceMul, Nat.reduceSub, ↓reduceIte, decide_true, decide_false, Bool.true_eq_false, Bool.false_eq_true, Bool.not_true, Bool.not_false, if_true, if_false, and_true, true_and, memE, celE, w64, Nat.zero_add, Nat.add_zero, Nat.mul_one, putL, and_self, ldn, id_eq, ext_2_0, ext_2_1, ext_3_0, ext_3_1, ext_3_2, ext_4_0, ext_4_1, ext_4_2, ext_4_3, beq_self_eq_true, bne_self_eq_false, gt_iff_lt, X0.mk2, X1.mk3]
  have TT := toFlow_rc M7 _ d0 C0.now hs0
  first | refine callH_rc TT ?_ | refine rcallH_rc TT ?_
  clear TT
  rintro r new ⟨nrn, Yv0, Yv0e, Y0⟩
  rw [id_eq] at Yv0e
  subst r
  obtain ⟨M8, hM8⟩ : ∃ M', M' = M7 ++ new := ⟨_, rfl⟩
  rw [← hM8]
  have LM8 : M8.length = M7.length + new.length := by rw [hM8, List.length_append]
  replace C0 : Lv 0 M0.length M8 fun M => FlA M (flV d0 u0) d0 := by rw [hM8]; exact C0.ext _
  replace C2 : Lv 0 M0.length M8 fun M => IntsA M v2 d2 := by rw [hM8]; exact C2.ext _
  replace X0 : BoxA M8 M0.length [.int .i64 d0.stock, u0] := by rw [hM8]; exact X0.ext _
  replace X1 : BoxA M8 (M0.length + 1) [.int .i64 d1.kind, .int .i64 d1.low, .int .i64 d1.high] := by rw [hM8]; exact X1.ext _
  replace w0 : Lv aw bw M8 fun M => IntsO W0 aw bw M vw0 := by rw [hM8]; exact w0.ext _
  replace w1 : Lv cw dw M8 fun M => IntsO W1 cw dw M vw1 := by rw [hM8]; exact w1.ext _
  clear nrn
  rw [← hM8, ← LM8] at Y0
  obtain ⟨Yu0, rfl, -⟩ := Y0.now.in
  change Lv M7.length M8.length M8 fun M => FlO d0 M7.length M8.length M (flV d0 Yu0) at Y0
  have on00 := fun xs => FlA.one Y0.now.in xs
  try simp (config := {implicitDefEqProofs := false, maxDischargeDepth := 20}) (disch := first | omega | (simp only [lenE]; done) | (simp only [lenE]; omega) | rfl | (simp only [lenE, markR_len]; done) | (simp only [lenE, markR_len]; omega)) only [runE, mapE, listE, initT_5, initT_6, initT_7, initT_8, resV, oneV, binA, unA, reduceCtorEq, Nat.reduceEqDiff, Nat.reduceAdd, Nat.reduceLT, Nat.reduceLeDiff, Nat.reduceMul, Nat.reduceSub, ↓reduceIte, decide_true, decide_false, Bool.true_eq_false, Bool.false_eq_true, Bool.not_true, Bool.not_false, if_true, if_false, and_true, true_and, memE, celE, w64, Nat.zero_add, Nat.add_zero, Nat.mul_one, putL, and_self, ldn, id_eq, ext_2_0, ext_2_1, ext_3_0, ext_3_1, ext_3_2, ext_4_0, ext_4_1, ext_4_2, ext_4_3, beq_self_eq_true, bne_self_eq_false, gt_iff_lt, on00, X0.mk2, X1.mk3]
  obtain ⟨M9, hM9⟩ : ∃ M', M' = M8 ++ [⟨.own, 27, [.int .i64 d0.stock, Yu0]⟩] := ⟨_, rfl⟩
  rw [← hM9]
  have LM9 : M9.length = M8.length + 1 := by rw [hM9, List.length_append]; rfl
  replace C0 : Lv 0 M0.length M9 fun M => FlA M (flV d0 u0) d0 := by rw [hM9]; exact C0.ext _
  replace C2 : Lv 0 M0.length M9 fun M => IntsA M v2 d2 := by rw [hM9]; exact C2.ext _
  replace X0 : BoxA M9 M0.length [.int .i64 d0.stock, u0] := by rw [hM9]; exact X0.ext _
  replace X1 : BoxA M9 (M0.length + 1) [.int .i64 d1.kind, .int .i64 d1.low, .int .i64 d1.high] := by rw [hM9]; exact X1.ext _
  replace w0 : Lv aw bw M9 fun M => IntsO W0 aw bw M vw0 := by rw [hM9]; exact w0.ext _
  replace w1 : Lv cw dw M9 fun M => IntsO W1 cw dw M vw1 := by rw [hM9]; exact w1.ext _
  replace Y0 : Lv M7.length M8.length M9 fun M => FlO d0 M7.length M8.length M (flV d0 Yu0) := by rw [hM9]; exact Y0.ext _
  have Z0 : BoxA M9 M8.length [.int .i64 d0.stock, Yu0] := by rw [hM9]; exact BoxA.here _ _ _ rfl
  try simp (config := {implicitDefEqProofs := false, maxDischargeDepth := 20}) (disch := first | omega | (simp only [lenE]; done) | (simp only [lenE]; omega) | rfl | (simp only [lenE, markR_len]; done) | (simp only [lenE, markR_len]; omega)) only [runE, mapE, listE, initT_5, initT_6, initT_7, initT_8, resV, oneV, binA, unA, reduceCtorEq, Nat.reduceEqDiff, Nat.reduceAdd, Nat.reduceLT, Nat.reduceLeDiff, Nat.reduceMul, Nat.reduceSub, ↓reduceIte, decide_true, decide_false, Bool.true_eq_false, Bool.false_eq_true, Bool.not_true, Bool.not_false, if_true, if_false, and_true, true_and, memE, celE, w64, Nat.zero_add, Nat.add_zero, Nat.mul_one, putL, and_self, ldn, id_eq, ext_2_0, ext_2_1, ext_3_0, ext_3_1, ext_3_2, ext_4_0, ext_4_1, ext_4_2, ext_4_3, beq_self_eq_true, bne_self_eq_false, gt_iff_lt, X0.mk2, X1.mk3, Z0.mk2]
  have TT := toIntsO_rc M9 _ d2 C2.now (by omega)
  first | refine callH_rc TT ?_ | refine rcallH_rc TT ?_
  clear TT
  rintro r new ⟨nrn, Yv2, Yv2e, Y2⟩
  rw [id_eq] at Yv2e
  subst r
  obtain ⟨M10, hM10⟩ : ∃ M', M' = M9 ++ new := ⟨_, rfl⟩
  rw [← hM10]
  have LM10 : M10.length = M9.length + new.length := by rw [hM10, List.length_append]
  replace C0 : Lv 0 M0.length M10 fun M => FlA M (flV d0 u0) d0 := by rw [hM10]; exact C0.ext _
  replace C2 : Lv 0 M0.length M10 fun M => IntsA M v2 d2 := by rw [hM10]; exact C2.ext _
  replace X0 : BoxA M10 M0.length [.int .i64 d0.stock, u0] := by rw [hM10]; exact X0.ext _
  replace X1 : BoxA M10 (M0.length + 1) [.int .i64 d1.kind, .int .i64 d1.low, .int .i64 d1.high] := by rw [hM10]; exact X1.ext _
  replace w0 : Lv aw bw M10 fun M => IntsO W0 aw bw M vw0 := by rw [hM10]; exact w0.ext _
  replace w1 : Lv cw dw M10 fun M => IntsO W1 cw dw M vw1 := by rw [hM10]; exact w1.ext _
  replace Y0 : Lv M7.length M8.length M10 fun M => FlO d0 M7.length M8.length M (flV d0 Yu0) := by rw [hM10]; exact Y0.ext _
  replace Z0 : BoxA M10 M8.length [.int .i64 d0.stock, Yu0] := by rw [hM10]; exact Z0.ext _
  clear nrn
  rw [← hM10, ← LM10] at Y2
  change Lv M9.length M10.length M10 fun M => IntsO d2 M9.length M10.length M Yv2 at Y2
  try simp (config := {implicitDefEqProofs := false, maxDischargeDepth := 20}) (disch := first | omega | (simp only [lenE]; done) | (simp only [lenE]; omega) | rfl | (simp only [lenE, markR_len]; done) | (simp only [lenE, markR_len]; omega)) only [runE, mapE, listE, initT_5, initT_6, initT_7, initT_8, resV, oneV, binA, unA, reduceCtorEq, Nat.reduceEqDiff, Nat.reduceAdd, Nat.reduceLT, Nat.reduceLeDiff, Nat.reduceMul, Nat.reduceSub, ↓reduceIte, decide_true, decide_false, Bool.true_eq_false, Bool.false_eq_true, Bool.not_true, Bool.not_false, if_true, if_false, and_true, true_and, memE, celE, w64, Nat.zero_add, Nat.add_zero, Nat.mul_one, putL, and_self, ldn, id_eq, ext_2_0, ext_2_1, ext_3_0, ext_3_1, ext_3_2, ext_4_0, ext_4_1, ext_4_2, ext_4_3, beq_self_eq_true, bne_self_eq_false, gt_iff_lt, rlV, X0.mk2, X1.mk3, Z0.mk2]
  first | refine callH_rc (toRule_rc _ d1) ?_ | refine rcallH_rc (toRule_rc _ d1) ?_
  rintro r new ⟨rfl, nrn⟩
  obtain ⟨M11, hM11⟩ : ∃ M', M' = M10 ++ new := ⟨_, rfl⟩
  rw [← hM11]
  have LM11 : M11.length = M10.length + new.length := by rw [hM11, List.length_append]
  replace C0 : Lv 0 M0.length M11 fun M => FlA M (flV d0 u0) d0 := by rw [hM11]; exact C0.ext _
  replace C2 : Lv 0 M0.length M11 fun M => IntsA M v2 d2 := by rw [hM11]; exact C2.ext _
  replace X0 : BoxA M11 M0.length [.int .i64 d0.stock, u0] := by rw [hM11]; exact X0.ext _
  replace X1 : BoxA M11 (M0.length + 1) [.int .i64 d1.kind, .int .i64 d1.low, .int .i64 d1.high] := by rw [hM11]; exact X1.ext _
  replace w0 : Lv aw bw M11 fun M => IntsO W0 aw bw M vw0 := by rw [hM11]; exact w0.ext _
  replace w1 : Lv cw dw M11 fun M => IntsO W1 cw dw M vw1 := by rw [hM11]; exact w1.ext _
  replace Y0 : Lv M7.length M8.length M11 fun M => FlO d0 M7.length M8.length M (flV d0 Yu0) := by rw [hM11]; exact Y0.ext _
  replace Z0 : BoxA M11 M8.length [.int .i64 d0.stock, Yu0] := by rw [hM11]; exact Z0.ext _
  replace Y2 : Lv M9.length M10.length M11 fun M => IntsO d2 M9.length M10.length M Yv2 := by rw [hM11]; exact Y2.ext _
  clear nrn
  try simp (config := {implicitDefEqProofs := false, maxDischargeDepth := 20}) (disch := first | omega | (simp only [lenE]; done) | (simp only [lenE]; omega) | rfl | (simp only [lenE, markR_len]; done) | (simp only [lenE, markR_len]; omega)) only [runE, mapE, listE, initT_5, initT_6, initT_7, initT_8, resV, oneV, binA, unA, reduceCtorEq, Nat.reduceEqDiff, Nat.reduceAdd, Nat.reduceLT, Nat.reduceLeDiff, Nat.reduceMul, Nat.reduceSub, ↓reduceIte, decide_true, decide_false, Bool.true_eq_false, Bool.false_eq_true, Bool.not_true, Bool.not_false, if_true, if_false, and_true, true_and, memE, celE, w64, Nat.zero_add, Nat.add_zero, Nat.mul_one, putL, and_self, ldn, id_eq, ext_2_0, ext_2_1, ext_3_0, ext_3_1, ext_3_2, ext_4_0, ext_4_1, ext_4_2, ext_4_3, beq_self_eq_true, bne_self_eq_false, gt_iff_lt, X0.mk2, X1.mk3, Z0.mk2]
  first | refine callH_rc (IMP _ _ _ Y0.now.in Y2.now.in) ?_ | refine rcallH_rc (IMP _ _ _ Y0.now.in Y2.now.in) ?_
  rintro r new ⟨nrn, vg0, vg1, ag, bg, cg, dg, rfl, rag, rbg, rcg, rdg, rxg, g0, g1⟩
  obtain ⟨M12, hM12⟩ : ∃ M', M' = M11 ++ new := ⟨_, rfl⟩
  rw [← hM12]
  have LM12 : M12.length = M11.length + new.length := by rw [hM12, List.length_append]
  replace C0 : Lv 0 M0.length M12 fun M => FlA M (flV d0 u0) d0 := by rw [hM12]; exact C0.ext _
  replace C2 : Lv 0 M0.length M12 fun M => IntsA M v2 d2 := by rw [hM12]; exact C2.ext _
  replace X0 : BoxA M12 M0.length [.int .i64 d0.stock, u0] := by rw [hM12]; exact X0.ext _
  replace X1 : BoxA M12 (M0.length + 1) [.int .i64 d1.kind, .int .i64 d1.low, .int .i64 d1.high] := by rw [hM12]; exact X1.ext _
  replace w0 : Lv aw bw M12 fun M => IntsO W0 aw bw M vw0 := by rw [hM12]; exact w0.ext _
  replace w1 : Lv cw dw M12 fun M => IntsO W1 cw dw M vw1 := by rw [hM12]; exact w1.ext _
  replace Y0 : Lv M7.length M8.length M12 fun M => FlO d0 M7.length M8.length M (flV d0 Yu0) := by rw [hM12]; exact Y0.ext _
  replace Z0 : BoxA M12 M8.length [.int .i64 d0.stock, Yu0] := by rw [hM12]; exact Z0.ext _
  replace Y2 : Lv M9.length M10.length M12 fun M => IntsO d2 M9.length M10.length M Yv2 := by rw [hM12]; exact Y2.ext _
  clear nrn
  rw [← hM12] at g0 g1 rbg rdg
  have rpg := g0.1
  have rqg := g1.1
  have rzg := rxg trivial
  clear rxg
  try simp (config := {implicitDefEqProofs := false, maxDischargeDepth := 20}) (disch := first | omega | (simp only [lenE]; done) | (simp only [lenE]; omega) | rfl | (simp only [lenE, markR_len]; done) | (simp only [lenE, markR_len]; omega)) only [runE, mapE, listE, initT_5, initT_6, initT_7, initT_8, resV, oneV, binA, unA, reduceCtorEq, Nat.reduceEqDiff, Nat.reduceAdd, Nat.reduceLT, Nat.reduceLeDiff, Nat.reduceMul, Nat.reduceSub, ↓reduceIte, decide_true, decide_false, Bool.true_eq_false, Bool.false_eq_true, Bool.not_true, Bool.not_false, if_true, if_false, and_true, true_and, memE, celE, w64, Nat.zero_add, Nat.add_zero, Nat.mul_one, putL, and_self, ldn, id_eq, ext_2_0, ext_2_1, ext_3_0, ext_3_1, ext_3_2, ext_4_0, ext_4_1, ext_4_2, ext_4_3, beq_self_eq_true, bne_self_eq_false, gt_iff_lt, X0.mk2, X1.mk3, Z0.mk2]
  try simp (config := {implicitDefEqProofs := false, maxDischargeDepth := 20}) (disch := first | omega | (simp only [lenE]; done) | (simp only [lenE]; omega) | rfl | (simp only [lenE, markR_len]; done) | (simp only [lenE, markR_len]; omega)) only [runE, mapE, listE, initT_5, initT_6, initT_7, initT_8, resV, oneV, binA, unA, reduceCtorEq, Nat.reduceEqDiff, Nat.reduceAdd, Nat.reduceLT, Nat.reduceLeDiff, Nat.reduceMul, Nat.reduceSub, ↓reduceIte, decide_true, decide_false, Bool.true_eq_false, Bool.false_eq_true, Bool.not_true, Bool.not_false, if_true, if_false, and_true, true_and, memE, celE, w64, Nat.zero_add, Nat.add_zero, Nat.mul_one, putL, and_self, ldn, id_eq, ext_2_0, ext_2_1, ext_3_0, ext_3_1, ext_3_2, ext_4_0, ext_4_1, ext_4_2, ext_4_3, beq_self_eq_true, bne_self_eq_false, gt_iff_lt, X0.mk2, X1.mk3, Z0.mk2]
  have TT := eqIntsO_rc M12 _ _ W0 g0.now.in w0.now.in
  first | refine callH_rc TT ?_ | refine rcallH_rc TT ?_
  clear TT
  rintro r new ⟨rfl, nrn⟩
  obtain ⟨M13, hM13⟩ : ∃ M', M' = M12 ++ new := ⟨_, rfl⟩
  rw [← hM13]
  have LM13 : M13.length = M12.length + new.length := by rw [hM13, List.length_append]
  replace C0 : Lv 0 M0.length M13 fun M => FlA M (flV d0 u0) d0 := by rw [hM13]; exact C0.ext _
  replace C2 : Lv 0 M0.length M13 fun M => IntsA M v2 d2 := by rw [hM13]; exact C2.ext _
  replace X0 : BoxA M13 M0.length [.int .i64 d0.stock, u0] := by rw [hM13]; exact X0.ext _
  replace X1 : BoxA M13 (M0.length + 1) [.int .i64 d1.kind, .int .i64 d1.low, .int .i64 d1.high] := by rw [hM13]; exact X1.ext _
  replace w0 : Lv aw bw M13 fun M => IntsO W0 aw bw M vw0 := by rw [hM13]; exact w0.ext _
  replace w1 : Lv cw dw M13 fun M => IntsO W1 cw dw M vw1 := by rw [hM13]; exact w1.ext _
  replace Y0 : Lv M7.length M8.length M13 fun M => FlO d0 M7.length M8.length M (flV d0 Yu0) := by rw [hM13]; exact Y0.ext _
  replace Z0 : BoxA M13 M8.length [.int .i64 d0.stock, Yu0] := by rw [hM13]; exact Z0.ext _
  replace Y2 : Lv M9.length M10.length M13 fun M => IntsO d2 M9.length M10.length M Yv2 := by rw [hM13]; exact Y2.ext _
  replace g0 : Lv ag bg M13 fun M => IntsO W0 ag bg M vg0 := by rw [hM13]; exact g0.ext _
  replace g1 : Lv cg dg M13 fun M => IntsO W1 cg dg M vg1 := by rw [hM13]; exact g1.ext _
  clear nrn
  try simp (config := {implicitDefEqProofs := false, maxDischargeDepth := 20}) (disch := first | omega | (simp only [lenE]; done) | (simp only [lenE]; omega) | rfl | (simp only [lenE, markR_len]; done) | (simp only [lenE, markR_len]; omega)) only [runE, mapE, listE, initT_5, initT_6, initT_7, initT_8, resV, oneV, binA, unA, reduceCtorEq, Nat.reduceEqDiff, Nat.reduceAdd, Nat.reduceLT, Nat.reduceLeDiff, Nat.reduceMul, Nat.reduceSub, ↓reduceIte, decide_true, decide_false, Bool.true_eq_false, Bool.false_eq_true, Bool.not_true, Bool.not_false, if_true, if_false, and_true, true_and, memE, celE, w64, Nat.zero_add, Nat.add_zero, Nat.mul_one, putL, and_self, ldn, id_eq, ext_2_0, ext_2_1, ext_3_0, ext_3_1, ext_3_2, ext_4_0, ext_4_1, ext_4_2, ext_4_3, beq_self_eq_true, bne_self_eq_false, gt_iff_lt, X0.mk2, X1.mk3, Z0.mk2]
  try simp (config := {implicitDefEqProofs := false, maxDischargeDepth := 20}) (disch := first | omega | (simp only [lenE]; done) | (simp only [lenE]; omega) | rfl | (simp only [lenE, markR_len]; done) | (simp only [lenE, markR_len]; omega)) only [runE, mapE, listE, initT_5, initT_6, initT_7, initT_8, resV, oneV, binA, unA, reduceCtorEq, Nat.reduceEqDiff, Nat.reduceAdd, Nat.reduceLT, Nat.reduceLeDiff, Nat.reduceMul, Nat.reduceSub, ↓reduceIte, decide_true, decide_false, Bool.true_eq_false, Bool.false_eq_true, Bool.not_true, Bool.not_false, if_true, if_false, and_true, true_and, memE, celE, w64, Nat.zero_add, Nat.add_zero, Nat.mul_one, putL, and_self, ldn, id_eq, ext_2_0, ext_2_1, ext_3_0, ext_3_1, ext_3_2, ext_4_0, ext_4_1, ext_4_2, ext_4_3, beq_self_eq_true, bne_self_eq_false, gt_iff_lt, X0.mk2, X1.mk3, Z0.mk2]
  have TT := eqIntsO_rc M13 _ _ W1 g1.now.in w1.now.in
  first | refine callH_rc TT ?_ | refine rcallH_rc TT ?_
  clear TT
  rintro r new ⟨rfl, nrn⟩
  obtain ⟨M14, hM14⟩ : ∃ M', M' = M13 ++ new := ⟨_, rfl⟩
  rw [← hM14]
  have LM14 : M14.length = M13.length + new.length := by rw [hM14, List.length_append]
  replace C0 : Lv 0 M0.length M14 fun M => FlA M (flV d0 u0) d0 := by rw [hM14]; exact C0.ext _
  replace C2 : Lv 0 M0.length M14 fun M => IntsA M v2 d2 := by rw [hM14]; exact C2.ext _
  replace X0 : BoxA M14 M0.length [.int .i64 d0.stock, u0] := by rw [hM14]; exact X0.ext _
  replace X1 : BoxA M14 (M0.length + 1) [.int .i64 d1.kind, .int .i64 d1.low, .int .i64 d1.high] := by rw [hM14]; exact X1.ext _
  replace w0 : Lv aw bw M14 fun M => IntsO W0 aw bw M vw0 := by rw [hM14]; exact w0.ext _
  replace w1 : Lv cw dw M14 fun M => IntsO W1 cw dw M vw1 := by rw [hM14]; exact w1.ext _
  replace Y0 : Lv M7.length M8.length M14 fun M => FlO d0 M7.length M8.length M (flV d0 Yu0) := by rw [hM14]; exact Y0.ext _
  replace Z0 : BoxA M14 M8.length [.int .i64 d0.stock, Yu0] := by rw [hM14]; exact Z0.ext _
  replace Y2 : Lv M9.length M10.length M14 fun M => IntsO d2 M9.length M10.length M Yv2 := by rw [hM14]; exact Y2.ext _
  replace g0 : Lv ag bg M14 fun M => IntsO W0 ag bg M vg0 := by rw [hM14]; exact g0.ext _
  replace g1 : Lv cg dg M14 fun M => IntsO W1 cg dg M vg1 := by rw [hM14]; exact g1.ext _
  clear nrn
  try simp (config := {implicitDefEqProofs := false, maxDischargeDepth := 20}) (disch := first | omega | (simp only [lenE]; done) | (simp only [lenE]; omega) | rfl | (simp only [lenE, markR_len]; done) | (simp only [lenE, markR_len]; omega)) only [runE, mapE, listE, initT_5, initT_6, initT_7, initT_8, resV, oneV, binA, unA, reduceCtorEq, Nat.reduceEqDiff, Nat.reduceAdd, Nat.reduceLT, Nat.reduceLeDiff, Nat.reduceMul, Nat.reduceSub, ↓reduceIte, decide_true, decide_false, Bool.true_eq_false, Bool.false_eq_true, Bool.not_true, Bool.not_false, if_true, if_false, and_true, true_and, memE, celE, w64, Nat.zero_add, Nat.add_zero, Nat.mul_one, putL, and_self, ldn, id_eq, ext_2_0, ext_2_1, ext_3_0, ext_3_1, ext_3_2, ext_4_0, ext_4_1, ext_4_2, ext_4_3, beq_self_eq_true, bne_self_eq_false, gt_iff_lt, X0.mk2, X1.mk3, Z0.mk2]
  try simp (config := {implicitDefEqProofs := false, maxDischargeDepth := 20}) (disch := first | omega | (simp only [lenE]; done) | (simp only [lenE]; omega) | rfl | (simp only [lenE, markR_len]; done) | (simp only [lenE, markR_len]; omega)) only [runE, mapE, listE, initT_5, initT_6, initT_7, initT_8, resV, oneV, binA, unA, reduceCtorEq, Nat.reduceEqDiff, Nat.reduceAdd, Nat.reduceLT, Nat.reduceLeDiff, Nat.reduceMul, Nat.reduceSub, ↓reduceIte, decide_true, decide_false, Bool.true_eq_false, Bool.false_eq_true, Bool.not_true, Bool.not_false, if_true, if_false, and_true, true_and, memE, celE, w64, Nat.zero_add, Nat.add_zero, Nat.mul_one, putL, and_self, ldn, id_eq, ext_2_0, ext_2_1, ext_3_0, ext_3_1, ext_3_2, ext_4_0, ext_4_1, ext_4_2, ext_4_3, beq_self_eq_true, bne_self_eq_false, gt_iff_lt, X0.mk2, X1.mk3, Z0.mk2]
  have TT := toFlow_rc M14 _ d0 C0.now hs0
  first | refine callH_rc TT ?_ | refine rcallH_rc TT ?_
  clear TT
  rintro r new ⟨nrn, Tv0, Tv0e, T0⟩
  rw [id_eq] at Tv0e
  subst r
  obtain ⟨M15, hM15⟩ : ∃ M', M' = M14 ++ new := ⟨_, rfl⟩
  rw [← hM15]
  have LM15 : M15.length = M14.length + new.length := by rw [hM15, List.length_append]
  replace C0 : Lv 0 M0.length M15 fun M => FlA M (flV d0 u0) d0 := by rw [hM15]; exact C0.ext _
  replace C2 : Lv 0 M0.length M15 fun M => IntsA M v2 d2 := by rw [hM15]; exact C2.ext _
  replace X0 : BoxA M15 M0.length [.int .i64 d0.stock, u0] := by rw [hM15]; exact X0.ext _
  replace X1 : BoxA M15 (M0.length + 1) [.int .i64 d1.kind, .int .i64 d1.low, .int .i64 d1.high] := by rw [hM15]; exact X1.ext _
  replace w0 : Lv aw bw M15 fun M => IntsO W0 aw bw M vw0 := by rw [hM15]; exact w0.ext _
  replace w1 : Lv cw dw M15 fun M => IntsO W1 cw dw M vw1 := by rw [hM15]; exact w1.ext _
  replace Y0 : Lv M7.length M8.length M15 fun M => FlO d0 M7.length M8.length M (flV d0 Yu0) := by rw [hM15]; exact Y0.ext _
  replace Z0 : BoxA M15 M8.length [.int .i64 d0.stock, Yu0] := by rw [hM15]; exact Z0.ext _
  replace Y2 : Lv M9.length M10.length M15 fun M => IntsO d2 M9.length M10.length M Yv2 := by rw [hM15]; exact Y2.ext _
  replace g0 : Lv ag bg M15 fun M => IntsO W0 ag bg M vg0 := by rw [hM15]; exact g0.ext _
  replace g1 : Lv cg dg M15 fun M => IntsO W1 cg dg M vg1 := by rw [hM15]; exact g1.ext _
  clear nrn
  rw [← hM15, ← LM15] at T0
  obtain ⟨Tu0, rfl, -⟩ := T0.now.in
  change Lv M14.length M15.length M15 fun M => FlO d0 M14.length M15.length M (flV d0 Tu0) at T0
  try simp (config := {implicitDefEqProofs := false, maxDischargeDepth := 20}) (disch := first | omega | (simp only [lenE]; done) | (simp only [lenE]; omega) | rfl | (simp only [lenE, markR_len]; done) | (simp only [lenE, markR_len]; omega)) only [runE, mapE, listE, initT_5, initT_6, initT_7, initT_8, resV, oneV, binA, unA, reduceCtorEq, Nat.reduceEqDiff, Nat.reduceAdd, Nat.reduceLT, Nat.reduceLeDiff, Nat.reduceMul, Nat.reduceSub, ↓reduceIte, decide_true, decide_false, Bool.true_eq_false, Bool.false_eq_true, Bool.not_true, Bool.not_false, if_true, if_false, and_true, true_and, memE, celE, w64, Nat.zero_add, Nat.add_zero, Nat.mul_one, putL, and_self, ldn, id_eq, ext_2_0, ext_2_1, ext_3_0, ext_3_1, ext_3_2, ext_4_0, ext_4_1, ext_4_2, ext_4_3, beq_self_eq_true, bne_self_eq_false, gt_iff_lt, X0.mk2, X1.mk3, Z0.mk2]
  have TT := eqFlow_rc M15 _ _ d0 Y0.now.in T0.now.in
  first | refine callH_rc TT ?_ | refine rcallH_rc TT ?_
  clear TT
  rintro r new ⟨rfl, nrn⟩
  obtain ⟨M16, hM16⟩ : ∃ M', M' = M15 ++ new := ⟨_, rfl⟩
  rw [← hM16]
  have LM16 : M16.length = M15.length + new.length := by rw [hM16, List.length_append]
  replace C0 : Lv 0 M0.length M16 fun M => FlA M (flV d0 u0) d0 := by rw [hM16]; exact C0.ext _
  replace C2 : Lv 0 M0.length M16 fun M => IntsA M v2 d2 := by rw [hM16]; exact C2.ext _
  replace X0 : BoxA M16 M0.length [.int .i64 d0.stock, u0] := by rw [hM16]; exact X0.ext _
  replace X1 : BoxA M16 (M0.length + 1) [.int .i64 d1.kind, .int .i64 d1.low, .int .i64 d1.high] := by rw [hM16]; exact X1.ext _
  replace w0 : Lv aw bw M16 fun M => IntsO W0 aw bw M vw0 := by rw [hM16]; exact w0.ext _
  replace w1 : Lv cw dw M16 fun M => IntsO W1 cw dw M vw1 := by rw [hM16]; exact w1.ext _
  replace Y0 : Lv M7.length M8.length M16 fun M => FlO d0 M7.length M8.length M (flV d0 Yu0) := by rw [hM16]; exact Y0.ext _
  replace Z0 : BoxA M16 M8.length [.int .i64 d0.stock, Yu0] := by rw [hM16]; exact Z0.ext _
  replace Y2 : Lv M9.length M10.length M16 fun M => IntsO d2 M9.length M10.length M Yv2 := by rw [hM16]; exact Y2.ext _
  replace g0 : Lv ag bg M16 fun M => IntsO W0 ag bg M vg0 := by rw [hM16]; exact g0.ext _
  replace g1 : Lv cg dg M16 fun M => IntsO W1 cg dg M vg1 := by rw [hM16]; exact g1.ext _
  replace T0 : Lv M14.length M15.length M16 fun M => FlO d0 M14.length M15.length M (flV d0 Tu0) := by rw [hM16]; exact T0.ext _
  clear nrn
  clear T0
  try simp (config := {implicitDefEqProofs := false, maxDischargeDepth := 20}) (disch := first | omega | (simp only [lenE]; done) | (simp only [lenE]; omega) | rfl | (simp only [lenE, markR_len]; done) | (simp only [lenE, markR_len]; omega)) only [runE, mapE, listE, initT_5, initT_6, initT_7, initT_8, resV, oneV, binA, unA, reduceCtorEq, Nat.reduceEqDiff, Nat.reduceAdd, Nat.reduceLT, Nat.reduceLeDiff, Nat.reduceMul, Nat.reduceSub, ↓reduceIte, decide_true, decide_false, Bool.true_eq_false, Bool.false_eq_true, Bool.not_true, Bool.not_false, if_true, if_false, and_true, true_and, memE, celE, w64, Nat.zero_add, Nat.add_zero, Nat.mul_one, putL, and_self, ldn, id_eq, ext_2_0, ext_2_1, ext_3_0, ext_3_1, ext_3_2, ext_4_0, ext_4_1, ext_4_2, ext_4_3, beq_self_eq_true, bne_self_eq_false, gt_iff_lt, X0.mk2, X1.mk3, Z0.mk2]
  try simp (config := {implicitDefEqProofs := false, maxDischargeDepth := 20}) (disch := first | omega | (simp only [lenE]; done) | (simp only [lenE]; omega) | rfl | (simp only [lenE, markR_len]; done) | (simp only [lenE, markR_len]; omega)) only [runE, mapE, listE, initT_5, initT_6, initT_7, initT_8, resV, oneV, binA, unA, reduceCtorEq, Nat.reduceEqDiff, Nat.reduceAdd, Nat.reduceLT, Nat.reduceLeDiff, Nat.reduceMul, Nat.reduceSub, ↓reduceIte, decide_true, decide_false, Bool.true_eq_false, Bool.false_eq_true, Bool.not_true, Bool.not_false, if_true, if_false, and_true, true_and, memE, celE, w64, Nat.zero_add, Nat.add_zero, Nat.mul_one, putL, and_self, ldn, id_eq, ext_2_0, ext_2_1, ext_3_0, ext_3_1, ext_3_2, ext_4_0, ext_4_1, ext_4_2, ext_4_3, beq_self_eq_true, bne_self_eq_false, gt_iff_lt, X0.mk2, X1.mk3, Z0.mk2]
  have TT := toIntsO_rc M16 _ d2 C2.now (by omega)
  first | refine callH_rc TT ?_ | refine rcallH_rc TT ?_
  clear TT
  rintro r new ⟨nrn, Tv2, Tv2e, T2⟩
  rw [id_eq] at Tv2e
  subst r
  obtain ⟨M17, hM17⟩ : ∃ M', M' = M16 ++ new := ⟨_, rfl⟩
  rw [← hM17]
  have LM17 : M17.length = M16.length + new.length := by rw [hM17, List.length_append]
  replace C0 : Lv 0 M0.length M17 fun M => FlA M (flV d0 u0) d0 := by rw [hM17]; exact C0.ext _
  replace C2 : Lv 0 M0.length M17 fun M => IntsA M v2 d2 := by rw [hM17]; exact C2.ext _
  replace X0 : BoxA M17 M0.length [.int .i64 d0.stock, u0] := by rw [hM17]; exact X0.ext _
  replace X1 : BoxA M17 (M0.length + 1) [.int .i64 d1.kind, .int .i64 d1.low, .int .i64 d1.high] := by rw [hM17]; exact X1.ext _
  replace w0 : Lv aw bw M17 fun M => IntsO W0 aw bw M vw0 := by rw [hM17]; exact w0.ext _
  replace w1 : Lv cw dw M17 fun M => IntsO W1 cw dw M vw1 := by rw [hM17]; exact w1.ext _
  replace Y0 : Lv M7.length M8.length M17 fun M => FlO d0 M7.length M8.length M (flV d0 Yu0) := by rw [hM17]; exact Y0.ext _
  replace Z0 : BoxA M17 M8.length [.int .i64 d0.stock, Yu0] := by rw [hM17]; exact Z0.ext _
  replace Y2 : Lv M9.length M10.length M17 fun M => IntsO d2 M9.length M10.length M Yv2 := by rw [hM17]; exact Y2.ext _
  replace g0 : Lv ag bg M17 fun M => IntsO W0 ag bg M vg0 := by rw [hM17]; exact g0.ext _
  replace g1 : Lv cg dg M17 fun M => IntsO W1 cg dg M vg1 := by rw [hM17]; exact g1.ext _
  clear nrn
  rw [← hM17, ← LM17] at T2
  change Lv M16.length M17.length M17 fun M => IntsO d2 M16.length M17.length M Tv2 at T2
  try simp (config := {implicitDefEqProofs := false, maxDischargeDepth := 20}) (disch := first | omega | (simp only [lenE]; done) | (simp only [lenE]; omega) | rfl | (simp only [lenE, markR_len]; done) | (simp only [lenE, markR_len]; omega)) only [runE, mapE, listE, initT_5, initT_6, initT_7, initT_8, resV, oneV, binA, unA, reduceCtorEq, Nat.reduceEqDiff, Nat.reduceAdd, Nat.reduceLT, Nat.reduceLeDiff, Nat.reduceMul, Nat.reduceSub, ↓reduceIte, decide_true, decide_false, Bool.true_eq_false, Bool.false_eq_true, Bool.not_true, Bool.not_false, if_true, if_false, and_true, true_and, memE, celE, w64, Nat.zero_add, Nat.add_zero, Nat.mul_one, putL, and_self, ldn, id_eq, ext_2_0, ext_2_1, ext_3_0, ext_3_1, ext_3_2, ext_4_0, ext_4_1, ext_4_2, ext_4_3, beq_self_eq_true, bne_self_eq_false, gt_iff_lt, X0.mk2, X1.mk3, Z0.mk2]
  have TT := eqIntsO_rc M17 _ _ d2 Y2.now.in T2.now.in
  first | refine callH_rc TT ?_ | refine rcallH_rc TT ?_
  clear TT
  rintro r new ⟨rfl, nrn⟩
  obtain ⟨M18, hM18⟩ : ∃ M', M' = M17 ++ new := ⟨_, rfl⟩
  rw [← hM18]
  have LM18 : M18.length = M17.length + new.length := by rw [hM18, List.length_append]
  replace C0 : Lv 0 M0.length M18 fun M => FlA M (flV d0 u0) d0 := by rw [hM18]; exact C0.ext _
  replace C2 : Lv 0 M0.length M18 fun M => IntsA M v2 d2 := by rw [hM18]; exact C2.ext _
  replace X0 : BoxA M18 M0.length [.int .i64 d0.stock, u0] := by rw [hM18]; exact X0.ext _
  replace X1 : BoxA M18 (M0.length + 1) [.int .i64 d1.kind, .int .i64 d1.low, .int .i64 d1.high] := by rw [hM18]; exact X1.ext _
  replace w0 : Lv aw bw M18 fun M => IntsO W0 aw bw M vw0 := by rw [hM18]; exact w0.ext _
  replace w1 : Lv cw dw M18 fun M => IntsO W1 cw dw M vw1 := by rw [hM18]; exact w1.ext _
  replace Y0 : Lv M7.length M8.length M18 fun M => FlO d0 M7.length M8.length M (flV d0 Yu0) := by rw [hM18]; exact Y0.ext _
  replace Z0 : BoxA M18 M8.length [.int .i64 d0.stock, Yu0] := by rw [hM18]; exact Z0.ext _
  replace Y2 : Lv M9.length M10.length M18 fun M => IntsO d2 M9.length M10.length M Yv2 := by rw [hM18]; exact Y2.ext _
  replace g0 : Lv ag bg M18 fun M => IntsO W0 ag bg M vg0 := by rw [hM18]; exact g0.ext _
  replace g1 : Lv cg dg M18 fun M => IntsO W1 cg dg M vg1 := by rw [hM18]; exact g1.ext _
  replace T2 : Lv M16.length M17.length M18 fun M => IntsO d2 M16.length M17.length M Tv2 := by rw [hM18]; exact T2.ext _
  clear nrn
  clear T2
  try simp (config := {implicitDefEqProofs := false, maxDischargeDepth := 20}) (disch := first | omega | (simp only [lenE]; done) | (simp only [lenE]; omega) | rfl | (simp only [lenE, markR_len]; done) | (simp only [lenE, markR_len]; omega)) only [runE, mapE, listE, initT_5, initT_6, initT_7, initT_8, resV, oneV, binA, unA, reduceCtorEq, Nat.reduceEqDiff, Nat.reduceAdd, Nat.reduceLT, Nat.reduceLeDiff, Nat.reduceMul, Nat.reduceSub, ↓reduceIte, decide_true, decide_false, Bool.true_eq_false, Bool.false_eq_true, Bool.not_true, Bool.not_false, if_true, if_false, and_true, true_and, memE, celE, w64, Nat.zero_add, Nat.add_zero, Nat.mul_one, putL, and_self, ldn, id_eq, ext_2_0, ext_2_1, ext_3_0, ext_3_1, ext_3_2, ext_4_0, ext_4_1, ext_4_2, ext_4_3, beq_self_eq_true, bne_self_eq_false, gt_iff_lt, X0.mk2, X1.mk3, Z0.mk2]
  try simp (config := {implicitDefEqProofs := false, maxDischargeDepth := 20}) (disch := first | omega | (simp only [lenE]; done) | (simp only [lenE]; omega) | rfl | (simp only [lenE, markR_len]; done) | (simp only [lenE, markR_len]; omega)) only [runE, mapE, listE, initT_5, initT_6, initT_7, initT_8, resV, oneV, binA, unA, reduceCtorEq, Nat.reduceEqDiff, Nat.reduceAdd, Nat.reduceLT, Nat.reduceLeDiff, Nat.reduceMul, Nat.reduceSub, ↓reduceIte, decide_true, decide_false, Bool.true_eq_false, Bool.false_eq_true, Bool.not_true, Bool.not_false, if_true, if_false, and_true, true_and, memE, celE, w64, Nat.zero_add, Nat.add_zero, Nat.mul_one, putL, and_self, ldn, id_eq, ext_2_0, ext_2_1, ext_3_0, ext_3_1, ext_3_2, ext_4_0, ext_4_1, ext_4_2, ext_4_3, beq_self_eq_true, bne_self_eq_false, gt_iff_lt, X0.mk2, X1.mk3, Z0.mk2]
  refine callH_ac (markFlow_ac _ M7.length M8.length _ d0 _ Y0 (by omega) (by omega)) ?_
  rintro r M19 ⟨rfl, hB⟩
  have LM19 := hB.1
  replace C0 : Lv 0 M0.length M19 fun M => FlA M (flV d0 u0) d0 := C0.but hB (by omega)
  replace C2 : Lv 0 M0.length M19 fun M => IntsA M v2 d2 := C2.but hB (by omega)
  replace X0 : BoxA M19 M0.length [.int .i64 d0.stock, u0] := by have := X0.lt; exact X0.but hB (by omega)
  replace X1 : BoxA M19 (M0.length + 1) [.int .i64 d1.kind, .int .i64 d1.low, .int .i64 d1.high] := by have := X1.lt; exact X1.but hB (by omega)
  replace w0 : Lv aw bw M19 fun M => IntsO W0 aw bw M vw0 := w0.but hB (by omega)
  replace w1 : Lv cw dw M19 fun M => IntsO W1 cw dw M vw1 := w1.but hB (by omega)
  replace Z0 : BoxA M19 M8.length [.int .i64 d0.stock, Yu0] := by have := Z0.lt; exact Z0.but hB (by omega)
  replace Y2 : Lv M9.length M10.length M19 fun M => IntsO d2 M9.length M10.length M Yv2 := Y2.but hB (by omega)
  replace g0 : Lv ag bg M19 fun M => IntsO W0 ag bg M vg0 := g0.but hB (by omega)
  replace g1 : Lv cg dg M19 fun M => IntsO W1 cg dg M vg1 := g1.but hB (by omega)
  clear Y0 hB
  have sn2 : d2.length ≤ 1048576 := by omega
  try simp (config := {implicitDefEqProofs := false, maxDischargeDepth := 20}) (disch := first | omega | (simp only [lenE]; done) | (simp only [lenE]; omega) | rfl | (simp only [lenE, markR_len]; done) | (simp only [lenE, markR_len]; omega)) only [runE, mapE, listE, initT_5, initT_6, initT_7, initT_8, resV, oneV, binA, unA, reduceCtorEq, Nat.reduceEqDiff, Nat.reduceAdd, Nat.reduceLT, Nat.reduceLeDiff, Nat.reduceMul, Nat.reduceSub, ↓reduceIte, decide_true, decide_false, Bool.true_eq_false, Bool.false_eq_true, Bool.not_true, Bool.not_false, if_true, if_false, and_true, true_and, memE, celE, w64, Nat.zero_add, Nat.add_zero, Nat.mul_one, putL, and_self, ldn, id_eq, ext_2_0, ext_2_1, ext_3_0, ext_3_1, ext_3_2, ext_4_0, ext_4_1, ext_4_2, ext_4_3, beq_self_eq_true, bne_self_eq_false, gt_iff_lt, X0.mk2, X1.mk3, Z0.mk2]
  refine callH_ac (markIntsO_ac _ M9.length M10.length _ d2 _ Y2 (by omega) (by omega)) ?_
  rintro r M20 ⟨rfl, hB, -⟩
  have LM20 := hB.1
  replace C0 : Lv 0 M0.length M20 fun M => FlA M (flV d0 u0) d0 := C0.but hB (by omega)
  replace C2 : Lv 0 M0.length M20 fun M => IntsA M v2 d2 := C2.but hB (by omega)
  replace X0 : BoxA M20 M0.length [.int .i64 d0.stock, u0] := by have := X0.lt; exact X0.but hB (by omega)
  replace X1 : BoxA M20 (M0.length + 1) [.int .i64 d1.kind, .int .i64 d1.low, .int .i64 d1.high] := by have := X1.lt; exact X1.but hB (by omega)
  replace w0 : Lv aw bw M20 fun M => IntsO W0 aw bw M vw0 := w0.but hB (by omega)
  replace w1 : Lv cw dw M20 fun M => IntsO W1 cw dw M vw1 := w1.but hB (by omega)
  replace Z0 : BoxA M20 M8.length [.int .i64 d0.stock, Yu0] := by have := Z0.lt; exact Z0.but hB (by omega)
  replace g0 : Lv ag bg M20 fun M => IntsO W0 ag bg M vg0 := g0.but hB (by omega)
  replace g1 : Lv cg dg M20 fun M => IntsO W1 cg dg M vg1 := g1.but hB (by omega)
  clear Y2 hB
  have hkk : ¬ (1 + (d0.under.length : Int) + (d2.length : Int) < 0) := by omega
  try simp (config := {implicitDefEqProofs := false, maxDischargeDepth := 20}) (disch := first | omega | (simp only [lenE]; done) | (simp only [lenE]; omega) | rfl | (simp only [lenE, markR_len]; done) | (simp only [lenE, markR_len]; omega)) only [runE, mapE, listE, initT_5, initT_6, initT_7, initT_8, resV, oneV, binA, unA, reduceCtorEq, Nat.reduceEqDiff, Nat.reduceAdd, Nat.reduceLT, Nat.reduceLeDiff, Nat.reduceMul, Nat.reduceSub, ↓reduceIte, decide_true, decide_false, Bool.true_eq_false, Bool.false_eq_true, Bool.not_true, Bool.not_false, if_true, if_false, and_true, true_and, memE, celE, w64, Nat.zero_add, Nat.add_zero, Nat.mul_one, putL, and_self, ldn, id_eq, ext_2_0, ext_2_1, ext_3_0, ext_3_1, ext_3_2, ext_4_0, ext_4_1, ext_4_2, ext_4_3, beq_self_eq_true, bne_self_eq_false, gt_iff_lt, hkk, X0.mk2, X1.mk3, Z0.mk2]
  try simp (config := {implicitDefEqProofs := false, maxDischargeDepth := 20}) (disch := first | omega | (simp only [lenE]; done) | (simp only [lenE]; omega) | rfl | (simp only [lenE, markR_len]; done) | (simp only [lenE, markR_len]; omega)) only [runE, mapE, listE, initT_5, initT_6, initT_7, initT_8, resV, oneV, binA, unA, reduceCtorEq, Nat.reduceEqDiff, Nat.reduceAdd, Nat.reduceLT, Nat.reduceLeDiff, Nat.reduceMul, Nat.reduceSub, ↓reduceIte, decide_true, decide_false, Bool.true_eq_false, Bool.false_eq_true, Bool.not_true, Bool.not_false, if_true, if_false, and_true, true_and, memE, celE, w64, Nat.zero_add, Nat.add_zero, Nat.mul_one, putL, and_self, ldn, id_eq, ext_2_0, ext_2_1, ext_3_0, ext_3_1, ext_3_2, ext_4_0, ext_4_1, ext_4_2, ext_4_3, beq_self_eq_true, bne_self_eq_false, gt_iff_lt, X0.mk2, X1.mk3, Z0.mk2]
  try simp (config := {implicitDefEqProofs := false, maxDischargeDepth := 20}) (disch := first | omega | (simp only [lenE]; done) | (simp only [lenE]; omega) | rfl | (simp only [lenE, markR_len]; done) | (simp only [lenE, markR_len]; omega)) only [runE, mapE, listE, initT_5, initT_6, initT_7, initT_8, resV, oneV, binA, unA, reduceCtorEq, Nat.reduceEqDiff, Nat.reduceAdd, Nat.reduceLT, Nat.reduceLeDiff, Nat.reduceMul, Nat.reduceSub, ↓reduceIte, decide_true, decide_false, Bool.true_eq_false, Bool.false_eq_true, Bool.not_true, Bool.not_false, if_true, if_false, and_true, true_and, memE, celE, w64, Nat.zero_add, Nat.add_zero, Nat.mul_one, putL, and_self, ldn, id_eq, ext_2_0, ext_2_1, ext_3_0, ext_3_1, ext_3_2, ext_4_0, ext_4_1, ext_4_2, ext_4_3, beq_self_eq_true, bne_self_eq_false, gt_iff_lt, X0.mk2, X1.mk3, Z0.mk2]
  have TT := eqIntsO_rc M20 _ _ W0 g0.now.in w0.now.in
  first | refine callH_rc TT ?_ | refine rcallH_rc TT ?_
  clear TT
  rintro r new ⟨rfl, nrn⟩
  obtain ⟨M21, hM21⟩ : ∃ M', M' = M20 ++ new := ⟨_, rfl⟩
  rw [← hM21]
  have LM21 : M21.length = M20.length + new.length := by rw [hM21, List.length_append]
  replace C0 : Lv 0 M0.length M21 fun M => FlA M (flV d0 u0) d0 := by rw [hM21]; exact C0.ext _
  replace C2 : Lv 0 M0.length M21 fun M => IntsA M v2 d2 := by rw [hM21]; exact C2.ext _
  replace X0 : BoxA M21 M0.length [.int .i64 d0.stock, u0] := by rw [hM21]; exact X0.ext _
  replace X1 : BoxA M21 (M0.length + 1) [.int .i64 d1.kind, .int .i64 d1.low, .int .i64 d1.high] := by rw [hM21]; exact X1.ext _
  replace w0 : Lv aw bw M21 fun M => IntsO W0 aw bw M vw0 := by rw [hM21]; exact w0.ext _
  replace w1 : Lv cw dw M21 fun M => IntsO W1 cw dw M vw1 := by rw [hM21]; exact w1.ext _
  replace Z0 : BoxA M21 M8.length [.int .i64 d0.stock, Yu0] := by rw [hM21]; exact Z0.ext _
  replace g0 : Lv ag bg M21 fun M => IntsO W0 ag bg M vg0 := by rw [hM21]; exact g0.ext _
  replace g1 : Lv cg dg M21 fun M => IntsO W1 cg dg M vg1 := by rw [hM21]; exact g1.ext _
  clear nrn
  try simp (config := {implicitDefEqProofs := false, maxDischargeDepth := 20}) (disch := first | omega | (simp only [lenE]; done) | (simp only [lenE]; omega) | rfl | (simp only [lenE, markR_len]; done) | (simp only [lenE, markR_len]; omega)) only [runE, mapE, listE, initT_5, initT_6, initT_7, initT_8, resV, oneV, binA, unA, reduceCtorEq, Nat.reduceEqDiff, Nat.reduceAdd, Nat.reduceLT, Nat.reduceLeDiff, Nat.reduceMul, Nat.reduceSub, ↓reduceIte, decide_true, decide_false, Bool.true_eq_false, Bool.false_eq_true, Bool.not_true, Bool.not_false, if_true, if_false, and_true, true_and, memE, celE, w64, Nat.zero_add, Nat.add_zero, Nat.mul_one, putL, and_self, ldn, id_eq, ext_2_0, ext_2_1, ext_3_0, ext_3_1, ext_3_2, ext_4_0, ext_4_1, ext_4_2, ext_4_3, beq_self_eq_true, bne_self_eq_false, gt_iff_lt, X0.mk2, X1.mk3, Z0.mk2]
  try simp (config := {implicitDefEqProofs := false, maxDischargeDepth := 20}) (disch := first | omega | (simp only [lenE]; done) | (simp only [lenE]; omega) | rfl | (simp only [lenE, markR_len]; done) | (simp only [lenE, markR_len]; omega)) only [runE, mapE, listE, initT_5, initT_6, initT_7, initT_8, resV, oneV, binA, unA, reduceCtorEq, Nat.reduceEqDiff, Nat.reduceAdd, Nat.reduceLT, Nat.reduceLeDiff, Nat.reduceMul, Nat.reduceSub, ↓reduceIte, decide_true, decide_false, Bool.true_eq_false, Bool.false_eq_true, Bool.not_true, Bool.not_false, if_true, if_false, and_true, true_and, memE, celE, w64, Nat.zero_add, Nat.add_zero, Nat.mul_one, putL, and_self, ldn, id_eq, ext_2_0, ext_2_1, ext_3_0, ext_3_1, ext_3_2, ext_4_0, ext_4_1, ext_4_2, ext_4_3, beq_self_eq_true, bne_self_eq_false, gt_iff_lt, X0.mk2, X1.mk3, Z0.mk2]
  have TT := eqIntsO_rc M21 _ _ W1 g1.now.in w1.now.in
  first | refine callH_rc TT ?_ | refine rcallH_rc TT ?_
  clear TT
  rintro r new ⟨rfl, nrn⟩
  obtain ⟨M22, hM22⟩ : ∃ M', M' = M21 ++ new := ⟨_, rfl⟩
  rw [← hM22]
  have LM22 : M22.length = M21.length + new.length := by rw [hM22, List.length_append]
  replace C0 : Lv 0 M0.length M22 fun M => FlA M (flV d0 u0) d0 := by rw [hM22]; exact C0.ext _
  replace C2 : Lv 0 M0.length M22 fun M => IntsA M v2 d2 := by rw [hM22]; exact C2.ext _
  replace X0 : BoxA M22 M0.length [.int .i64 d0.stock, u0] := by rw [hM22]; exact X0.ext _
  replace X1 : BoxA M22 (M0.length + 1) [.int .i64 d1.kind, .int .i64 d1.low, .int .i64 d1.high] := by rw [hM22]; exact X1.ext _
  replace w0 : Lv aw bw M22 fun M => IntsO W0 aw bw M vw0 := by rw [hM22]; exact w0.ext _
  replace w1 : Lv cw dw M22 fun M => IntsO W1 cw dw M vw1 := by rw [hM22]; exact w1.ext _
  replace Z0 : BoxA M22 M8.length [.int .i64 d0.stock, Yu0] := by rw [hM22]; exact Z0.ext _
  replace g0 : Lv ag bg M22 fun M => IntsO W0 ag bg M vg0 := by rw [hM22]; exact g0.ext _
  replace g1 : Lv cg dg M22 fun M => IntsO W1 cg dg M vg1 := by rw [hM22]; exact g1.ext _
  clear nrn
  try simp (config := {implicitDefEqProofs := false, maxDischargeDepth := 20}) (disch := first | omega | (simp only [lenE]; done) | (simp only [lenE]; omega) | rfl | (simp only [lenE, markR_len]; done) | (simp only [lenE, markR_len]; omega)) only [runE, mapE, listE, initT_5, initT_6, initT_7, initT_8, resV, oneV, binA, unA, reduceCtorEq, Nat.reduceEqDiff, Nat.reduceAdd, Nat.reduceLT, Nat.reduceLeDiff, Nat.reduceMul, Nat.reduceSub, ↓reduceIte, decide_true, decide_false, Bool.true_eq_false, Bool.false_eq_true, Bool.not_true, Bool.not_false, if_true, if_false, and_true, true_and, memE, celE, w64, Nat.zero_add, Nat.add_zero, Nat.mul_one, putL, and_self, ldn, id_eq, ext_2_0, ext_2_1, ext_3_0, ext_3_1, ext_3_2, ext_4_0, ext_4_1, ext_4_2, ext_4_3, beq_self_eq_true, bne_self_eq_false, gt_iff_lt, X0.mk2, X1.mk3, Z0.mk2]
  try simp (config := {implicitDefEqProofs := false, maxDischargeDepth := 20}) (disch := first | omega | (simp only [lenE]; done) | (simp only [lenE]; omega) | rfl | (simp only [lenE, markR_len]; done) | (simp only [lenE, markR_len]; omega)) only [runE, mapE, listE, initT_5, initT_6, initT_7, initT_8, resV, oneV, binA, unA, reduceCtorEq, Nat.reduceEqDiff, Nat.reduceAdd, Nat.reduceLT, Nat.reduceLeDiff, Nat.reduceMul, Nat.reduceSub, ↓reduceIte, decide_true, decide_false, Bool.true_eq_false, Bool.false_eq_true, Bool.not_true, Bool.not_false, if_true, if_false, and_true, true_and, memE, celE, w64, Nat.zero_add, Nat.add_zero, Nat.mul_one, putL, and_self, ldn, id_eq, ext_2_0, ext_2_1, ext_3_0, ext_3_1, ext_3_2, ext_4_0, ext_4_1, ext_4_2, ext_4_3, beq_self_eq_true, bne_self_eq_false, gt_iff_lt, X0.mk2, X1.mk3, Z0.mk2]
  have gsm0 := g0.now.1
  refine callH_ac (markIntsO_ac _ ag bg _ W0 (1) g0 (by omega) (by omega)) ?_
  rintro r M23 ⟨rfl, hB, gm0⟩
  have LM23 := hB.1
  replace C0 : Lv 0 M0.length M23 fun M => FlA M (flV d0 u0) d0 := C0.but hB (by omega)
  replace C2 : Lv 0 M0.length M23 fun M => IntsA M v2 d2 := C2.but hB (by omega)
  replace X0 : BoxA M23 M0.length [.int .i64 d0.stock, u0] := by have := X0.lt; exact X0.but hB (by omega)
  replace X1 : BoxA M23 (M0.length + 1) [.int .i64 d1.kind, .int .i64 d1.low, .int .i64 d1.high] := by have := X1.lt; exact X1.but hB (by omega)
  replace w0 : Lv aw bw M23 fun M => IntsO W0 aw bw M vw0 := w0.but hB (by omega)
  replace w1 : Lv cw dw M23 fun M => IntsO W1 cw dw M vw1 := w1.but hB (by omega)
  replace Z0 : BoxA M23 M8.length [.int .i64 d0.stock, Yu0] := by have := Z0.lt; exact Z0.but hB (by omega)
  replace g1 : Lv cg dg M23 fun M => IntsO W1 cg dg M vg1 := g1.but hB (by omega)
  clear g0 hB
  have hkq0 : ¬ (1 + (W0.length : Int) < 0) := by omega
  try simp (config := {implicitDefEqProofs := false, maxDischargeDepth := 20}) (disch := first | omega | (simp only [lenE]; done) | (simp only [lenE]; omega) | rfl | (simp only [lenE, markR_len]; done) | (simp only [lenE, markR_len]; omega)) only [runE, mapE, listE, initT_5, initT_6, initT_7, initT_8, resV, oneV, binA, unA, reduceCtorEq, Nat.reduceEqDiff, Nat.reduceAdd, Nat.reduceLT, Nat.reduceLeDiff, Nat.reduceMul, Nat.reduceSub, ↓reduceIte, decide_true, decide_false, Bool.true_eq_false, Bool.false_eq_true, Bool.not_true, Bool.not_false, if_true, if_false, and_true, true_and, memE, celE, w64, Nat.zero_add, Nat.add_zero, Nat.mul_one, putL, and_self, ldn, id_eq, ext_2_0, ext_2_1, ext_3_0, ext_3_1, ext_3_2, ext_4_0, ext_4_1, ext_4_2, ext_4_3, beq_self_eq_true, bne_self_eq_false, gt_iff_lt, X0.mk2, X1.mk3, Z0.mk2]
  have gsm1 := g1.now.1
  refine callH_ac (markIntsO_ac _ cg dg _ W1 (1 + (W0.length : Int)) g1 (by omega) (by omega)) ?_
  rintro r M24 ⟨rfl, hB, gm1⟩
  have LM24 := hB.1
  replace C0 : Lv 0 M0.length M24 fun M => FlA M (flV d0 u0) d0 := C0.but hB (by omega)
  replace C2 : Lv 0 M0.length M24 fun M => IntsA M v2 d2 := C2.but hB (by omega)
  replace X0 : BoxA M24 M0.length [.int .i64 d0.stock, u0] := by have := X0.lt; exact X0.but hB (by omega)
  replace X1 : BoxA M24 (M0.length + 1) [.int .i64 d1.kind, .int .i64 d1.low, .int .i64 d1.high] := by have := X1.lt; exact X1.but hB (by omega)
  replace w0 : Lv aw bw M24 fun M => IntsO W0 aw bw M vw0 := w0.but hB (by omega)
  replace w1 : Lv cw dw M24 fun M => IntsO W1 cw dw M vw1 := w1.but hB (by omega)
  replace Z0 : BoxA M24 M8.length [.int .i64 d0.stock, Yu0] := by have := Z0.lt; exact Z0.but hB (by omega)
  replace gm0 : Lv ag bg M24 fun M => IntsO (imarks (1) W0.length) ag bg M vg0 := gm0.but hB (by omega)
  clear g1 hB
  have hkq1 : ¬ (1 + (W0.length : Int) + (W1.length : Int) < 0) := by omega
  try simp (config := {implicitDefEqProofs := false, maxDischargeDepth := 20}) (disch := first | omega | (simp only [lenE]; done) | (simp only [lenE]; omega) | rfl | (simp only [lenE, markR_len]; done) | (simp only [lenE, markR_len]; omega)) only [runE, mapE, listE, initT_5, initT_6, initT_7, initT_8, resV, oneV, binA, unA, reduceCtorEq, Nat.reduceEqDiff, Nat.reduceAdd, Nat.reduceLT, Nat.reduceLeDiff, Nat.reduceMul, Nat.reduceSub, ↓reduceIte, decide_true, decide_false, Bool.true_eq_false, Bool.false_eq_true, Bool.not_true, Bool.not_false, if_true, if_false, and_true, true_and, memE, celE, w64, Nat.zero_add, Nat.add_zero, Nat.mul_one, putL, and_self, ldn, id_eq, ext_2_0, ext_2_1, ext_3_0, ext_3_1, ext_3_2, ext_4_0, ext_4_1, ext_4_2, ext_4_3, beq_self_eq_true, bne_self_eq_false, gt_iff_lt, X0.mk2, X1.mk3, Z0.mk2]
  refine callH_rc (heldIntsO_rc _ _ (1) W0.length gm0.now.in (by omega) (by omega) (by omega)) ?_
  rintro r new ⟨rfl, nrn⟩
  obtain ⟨M25, hM25⟩ : ∃ M', M' = M24 ++ new := ⟨_, rfl⟩
  rw [← hM25]
  have LM25 : M25.length = M24.length + new.length := by rw [hM25, List.length_append]
  replace C0 : Lv 0 M0.length M25 fun M => FlA M (flV d0 u0) d0 := by rw [hM25]; exact C0.ext _
  replace C2 : Lv 0 M0.length M25 fun M => IntsA M v2 d2 := by rw [hM25]; exact C2.ext _
  replace X0 : BoxA M25 M0.length [.int .i64 d0.stock, u0] := by rw [hM25]; exact X0.ext _
  replace X1 : BoxA M25 (M0.length + 1) [.int .i64 d1.kind, .int .i64 d1.low, .int .i64 d1.high] := by rw [hM25]; exact X1.ext _
  replace w0 : Lv aw bw M25 fun M => IntsO W0 aw bw M vw0 := by rw [hM25]; exact w0.ext _
  replace w1 : Lv cw dw M25 fun M => IntsO W1 cw dw M vw1 := by rw [hM25]; exact w1.ext _
  replace Z0 : BoxA M25 M8.length [.int .i64 d0.stock, Yu0] := by rw [hM25]; exact Z0.ext _
  replace gm0 : Lv ag bg M25 fun M => IntsO (imarks (1) W0.length) ag bg M vg0 := by rw [hM25]; exact gm0.ext _
  replace gm1 : Lv cg dg M25 fun M => IntsO (imarks (1 + (W0.length : Int)) W1.length) cg dg M vg1 := by rw [hM25]; exact gm1.ext _
  clear nrn
  try simp (config := {implicitDefEqProofs := false, maxDischargeDepth := 20}) (disch := first | omega | (simp only [lenE]; done) | (simp only [lenE]; omega) | rfl | (simp only [lenE, markR_len]; done) | (simp only [lenE, markR_len]; omega)) only [runE, mapE, listE, initT_5, initT_6, initT_7, initT_8, resV, oneV, binA, unA, reduceCtorEq, Nat.reduceEqDiff, Nat.reduceAdd, Nat.reduceLT, Nat.reduceLeDiff, Nat.reduceMul, Nat.reduceSub, ↓reduceIte, decide_true, decide_false, Bool.true_eq_false, Bool.false_eq_true, Bool.not_true, Bool.not_false, if_true, if_false, and_true, true_and, memE, celE, w64, Nat.zero_add, Nat.add_zero, Nat.mul_one, putL, and_self, ldn, id_eq, ext_2_0, ext_2_1, ext_3_0, ext_3_1, ext_3_2, ext_4_0, ext_4_1, ext_4_2, ext_4_3, beq_self_eq_true, bne_self_eq_false, gt_iff_lt, hkq0, X0.mk2, X1.mk3, Z0.mk2]
  try simp (config := {implicitDefEqProofs := false, maxDischargeDepth := 20}) (disch := first | omega | (simp only [lenE]; done) | (simp only [lenE]; omega) | rfl | (simp only [lenE, markR_len]; done) | (simp only [lenE, markR_len]; omega)) only [runE, mapE, listE, initT_5, initT_6, initT_7, initT_8, resV, oneV, binA, unA, reduceCtorEq, Nat.reduceEqDiff, Nat.reduceAdd, Nat.reduceLT, Nat.reduceLeDiff, Nat.reduceMul, Nat.reduceSub, ↓reduceIte, decide_true, decide_false, Bool.true_eq_false, Bool.false_eq_true, Bool.not_true, Bool.not_false, if_true, if_false, and_true, true_and, memE, celE, w64, Nat.zero_add, Nat.add_zero, Nat.mul_one, putL, and_self, ldn, id_eq, ext_2_0, ext_2_1, ext_3_0, ext_3_1, ext_3_2, ext_4_0, ext_4_1, ext_4_2, ext_4_3, beq_self_eq_true, bne_self_eq_false, gt_iff_lt, X0.mk2, X1.mk3, Z0.mk2]
  refine callH_rc (heldIntsO_rc _ _ (1 + (W0.length : Int)) W1.length gm1.now.in (by omega) (by omega) (by omega)) ?_
  rintro r new ⟨rfl, nrn⟩
  obtain ⟨M26, hM26⟩ : ∃ M', M' = M25 ++ new := ⟨_, rfl⟩
  rw [← hM26]
  have LM26 : M26.length = M25.length + new.length := by rw [hM26, List.length_append]
  replace C0 : Lv 0 M0.length M26 fun M => FlA M (flV d0 u0) d0 := by rw [hM26]; exact C0.ext _
  replace C2 : Lv 0 M0.length M26 fun M => IntsA M v2 d2 := by rw [hM26]; exact C2.ext _
  replace X0 : BoxA M26 M0.length [.int .i64 d0.stock, u0] := by rw [hM26]; exact X0.ext _
  replace X1 : BoxA M26 (M0.length + 1) [.int .i64 d1.kind, .int .i64 d1.low, .int .i64 d1.high] := by rw [hM26]; exact X1.ext _
  replace w0 : Lv aw bw M26 fun M => IntsO W0 aw bw M vw0 := by rw [hM26]; exact w0.ext _
  replace w1 : Lv cw dw M26 fun M => IntsO W1 cw dw M vw1 := by rw [hM26]; exact w1.ext _
  replace Z0 : BoxA M26 M8.length [.int .i64 d0.stock, Yu0] := by rw [hM26]; exact Z0.ext _
  replace gm0 : Lv ag bg M26 fun M => IntsO (imarks (1) W0.length) ag bg M vg0 := by rw [hM26]; exact gm0.ext _
  replace gm1 : Lv cg dg M26 fun M => IntsO (imarks (1 + (W0.length : Int)) W1.length) cg dg M vg1 := by rw [hM26]; exact gm1.ext _
  clear nrn
  try simp (config := {implicitDefEqProofs := false, maxDischargeDepth := 20}) (disch := first | omega | (simp only [lenE]; done) | (simp only [lenE]; omega) | rfl | (simp only [lenE, markR_len]; done) | (simp only [lenE, markR_len]; omega)) only [runE, mapE, listE, initT_5, initT_6, initT_7, initT_8, resV, oneV, binA, unA, reduceCtorEq, Nat.reduceEqDiff, Nat.reduceAdd, Nat.reduceLT, Nat.reduceLeDiff, Nat.reduceMul, Nat.reduceSub, ↓reduceIte, decide_true, decide_false, Bool.true_eq_false, Bool.false_eq_true, Bool.not_true, Bool.not_false, if_true, if_false, and_true, true_and, memE, celE, w64, Nat.zero_add, Nat.add_zero, Nat.mul_one, putL, and_self, ldn, id_eq, ext_2_0, ext_2_1, ext_3_0, ext_3_1, ext_3_2, ext_4_0, ext_4_1, ext_4_2, ext_4_3, beq_self_eq_true, bne_self_eq_false, gt_iff_lt, hkq1, X0.mk2, X1.mk3, Z0.mk2]
  try simp (config := {implicitDefEqProofs := false, maxDischargeDepth := 20}) (disch := first | omega | (simp only [lenE]; done) | (simp only [lenE]; omega) | rfl | (simp only [lenE, markR_len]; done) | (simp only [lenE, markR_len]; omega)) only [runE, mapE, listE, initT_5, initT_6, initT_7, initT_8, resV, oneV, binA, unA, reduceCtorEq, Nat.reduceEqDiff, Nat.reduceAdd, Nat.reduceLT, Nat.reduceLeDiff, Nat.reduceMul, Nat.reduceSub, ↓reduceIte, decide_true, decide_false, Bool.true_eq_false, Bool.false_eq_true, Bool.not_true, Bool.not_false, if_true, if_false, and_true, true_and, memE, celE, w64, Nat.zero_add, Nat.add_zero, Nat.mul_one, putL, and_self, ldn, id_eq, ext_2_0, ext_2_1, ext_3_0, ext_3_1, ext_3_2, ext_4_0, ext_4_1, ext_4_2, ext_4_3, beq_self_eq_true, bne_self_eq_false, gt_iff_lt, X0.mk2, X1.mk3, Z0.mk2]
  have TT := toFlow_rc M26 _ d0 C0.now hs0
  first | refine callH_rc TT ?_ | refine rcallH_rc TT ?_
  clear TT
  rintro r new ⟨nrn, Uv0, Uv0e, U0⟩
  rw [id_eq] at Uv0e
  subst r
  obtain ⟨M27, hM27⟩ : ∃ M', M' = M26 ++ new := ⟨_, rfl⟩
  rw [← hM27]
  have LM27 : M27.length = M26.length + new.length := by rw [hM27, List.length_append]
  replace C0 : Lv 0 M0.length M27 fun M => FlA M (flV d0 u0) d0 := by rw [hM27]; exact C0.ext _
  replace C2 : Lv 0 M0.length M27 fun M => IntsA M v2 d2 := by rw [hM27]; exact C2.ext _
  replace X0 : BoxA M27 M0.length [.int .i64 d0.stock, u0] := by rw [hM27]; exact X0.ext _
  replace X1 : BoxA M27 (M0.length + 1) [.int .i64 d1.kind, .int .i64 d1.low, .int .i64 d1.high] := by rw [hM27]; exact X1.ext _
  replace w0 : Lv aw bw M27 fun M => IntsO W0 aw bw M vw0 := by rw [hM27]; exact w0.ext _
  replace w1 : Lv cw dw M27 fun M => IntsO W1 cw dw M vw1 := by rw [hM27]; exact w1.ext _
  replace Z0 : BoxA M27 M8.length [.int .i64 d0.stock, Yu0] := by rw [hM27]; exact Z0.ext _
  replace gm0 : Lv ag bg M27 fun M => IntsO (imarks (1) W0.length) ag bg M vg0 := by rw [hM27]; exact gm0.ext _
  replace gm1 : Lv cg dg M27 fun M => IntsO (imarks (1 + (W0.length : Int)) W1.length) cg dg M vg1 := by rw [hM27]; exact gm1.ext _
  clear nrn
  rw [← hM27, ← LM27] at U0
  obtain ⟨Uu0, rfl, -⟩ := U0.now.in
  change Lv M26.length M27.length M27 fun M => FlO d0 M26.length M27.length M (flV d0 Uu0) at U0
  try simp (config := {implicitDefEqProofs := false, maxDischargeDepth := 20}) (disch := first | omega | (simp only [lenE]; done) | (simp only [lenE]; omega) | rfl | (simp only [lenE, markR_len]; done) | (simp only [lenE, markR_len]; omega)) only [runE, mapE, listE, initT_5, initT_6, initT_7, initT_8, resV, oneV, binA, unA, reduceCtorEq, Nat.reduceEqDiff, Nat.reduceAdd, Nat.reduceLT, Nat.reduceLeDiff, Nat.reduceMul, Nat.reduceSub, ↓reduceIte, decide_true, decide_false, Bool.true_eq_false, Bool.false_eq_true, Bool.not_true, Bool.not_false, if_true, if_false, and_true, true_and, memE, celE, w64, Nat.zero_add, Nat.add_zero, Nat.mul_one, putL, and_self, ldn, id_eq, ext_2_0, ext_2_1, ext_3_0, ext_3_1, ext_3_2, ext_4_0, ext_4_1, ext_4_2, ext_4_3, beq_self_eq_true, bne_self_eq_false, gt_iff_lt, rlV, X0.mk2, X1.mk3, Z0.mk2]
  first | refine callH_rc (toRule_rc _ d1) ?_ | refine rcallH_rc (toRule_rc _ d1) ?_
  rintro r new ⟨rfl, nrn⟩
  obtain ⟨M28, hM28⟩ : ∃ M', M' = M27 ++ new := ⟨_, rfl⟩
  rw [← hM28]
  have LM28 : M28.length = M27.length + new.length := by rw [hM28, List.length_append]
  replace C0 : Lv 0 M0.length M28 fun M => FlA M (flV d0 u0) d0 := by rw [hM28]; exact C0.ext _
  replace C2 : Lv 0 M0.length M28 fun M => IntsA M v2 d2 := by rw [hM28]; exact C2.ext _
  replace X0 : BoxA M28 M0.length [.int .i64 d0.stock, u0] := by rw [hM28]; exact X0.ext _
  replace X1 : BoxA M28 (M0.length + 1) [.int .i64 d1.kind, .int .i64 d1.low, .int .i64 d1.high] := by rw [hM28]; exact X1.ext _
  replace w0 : Lv aw bw M28 fun M => IntsO W0 aw bw M vw0 := by rw [hM28]; exact w0.ext _
  replace w1 : Lv cw dw M28 fun M => IntsO W1 cw dw M vw1 := by rw [hM28]; exact w1.ext _
  replace Z0 : BoxA M28 M8.length [.int .i64 d0.stock, Yu0] := by rw [hM28]; exact Z0.ext _
  replace gm0 : Lv ag bg M28 fun M => IntsO (imarks (1) W0.length) ag bg M vg0 := by rw [hM28]; exact gm0.ext _
  replace gm1 : Lv cg dg M28 fun M => IntsO (imarks (1 + (W0.length : Int)) W1.length) cg dg M vg1 := by rw [hM28]; exact gm1.ext _
  replace U0 : Lv M26.length M27.length M28 fun M => FlO d0 M26.length M27.length M (flV d0 Uu0) := by rw [hM28]; exact U0.ext _
  clear nrn
  try simp (config := {implicitDefEqProofs := false, maxDischargeDepth := 20}) (disch := first | omega | (simp only [lenE]; done) | (simp only [lenE]; omega) | rfl | (simp only [lenE, markR_len]; done) | (simp only [lenE, markR_len]; omega)) only [runE, mapE, listE, initT_5, initT_6, initT_7, initT_8, resV, oneV, binA, unA, reduceCtorEq, Nat.reduceEqDiff, Nat.reduceAdd, Nat.reduceLT, Nat.reduceLeDiff, Nat.reduceMul, Nat.reduceSub, ↓reduceIte, decide_true, decide_false, Bool.true_eq_false, Bool.false_eq_true, Bool.not_true, Bool.not_false, if_true, if_false, and_true, true_and, memE, celE, w64, Nat.zero_add, Nat.add_zero, Nat.mul_one, putL, and_self, ldn, id_eq, ext_2_0, ext_2_1, ext_3_0, ext_3_1, ext_3_2, ext_4_0, ext_4_1, ext_4_2, ext_4_3, beq_self_eq_true, bne_self_eq_false, gt_iff_lt, X0.mk2, X1.mk3, Z0.mk2]
  have TT := toIntsO_rc M28 _ d2 C2.now (by omega)
  first | refine callH_rc TT ?_ | refine rcallH_rc TT ?_
  clear TT
  rintro r new ⟨nrn, Uv2, Uv2e, U2⟩
  rw [id_eq] at Uv2e
  subst r
  obtain ⟨M29, hM29⟩ : ∃ M', M' = M28 ++ new := ⟨_, rfl⟩
  rw [← hM29]
  have LM29 : M29.length = M28.length + new.length := by rw [hM29, List.length_append]
  replace C0 : Lv 0 M0.length M29 fun M => FlA M (flV d0 u0) d0 := by rw [hM29]; exact C0.ext _
  replace C2 : Lv 0 M0.length M29 fun M => IntsA M v2 d2 := by rw [hM29]; exact C2.ext _
  replace X0 : BoxA M29 M0.length [.int .i64 d0.stock, u0] := by rw [hM29]; exact X0.ext _
  replace X1 : BoxA M29 (M0.length + 1) [.int .i64 d1.kind, .int .i64 d1.low, .int .i64 d1.high] := by rw [hM29]; exact X1.ext _
  replace w0 : Lv aw bw M29 fun M => IntsO W0 aw bw M vw0 := by rw [hM29]; exact w0.ext _
  replace w1 : Lv cw dw M29 fun M => IntsO W1 cw dw M vw1 := by rw [hM29]; exact w1.ext _
  replace Z0 : BoxA M29 M8.length [.int .i64 d0.stock, Yu0] := by rw [hM29]; exact Z0.ext _
  replace gm0 : Lv ag bg M29 fun M => IntsO (imarks (1) W0.length) ag bg M vg0 := by rw [hM29]; exact gm0.ext _
  replace gm1 : Lv cg dg M29 fun M => IntsO (imarks (1 + (W0.length : Int)) W1.length) cg dg M vg1 := by rw [hM29]; exact gm1.ext _
  replace U0 : Lv M26.length M27.length M29 fun M => FlO d0 M26.length M27.length M (flV d0 Uu0) := by rw [hM29]; exact U0.ext _
  clear nrn
  rw [← hM29, ← LM29] at U2
  change Lv M28.length M29.length M29 fun M => IntsO d2 M28.length M29.length M Uv2 at U2
  try simp (config := {implicitDefEqProofs := false, maxDischargeDepth := 20}) (disch := first | omega | (simp only [lenE]; done) | (simp only [lenE]; omega) | rfl | (simp only [lenE, markR_len]; done) | (simp only [lenE, markR_len]; omega)) only [runE, mapE, listE, initT_5, initT_6, initT_7, initT_8, resV, oneV, binA, unA, reduceCtorEq, Nat.reduceEqDiff, Nat.reduceAdd, Nat.reduceLT, Nat.reduceLeDiff, Nat.reduceMul, Nat.reduceSub, ↓reduceIte, decide_true, decide_false, Bool.true_eq_false, Bool.false_eq_true, Bool.not_true, Bool.not_false, if_true, if_false, and_true, true_and, memE, celE, w64, Nat.zero_add, Nat.add_zero, Nat.mul_one, putL, and_self, ldn, id_eq, ext_2_0, ext_2_1, ext_3_0, ext_3_1, ext_3_2, ext_4_0, ext_4_1, ext_4_2, ext_4_3, beq_self_eq_true, bne_self_eq_false, gt_iff_lt, X0.mk2, X1.mk3, Z0.mk2]
  first | refine callH_rc (IMP _ _ _ U0.now.in U2.now.in) ?_ | refine rcallH_rc (IMP _ _ _ U0.now.in U2.now.in) ?_
  rintro r new ⟨nrn, vh0, vh1, ah, bh, ch, dh, rfl, rah, rbh, rch, rdh, rxh, h0, h1⟩
  obtain ⟨M30, hM30⟩ : ∃ M', M' = M29 ++ new := ⟨_, rfl⟩
  rw [← hM30]
  have LM30 : M30.length = M29.length + new.length := by rw [hM30, List.length_append]
  replace C0 : Lv 0 M0.length M30 fun M => FlA M (flV d0 u0) d0 := by rw [hM30]; exact C0.ext _
  replace C2 : Lv 0 M0.length M30 fun M => IntsA M v2 d2 := by rw [hM30]; exact C2.ext _
  replace X0 : BoxA M30 M0.length [.int .i64 d0.stock, u0] := by rw [hM30]; exact X0.ext _
  replace X1 : BoxA M30 (M0.length + 1) [.int .i64 d1.kind, .int .i64 d1.low, .int .i64 d1.high] := by rw [hM30]; exact X1.ext _
  replace w0 : Lv aw bw M30 fun M => IntsO W0 aw bw M vw0 := by rw [hM30]; exact w0.ext _
  replace w1 : Lv cw dw M30 fun M => IntsO W1 cw dw M vw1 := by rw [hM30]; exact w1.ext _
  replace Z0 : BoxA M30 M8.length [.int .i64 d0.stock, Yu0] := by rw [hM30]; exact Z0.ext _
  replace gm0 : Lv ag bg M30 fun M => IntsO (imarks (1) W0.length) ag bg M vg0 := by rw [hM30]; exact gm0.ext _
  replace gm1 : Lv cg dg M30 fun M => IntsO (imarks (1 + (W0.length : Int)) W1.length) cg dg M vg1 := by rw [hM30]; exact gm1.ext _
  replace U0 : Lv M26.length M27.length M30 fun M => FlO d0 M26.length M27.length M (flV d0 Uu0) := by rw [hM30]; exact U0.ext _
  replace U2 : Lv M28.length M29.length M30 fun M => IntsO d2 M28.length M29.length M Uv2 := by rw [hM30]; exact U2.ext _
  clear nrn
  rw [← hM30] at h0 h1 rbh rdh
  have rph := h0.1
  have rqh := h1.1
  have rzh := rxh trivial
  clear rxh
  clear U0
  clear U2
  try simp (config := {implicitDefEqProofs := false, maxDischargeDepth := 20}) (disch := first | omega | (simp only [lenE]; done) | (simp only [lenE]; omega) | rfl | (simp only [lenE, markR_len]; done) | (simp only [lenE, markR_len]; omega)) only [runE, mapE, listE, initT_5, initT_6, initT_7, initT_8, resV, oneV, binA, unA, reduceCtorEq, Nat.reduceEqDiff, Nat.reduceAdd, Nat.reduceLT, Nat.reduceLeDiff, Nat.reduceMul, Nat.reduceSub, ↓reduceIte, decide_true, decide_false, Bool.true_eq_false, Bool.false_eq_true, Bool.not_true, Bool.not_false, if_true, if_false, and_true, true_and, memE, celE, w64, Nat.zero_add, Nat.add_zero, Nat.mul_one, putL, and_self, ldn, id_eq, ext_2_0, ext_2_1, ext_3_0, ext_3_1, ext_3_2, ext_4_0, ext_4_1, ext_4_2, ext_4_3, beq_self_eq_true, bne_self_eq_false, gt_iff_lt, X0.mk2, X1.mk3, Z0.mk2]
  try simp (config := {implicitDefEqProofs := false, maxDischargeDepth := 20}) (disch := first | omega | (simp only [lenE]; done) | (simp only [lenE]; omega) | rfl | (simp only [lenE, markR_len]; done) | (simp only [lenE, markR_len]; omega)) only [runE, mapE, listE, initT_5, initT_6, initT_7, initT_8, resV, oneV, binA, unA, reduceCtorEq, Nat.reduceEqDiff, Nat.reduceAdd, Nat.reduceLT, Nat.reduceLeDiff, Nat.reduceMul, Nat.reduceSub, ↓reduceIte, decide_true, decide_false, Bool.true_eq_false, Bool.false_eq_true, Bool.not_true, Bool.not_false, if_true, if_false, and_true, true_and, memE, celE, w64, Nat.zero_add, Nat.add_zero, Nat.mul_one, putL, and_self, ldn, id_eq, ext_2_0, ext_2_1, ext_3_0, ext_3_1, ext_3_2, ext_4_0, ext_4_1, ext_4_2, ext_4_3, beq_self_eq_true, bne_self_eq_false, gt_iff_lt, X0.mk2, X1.mk3, Z0.mk2]
  have TT := eqIntsO_rc M30 _ _ W0 h0.now.in w0.now.in
  first | refine callH_rc TT ?_ | refine rcallH_rc TT ?_
  clear TT
  rintro r new ⟨rfl, nrn⟩
  obtain ⟨M31, hM31⟩ : ∃ M', M' = M30 ++ new := ⟨_, rfl⟩
  rw [← hM31]
  have LM31 : M31.length = M30.length + new.length := by rw [hM31, List.length_append]
  replace C0 : Lv 0 M0.length M31 fun M => FlA M (flV d0 u0) d0 := by rw [hM31]; exact C0.ext _
  replace C2 : Lv 0 M0.length M31 fun M => IntsA M v2 d2 := by rw [hM31]; exact C2.ext _
  replace X0 : BoxA M31 M0.length [.int .i64 d0.stock, u0] := by rw [hM31]; exact X0.ext _
  replace X1 : BoxA M31 (M0.length + 1) [.int .i64 d1.kind, .int .i64 d1.low, .int .i64 d1.high] := by rw [hM31]; exact X1.ext _
  replace w0 : Lv aw bw M31 fun M => IntsO W0 aw bw M vw0 := by rw [hM31]; exact w0.ext _
  replace w1 : Lv cw dw M31 fun M => IntsO W1 cw dw M vw1 := by rw [hM31]; exact w1.ext _
  replace Z0 : BoxA M31 M8.length [.int .i64 d0.stock, Yu0] := by rw [hM31]; exact Z0.ext _
  replace gm0 : Lv ag bg M31 fun M => IntsO (imarks (1) W0.length) ag bg M vg0 := by rw [hM31]; exact gm0.ext _
  replace gm1 : Lv cg dg M31 fun M => IntsO (imarks (1 + (W0.length : Int)) W1.length) cg dg M vg1 := by rw [hM31]; exact gm1.ext _
  replace h0 : Lv ah bh M31 fun M => IntsO W0 ah bh M vh0 := by rw [hM31]; exact h0.ext _
  replace h1 : Lv ch dh M31 fun M => IntsO W1 ch dh M vh1 := by rw [hM31]; exact h1.ext _
  clear nrn
  try simp (config := {implicitDefEqProofs := false, maxDischargeDepth := 20}) (disch := first | omega | (simp only [lenE]; done) | (simp only [lenE]; omega) | rfl | (simp only [lenE, markR_len]; done) | (simp only [lenE, markR_len]; omega)) only [runE, mapE, listE, initT_5, initT_6, initT_7, initT_8, resV, oneV, binA, unA, reduceCtorEq, Nat.reduceEqDiff, Nat.reduceAdd, Nat.reduceLT, Nat.reduceLeDiff, Nat.reduceMul, Nat.reduceSub, ↓reduceIte, decide_true, decide_false, Bool.true_eq_false, Bool.false_eq_true, Bool.not_true, Bool.not_false, if_true, if_false, and_true, true_and, memE, celE, w64, Nat.zero_add, Nat.add_zero, Nat.mul_one, putL, and_self, ldn, id_eq, ext_2_0, ext_2_1, ext_3_0, ext_3_1, ext_3_2, ext_4_0, ext_4_1, ext_4_2, ext_4_3, beq_self_eq_true, bne_self_eq_false, gt_iff_lt, X0.mk2, X1.mk3, Z0.mk2]
  try simp (config := {implicitDefEqProofs := false, maxDischargeDepth := 20}) (disch := first | omega | (simp only [lenE]; done) | (simp only [lenE]; omega) | rfl | (simp only [lenE, markR_len]; done) | (simp only [lenE, markR_len]; omega)) only [runE, mapE, listE, initT_5, initT_6, initT_7, initT_8, resV, oneV, binA, unA, reduceCtorEq, Nat.reduceEqDiff, Nat.reduceAdd, Nat.reduceLT, Nat.reduceLeDiff, Nat.reduceMul, Nat.reduceSub, ↓reduceIte, decide_true, decide_false, Bool.true_eq_false, Bool.false_eq_true, Bool.not_true, Bool.not_false, if_true, if_false, and_true, true_and, memE, celE, w64, Nat.zero_add, Nat.add_zero, Nat.mul_one, putL, and_self, ldn, id_eq, ext_2_0, ext_2_1, ext_3_0, ext_3_1, ext_3_2, ext_4_0, ext_4_1, ext_4_2, ext_4_3, beq_self_eq_true, bne_self_eq_false, gt_iff_lt, X0.mk2, X1.mk3, Z0.mk2]
  have TT := eqIntsO_rc M31 _ _ W1 h1.now.in w1.now.in
  first | refine callH_rc TT ?_ | refine rcallH_rc TT ?_
  clear TT
  rintro r new ⟨rfl, nrn⟩
  obtain ⟨M32, hM32⟩ : ∃ M', M' = M31 ++ new := ⟨_, rfl⟩
  rw [← hM32]
  have LM32 : M32.length = M31.length + new.length := by rw [hM32, List.length_append]
  replace C0 : Lv 0 M0.length M32 fun M => FlA M (flV d0 u0) d0 := by rw [hM32]; exact C0.ext _
  replace C2 : Lv 0 M0.length M32 fun M => IntsA M v2 d2 := by rw [hM32]; exact C2.ext _
  replace X0 : BoxA M32 M0.length [.int .i64 d0.stock, u0] := by rw [hM32]; exact X0.ext _
  replace X1 : BoxA M32 (M0.length + 1) [.int .i64 d1.kind, .int .i64 d1.low, .int .i64 d1.high] := by rw [hM32]; exact X1.ext _
  replace w0 : Lv aw bw M32 fun M => IntsO W0 aw bw M vw0 := by rw [hM32]; exact w0.ext _
  replace w1 : Lv cw dw M32 fun M => IntsO W1 cw dw M vw1 := by rw [hM32]; exact w1.ext _
  replace Z0 : BoxA M32 M8.length [.int .i64 d0.stock, Yu0] := by rw [hM32]; exact Z0.ext _
  replace gm0 : Lv ag bg M32 fun M => IntsO (imarks (1) W0.length) ag bg M vg0 := by rw [hM32]; exact gm0.ext _
  replace gm1 : Lv cg dg M32 fun M => IntsO (imarks (1 + (W0.length : Int)) W1.length) cg dg M vg1 := by rw [hM32]; exact gm1.ext _
  replace h0 : Lv ah bh M32 fun M => IntsO W0 ah bh M vh0 := by rw [hM32]; exact h0.ext _
  replace h1 : Lv ch dh M32 fun M => IntsO W1 ch dh M vh1 := by rw [hM32]; exact h1.ext _
  clear nrn
  try simp (config := {implicitDefEqProofs := false, maxDischargeDepth := 20}) (disch := first | omega | (simp only [lenE]; done) | (simp only [lenE]; omega) | rfl | (simp only [lenE, markR_len]; done) | (simp only [lenE, markR_len]; omega)) only [runE, mapE, listE, initT_5, initT_6, initT_7, initT_8, resV, oneV, binA, unA, reduceCtorEq, Nat.reduceEqDiff, Nat.reduceAdd, Nat.reduceLT, Nat.reduceLeDiff, Nat.reduceMul, Nat.reduceSub, ↓reduceIte, decide_true, decide_false, Bool.true_eq_false, Bool.false_eq_true, Bool.not_true, Bool.not_false, if_true, if_false, and_true, true_and, memE, celE, w64, Nat.zero_add, Nat.add_zero, Nat.mul_one, putL, and_self, ldn, id_eq, ext_2_0, ext_2_1, ext_3_0, ext_3_1, ext_3_2, ext_4_0, ext_4_1, ext_4_2, ext_4_3, beq_self_eq_true, bne_self_eq_false, gt_iff_lt, X0.mk2, X1.mk3, Z0.mk2]
  try simp (config := {implicitDefEqProofs := false, maxDischargeDepth := 20}) (disch := first | omega | (simp only [lenE]; done) | (simp only [lenE]; omega) | rfl | (simp only [lenE, markR_len]; done) | (simp only [lenE, markR_len]; omega)) only [runE, mapE, listE, initT_5, initT_6, initT_7, initT_8, resV, oneV, binA, unA, reduceCtorEq, Nat.reduceEqDiff, Nat.reduceAdd, Nat.reduceLT, Nat.reduceLeDiff, Nat.reduceMul, Nat.reduceSub, ↓reduceIte, decide_true, decide_false, Bool.true_eq_false, Bool.false_eq_true, Bool.not_true, Bool.not_false, if_true, if_false, and_true, true_and, memE, celE, w64, Nat.zero_add, Nat.add_zero, Nat.mul_one, putL, and_self, ldn, id_eq, ext_2_0, ext_2_1, ext_3_0, ext_3_1, ext_3_2, ext_4_0, ext_4_1, ext_4_2, ext_4_3, beq_self_eq_true, bne_self_eq_false, gt_iff_lt, X0.mk2, X1.mk3, Z0.mk2]
  refine callH_rc (heldIntsO_rc _ _ (1) W0.length gm0.now.in (by omega) (by omega) (by omega)) ?_
  rintro r new ⟨rfl, nrn⟩
  obtain ⟨M33, hM33⟩ : ∃ M', M' = M32 ++ new := ⟨_, rfl⟩
  rw [← hM33]
  have LM33 : M33.length = M32.length + new.length := by rw [hM33, List.length_append]
  replace C0 : Lv 0 M0.length M33 fun M => FlA M (flV d0 u0) d0 := by rw [hM33]; exact C0.ext _
  replace C2 : Lv 0 M0.length M33 fun M => IntsA M v2 d2 := by rw [hM33]; exact C2.ext _
  replace X0 : BoxA M33 M0.length [.int .i64 d0.stock, u0] := by rw [hM33]; exact X0.ext _
  replace X1 : BoxA M33 (M0.length + 1) [.int .i64 d1.kind, .int .i64 d1.low, .int .i64 d1.high] := by rw [hM33]; exact X1.ext _
  replace w0 : Lv aw bw M33 fun M => IntsO W0 aw bw M vw0 := by rw [hM33]; exact w0.ext _
  replace w1 : Lv cw dw M33 fun M => IntsO W1 cw dw M vw1 := by rw [hM33]; exact w1.ext _
  replace Z0 : BoxA M33 M8.length [.int .i64 d0.stock, Yu0] := by rw [hM33]; exact Z0.ext _
  replace gm0 : Lv ag bg M33 fun M => IntsO (imarks (1) W0.length) ag bg M vg0 := by rw [hM33]; exact gm0.ext _
  replace gm1 : Lv cg dg M33 fun M => IntsO (imarks (1 + (W0.length : Int)) W1.length) cg dg M vg1 := by rw [hM33]; exact gm1.ext _
  replace h0 : Lv ah bh M33 fun M => IntsO W0 ah bh M vh0 := by rw [hM33]; exact h0.ext _
  replace h1 : Lv ch dh M33 fun M => IntsO W1 ch dh M vh1 := by rw [hM33]; exact h1.ext _
  clear nrn
  try simp (config := {implicitDefEqProofs := false, maxDischargeDepth := 20}) (disch := first | omega | (simp only [lenE]; done) | (simp only [lenE]; omega) | rfl | (simp only [lenE, markR_len]; done) | (simp only [lenE, markR_len]; omega)) only [runE, mapE, listE, initT_5, initT_6, initT_7, initT_8, resV, oneV, binA, unA, reduceCtorEq, Nat.reduceEqDiff, Nat.reduceAdd, Nat.reduceLT, Nat.reduceLeDiff, Nat.reduceMul, Nat.reduceSub, ↓reduceIte, decide_true, decide_false, Bool.true_eq_false, Bool.false_eq_true, Bool.not_true, Bool.not_false, if_true, if_false, and_true, true_and, memE, celE, w64, Nat.zero_add, Nat.add_zero, Nat.mul_one, putL, and_self, ldn, id_eq, ext_2_0, ext_2_1, ext_3_0, ext_3_1, ext_3_2, ext_4_0, ext_4_1, ext_4_2, ext_4_3, beq_self_eq_true, bne_self_eq_false, gt_iff_lt, hkq0, X0.mk2, X1.mk3, Z0.mk2]
  try simp (config := {implicitDefEqProofs := false, maxDischargeDepth := 20}) (disch := first | omega | (simp only [lenE]; done) | (simp only [lenE]; omega) | rfl | (simp only [lenE, markR_len]; done) | (simp only [lenE, markR_len]; omega)) only [runE, mapE, listE, initT_5, initT_6, initT_7, initT_8, resV, oneV, binA, unA, reduceCtorEq, Nat.reduceEqDiff, Nat.reduceAdd, Nat.reduceLT, Nat.reduceLeDiff, Nat.reduceMul, Nat.reduceSub, ↓reduceIte, decide_true, decide_false, Bool.true_eq_false, Bool.false_eq_true, Bool.not_true, Bool.not_false, if_true, if_false, and_true, true_and, memE, celE, w64, Nat.zero_add, Nat.add_zero, Nat.mul_one, putL, and_self, ldn, id_eq, ext_2_0, ext_2_1, ext_3_0, ext_3_1, ext_3_2, ext_4_0, ext_4_1, ext_4_2, ext_4_3, beq_self_eq_true, bne_self_eq_false, gt_iff_lt, X0.mk2, X1.mk3, Z0.mk2]
  refine callH_rc (heldIntsO_rc _ _ (1 + (W0.length : Int)) W1.length gm1.now.in (by omega) (by omega) (by omega)) ?_
  rintro r new ⟨rfl, nrn⟩
  obtain ⟨M34, hM34⟩ : ∃ M', M' = M33 ++ new := ⟨_, rfl⟩
  rw [← hM34]
  have LM34 : M34.length = M33.length + new.length := by rw [hM34, List.length_append]
  replace C0 : Lv 0 M0.length M34 fun M => FlA M (flV d0 u0) d0 := by rw [hM34]; exact C0.ext _
  replace C2 : Lv 0 M0.length M34 fun M => IntsA M v2 d2 := by rw [hM34]; exact C2.ext _
  replace X0 : BoxA M34 M0.length [.int .i64 d0.stock, u0] := by rw [hM34]; exact X0.ext _
  replace X1 : BoxA M34 (M0.length + 1) [.int .i64 d1.kind, .int .i64 d1.low, .int .i64 d1.high] := by rw [hM34]; exact X1.ext _
  replace w0 : Lv aw bw M34 fun M => IntsO W0 aw bw M vw0 := by rw [hM34]; exact w0.ext _
  replace w1 : Lv cw dw M34 fun M => IntsO W1 cw dw M vw1 := by rw [hM34]; exact w1.ext _
  replace Z0 : BoxA M34 M8.length [.int .i64 d0.stock, Yu0] := by rw [hM34]; exact Z0.ext _
  replace gm0 : Lv ag bg M34 fun M => IntsO (imarks (1) W0.length) ag bg M vg0 := by rw [hM34]; exact gm0.ext _
  replace gm1 : Lv cg dg M34 fun M => IntsO (imarks (1 + (W0.length : Int)) W1.length) cg dg M vg1 := by rw [hM34]; exact gm1.ext _
  replace h0 : Lv ah bh M34 fun M => IntsO W0 ah bh M vh0 := by rw [hM34]; exact h0.ext _
  replace h1 : Lv ch dh M34 fun M => IntsO W1 ch dh M vh1 := by rw [hM34]; exact h1.ext _
  clear nrn
  try simp (config := {implicitDefEqProofs := false, maxDischargeDepth := 20}) (disch := first | omega | (simp only [lenE]; done) | (simp only [lenE]; omega) | rfl | (simp only [lenE, markR_len]; done) | (simp only [lenE, markR_len]; omega)) only [runE, mapE, listE, initT_5, initT_6, initT_7, initT_8, resV, oneV, binA, unA, reduceCtorEq, Nat.reduceEqDiff, Nat.reduceAdd, Nat.reduceLT, Nat.reduceLeDiff, Nat.reduceMul, Nat.reduceSub, ↓reduceIte, decide_true, decide_false, Bool.true_eq_false, Bool.false_eq_true, Bool.not_true, Bool.not_false, if_true, if_false, and_true, true_and, memE, celE, w64, Nat.zero_add, Nat.add_zero, Nat.mul_one, putL, and_self, ldn, id_eq, ext_2_0, ext_2_1, ext_3_0, ext_3_1, ext_3_2, ext_4_0, ext_4_1, ext_4_2, ext_4_3, beq_self_eq_true, bne_self_eq_false, gt_iff_lt, hkq1, X0.mk2, X1.mk3, Z0.mk2]
end Go.Proofs.Ytnkbjliidenldaa.Ab
