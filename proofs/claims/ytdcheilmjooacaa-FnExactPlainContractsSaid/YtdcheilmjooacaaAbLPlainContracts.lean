/- FnExactPlainContracts: its running over abstract memory. -/
import Derived.Test.YtdcheilmjooacaaAbMk7
import Derived.Test.YtdcheilmjooacaaAbMkArg
import Derived.Test.YtdcheilmjooacaaAbMarks
import Derived.Test.YtdcheilmjooacaaAbBox
import Derived.Test.YtdcheilmjooacaaAbArg
import Derived.Test.YtdcheilmjooacaaCodLPlainContracts
namespace Go.Proofs.Ytdcheilmjooacaa.Ab
open Go Go.RowKit
set_option linter.unusedVariables false
set_option linter.unusedSimpArgs false
set_option maxRecDepth 100000

set_option maxHeartbeats 4000000 in
theorem law_FnExactPlainContracts (M0 : Mem) (d0 : Mk) (v0 : Value) (A0 : MkA M0 v0 d0) :
    AC Try.prog 17 [v0] M0 fun r _ => r = .bool true := by
  refine ac_of_run mixed ok_laws_FnExactPlainContracts (by simp) (go_start _ _ _ ?_)
  have A0c := A0
  obtain ⟨u0, rfl, -⟩ := A0c
  have C0 : Lv 0 M0.length M0 fun M => MkA M (mkV d0 u0) d0 := Lv.all fun new => A0.ext new
  try simp (config := {implicitDefEqProofs := false, maxDischargeDepth := 20}) (disch := first | omega | (simp only [lenE]; done) | (simp only [lenE]; omega) | rfl | (simp only [lenE, markR_len]; done) | (simp only [lenE, markR_len]; omega)) only [runE, mapE, listE, initT_5, initT_6, initT_7, initT_8, resV, oneV, binA, unA, reduceCtorEq, Nat.reduceEqDiff, Nat.reduceAdd, Nat.reduceLT, Nat.reduceLeDiff, Nat.reduceMul, Nat.reduceSub, ↓reduceIte, decide_true, decide_false, Bool.true_eq_false, Bool.false_eq_true, Bool.not_true, Bool.not_false, if_true, if_false, and_true, true_and, memE, celE, w64, Nat.zero_add, Nat.add_zero, Nat.mul_one, putL, and_self, ldn, c_laws_FnExactPlainContracts, r_laws_FnExactPlainContracts, id_eq, ext_2_0, ext_2_1, ext_3_0, ext_3_1, ext_3_2, ext_4_0, ext_4_1, ext_4_2, ext_4_3, beq_self_eq_true, bne_self_eq_false, gt_iff_lt]
  obtain ⟨M1, hM1⟩ : ∃ M', M' = M0 ++ [⟨.own, 24, [u0, .int .i64 d0.price, .int .i64 d0.make, .int .i64 d0.left]⟩] := ⟨_, rfl⟩
  rw [← hM1]
  have LM1 : M1.length = M0.length + 1 := by rw [hM1, List.length_append]; rfl
  replace C0 : Lv 0 M0.length M1 fun M => MkA M (mkV d0 u0) d0 := by rw [hM1]; exact C0.ext _
  have X0 : BoxA M1 M0.length [u0, .int .i64 d0.price, .int .i64 d0.make, .int .i64 d0.left] := by rw [hM1]; exact BoxA.here _ _ _ (by omega)
  try simp (config := {implicitDefEqProofs := false, maxDischargeDepth := 20}) (disch := first | omega | (simp only [lenE]; done) | (simp only [lenE]; omega) | rfl | (simp only [lenE, markR_len]; done) | (simp only [lenE, markR_len]; omega)) only [runE, mapE, listE, initT_5, initT_6, initT_7, initT_8, resV, oneV, binA, unA, reduceCtorEq, Nat.reduceEqDiff, Nat.reduceAdd, Nat.reduceLT, Nat.reduceLeDiff, Nat.reduceMul, Nat.reduceSub, ↓reduceIte, decide_true, decide_false, Bool.true_eq_false, Bool.false_eq_true, Bool.not_true, Bool.not_false, if_true, if_false, and_true, true_and, memE, celE, w64, Nat.zero_add, Nat.add_zero, Nat.mul_one, putL, and_self, ldn, id_eq, ext_2_0, ext_2_1, ext_3_0, ext_3_1, ext_3_2, ext_4_0, ext_4_1, ext_4_2, ext_4_3, beq_self_eq_true, bne_self_eq_false, gt_iff_lt, X0.mk4]
  refine callH_rc (szMarket_rc _ _ d0 1048576 C0.now (by omega) (by omega)) ?_
  rintro r new ⟨nrn, rfl | ⟨z1, za1, zb1, rfl, hs0⟩⟩
  · simp (config := {implicitDefEqProofs := false, maxDischargeDepth := 20}) (disch := first | omega | (simp only [lenE]; done) | (simp only [lenE]; omega) | rfl | (simp only [lenE, markR_len]; done) | (simp only [lenE, markR_len]; omega)) only [runE, mapE, listE, initT_5, initT_6, initT_7, initT_8, resV, oneV, binA, unA, reduceCtorEq, Nat.reduceEqDiff, Nat.reduceAdd, Nat.reduceLT, Nat.reduceLeDiff, Nat.reduceMul, Nat.reduceSub, ↓reduceIte, decide_true, decide_false, Bool.true_eq_false, Bool.false_eq_true, Bool.not_true, Bool.not_false, if_true, if_false, and_true, true_and, memE, celE, w64, Nat.zero_add, Nat.add_zero, Nat.mul_one, putL, and_self, ldn, show ((-1 : Int) < 0) = True by simp]
  have zc1 : ¬ (z1 < 0) := by omega
  obtain ⟨M2, hM2⟩ : ∃ M', M' = M1 ++ new := ⟨_, rfl⟩
  rw [← hM2]
  have LM2 : M2.length = M1.length + new.length := by rw [hM2, List.length_append]
  replace C0 : Lv 0 M0.length M2 fun M => MkA M (mkV d0 u0) d0 := by rw [hM2]; exact C0.ext _
  replace X0 : BoxA M2 M0.length [u0, .int .i64 d0.price, .int .i64 d0.make, .int .i64 d0.left] := by rw [hM2]; exact X0.ext _
  clear nrn
  try simp (config := {implicitDefEqProofs := false, maxDischargeDepth := 20}) (disch := first | omega | (simp only [lenE]; done) | (simp only [lenE]; omega) | rfl | (simp only [lenE, markR_len]; done) | (simp only [lenE, markR_len]; omega)) only [runE, mapE, listE, initT_5, initT_6, initT_7, initT_8, resV, oneV, binA, unA, reduceCtorEq, Nat.reduceEqDiff, Nat.reduceAdd, Nat.reduceLT, Nat.reduceLeDiff, Nat.reduceMul, Nat.reduceSub, ↓reduceIte, decide_true, decide_false, Bool.true_eq_false, Bool.false_eq_true, Bool.not_true, Bool.not_false, if_true, if_false, and_true, true_and, memE, celE, w64, Nat.zero_add, Nat.add_zero, Nat.mul_one, putL, and_self, ldn, id_eq, ext_2_0, ext_2_1, ext_3_0, ext_3_1, ext_3_2, ext_4_0, ext_4_1, ext_4_2, ext_4_3, beq_self_eq_true, bne_self_eq_false, gt_iff_lt, zc1, X0.mk4]
  obtain ⟨W, hW⟩ : ∃ W : List (Int × Int), W = (plainsA d0) := ⟨_, rfl⟩
  obtain ⟨q0, hq0⟩ : ∃ q : Bool, q = d0.good := ⟨_, rfl⟩
  have SPC := fun m u0 => specPlainContracts_rc m u0 d0
  have IMP := fun m u0 => implPlainContracts_rc m u0 d0
  try rw [← hW] at SPC
  try rw [← hW] at IMP
  try rw [← hq0] at SPC
  try rw [← hq0] at IMP
  try simp (config := {implicitDefEqProofs := false, maxDischargeDepth := 20}) (disch := first | omega | (simp only [lenE]; done) | (simp only [lenE]; omega) | rfl | (simp only [lenE, markR_len]; done) | (simp only [lenE, markR_len]; omega)) only [runE, mapE, listE, initT_5, initT_6, initT_7, initT_8, resV, oneV, binA, unA, reduceCtorEq, Nat.reduceEqDiff, Nat.reduceAdd, Nat.reduceLT, Nat.reduceLeDiff, Nat.reduceMul, Nat.reduceSub, ↓reduceIte, decide_true, decide_false, Bool.true_eq_false, Bool.false_eq_true, Bool.not_true, Bool.not_false, if_true, if_false, and_true, true_and, memE, celE, w64, Nat.zero_add, Nat.add_zero, Nat.mul_one, putL, and_self, ldn, id_eq, ext_2_0, ext_2_1, ext_3_0, ext_3_1, ext_3_2, ext_4_0, ext_4_1, ext_4_2, ext_4_3, beq_self_eq_true, bne_self_eq_false, gt_iff_lt, X0.mk4]
  have TT := toMarket_rc M2 _ d0 C0.now hs0
  first | refine callH_rc TT ?_ | refine rcallH_rc TT ?_
  clear TT
  rintro r new ⟨nrn, Sv0, Sv0e, S0⟩
  rw [id_eq] at Sv0e
  subst r
  obtain ⟨M3, hM3⟩ : ∃ M', M' = M2 ++ new := ⟨_, rfl⟩
  rw [← hM3]
  have LM3 : M3.length = M2.length + new.length := by rw [hM3, List.length_append]
  replace C0 : Lv 0 M0.length M3 fun M => MkA M (mkV d0 u0) d0 := by rw [hM3]; exact C0.ext _
  replace X0 : BoxA M3 M0.length [u0, .int .i64 d0.price, .int .i64 d0.make, .int .i64 d0.left] := by rw [hM3]; exact X0.ext _
  clear nrn
  rw [← hM3, ← LM3] at S0
  obtain ⟨Su0, rfl, -⟩ := S0.now.in
  change Lv M2.length M3.length M3 fun M => MkO d0 M2.length M3.length M (mkV d0 Su0) at S0
  try simp (config := {implicitDefEqProofs := false, maxDischargeDepth := 20}) (disch := first | omega | (simp only [lenE]; done) | (simp only [lenE]; omega) | rfl | (simp only [lenE, markR_len]; done) | (simp only [lenE, markR_len]; omega)) only [runE, mapE, listE, initT_5, initT_6, initT_7, initT_8, resV, oneV, binA, unA, reduceCtorEq, Nat.reduceEqDiff, Nat.reduceAdd, Nat.reduceLT, Nat.reduceLeDiff, Nat.reduceMul, Nat.reduceSub, ↓reduceIte, decide_true, decide_false, Bool.true_eq_false, Bool.false_eq_true, Bool.not_true, Bool.not_false, if_true, if_false, and_true, true_and, memE, celE, w64, Nat.zero_add, Nat.add_zero, Nat.mul_one, putL, and_self, ldn, id_eq, ext_2_0, ext_2_1, ext_3_0, ext_3_1, ext_3_2, ext_4_0, ext_4_1, ext_4_2, ext_4_3, beq_self_eq_true, bne_self_eq_false, gt_iff_lt, X0.mk4]
  first | refine callH_rc (SPC _ _ S0.now.in) ?_ | refine rcallH_rc (SPC _ _ S0.now.in) ?_
  rintro r new ⟨nrn, vw, rfl, w⟩
  obtain ⟨M4, hM4⟩ : ∃ M', M' = M3 ++ new := ⟨_, rfl⟩
  rw [← hM4]
  have LM4 : M4.length = M3.length + new.length := by rw [hM4, List.length_append]
  replace C0 : Lv 0 M0.length M4 fun M => MkA M (mkV d0 u0) d0 := by rw [hM4]; exact C0.ext _
  replace X0 : BoxA M4 M0.length [u0, .int .i64 d0.price, .int .i64 d0.make, .int .i64 d0.left] := by rw [hM4]; exact X0.ext _
  replace S0 : Lv M2.length M3.length M4 fun M => MkO d0 M2.length M3.length M (mkV d0 Su0) := by rw [hM4]; exact S0.ext _
  clear nrn
  rw [← hM4, ← LM4] at w
  clear S0
  try simp (config := {implicitDefEqProofs := false, maxDischargeDepth := 20}) (disch := first | omega | (simp only [lenE]; done) | (simp only [lenE]; omega) | rfl | (simp only [lenE, markR_len]; done) | (simp only [lenE, markR_len]; omega)) only [runE, mapE, listE, initT_5, initT_6, initT_7, initT_8, resV, oneV, binA, unA, reduceCtorEq, Nat.reduceEqDiff, Nat.reduceAdd, Nat.reduceLT, Nat.reduceLeDiff, Nat.reduceMul, Nat.reduceSub, ↓reduceIte, decide_true, decide_false, Bool.true_eq_false, Bool.false_eq_true, Bool.not_true, Bool.not_false, if_true, if_false, and_true, true_and, memE, celE, w64, Nat.zero_add, Nat.add_zero, Nat.mul_one, putL, and_self, ldn, id_eq, ext_2_0, ext_2_1, ext_3_0, ext_3_1, ext_3_2, ext_4_0, ext_4_1, ext_4_2, ext_4_3, beq_self_eq_true, bne_self_eq_false, gt_iff_lt, X0.mk4]
  have TT := toMarket_rc M4 _ d0 C0.now hs0
  first | refine callH_rc TT ?_ | refine rcallH_rc TT ?_
  clear TT
  rintro r new ⟨nrn, Yv0, Yv0e, Y0⟩
  rw [id_eq] at Yv0e
  subst r
  obtain ⟨M5, hM5⟩ : ∃ M', M' = M4 ++ new := ⟨_, rfl⟩
  rw [← hM5]
  have LM5 : M5.length = M4.length + new.length := by rw [hM5, List.length_append]
  replace C0 : Lv 0 M0.length M5 fun M => MkA M (mkV d0 u0) d0 := by rw [hM5]; exact C0.ext _
  replace X0 : BoxA M5 M0.length [u0, .int .i64 d0.price, .int .i64 d0.make, .int .i64 d0.left] := by rw [hM5]; exact X0.ext _
  replace w : Lv M3.length M4.length M5 fun M => PairsO 83 W M3.length M4.length M vw := by rw [hM5]; exact w.ext _
  clear nrn
  rw [← hM5, ← LM5] at Y0
  obtain ⟨Yu0, rfl, -⟩ := Y0.now.in
  change Lv M4.length M5.length M5 fun M => MkO d0 M4.length M5.length M (mkV d0 Yu0) at Y0
  have on00 := fun xs => MkA.one Y0.now.in xs
  try simp (config := {implicitDefEqProofs := false, maxDischargeDepth := 20}) (disch := first | omega | (simp only [lenE]; done) | (simp only [lenE]; omega) | rfl | (simp only [lenE, markR_len]; done) | (simp only [lenE, markR_len]; omega)) only [runE, mapE, listE, initT_5, initT_6, initT_7, initT_8, resV, oneV, binA, unA, reduceCtorEq, Nat.reduceEqDiff, Nat.reduceAdd, Nat.reduceLT, Nat.reduceLeDiff, Nat.reduceMul, Nat.reduceSub, ↓reduceIte, decide_true, decide_false, Bool.true_eq_false, Bool.false_eq_true, Bool.not_true, Bool.not_false, if_true, if_false, and_true, true_and, memE, celE, w64, Nat.zero_add, Nat.add_zero, Nat.mul_one, putL, and_self, ldn, id_eq, ext_2_0, ext_2_1, ext_3_0, ext_3_1, ext_3_2, ext_4_0, ext_4_1, ext_4_2, ext_4_3, beq_self_eq_true, bne_self_eq_false, gt_iff_lt, on00, X0.mk4]
  obtain ⟨M6, hM6⟩ : ∃ M', M' = M5 ++ [⟨.own, 27, [Yu0, .int .i64 d0.price, .int .i64 d0.make, .int .i64 d0.left]⟩] := ⟨_, rfl⟩
  rw [← hM6]
  have LM6 : M6.length = M5.length + 1 := by rw [hM6, List.length_append]; rfl
  replace C0 : Lv 0 M0.length M6 fun M => MkA M (mkV d0 u0) d0 := by rw [hM6]; exact C0.ext _
  replace X0 : BoxA M6 M0.length [u0, .int .i64 d0.price, .int .i64 d0.make, .int .i64 d0.left] := by rw [hM6]; exact X0.ext _
  replace w : Lv M3.length M4.length M6 fun M => PairsO 83 W M3.length M4.length M vw := by rw [hM6]; exact w.ext _
  replace Y0 : Lv M4.length M5.length M6 fun M => MkO d0 M4.length M5.length M (mkV d0 Yu0) := by rw [hM6]; exact Y0.ext _
  have Z0 : BoxA M6 M5.length [Yu0, .int .i64 d0.price, .int .i64 d0.make, .int .i64 d0.left] := by rw [hM6]; exact BoxA.here _ _ _ rfl
  try simp (config := {implicitDefEqProofs := false, maxDischargeDepth := 20}) (disch := first | omega | (simp only [lenE]; done) | (simp only [lenE]; omega) | rfl | (simp only [lenE, markR_len]; done) | (simp only [lenE, markR_len]; omega)) only [runE, mapE, listE, initT_5, initT_6, initT_7, initT_8, resV, oneV, binA, unA, reduceCtorEq, Nat.reduceEqDiff, Nat.reduceAdd, Nat.reduceLT, Nat.reduceLeDiff, Nat.reduceMul, Nat.reduceSub, ↓reduceIte, decide_true, decide_false, Bool.true_eq_false, Bool.false_eq_true, Bool.not_true, Bool.not_false, if_true, if_false, and_true, true_and, memE, celE, w64, Nat.zero_add, Nat.add_zero, Nat.mul_one, putL, and_self, ldn, id_eq, ext_2_0, ext_2_1, ext_3_0, ext_3_1, ext_3_2, ext_4_0, ext_4_1, ext_4_2, ext_4_3, beq_self_eq_true, bne_self_eq_false, gt_iff_lt, X0.mk4, Z0.mk4]
  first | refine callH_rc (IMP _ _ Y0.now.in) ?_ | refine rcallH_rc (IMP _ _ Y0.now.in) ?_
  rintro r new ⟨nrn, vg, rfl, g⟩
  obtain ⟨M7, hM7⟩ : ∃ M', M' = M6 ++ new := ⟨_, rfl⟩
  rw [← hM7]
  have LM7 : M7.length = M6.length + new.length := by rw [hM7, List.length_append]
  replace C0 : Lv 0 M0.length M7 fun M => MkA M (mkV d0 u0) d0 := by rw [hM7]; exact C0.ext _
  replace X0 : BoxA M7 M0.length [u0, .int .i64 d0.price, .int .i64 d0.make, .int .i64 d0.left] := by rw [hM7]; exact X0.ext _
  replace w : Lv M3.length M4.length M7 fun M => PairsO 83 W M3.length M4.length M vw := by rw [hM7]; exact w.ext _
  replace Y0 : Lv M4.length M5.length M7 fun M => MkO d0 M4.length M5.length M (mkV d0 Yu0) := by rw [hM7]; exact Y0.ext _
  replace Z0 : BoxA M7 M5.length [Yu0, .int .i64 d0.price, .int .i64 d0.make, .int .i64 d0.left] := by rw [hM7]; exact Z0.ext _
  clear nrn
  rw [← hM7, ← LM7] at g
  try simp (config := {implicitDefEqProofs := false, maxDischargeDepth := 20}) (disch := first | omega | (simp only [lenE]; done) | (simp only [lenE]; omega) | rfl | (simp only [lenE, markR_len]; done) | (simp only [lenE, markR_len]; omega)) only [runE, mapE, listE, initT_5, initT_6, initT_7, initT_8, resV, oneV, binA, unA, reduceCtorEq, Nat.reduceEqDiff, Nat.reduceAdd, Nat.reduceLT, Nat.reduceLeDiff, Nat.reduceMul, Nat.reduceSub, ↓reduceIte, decide_true, decide_false, Bool.true_eq_false, Bool.false_eq_true, Bool.not_true, Bool.not_false, if_true, if_false, and_true, true_and, memE, celE, w64, Nat.zero_add, Nat.add_zero, Nat.mul_one, putL, and_self, ldn, id_eq, ext_2_0, ext_2_1, ext_3_0, ext_3_1, ext_3_2, ext_4_0, ext_4_1, ext_4_2, ext_4_3, beq_self_eq_true, bne_self_eq_false, gt_iff_lt, X0.mk4, Z0.mk4]
  have TT := eqIntA2S_rc M7 _ _ W g.now.in w.now.in
  refine callH_rc TT ?_
  clear TT
  rintro r new ⟨rfl, nrn⟩
  obtain ⟨M8, hM8⟩ : ∃ M', M' = M7 ++ new := ⟨_, rfl⟩
  rw [← hM8]
  have LM8 : M8.length = M7.length + new.length := by rw [hM8, List.length_append]
  replace C0 : Lv 0 M0.length M8 fun M => MkA M (mkV d0 u0) d0 := by rw [hM8]; exact C0.ext _
  replace X0 : BoxA M8 M0.length [u0, .int .i64 d0.price, .int .i64 d0.make, .int .i64 d0.left] := by rw [hM8]; exact X0.ext _
  replace w : Lv M3.length M4.length M8 fun M => PairsO 83 W M3.length M4.length M vw := by rw [hM8]; exact w.ext _
  replace Y0 : Lv M4.length M5.length M8 fun M => MkO d0 M4.length M5.length M (mkV d0 Yu0) := by rw [hM8]; exact Y0.ext _
  replace Z0 : BoxA M8 M5.length [Yu0, .int .i64 d0.price, .int .i64 d0.make, .int .i64 d0.left] := by rw [hM8]; exact Z0.ext _
  replace g : Lv M6.length M7.length M8 fun M => PairsO 83 W M6.length M7.length M vg := by rw [hM8]; exact g.ext _
  clear nrn
  try simp (config := {implicitDefEqProofs := false, maxDischargeDepth := 20}) (disch := first | omega | (simp only [lenE]; done) | (simp only [lenE]; omega) | rfl | (simp only [lenE, markR_len]; done) | (simp only [lenE, markR_len]; omega)) only [runE, mapE, listE, initT_5, initT_6, initT_7, initT_8, resV, oneV, binA, unA, reduceCtorEq, Nat.reduceEqDiff, Nat.reduceAdd, Nat.reduceLT, Nat.reduceLeDiff, Nat.reduceMul, Nat.reduceSub, ↓reduceIte, decide_true, decide_false, Bool.true_eq_false, Bool.false_eq_true, Bool.not_true, Bool.not_false, if_true, if_false, and_true, true_and, memE, celE, w64, Nat.zero_add, Nat.add_zero, Nat.mul_one, putL, and_self, ldn, id_eq, ext_2_0, ext_2_1, ext_3_0, ext_3_1, ext_3_2, ext_4_0, ext_4_1, ext_4_2, ext_4_3, beq_self_eq_true, bne_self_eq_false, gt_iff_lt, X0.mk4, Z0.mk4]
  try simp (config := {implicitDefEqProofs := false, maxDischargeDepth := 20}) (disch := first | omega | (simp only [lenE]; done) | (simp only [lenE]; omega) | rfl | (simp only [lenE, markR_len]; done) | (simp only [lenE, markR_len]; omega)) only [runE, mapE, listE, initT_5, initT_6, initT_7, initT_8, resV, oneV, binA, unA, reduceCtorEq, Nat.reduceEqDiff, Nat.reduceAdd, Nat.reduceLT, Nat.reduceLeDiff, Nat.reduceMul, Nat.reduceSub, ↓reduceIte, decide_true, decide_false, Bool.true_eq_false, Bool.false_eq_true, Bool.not_true, Bool.not_false, if_true, if_false, and_true, true_and, memE, celE, w64, Nat.zero_add, Nat.add_zero, Nat.mul_one, putL, and_self, ldn, id_eq, ext_2_0, ext_2_1, ext_3_0, ext_3_1, ext_3_2, ext_4_0, ext_4_1, ext_4_2, ext_4_3, beq_self_eq_true, bne_self_eq_false, gt_iff_lt, X0.mk4, Z0.mk4]
  have TT := toMarket_rc M8 _ d0 C0.now hs0
  first | refine callH_rc TT ?_ | refine rcallH_rc TT ?_
  clear TT
  rintro r new ⟨nrn, Tv0, Tv0e, T0⟩
  rw [id_eq] at Tv0e
  subst r
  obtain ⟨M9, hM9⟩ : ∃ M', M' = M8 ++ new := ⟨_, rfl⟩
  rw [← hM9]
  have LM9 : M9.length = M8.length + new.length := by rw [hM9, List.length_append]
  replace C0 : Lv 0 M0.length M9 fun M => MkA M (mkV d0 u0) d0 := by rw [hM9]; exact C0.ext _
  replace X0 : BoxA M9 M0.length [u0, .int .i64 d0.price, .int .i64 d0.make, .int .i64 d0.left] := by rw [hM9]; exact X0.ext _
  replace w : Lv M3.length M4.length M9 fun M => PairsO 83 W M3.length M4.length M vw := by rw [hM9]; exact w.ext _
  replace Y0 : Lv M4.length M5.length M9 fun M => MkO d0 M4.length M5.length M (mkV d0 Yu0) := by rw [hM9]; exact Y0.ext _
  replace Z0 : BoxA M9 M5.length [Yu0, .int .i64 d0.price, .int .i64 d0.make, .int .i64 d0.left] := by rw [hM9]; exact Z0.ext _
  replace g : Lv M6.length M7.length M9 fun M => PairsO 83 W M6.length M7.length M vg := by rw [hM9]; exact g.ext _
  clear nrn
  rw [← hM9, ← LM9] at T0
  obtain ⟨Tu0, rfl, -⟩ := T0.now.in
  change Lv M8.length M9.length M9 fun M => MkO d0 M8.length M9.length M (mkV d0 Tu0) at T0
  try simp (config := {implicitDefEqProofs := false, maxDischargeDepth := 20}) (disch := first | omega | (simp only [lenE]; done) | (simp only [lenE]; omega) | rfl | (simp only [lenE, markR_len]; done) | (simp only [lenE, markR_len]; omega)) only [runE, mapE, listE, initT_5, initT_6, initT_7, initT_8, resV, oneV, binA, unA, reduceCtorEq, Nat.reduceEqDiff, Nat.reduceAdd, Nat.reduceLT, Nat.reduceLeDiff, Nat.reduceMul, Nat.reduceSub, ↓reduceIte, decide_true, decide_false, Bool.true_eq_false, Bool.false_eq_true, Bool.not_true, Bool.not_false, if_true, if_false, and_true, true_and, memE, celE, w64, Nat.zero_add, Nat.add_zero, Nat.mul_one, putL, and_self, ldn, id_eq, ext_2_0, ext_2_1, ext_3_0, ext_3_1, ext_3_2, ext_4_0, ext_4_1, ext_4_2, ext_4_3, beq_self_eq_true, bne_self_eq_false, gt_iff_lt, X0.mk4, Z0.mk4]
  have TT := eqMarket_rc M9 _ _ d0 Y0.now.in T0.now.in
  first | refine callH_rc TT ?_ | refine rcallH_rc TT ?_
  clear TT
  rintro r new ⟨rfl, nrn⟩
  obtain ⟨M10, hM10⟩ : ∃ M', M' = M9 ++ new := ⟨_, rfl⟩
  rw [← hM10]
  have LM10 : M10.length = M9.length + new.length := by rw [hM10, List.length_append]
  replace C0 : Lv 0 M0.length M10 fun M => MkA M (mkV d0 u0) d0 := by rw [hM10]; exact C0.ext _
  replace X0 : BoxA M10 M0.length [u0, .int .i64 d0.price, .int .i64 d0.make, .int .i64 d0.left] := by rw [hM10]; exact X0.ext _
  replace w : Lv M3.length M4.length M10 fun M => PairsO 83 W M3.length M4.length M vw := by rw [hM10]; exact w.ext _
  replace Y0 : Lv M4.length M5.length M10 fun M => MkO d0 M4.length M5.length M (mkV d0 Yu0) := by rw [hM10]; exact Y0.ext _
  replace Z0 : BoxA M10 M5.length [Yu0, .int .i64 d0.price, .int .i64 d0.make, .int .i64 d0.left] := by rw [hM10]; exact Z0.ext _
  replace g : Lv M6.length M7.length M10 fun M => PairsO 83 W M6.length M7.length M vg := by rw [hM10]; exact g.ext _
  replace T0 : Lv M8.length M9.length M10 fun M => MkO d0 M8.length M9.length M (mkV d0 Tu0) := by rw [hM10]; exact T0.ext _
  clear nrn
  clear T0
  try simp (config := {implicitDefEqProofs := false, maxDischargeDepth := 20}) (disch := first | omega | (simp only [lenE]; done) | (simp only [lenE]; omega) | rfl | (simp only [lenE, markR_len]; done) | (simp only [lenE, markR_len]; omega)) only [runE, mapE, listE, initT_5, initT_6, initT_7, initT_8, resV, oneV, binA, unA, reduceCtorEq, Nat.reduceEqDiff, Nat.reduceAdd, Nat.reduceLT, Nat.reduceLeDiff, Nat.reduceMul, Nat.reduceSub, ↓reduceIte, decide_true, decide_false, Bool.true_eq_false, Bool.false_eq_true, Bool.not_true, Bool.not_false, if_true, if_false, and_true, true_and, memE, celE, w64, Nat.zero_add, Nat.add_zero, Nat.mul_one, putL, and_self, ldn, id_eq, ext_2_0, ext_2_1, ext_3_0, ext_3_1, ext_3_2, ext_4_0, ext_4_1, ext_4_2, ext_4_3, beq_self_eq_true, bne_self_eq_false, gt_iff_lt, X0.mk4, Z0.mk4]
  try simp (config := {implicitDefEqProofs := false, maxDischargeDepth := 20}) (disch := first | omega | (simp only [lenE]; done) | (simp only [lenE]; omega) | rfl | (simp only [lenE, markR_len]; done) | (simp only [lenE, markR_len]; omega)) only [runE, mapE, listE, initT_5, initT_6, initT_7, initT_8, resV, oneV, binA, unA, reduceCtorEq, Nat.reduceEqDiff, Nat.reduceAdd, Nat.reduceLT, Nat.reduceLeDiff, Nat.reduceMul, Nat.reduceSub, ↓reduceIte, decide_true, decide_false, Bool.true_eq_false, Bool.false_eq_true, Bool.not_true, Bool.not_false, if_true, if_false, and_true, true_and, memE, celE, w64, Nat.zero_add, Nat.add_zero, Nat.mul_one, putL, and_self, ldn, id_eq, ext_2_0, ext_2_1, ext_3_0, ext_3_1, ext_3_2, ext_4_0, ext_4_1, ext_4_2, ext_4_3, beq_self_eq_true, bne_self_eq_false, gt_iff_lt, X0.mk4, Z0.mk4]
  refine callH_ac (markMarket_ac _ M4.length M5.length _ d0 _ Y0 (by omega) (by omega)) ?_
  rintro r M11 ⟨rfl, hB⟩
  have LM11 := hB.1
  replace C0 : Lv 0 M0.length M11 fun M => MkA M (mkV d0 u0) d0 := C0.but hB (by omega)
  replace X0 : BoxA M11 M0.length [u0, .int .i64 d0.price, .int .i64 d0.make, .int .i64 d0.left] := by have := X0.lt; exact X0.but hB (by omega)
  replace w : Lv M3.length M4.length M11 fun M => PairsO 83 W M3.length M4.length M vw := w.but hB (by omega)
  replace Z0 : BoxA M11 M5.length [Yu0, .int .i64 d0.price, .int .i64 d0.make, .int .i64 d0.left] := by have := Z0.lt; exact Z0.but hB (by omega)
  replace g : Lv M6.length M7.length M11 fun M => PairsO 83 W M6.length M7.length M vg := g.but hB (by omega)
  clear Y0 hB
  have hkk : ¬ (1 + (d0.w.length : Int) < 0) := by omega
  try simp (config := {implicitDefEqProofs := false, maxDischargeDepth := 20}) (disch := first | omega | (simp only [lenE]; done) | (simp only [lenE]; omega) | rfl | (simp only [lenE, markR_len]; done) | (simp only [lenE, markR_len]; omega)) only [runE, mapE, listE, initT_5, initT_6, initT_7, initT_8, resV, oneV, binA, unA, reduceCtorEq, Nat.reduceEqDiff, Nat.reduceAdd, Nat.reduceLT, Nat.reduceLeDiff, Nat.reduceMul, Nat.reduceSub, ↓reduceIte, decide_true, decide_false, Bool.true_eq_false, Bool.false_eq_true, Bool.not_true, Bool.not_false, if_true, if_false, and_true, true_and, memE, celE, w64, Nat.zero_add, Nat.add_zero, Nat.mul_one, putL, and_self, ldn, id_eq, ext_2_0, ext_2_1, ext_3_0, ext_3_1, ext_3_2, ext_4_0, ext_4_1, ext_4_2, ext_4_3, beq_self_eq_true, bne_self_eq_false, gt_iff_lt, hkk, X0.mk4, Z0.mk4]
  try simp (config := {implicitDefEqProofs := false, maxDischargeDepth := 20}) (disch := first | omega | (simp only [lenE]; done) | (simp only [lenE]; omega) | rfl | (simp only [lenE, markR_len]; done) | (simp only [lenE, markR_len]; omega)) only [runE, mapE, listE, initT_5, initT_6, initT_7, initT_8, resV, oneV, binA, unA, reduceCtorEq, Nat.reduceEqDiff, Nat.reduceAdd, Nat.reduceLT, Nat.reduceLeDiff, Nat.reduceMul, Nat.reduceSub, ↓reduceIte, decide_true, decide_false, Bool.true_eq_false, Bool.false_eq_true, Bool.not_true, Bool.not_false, if_true, if_false, and_true, true_and, memE, celE, w64, Nat.zero_add, Nat.add_zero, Nat.mul_one, putL, and_self, ldn, id_eq, ext_2_0, ext_2_1, ext_3_0, ext_3_1, ext_3_2, ext_4_0, ext_4_1, ext_4_2, ext_4_3, beq_self_eq_true, bne_self_eq_false, gt_iff_lt, X0.mk4, Z0.mk4]
  have TT := eqIntA2S_rc M11 _ _ W g.now.in w.now.in
  refine callH_rc TT ?_
  clear TT
  rintro r new ⟨rfl, nrn⟩
  obtain ⟨M12, hM12⟩ : ∃ M', M' = M11 ++ new := ⟨_, rfl⟩
  rw [← hM12]
  have LM12 : M12.length = M11.length + new.length := by rw [hM12, List.length_append]
  replace C0 : Lv 0 M0.length M12 fun M => MkA M (mkV d0 u0) d0 := by rw [hM12]; exact C0.ext _
  replace X0 : BoxA M12 M0.length [u0, .int .i64 d0.price, .int .i64 d0.make, .int .i64 d0.left] := by rw [hM12]; exact X0.ext _
  replace w : Lv M3.length M4.length M12 fun M => PairsO 83 W M3.length M4.length M vw := by rw [hM12]; exact w.ext _
  replace Z0 : BoxA M12 M5.length [Yu0, .int .i64 d0.price, .int .i64 d0.make, .int .i64 d0.left] := by rw [hM12]; exact Z0.ext _
  replace g : Lv M6.length M7.length M12 fun M => PairsO 83 W M6.length M7.length M vg := by rw [hM12]; exact g.ext _
  clear nrn
  try simp (config := {implicitDefEqProofs := false, maxDischargeDepth := 20}) (disch := first | omega | (simp only [lenE]; done) | (simp only [lenE]; omega) | rfl | (simp only [lenE, markR_len]; done) | (simp only [lenE, markR_len]; omega)) only [runE, mapE, listE, initT_5, initT_6, initT_7, initT_8, resV, oneV, binA, unA, reduceCtorEq, Nat.reduceEqDiff, Nat.reduceAdd, Nat.reduceLT, Nat.reduceLeDiff, Nat.reduceMul, Nat.reduceSub, ↓reduceIte, decide_true, decide_false, Bool.true_eq_false, Bool.false_eq_true, Bool.not_true, Bool.not_false, if_true, if_false, and_true, true_and, memE, celE, w64, Nat.zero_add, Nat.add_zero, Nat.mul_one, putL, and_self, ldn, id_eq, ext_2_0, ext_2_1, ext_3_0, ext_3_1, ext_3_2, ext_4_0, ext_4_1, ext_4_2, ext_4_3, beq_self_eq_true, bne_self_eq_false, gt_iff_lt, X0.mk4, Z0.mk4]
  refine callH_ac (markIntA2S_ac _ M6.length M7.length _ W 1 g (by omega) (by omega)) ?_
  rintro r M13 ⟨rfl, hB, gm⟩
  have LM13 := hB.1
  have gsm := g.now.1
  replace C0 : Lv 0 M0.length M13 fun M => MkA M (mkV d0 u0) d0 := C0.but hB (by omega)
  replace X0 : BoxA M13 M0.length [u0, .int .i64 d0.price, .int .i64 d0.make, .int .i64 d0.left] := by have := X0.lt; exact X0.but hB (by omega)
  replace w : Lv M3.length M4.length M13 fun M => PairsO 83 W M3.length M4.length M vw := w.but hB (by omega)
  replace Z0 : BoxA M13 M5.length [Yu0, .int .i64 d0.price, .int .i64 d0.make, .int .i64 d0.left] := by have := Z0.lt; exact Z0.but hB (by omega)
  clear g hB
  have hkq : ¬ (1 + (2 * (W.length : Int)) < 0) := by omega
  try simp (config := {implicitDefEqProofs := false, maxDischargeDepth := 20}) (disch := first | omega | (simp only [lenE]; done) | (simp only [lenE]; omega) | rfl | (simp only [lenE, markR_len]; done) | (simp only [lenE, markR_len]; omega)) only [runE, mapE, listE, initT_5, initT_6, initT_7, initT_8, resV, oneV, binA, unA, reduceCtorEq, Nat.reduceEqDiff, Nat.reduceAdd, Nat.reduceLT, Nat.reduceLeDiff, Nat.reduceMul, Nat.reduceSub, ↓reduceIte, decide_true, decide_false, Bool.true_eq_false, Bool.false_eq_true, Bool.not_true, Bool.not_false, if_true, if_false, and_true, true_and, memE, celE, w64, Nat.zero_add, Nat.add_zero, Nat.mul_one, putL, and_self, ldn, id_eq, ext_2_0, ext_2_1, ext_3_0, ext_3_1, ext_3_2, ext_4_0, ext_4_1, ext_4_2, ext_4_3, beq_self_eq_true, bne_self_eq_false, gt_iff_lt, X0.mk4, Z0.mk4]
  refine callH_rc (heldIntA2S_rc _ _ 1 W.length gm.now.in (by omega) (by omega) (by omega)) ?_
  rintro r new ⟨rfl, nrn⟩
  obtain ⟨M14, hM14⟩ : ∃ M', M' = M13 ++ new := ⟨_, rfl⟩
  rw [← hM14]
  have LM14 : M14.length = M13.length + new.length := by rw [hM14, List.length_append]
  replace C0 : Lv 0 M0.length M14 fun M => MkA M (mkV d0 u0) d0 := by rw [hM14]; exact C0.ext _
  replace X0 : BoxA M14 M0.length [u0, .int .i64 d0.price, .int .i64 d0.make, .int .i64 d0.left] := by rw [hM14]; exact X0.ext _
  replace w : Lv M3.length M4.length M14 fun M => PairsO 83 W M3.length M4.length M vw := by rw [hM14]; exact w.ext _
  replace Z0 : BoxA M14 M5.length [Yu0, .int .i64 d0.price, .int .i64 d0.make, .int .i64 d0.left] := by rw [hM14]; exact Z0.ext _
  replace gm : Lv M6.length M7.length M14 fun M => PairsO 83 (pmarks 1 W.length) M6.length M7.length M vg := by rw [hM14]; exact gm.ext _
  clear nrn
  try simp (config := {implicitDefEqProofs := false, maxDischargeDepth := 20}) (disch := first | omega | (simp only [lenE]; done) | (simp only [lenE]; omega) | rfl | (simp only [lenE, markR_len]; done) | (simp only [lenE, markR_len]; omega)) only [runE, mapE, listE, initT_5, initT_6, initT_7, initT_8, resV, oneV, binA, unA, reduceCtorEq, Nat.reduceEqDiff, Nat.reduceAdd, Nat.reduceLT, Nat.reduceLeDiff, Nat.reduceMul, Nat.reduceSub, ↓reduceIte, decide_true, decide_false, Bool.true_eq_false, Bool.false_eq_true, Bool.not_true, Bool.not_false, if_true, if_false, and_true, true_and, memE, celE, w64, Nat.zero_add, Nat.add_zero, Nat.mul_one, putL, and_self, ldn, id_eq, ext_2_0, ext_2_1, ext_3_0, ext_3_1, ext_3_2, ext_4_0, ext_4_1, ext_4_2, ext_4_3, beq_self_eq_true, bne_self_eq_false, gt_iff_lt, hkq, X0.mk4, Z0.mk4]
  try simp (config := {implicitDefEqProofs := false, maxDischargeDepth := 20}) (disch := first | omega | (simp only [lenE]; done) | (simp only [lenE]; omega) | rfl | (simp only [lenE, markR_len]; done) | (simp only [lenE, markR_len]; omega)) only [runE, mapE, listE, initT_5, initT_6, initT_7, initT_8, resV, oneV, binA, unA, reduceCtorEq, Nat.reduceEqDiff, Nat.reduceAdd, Nat.reduceLT, Nat.reduceLeDiff, Nat.reduceMul, Nat.reduceSub, ↓reduceIte, decide_true, decide_false, Bool.true_eq_false, Bool.false_eq_true, Bool.not_true, Bool.not_false, if_true, if_false, and_true, true_and, memE, celE, w64, Nat.zero_add, Nat.add_zero, Nat.mul_one, putL, and_self, ldn, id_eq, ext_2_0, ext_2_1, ext_3_0, ext_3_1, ext_3_2, ext_4_0, ext_4_1, ext_4_2, ext_4_3, beq_self_eq_true, bne_self_eq_false, gt_iff_lt, X0.mk4, Z0.mk4]
  have TT := toMarket_rc M14 _ d0 C0.now hs0
  first | refine callH_rc TT ?_ | refine rcallH_rc TT ?_
  clear TT
  rintro r new ⟨nrn, Uv0, Uv0e, U0⟩
  rw [id_eq] at Uv0e
  subst r
  obtain ⟨M15, hM15⟩ : ∃ M', M' = M14 ++ new := ⟨_, rfl⟩
  rw [← hM15]
  have LM15 : M15.length = M14.length + new.length := by rw [hM15, List.length_append]
  replace C0 : Lv 0 M0.length M15 fun M => MkA M (mkV d0 u0) d0 := by rw [hM15]; exact C0.ext _
  replace X0 : BoxA M15 M0.length [u0, .int .i64 d0.price, .int .i64 d0.make, .int .i64 d0.left] := by rw [hM15]; exact X0.ext _
  replace w : Lv M3.length M4.length M15 fun M => PairsO 83 W M3.length M4.length M vw := by rw [hM15]; exact w.ext _
  replace Z0 : BoxA M15 M5.length [Yu0, .int .i64 d0.price, .int .i64 d0.make, .int .i64 d0.left] := by rw [hM15]; exact Z0.ext _
  replace gm : Lv M6.length M7.length M15 fun M => PairsO 83 (pmarks 1 W.length) M6.length M7.length M vg := by rw [hM15]; exact gm.ext _
  clear nrn
  rw [← hM15, ← LM15] at U0
  obtain ⟨Uu0, rfl, -⟩ := U0.now.in
  change Lv M14.length M15.length M15 fun M => MkO d0 M14.length M15.length M (mkV d0 Uu0) at U0
  try simp (config := {implicitDefEqProofs := false, maxDischargeDepth := 20}) (disch := first | omega | (simp only [lenE]; done) | (simp only [lenE]; omega) | rfl | (simp only [lenE, markR_len]; done) | (simp only [lenE, markR_len]; omega)) only [runE, mapE, listE, initT_5, initT_6, initT_7, initT_8, resV, oneV, binA, unA, reduceCtorEq, Nat.reduceEqDiff, Nat.reduceAdd, Nat.reduceLT, Nat.reduceLeDiff, Nat.reduceMul, Nat.reduceSub, ↓reduceIte, decide_true, decide_false, Bool.true_eq_false, Bool.false_eq_true, Bool.not_true, Bool.not_false, if_true, if_false, and_true, true_and, memE, celE, w64, Nat.zero_add, Nat.add_zero, Nat.mul_one, putL, and_self, ldn, id_eq, ext_2_0, ext_2_1, ext_3_0, ext_3_1, ext_3_2, ext_4_0, ext_4_1, ext_4_2, ext_4_3, beq_self_eq_true, bne_self_eq_false, gt_iff_lt, X0.mk4, Z0.mk4]
  first | refine callH_rc (IMP _ _ U0.now.in) ?_ | refine rcallH_rc (IMP _ _ U0.now.in) ?_
  rintro r new ⟨nrn, vh, rfl, h⟩
  obtain ⟨M16, hM16⟩ : ∃ M', M' = M15 ++ new := ⟨_, rfl⟩
  rw [← hM16]
  have LM16 : M16.length = M15.length + new.length := by rw [hM16, List.length_append]
  replace C0 : Lv 0 M0.length M16 fun M => MkA M (mkV d0 u0) d0 := by rw [hM16]; exact C0.ext _
  replace X0 : BoxA M16 M0.length [u0, .int .i64 d0.price, .int .i64 d0.make, .int .i64 d0.left] := by rw [hM16]; exact X0.ext _
  replace w : Lv M3.length M4.length M16 fun M => PairsO 83 W M3.length M4.length M vw := by rw [hM16]; exact w.ext _
  replace Z0 : BoxA M16 M5.length [Yu0, .int .i64 d0.price, .int .i64 d0.make, .int .i64 d0.left] := by rw [hM16]; exact Z0.ext _
  replace gm : Lv M6.length M7.length M16 fun M => PairsO 83 (pmarks 1 W.length) M6.length M7.length M vg := by rw [hM16]; exact gm.ext _
  replace U0 : Lv M14.length M15.length M16 fun M => MkO d0 M14.length M15.length M (mkV d0 Uu0) := by rw [hM16]; exact U0.ext _
  clear nrn
  rw [← hM16, ← LM16] at h
  clear U0
  try simp (config := {implicitDefEqProofs := false, maxDischargeDepth := 20}) (disch := first | omega | (simp only [lenE]; done) | (simp only [lenE]; omega) | rfl | (simp only [lenE, markR_len]; done) | (simp only [lenE, markR_len]; omega)) only [runE, mapE, listE, initT_5, initT_6, initT_7, initT_8, resV, oneV, binA, unA, reduceCtorEq, Nat.reduceEqDiff, Nat.reduceAdd, Nat.reduceLT, Nat.reduceLeDiff, Nat.reduceMul, Nat.reduceSub, ↓reduceIte, decide_true, decide_false, Bool.true_eq_false, Bool.false_eq_true, Bool.not_true, Bool.not_false, if_true, if_false, and_true, true_and, memE, celE, w64, Nat.zero_add, Nat.add_zero, Nat.mul_one, putL, and_self, ldn, id_eq, ext_2_0, ext_2_1, ext_3_0, ext_3_1, ext_3_2, ext_4_0, ext_4_1, ext_4_2, ext_4_3, beq_self_eq_true, bne_self_eq_false, gt_iff_lt, X0.mk4, Z0.mk4]
  have TT := eqIntA2S_rc M16 _ _ W h.now.in w.now.in
  refine callH_rc TT ?_
  clear TT
  rintro r new ⟨rfl, nrn⟩
  obtain ⟨M17, hM17⟩ : ∃ M', M' = M16 ++ new := ⟨_, rfl⟩
  rw [← hM17]
  have LM17 : M17.length = M16.length + new.length := by rw [hM17, List.length_append]
  replace C0 : Lv 0 M0.length M17 fun M => MkA M (mkV d0 u0) d0 := by rw [hM17]; exact C0.ext _
  replace X0 : BoxA M17 M0.length [u0, .int .i64 d0.price, .int .i64 d0.make, .int .i64 d0.left] := by rw [hM17]; exact X0.ext _
  replace w : Lv M3.length M4.length M17 fun M => PairsO 83 W M3.length M4.length M vw := by rw [hM17]; exact w.ext _
  replace Z0 : BoxA M17 M5.length [Yu0, .int .i64 d0.price, .int .i64 d0.make, .int .i64 d0.left] := by rw [hM17]; exact Z0.ext _
  replace gm : Lv M6.length M7.length M17 fun M => PairsO 83 (pmarks 1 W.length) M6.length M7.length M vg := by rw [hM17]; exact gm.ext _
  replace h : Lv M15.length M16.length M17 fun M => PairsO 83 W M15.length M16.length M vh := by rw [hM17]; exact h.ext _
  clear nrn
  try simp (config := {implicitDefEqProofs := false, maxDischargeDepth := 20}) (disch := first | omega | (simp only [lenE]; done) | (simp only [lenE]; omega) | rfl | (simp only [lenE, markR_len]; done) | (simp only [lenE, markR_len]; omega)) only [runE, mapE, listE, initT_5, initT_6, initT_7, initT_8, resV, oneV, binA, unA, reduceCtorEq, Nat.reduceEqDiff, Nat.reduceAdd, Nat.reduceLT, Nat.reduceLeDiff, Nat.reduceMul, Nat.reduceSub, ↓reduceIte, decide_true, decide_false, Bool.true_eq_false, Bool.false_eq_true, Bool.not_true, Bool.not_false, if_true, if_false, and_true, true_and, memE, celE, w64, Nat.zero_add, Nat.add_zero, Nat.mul_one, putL, and_self, ldn, id_eq, ext_2_0, ext_2_1, ext_3_0, ext_3_1, ext_3_2, ext_4_0, ext_4_1, ext_4_2, ext_4_3, beq_self_eq_true, bne_self_eq_false, gt_iff_lt, X0.mk4, Z0.mk4]
  try simp (config := {implicitDefEqProofs := false, maxDischargeDepth := 20}) (disch := first | omega | (simp only [lenE]; done) | (simp only [lenE]; omega) | rfl | (simp only [lenE, markR_len]; done) | (simp only [lenE, markR_len]; omega)) only [runE, mapE, listE, initT_5, initT_6, initT_7, initT_8, resV, oneV, binA, unA, reduceCtorEq, Nat.reduceEqDiff, Nat.reduceAdd, Nat.reduceLT, Nat.reduceLeDiff, Nat.reduceMul, Nat.reduceSub, ↓reduceIte, decide_true, decide_false, Bool.true_eq_false, Bool.false_eq_true, Bool.not_true, Bool.not_false, if_true, if_false, and_true, true_and, memE, celE, w64, Nat.zero_add, Nat.add_zero, Nat.mul_one, putL, and_self, ldn, id_eq, ext_2_0, ext_2_1, ext_3_0, ext_3_1, ext_3_2, ext_4_0, ext_4_1, ext_4_2, ext_4_3, beq_self_eq_true, bne_self_eq_false, gt_iff_lt, X0.mk4, Z0.mk4]
  refine callH_rc (heldIntA2S_rc _ _ 1 W.length gm.now.in (by omega) (by omega) (by omega)) ?_
  rintro r new ⟨rfl, nrn⟩
  obtain ⟨M18, hM18⟩ : ∃ M', M' = M17 ++ new := ⟨_, rfl⟩
  rw [← hM18]
  have LM18 : M18.length = M17.length + new.length := by rw [hM18, List.length_append]
  replace C0 : Lv 0 M0.length M18 fun M => MkA M (mkV d0 u0) d0 := by rw [hM18]; exact C0.ext _
  replace X0 : BoxA M18 M0.length [u0, .int .i64 d0.price, .int .i64 d0.make, .int .i64 d0.left] := by rw [hM18]; exact X0.ext _
  replace w : Lv M3.length M4.length M18 fun M => PairsO 83 W M3.length M4.length M vw := by rw [hM18]; exact w.ext _
  replace Z0 : BoxA M18 M5.length [Yu0, .int .i64 d0.price, .int .i64 d0.make, .int .i64 d0.left] := by rw [hM18]; exact Z0.ext _
  replace gm : Lv M6.length M7.length M18 fun M => PairsO 83 (pmarks 1 W.length) M6.length M7.length M vg := by rw [hM18]; exact gm.ext _
  replace h : Lv M15.length M16.length M18 fun M => PairsO 83 W M15.length M16.length M vh := by rw [hM18]; exact h.ext _
  clear nrn
  try simp (config := {implicitDefEqProofs := false, maxDischargeDepth := 20}) (disch := first | omega | (simp only [lenE]; done) | (simp only [lenE]; omega) | rfl | (simp only [lenE, markR_len]; done) | (simp only [lenE, markR_len]; omega)) only [runE, mapE, listE, initT_5, initT_6, initT_7, initT_8, resV, oneV, binA, unA, reduceCtorEq, Nat.reduceEqDiff, Nat.reduceAdd, Nat.reduceLT, Nat.reduceLeDiff, Nat.reduceMul, Nat.reduceSub, ↓reduceIte, decide_true, decide_false, Bool.true_eq_false, Bool.false_eq_true, Bool.not_true, Bool.not_false, if_true, if_false, and_true, true_and, memE, celE, w64, Nat.zero_add, Nat.add_zero, Nat.mul_one, putL, and_self, ldn, id_eq, ext_2_0, ext_2_1, ext_3_0, ext_3_1, ext_3_2, ext_4_0, ext_4_1, ext_4_2, ext_4_3, beq_self_eq_true, bne_self_eq_false, gt_iff_lt, hkq, X0.mk4, Z0.mk4]
end Go.Proofs.Ytdcheilmjooacaa.Ab
