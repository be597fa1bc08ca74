/- FnExactStockByAge: its running over abstract memory. -/
import Derived.Test.YtihjcjhnkpkomaaAbSh5
import Derived.Test.YtihjcjhnkpkomaaAbShArg
import Derived.Test.YtihjcjhnkpkomaaAbMarks
import Derived.Test.YtihjcjhnkpkomaaAbBox
import Derived.Test.YtihjcjhnkpkomaaAbArg
import Derived.Test.YtihjcjhnkpkomaaCodLStockByAge
namespace Go.Proofs.Ytihjcjhnkpkomaa.Ab
open Go Go.RowKit
set_option linter.unusedVariables false
set_option linter.unusedSimpArgs false
set_option maxRecDepth 100000

set_option maxHeartbeats 4000000 in
theorem law_FnExactStockByAge (M0 : Mem) (d0 : Sh) (v0 : Value) (d1 : List (List Int)) (v1 : Value) (d2 : Int) (A0 : ShA M0 v0 d0) (A1 : TabA M0 v1 d1) :
    AC Try.prog 10 [v0, v1, .int .i64 d2] M0 fun r _ => r = .bool true := by
  refine ac_of_run mixed ok_laws_FnExactStockByAge (by simp) (go_start _ _ _ ?_)
  have A0c := A0
  obtain ⟨u0a, u0b, rfl, -⟩ := A0c
  have C0 : Lv 0 M0.length M0 fun M => ShA M (shV d0 u0a u0b) d0 := Lv.all fun new => A0.ext new
  have C1 : Lv 0 M0.length M0 fun M => TabA M v1 d1 := Lv.all fun new => A1.ext new
  try simp (config := {implicitDefEqProofs := false, maxDischargeDepth := 20}) (disch := first | omega | (simp only [lenE]; done) | (simp only [lenE]; omega) | rfl | (simp only [lenE, markR_len]; done) | (simp only [lenE, markR_len]; omega)) only [runE, mapE, listE, initT_5, initT_6, initT_7, initT_8, resV, oneV, binA, unA, reduceCtorEq, Nat.reduceEqDiff, Nat.reduceAdd, Nat.reduceLT, Nat.reduceLeDiff, Nat.reduceMul, Nat.reduceSub, ↓reduceIte, decide_true, decide_false, Bool.true_eq_false, Bool.false_eq_true, Bool.not_true, Bool.not_false, if_true, if_false, and_true, true_and, memE, celE, w64, Nat.zero_add, Nat.add_zero, Nat.mul_one, putL, and_self, ldn, c_laws_FnExactStockByAge, r_laws_FnExactStockByAge, id_eq, ext_2_0, ext_2_1, ext_3_0, ext_3_1, ext_3_2, ext_4_0, ext_4_1, ext_4_2, ext_4_3, beq_self_eq_true, bne_self_eq_false, gt_iff_lt]
  obtain ⟨M1, hM1⟩ : ∃ M', M' = M0 ++ [⟨.own, 24, [.int .i64 d0.life, u0a, u0b, .int .i64 d0.waste, .int .i64 d0.lost]⟩] := ⟨_, rfl⟩
  rw [← hM1]
  have LM1 : M1.length = M0.length + 1 := by rw [hM1, List.length_append]; rfl
  replace C0 : Lv 0 M0.length M1 fun M => ShA M (shV d0 u0a u0b) d0 := by rw [hM1]; exact C0.ext _
  replace C1 : Lv 0 M0.length M1 fun M => TabA M v1 d1 := by rw [hM1]; exact C1.ext _
  have X0 : BoxA M1 M0.length [.int .i64 d0.life, u0a, u0b, .int .i64 d0.waste, .int .i64 d0.lost] := by rw [hM1]; exact BoxA.here _ _ _ rfl
  try simp (config := {implicitDefEqProofs := false, maxDischargeDepth := 20}) (disch := first | omega | (simp only [lenE]; done) | (simp only [lenE]; omega) | rfl | (simp only [lenE, markR_len]; done) | (simp only [lenE, markR_len]; omega)) only [runE, mapE, listE, initT_5, initT_6, initT_7, initT_8, resV, oneV, binA, unA, reduceCtorEq, Nat.reduceEqDiff, Nat.reduceAdd, Nat.reduceLT, Nat.reduceLeDiff, Nat.reduceMul, Nat.reduceSub, ↓reduceIte, decide_true, decide_false, Bool.true_eq_false, Bool.false_eq_true, Bool.not_true, Bool.not_false, if_true, if_false, and_true, true_and, memE, celE, w64, Nat.zero_add, Nat.add_zero, Nat.mul_one, putL, and_self, ldn, id_eq, ext_2_0, ext_2_1, ext_3_0, ext_3_1, ext_3_2, ext_4_0, ext_4_1, ext_4_2, ext_4_3, beq_self_eq_true, bne_self_eq_false, gt_iff_lt, X0.ld5]
  refine callH_rc (szShelf_rc _ _ d0 1048576 C0.now (by omega) (by omega)) ?_
  rintro r new ⟨nrn, rfl | ⟨z1, za1, zb1, rfl, hs0⟩⟩
  · simp (config := {implicitDefEqProofs := false, maxDischargeDepth := 20}) (disch := first | omega | (simp only [lenE]; done) | (simp only [lenE]; omega) | rfl | (simp only [lenE, markR_len]; done) | (simp only [lenE, markR_len]; omega)) only [runE, mapE, listE, initT_5, initT_6, initT_7, initT_8, resV, oneV, binA, unA, reduceCtorEq, Nat.reduceEqDiff, Nat.reduceAdd, Nat.reduceLT, Nat.reduceLeDiff, Nat.reduceMul, Nat.reduceSub, ↓reduceIte, decide_true, decide_false, Bool.true_eq_false, Bool.false_eq_true, Bool.not_true, Bool.not_false, if_true, if_false, and_true, true_and, memE, celE, w64, Nat.zero_add, Nat.add_zero, Nat.mul_one, putL, and_self, ldn, show ((-1 : Int) < 0) = True by simp]
  have zc1 : ¬ (z1 < 0) := by omega
  obtain ⟨M2, hM2⟩ : ∃ M', M' = M1 ++ new := ⟨_, rfl⟩
  rw [← hM2]
  have LM2 : M2.length = M1.length + new.length := by rw [hM2, List.length_append]
  replace C0 : Lv 0 M0.length M2 fun M => ShA M (shV d0 u0a u0b) d0 := by rw [hM2]; exact C0.ext _
  replace C1 : Lv 0 M0.length M2 fun M => TabA M v1 d1 := by rw [hM2]; exact C1.ext _
  replace X0 : BoxA M2 M0.length [.int .i64 d0.life, u0a, u0b, .int .i64 d0.waste, .int .i64 d0.lost] := by rw [hM2]; exact X0.ext _
  clear nrn
  try simp (config := {implicitDefEqProofs := false, maxDischargeDepth := 20}) (disch := first | omega | (simp only [lenE]; done) | (simp only [lenE]; omega) | rfl | (simp only [lenE, markR_len]; done) | (simp only [lenE, markR_len]; omega)) only [runE, mapE, listE, initT_5, initT_6, initT_7, initT_8, resV, oneV, binA, unA, reduceCtorEq, Nat.reduceEqDiff, Nat.reduceAdd, Nat.reduceLT, Nat.reduceLeDiff, Nat.reduceMul, Nat.reduceSub, ↓reduceIte, decide_true, decide_false, Bool.true_eq_false, Bool.false_eq_true, Bool.not_true, Bool.not_false, if_true, if_false, and_true, true_and, memE, celE, w64, Nat.zero_add, Nat.add_zero, Nat.mul_one, putL, and_self, ldn, id_eq, ext_2_0, ext_2_1, ext_3_0, ext_3_1, ext_3_2, ext_4_0, ext_4_1, ext_4_2, ext_4_3, beq_self_eq_true, bne_self_eq_false, gt_iff_lt, zc1, X0.ld5]
  try simp (config := {implicitDefEqProofs := false, maxDischargeDepth := 20}) (disch := first | omega | (simp only [lenE]; done) | (simp only [lenE]; omega) | rfl | (simp only [lenE, markR_len]; done) | (simp only [lenE, markR_len]; omega)) only [runE, mapE, listE, initT_5, initT_6, initT_7, initT_8, resV, oneV, binA, unA, reduceCtorEq, Nat.reduceEqDiff, Nat.reduceAdd, Nat.reduceLT, Nat.reduceLeDiff, Nat.reduceMul, Nat.reduceSub, ↓reduceIte, decide_true, decide_false, Bool.true_eq_false, Bool.false_eq_true, Bool.not_true, Bool.not_false, if_true, if_false, and_true, true_and, memE, celE, w64, Nat.zero_add, Nat.add_zero, Nat.mul_one, putL, and_self, ldn, id_eq, ext_2_0, ext_2_1, ext_3_0, ext_3_1, ext_3_2, ext_4_0, ext_4_1, ext_4_2, ext_4_3, beq_self_eq_true, bne_self_eq_false, gt_iff_lt, X0.ld5]
  refine callH_rc (szIntSS_rc _ _ d1 z1 C1.now (by omega) (by omega)) ?_
  rintro r new ⟨nrn, rfl | ⟨z2, za2, zb2, rfl, hs1⟩⟩
  · simp (config := {implicitDefEqProofs := false, maxDischargeDepth := 20}) (disch := first | omega | (simp only [lenE]; done) | (simp only [lenE]; omega) | rfl | (simp only [lenE, markR_len]; done) | (simp only [lenE, markR_len]; omega)) only [runE, mapE, listE, initT_5, initT_6, initT_7, initT_8, resV, oneV, binA, unA, reduceCtorEq, Nat.reduceEqDiff, Nat.reduceAdd, Nat.reduceLT, Nat.reduceLeDiff, Nat.reduceMul, Nat.reduceSub, ↓reduceIte, decide_true, decide_false, Bool.true_eq_false, Bool.false_eq_true, Bool.not_true, Bool.not_false, if_true, if_false, and_true, true_and, memE, celE, w64, Nat.zero_add, Nat.add_zero, Nat.mul_one, putL, and_self, ldn, show ((-1 : Int) < 0) = True by simp]
  have zc2 : ¬ (z2 < 0) := by omega
  obtain ⟨M3, hM3⟩ : ∃ M', M' = M2 ++ new := ⟨_, rfl⟩
  rw [← hM3]
  have LM3 : M3.length = M2.length + new.length := by rw [hM3, List.length_append]
  replace C0 : Lv 0 M0.length M3 fun M => ShA M (shV d0 u0a u0b) d0 := by rw [hM3]; exact C0.ext _
  replace C1 : Lv 0 M0.length M3 fun M => TabA M v1 d1 := by rw [hM3]; exact C1.ext _
  replace X0 : BoxA M3 M0.length [.int .i64 d0.life, u0a, u0b, .int .i64 d0.waste, .int .i64 d0.lost] := by rw [hM3]; exact X0.ext _
  clear nrn
  try simp (config := {implicitDefEqProofs := false, maxDischargeDepth := 20}) (disch := first | omega | (simp only [lenE]; done) | (simp only [lenE]; omega) | rfl | (simp only [lenE, markR_len]; done) | (simp only [lenE, markR_len]; omega)) only [runE, mapE, listE, initT_5, initT_6, initT_7, initT_8, resV, oneV, binA, unA, reduceCtorEq, Nat.reduceEqDiff, Nat.reduceAdd, Nat.reduceLT, Nat.reduceLeDiff, Nat.reduceMul, Nat.reduceSub, ↓reduceIte, decide_true, decide_false, Bool.true_eq_false, Bool.false_eq_true, Bool.not_true, Bool.not_false, if_true, if_false, and_true, true_and, memE, celE, w64, Nat.zero_add, Nat.add_zero, Nat.mul_one, putL, and_self, ldn, id_eq, ext_2_0, ext_2_1, ext_3_0, ext_3_1, ext_3_2, ext_4_0, ext_4_1, ext_4_2, ext_4_3, beq_self_eq_true, bne_self_eq_false, gt_iff_lt, zc2, X0.ld5]
  obtain ⟨W, hW⟩ : ∃ W : List Int, W = (ageA d0 d1 d2) := ⟨_, rfl⟩
  obtain ⟨q0, hq0⟩ : ∃ q : Bool, q = (ageOk d0 d1 d2) := ⟨_, rfl⟩
  have SPC := fun m u0 u1 => specByAge_rc m u0 u1 d0 d1 d2
  have IMP := fun m u0 u1 => implByAge_rc m u0 u1 d0 d1 d2
  try rw [← hW] at SPC
  try rw [← hW] at IMP
  try rw [← hq0] at SPC
  try rw [← hq0] at IMP
  try simp (config := {implicitDefEqProofs := false, maxDischargeDepth := 20}) (disch := first | omega | (simp only [lenE]; done) | (simp only [lenE]; omega) | rfl | (simp only [lenE, markR_len]; done) | (simp only [lenE, markR_len]; omega)) only [runE, mapE, listE, initT_5, initT_6, initT_7, initT_8, resV, oneV, binA, unA, reduceCtorEq, Nat.reduceEqDiff, Nat.reduceAdd, Nat.reduceLT, Nat.reduceLeDiff, Nat.reduceMul, Nat.reduceSub, ↓reduceIte, decide_true, decide_false, Bool.true_eq_false, Bool.false_eq_true, Bool.not_true, Bool.not_false, if_true, if_false, and_true, true_and, memE, celE, w64, Nat.zero_add, Nat.add_zero, Nat.mul_one, putL, and_self, ldn, id_eq, ext_2_0, ext_2_1, ext_3_0, ext_3_1, ext_3_2, ext_4_0, ext_4_1, ext_4_2, ext_4_3, beq_self_eq_true, bne_self_eq_false, gt_iff_lt, X0.ld5]
  have TT := toShelf_rc M3 _ d0 C0.now hs0.1 hs0.2
  first | refine callH_rc TT ?_ | refine rcallH_rc TT ?_
  clear TT
  rintro r new ⟨nrn, Sv0, Sv0e, S0⟩
  rw [id_eq] at Sv0e
  subst r
  obtain ⟨M4, hM4⟩ : ∃ M', M' = M3 ++ new := ⟨_, rfl⟩
  rw [← hM4]
  have LM4 : M4.length = M3.length + new.length := by rw [hM4, List.length_append]
  replace C0 : Lv 0 M0.length M4 fun M => ShA M (shV d0 u0a u0b) d0 := by rw [hM4]; exact C0.ext _
  replace C1 : Lv 0 M0.length M4 fun M => TabA M v1 d1 := by rw [hM4]; exact C1.ext _
  replace X0 : BoxA M4 M0.length [.int .i64 d0.life, u0a, u0b, .int .i64 d0.waste, .int .i64 d0.lost] := by rw [hM4]; exact X0.ext _
  clear nrn
  rw [← hM4, ← LM4] at S0
  obtain ⟨Su0a, Su0b, rfl, -⟩ := S0.now.in
  change Lv M3.length M4.length M4 fun M => ShO d0 M3.length M4.length M (shV d0 Su0a Su0b) at S0
  try simp (config := {implicitDefEqProofs := false, maxDischargeDepth := 20}) (disch := first | omega | (simp only [lenE]; done) | (simp only [lenE]; omega) | rfl | (simp only [lenE, markR_len]; done) | (simp only [lenE, markR_len]; omega)) only [runE, mapE, listE, initT_5, initT_6, initT_7, initT_8, resV, oneV, binA, unA, reduceCtorEq, Nat.reduceEqDiff, Nat.reduceAdd, Nat.reduceLT, Nat.reduceLeDiff, Nat.reduceMul, Nat.reduceSub, ↓reduceIte, decide_true, decide_false, Bool.true_eq_false, Bool.false_eq_true, Bool.not_true, Bool.not_false, if_true, if_false, and_true, true_and, memE, celE, w64, Nat.zero_add, Nat.add_zero, Nat.mul_one, putL, and_self, ldn, id_eq, ext_2_0, ext_2_1, ext_3_0, ext_3_1, ext_3_2, ext_4_0, ext_4_1, ext_4_2, ext_4_3, beq_self_eq_true, bne_self_eq_false, gt_iff_lt, X0.ld5]
  have TT := toIntSS_rc M4 _ d1 C1.now hs1.1 hs1.2
  first | refine callH_rc TT ?_ | refine rcallH_rc TT ?_
  clear TT
  rintro r new ⟨nrn, Sv1, Sv1e, S1⟩
  rw [id_eq] at Sv1e
  subst r
  obtain ⟨M5, hM5⟩ : ∃ M', M' = M4 ++ new := ⟨_, rfl⟩
  rw [← hM5]
  have LM5 : M5.length = M4.length + new.length := by rw [hM5, List.length_append]
  replace C0 : Lv 0 M0.length M5 fun M => ShA M (shV d0 u0a u0b) d0 := by rw [hM5]; exact C0.ext _
  replace C1 : Lv 0 M0.length M5 fun M => TabA M v1 d1 := by rw [hM5]; exact C1.ext _
  replace X0 : BoxA M5 M0.length [.int .i64 d0.life, u0a, u0b, .int .i64 d0.waste, .int .i64 d0.lost] := by rw [hM5]; exact X0.ext _
  replace S0 : Lv M3.length M4.length M5 fun M => ShO d0 M3.length M4.length M (shV d0 Su0a Su0b) := by rw [hM5]; exact S0.ext _
  clear nrn
  rw [← hM5, ← LM5] at S1
  change Lv M4.length M5.length M5 fun M => TabO d1 M4.length M5.length M Sv1 at S1
  try simp (config := {implicitDefEqProofs := false, maxDischargeDepth := 20}) (disch := first | omega | (simp only [lenE]; done) | (simp only [lenE]; omega) | rfl | (simp only [lenE, markR_len]; done) | (simp only [lenE, markR_len]; omega)) only [runE, mapE, listE, initT_5, initT_6, initT_7, initT_8, resV, oneV, binA, unA, reduceCtorEq, Nat.reduceEqDiff, Nat.reduceAdd, Nat.reduceLT, Nat.reduceLeDiff, Nat.reduceMul, Nat.reduceSub, ↓reduceIte, decide_true, decide_false, Bool.true_eq_false, Bool.false_eq_true, Bool.not_true, Bool.not_false, if_true, if_false, and_true, true_and, memE, celE, w64, Nat.zero_add, Nat.add_zero, Nat.mul_one, putL, and_self, ldn, id_eq, ext_2_0, ext_2_1, ext_3_0, ext_3_1, ext_3_2, ext_4_0, ext_4_1, ext_4_2, ext_4_3, beq_self_eq_true, bne_self_eq_false, gt_iff_lt, X0.ld5]
  refine callH_rc (SPC _ _ _ S0.now.in S1.now.in) ?_
  rintro r new ⟨nrn, vw, rfl, w⟩
  obtain ⟨M6, hM6⟩ : ∃ M', M' = M5 ++ new := ⟨_, rfl⟩
  rw [← hM6]
  have LM6 : M6.length = M5.length + new.length := by rw [hM6, List.length_append]
  replace C0 : Lv 0 M0.length M6 fun M => ShA M (shV d0 u0a u0b) d0 := by rw [hM6]; exact C0.ext _
  replace C1 : Lv 0 M0.length M6 fun M => TabA M v1 d1 := by rw [hM6]; exact C1.ext _
  replace X0 : BoxA M6 M0.length [.int .i64 d0.life, u0a, u0b, .int .i64 d0.waste, .int .i64 d0.lost] := by rw [hM6]; exact X0.ext _
  replace S0 : Lv M3.length M4.length M6 fun M => ShO d0 M3.length M4.length M (shV d0 Su0a Su0b) := by rw [hM6]; exact S0.ext _
  replace S1 : Lv M4.length M5.length M6 fun M => TabO d1 M4.length M5.length M Sv1 := by rw [hM6]; exact S1.ext _
  clear nrn
  rw [← hM6, ← LM6] at w
  clear S0
  clear S1
  try simp (config := {implicitDefEqProofs := false, maxDischargeDepth := 20}) (disch := first | omega | (simp only [lenE]; done) | (simp only [lenE]; omega) | rfl | (simp only [lenE, markR_len]; done) | (simp only [lenE, markR_len]; omega)) only [runE, mapE, listE, initT_5, initT_6, initT_7, initT_8, resV, oneV, binA, unA, reduceCtorEq, Nat.reduceEqDiff, Nat.reduceAdd, Nat.reduceLT, Nat.reduceLeDiff, Nat.reduceMul, Nat.reduceSub, ↓reduceIte, decide_true, decide_false, Bool.true_eq_false, Bool.false_eq_true, Bool.not_true, Bool.not_false, if_true, if_false, and_true, true_and, memE, celE, w64, Nat.zero_add, Nat.add_zero, Nat.mul_one, putL, and_self, ldn, id_eq, ext_2_0, ext_2_1, ext_3_0, ext_3_1, ext_3_2, ext_4_0, ext_4_1, ext_4_2, ext_4_3, beq_self_eq_true, bne_self_eq_false, gt_iff_lt, X0.ld5]
  have TT := toShelf_rc M6 _ d0 C0.now hs0.1 hs0.2
  first | refine callH_rc TT ?_ | refine rcallH_rc TT ?_
  clear TT
  rintro r new ⟨nrn, Yv0, Yv0e, Y0⟩
  rw [id_eq] at Yv0e
  subst r
  obtain ⟨M7, hM7⟩ : ∃ M', M' = M6 ++ new := ⟨_, rfl⟩
  rw [← hM7]
  have LM7 : M7.length = M6.length + new.length := by rw [hM7, List.length_append]
  replace C0 : Lv 0 M0.length M7 fun M => ShA M (shV d0 u0a u0b) d0 := by rw [hM7]; exact C0.ext _
  replace C1 : Lv 0 M0.length M7 fun M => TabA M v1 d1 := by rw [hM7]; exact C1.ext _
  replace X0 : BoxA M7 M0.length [.int .i64 d0.life, u0a, u0b, .int .i64 d0.waste, .int .i64 d0.lost] := by rw [hM7]; exact X0.ext _
  replace w : Lv M5.length M6.length M7 fun M => IntsO W M5.length M6.length M vw := by rw [hM7]; exact w.ext _
  clear nrn
  rw [← hM7, ← LM7] at Y0
  obtain ⟨Yu0a, Yu0b, rfl, -⟩ := Y0.now.in
  change Lv M6.length M7.length M7 fun M => ShO d0 M6.length M7.length M (shV d0 Yu0a Yu0b) at Y0
  have on00 := fun xs => ShA.one1 Y0.now.in xs
  have on01 := fun xs => ShA.one2 Y0.now.in xs
  try simp (config := {implicitDefEqProofs := false, maxDischargeDepth := 20}) (disch := first | omega | (simp only [lenE]; done) | (simp only [lenE]; omega) | rfl | (simp only [lenE, markR_len]; done) | (simp only [lenE, markR_len]; omega)) only [runE, mapE, listE, initT_5, initT_6, initT_7, initT_8, resV, oneV, binA, unA, reduceCtorEq, Nat.reduceEqDiff, Nat.reduceAdd, Nat.reduceLT, Nat.reduceLeDiff, Nat.reduceMul, Nat.reduceSub, ↓reduceIte, decide_true, decide_false, Bool.true_eq_false, Bool.false_eq_true, Bool.not_true, Bool.not_false, if_true, if_false, and_true, true_and, memE, celE, w64, Nat.zero_add, Nat.add_zero, Nat.mul_one, putL, and_self, ldn, id_eq, ext_2_0, ext_2_1, ext_3_0, ext_3_1, ext_3_2, ext_4_0, ext_4_1, ext_4_2, ext_4_3, beq_self_eq_true, bne_self_eq_false, gt_iff_lt, on00, on01, X0.ld5]
  obtain ⟨M8, hM8⟩ : ∃ M', M' = M7 ++ [⟨.own, 27, [.int .i64 d0.life, Yu0a, Yu0b, .int .i64 d0.waste, .int .i64 d0.lost]⟩] := ⟨_, rfl⟩
  rw [← hM8]
  have LM8 : M8.length = M7.length + 1 := by rw [hM8, List.length_append]; rfl
  replace C0 : Lv 0 M0.length M8 fun M => ShA M (shV d0 u0a u0b) d0 := by rw [hM8]; exact C0.ext _
  replace C1 : Lv 0 M0.length M8 fun M => TabA M v1 d1 := by rw [hM8]; exact C1.ext _
  replace X0 : BoxA M8 M0.length [.int .i64 d0.life, u0a, u0b, .int .i64 d0.waste, .int .i64 d0.lost] := by rw [hM8]; exact X0.ext _
  replace w : Lv M5.length M6.length M8 fun M => IntsO W M5.length M6.length M vw := by rw [hM8]; exact w.ext _
  replace Y0 : Lv M6.length M7.length M8 fun M => ShO d0 M6.length M7.length M (shV d0 Yu0a Yu0b) := by rw [hM8]; exact Y0.ext _
  have Z0 : BoxA M8 M7.length [.int .i64 d0.life, Yu0a, Yu0b, .int .i64 d0.waste, .int .i64 d0.lost] := by rw [hM8]; exact BoxA.here _ _ _ rfl
  try simp (config := {implicitDefEqProofs := false, maxDischargeDepth := 20}) (disch := first | omega | (simp only [lenE]; done) | (simp only [lenE]; omega) | rfl | (simp only [lenE, markR_len]; done) | (simp only [lenE, markR_len]; omega)) only [runE, mapE, listE, initT_5, initT_6, initT_7, initT_8, resV, oneV, binA, unA, reduceCtorEq, Nat.reduceEqDiff, Nat.reduceAdd, Nat.reduceLT, Nat.reduceLeDiff, Nat.reduceMul, Nat.reduceSub, ↓reduceIte, decide_true, decide_false, Bool.true_eq_false, Bool.false_eq_true, Bool.not_true, Bool.not_false, if_true, if_false, and_true, true_and, memE, celE, w64, Nat.zero_add, Nat.add_zero, Nat.mul_one, putL, and_self, ldn, id_eq, ext_2_0, ext_2_1, ext_3_0, ext_3_1, ext_3_2, ext_4_0, ext_4_1, ext_4_2, ext_4_3, beq_self_eq_true, bne_self_eq_false, gt_iff_lt, X0.ld5, Z0.ld5]
  have TT := toIntSS_rc M8 _ d1 C1.now hs1.1 hs1.2
  first | refine callH_rc TT ?_ | refine rcallH_rc TT ?_
  clear TT
  rintro r new ⟨nrn, Yv1, Yv1e, Y1⟩
  rw [id_eq] at Yv1e
  subst r
  obtain ⟨M9, hM9⟩ : ∃ M', M' = M8 ++ new := ⟨_, rfl⟩
  rw [← hM9]
  have LM9 : M9.length = M8.length + new.length := by rw [hM9, List.length_append]
  replace C0 : Lv 0 M0.length M9 fun M => ShA M (shV d0 u0a u0b) d0 := by rw [hM9]; exact C0.ext _
  replace C1 : Lv 0 M0.length M9 fun M => TabA M v1 d1 := by rw [hM9]; exact C1.ext _
  replace X0 : BoxA M9 M0.length [.int .i64 d0.life, u0a, u0b, .int .i64 d0.waste, .int .i64 d0.lost] := by rw [hM9]; exact X0.ext _
  replace w : Lv M5.length M6.length M9 fun M => IntsO W M5.length M6.length M vw := by rw [hM9]; exact w.ext _
  replace Y0 : Lv M6.length M7.length M9 fun M => ShO d0 M6.length M7.length M (shV d0 Yu0a Yu0b) := by rw [hM9]; exact Y0.ext _
  replace Z0 : BoxA M9 M7.length [.int .i64 d0.life, Yu0a, Yu0b, .int .i64 d0.waste, .int .i64 d0.lost] := by rw [hM9]; exact Z0.ext _
  clear nrn
  rw [← hM9, ← LM9] at Y1
  change Lv M8.length M9.length M9 fun M => TabO d1 M8.length M9.length M Yv1 at Y1
  try simp (config := {implicitDefEqProofs := false, maxDischargeDepth := 20}) (disch := first | omega | (simp only [lenE]; done) | (simp only [lenE]; omega) | rfl | (simp only [lenE, markR_len]; done) | (simp only [lenE, markR_len]; omega)) only [runE, mapE, listE, initT_5, initT_6, initT_7, initT_8, resV, oneV, binA, unA, reduceCtorEq, Nat.reduceEqDiff, Nat.reduceAdd, Nat.reduceLT, Nat.reduceLeDiff, Nat.reduceMul, Nat.reduceSub, ↓reduceIte, decide_true, decide_false, Bool.true_eq_false, Bool.false_eq_true, Bool.not_true, Bool.not_false, if_true, if_false, and_true, true_and, memE, celE, w64, Nat.zero_add, Nat.add_zero, Nat.mul_one, putL, and_self, ldn, id_eq, ext_2_0, ext_2_1, ext_3_0, ext_3_1, ext_3_2, ext_4_0, ext_4_1, ext_4_2, ext_4_3, beq_self_eq_true, bne_self_eq_false, gt_iff_lt, X0.ld5, Z0.ld5]
  refine callH_rc (IMP _ _ _ Y0.now.in Y1.now.in) ?_
  rintro r new ⟨nrn, vg, rfl, g⟩
  obtain ⟨M10, hM10⟩ : ∃ M', M' = M9 ++ new := ⟨_, rfl⟩
  rw [← hM10]
  have LM10 : M10.length = M9.length + new.length := by rw [hM10, List.length_append]
  replace C0 : Lv 0 M0.length M10 fun M => ShA M (shV d0 u0a u0b) d0 := by rw [hM10]; exact C0.ext _
  replace C1 : Lv 0 M0.length M10 fun M => TabA M v1 d1 := by rw [hM10]; exact C1.ext _
  replace X0 : BoxA M10 M0.length [.int .i64 d0.life, u0a, u0b, .int .i64 d0.waste, .int .i64 d0.lost] := by rw [hM10]; exact X0.ext _
  replace w : Lv M5.length M6.length M10 fun M => IntsO W M5.length M6.length M vw := by rw [hM10]; exact w.ext _
  replace Y0 : Lv M6.length M7.length M10 fun M => ShO d0 M6.length M7.length M (shV d0 Yu0a Yu0b) := by rw [hM10]; exact Y0.ext _
  replace Z0 : BoxA M10 M7.length [.int .i64 d0.life, Yu0a, Yu0b, .int .i64 d0.waste, .int .i64 d0.lost] := by rw [hM10]; exact Z0.ext _
  replace Y1 : Lv M8.length M9.length M10 fun M => TabO d1 M8.length M9.length M Yv1 := by rw [hM10]; exact Y1.ext _
  clear nrn
  rw [← hM10, ← LM10] at g
  try simp (config := {implicitDefEqProofs := false, maxDischargeDepth := 20}) (disch := first | omega | (simp only [lenE]; done) | (simp only [lenE]; omega) | rfl | (simp only [lenE, markR_len]; done) | (simp only [lenE, markR_len]; omega)) only [runE, mapE, listE, initT_5, initT_6, initT_7, initT_8, resV, oneV, binA, unA, reduceCtorEq, Nat.reduceEqDiff, Nat.reduceAdd, Nat.reduceLT, Nat.reduceLeDiff, Nat.reduceMul, Nat.reduceSub, ↓reduceIte, decide_true, decide_false, Bool.true_eq_false, Bool.false_eq_true, Bool.not_true, Bool.not_false, if_true, if_false, and_true, true_and, memE, celE, w64, Nat.zero_add, Nat.add_zero, Nat.mul_one, putL, and_self, ldn, id_eq, ext_2_0, ext_2_1, ext_3_0, ext_3_1, ext_3_2, ext_4_0, ext_4_1, ext_4_2, ext_4_3, beq_self_eq_true, bne_self_eq_false, gt_iff_lt, X0.ld5, Z0.ld5]
  have TT := eqIntsO_rc M10 _ _ W g.now.in w.now.in
  refine callH_rc TT ?_
  clear TT
  rintro r new ⟨rfl, nrn⟩
  obtain ⟨M11, hM11⟩ : ∃ M', M' = M10 ++ new := ⟨_, rfl⟩
  rw [← hM11]
  have LM11 : M11.length = M10.length + new.length := by rw [hM11, List.length_append]
  replace C0 : Lv 0 M0.length M11 fun M => ShA M (shV d0 u0a u0b) d0 := by rw [hM11]; exact C0.ext _
  replace C1 : Lv 0 M0.length M11 fun M => TabA M v1 d1 := by rw [hM11]; exact C1.ext _
  replace X0 : BoxA M11 M0.length [.int .i64 d0.life, u0a, u0b, .int .i64 d0.waste, .int .i64 d0.lost] := by rw [hM11]; exact X0.ext _
  replace w : Lv M5.length M6.length M11 fun M => IntsO W M5.length M6.length M vw := by rw [hM11]; exact w.ext _
  replace Y0 : Lv M6.length M7.length M11 fun M => ShO d0 M6.length M7.length M (shV d0 Yu0a Yu0b) := by rw [hM11]; exact Y0.ext _
  replace Z0 : BoxA M11 M7.length [.int .i64 d0.life, Yu0a, Yu0b, .int .i64 d0.waste, .int .i64 d0.lost] := by rw [hM11]; exact Z0.ext _
  replace Y1 : Lv M8.length M9.length M11 fun M => TabO d1 M8.length M9.length M Yv1 := by rw [hM11]; exact Y1.ext _
  replace g : Lv M9.length M10.length M11 fun M => IntsO W M9.length M10.length M vg := by rw [hM11]; exact g.ext _
  clear nrn
  try simp (config := {implicitDefEqProofs := false, maxDischargeDepth := 20}) (disch := first | omega | (simp only [lenE]; done) | (simp only [lenE]; omega) | rfl | (simp only [lenE, markR_len]; done) | (simp only [lenE, markR_len]; omega)) only [runE, mapE, listE, initT_5, initT_6, initT_7, initT_8, resV, oneV, binA, unA, reduceCtorEq, Nat.reduceEqDiff, Nat.reduceAdd, Nat.reduceLT, Nat.reduceLeDiff, Nat.reduceMul, Nat.reduceSub, ↓reduceIte, decide_true, decide_false, Bool.true_eq_false, Bool.false_eq_true, Bool.not_true, Bool.not_false, if_true, if_false, and_true, true_and, memE, celE, w64, Nat.zero_add, Nat.add_zero, Nat.mul_one, putL, and_self, ldn, id_eq, ext_2_0, ext_2_1, ext_3_0, ext_3_1, ext_3_2, ext_4_0, ext_4_1, ext_4_2, ext_4_3, beq_self_eq_true, bne_self_eq_false, gt_iff_lt, X0.ld5, Z0.ld5]
  try simp (config := {implicitDefEqProofs := false, maxDischargeDepth := 20}) (disch := first | omega | (simp only [lenE]; done) | (simp only [lenE]; omega) | rfl | (simp only [lenE, markR_len]; done) | (simp only [lenE, markR_len]; omega)) only [runE, mapE, listE, initT_5, initT_6, initT_7, initT_8, resV, oneV, binA, unA, reduceCtorEq, Nat.reduceEqDiff, Nat.reduceAdd, Nat.reduceLT, Nat.reduceLeDiff, Nat.reduceMul, Nat.reduceSub, ↓reduceIte, decide_true, decide_false, Bool.true_eq_false, Bool.false_eq_true, Bool.not_true, Bool.not_false, if_true, if_false, and_true, true_and, memE, celE, w64, Nat.zero_add, Nat.add_zero, Nat.mul_one, putL, and_self, ldn, id_eq, ext_2_0, ext_2_1, ext_3_0, ext_3_1, ext_3_2, ext_4_0, ext_4_1, ext_4_2, ext_4_3, beq_self_eq_true, bne_self_eq_false, gt_iff_lt, X0.ld5, Z0.ld5]
  have TT := toShelf_rc M11 _ d0 C0.now hs0.1 hs0.2
  first | refine callH_rc TT ?_ | refine rcallH_rc TT ?_
  clear TT
  rintro r new ⟨nrn, Tv0, Tv0e, T0⟩
  rw [id_eq] at Tv0e
  subst r
  obtain ⟨M12, hM12⟩ : ∃ M', M' = M11 ++ new := ⟨_, rfl⟩
  rw [← hM12]
  have LM12 : M12.length = M11.length + new.length := by rw [hM12, List.length_append]
  replace C0 : Lv 0 M0.length M12 fun M => ShA M (shV d0 u0a u0b) d0 := by rw [hM12]; exact C0.ext _
  replace C1 : Lv 0 M0.length M12 fun M => TabA M v1 d1 := by rw [hM12]; exact C1.ext _
  replace X0 : BoxA M12 M0.length [.int .i64 d0.life, u0a, u0b, .int .i64 d0.waste, .int .i64 d0.lost] := by rw [hM12]; exact X0.ext _
  replace w : Lv M5.length M6.length M12 fun M => IntsO W M5.length M6.length M vw := by rw [hM12]; exact w.ext _
  replace Y0 : Lv M6.length M7.length M12 fun M => ShO d0 M6.length M7.length M (shV d0 Yu0a Yu0b) := by rw [hM12]; exact Y0.ext _
  replace Z0 : BoxA M12 M7.length [.int .i64 d0.life, Yu0a, Yu0b, .int .i64 d0.waste, .int .i64 d0.lost] := by rw [hM12]; exact Z0.ext _
  replace Y1 : Lv M8.length M9.length M12 fun M => TabO d1 M8.length M9.length M Yv1 := by rw [hM12]; exact Y1.ext _
  replace g : Lv M9.length M10.length M12 fun M => IntsO W M9.length M10.length M vg := by rw [hM12]; exact g.ext _
  clear nrn
  rw [← hM12, ← LM12] at T0
  obtain ⟨Tu0a, Tu0b, rfl, -⟩ := T0.now.in
  change Lv M11.length M12.length M12 fun M => ShO d0 M11.length M12.length M (shV d0 Tu0a Tu0b) at T0
  try simp (config := {implicitDefEqProofs := false, maxDischargeDepth := 20}) (disch := first | omega | (simp only [lenE]; done) | (simp only [lenE]; omega) | rfl | (simp only [lenE, markR_len]; done) | (simp only [lenE, markR_len]; omega)) only [runE, mapE, listE, initT_5, initT_6, initT_7, initT_8, resV, oneV, binA, unA, reduceCtorEq, Nat.reduceEqDiff, Nat.reduceAdd, Nat.reduceLT, Nat.reduceLeDiff, Nat.reduceMul, Nat.reduceSub, ↓reduceIte, decide_true, decide_false, Bool.true_eq_false, Bool.false_eq_true, Bool.not_true, Bool.not_false, if_true, if_false, and_true, true_and, memE, celE, w64, Nat.zero_add, Nat.add_zero, Nat.mul_one, putL, and_self, ldn, id_eq, ext_2_0, ext_2_1, ext_3_0, ext_3_1, ext_3_2, ext_4_0, ext_4_1, ext_4_2, ext_4_3, beq_self_eq_true, bne_self_eq_false, gt_iff_lt, X0.ld5, Z0.ld5]
  have TT := eqShelf_rc M12 _ _ d0 Y0.now.in T0.now.in
  first | refine callH_rc TT ?_ | refine rcallH_rc TT ?_
  clear TT
  rintro r new ⟨rfl, nrn⟩
  obtain ⟨M13, hM13⟩ : ∃ M', M' = M12 ++ new := ⟨_, rfl⟩
  rw [← hM13]
  have LM13 : M13.length = M12.length + new.length := by rw [hM13, List.length_append]
  replace C0 : Lv 0 M0.length M13 fun M => ShA M (shV d0 u0a u0b) d0 := by rw [hM13]; exact C0.ext _
  replace C1 : Lv 0 M0.length M13 fun M => TabA M v1 d1 := by rw [hM13]; exact C1.ext _
  replace X0 : BoxA M13 M0.length [.int .i64 d0.life, u0a, u0b, .int .i64 d0.waste, .int .i64 d0.lost] := by rw [hM13]; exact X0.ext _
  replace w : Lv M5.length M6.length M13 fun M => IntsO W M5.length M6.length M vw := by rw [hM13]; exact w.ext _
  replace Y0 : Lv M6.length M7.length M13 fun M => ShO d0 M6.length M7.length M (shV d0 Yu0a Yu0b) := by rw [hM13]; exact Y0.ext _
  replace Z0 : BoxA M13 M7.length [.int .i64 d0.life, Yu0a, Yu0b, .int .i64 d0.waste, .int .i64 d0.lost] := by rw [hM13]; exact Z0.ext _
  replace Y1 : Lv M8.length M9.length M13 fun M => TabO d1 M8.length M9.length M Yv1 := by rw [hM13]; exact Y1.ext _
  replace g : Lv M9.length M10.length M13 fun M => IntsO W M9.length M10.length M vg := by rw [hM13]; exact g.ext _
  replace T0 : Lv M11.length M12.length M13 fun M => ShO d0 M11.length M12.length M (shV d0 Tu0a Tu0b) := by rw [hM13]; exact T0.ext _
  clear nrn
  clear T0
  try simp (config := {implicitDefEqProofs := false, maxDischargeDepth := 20}) (disch := first | omega | (simp only [lenE]; done) | (simp only [lenE]; omega) | rfl | (simp only [lenE, markR_len]; done) | (simp only [lenE, markR_len]; omega)) only [runE, mapE, listE, initT_5, initT_6, initT_7, initT_8, resV, oneV, binA, unA, reduceCtorEq, Nat.reduceEqDiff, Nat.reduceAdd, Nat.reduceLT, Nat.reduceLeDiff, Nat.reduceMul, Nat.reduceSub, ↓reduceIte, decide_true, decide_false, Bool.true_eq_false, Bool.false_eq_true, Bool.not_true, Bool.not_false, if_true, if_false, and_true, true_and, memE, celE, w64, Nat.zero_add, Nat.add_zero, Nat.mul_one, putL, and_self, ldn, id_eq, ext_2_0, ext_2_1, ext_3_0, ext_3_1, ext_3_2, ext_4_0, ext_4_1, ext_4_2, ext_4_3, beq_self_eq_true, bne_self_eq_false, gt_iff_lt, X0.ld5, Z0.ld5]
  try simp (config := {implicitDefEqProofs := false, maxDischargeDepth := 20}) (disch := first | omega | (simp only [lenE]; done) | (simp only [lenE]; omega) | rfl | (simp only [lenE, markR_len]; done) | (simp only [lenE, markR_len]; omega)) only [runE, mapE, listE, initT_5, initT_6, initT_7, initT_8, resV, oneV, binA, unA, reduceCtorEq, Nat.reduceEqDiff, Nat.reduceAdd, Nat.reduceLT, Nat.reduceLeDiff, Nat.reduceMul, Nat.reduceSub, ↓reduceIte, decide_true, decide_false, Bool.true_eq_false, Bool.false_eq_true, Bool.not_true, Bool.not_false, if_true, if_false, and_true, true_and, memE, celE, w64, Nat.zero_add, Nat.add_zero, Nat.mul_one, putL, and_self, ldn, id_eq, ext_2_0, ext_2_1, ext_3_0, ext_3_1, ext_3_2, ext_4_0, ext_4_1, ext_4_2, ext_4_3, beq_self_eq_true, bne_self_eq_false, gt_iff_lt, X0.ld5, Z0.ld5]
  have TT := toIntSS_rc M13 _ d1 C1.now hs1.1 hs1.2
  first | refine callH_rc TT ?_ | refine rcallH_rc TT ?_
  clear TT
  rintro r new ⟨nrn, Tv1, Tv1e, T1⟩
  rw [id_eq] at Tv1e
  subst r
  obtain ⟨M14, hM14⟩ : ∃ M', M' = M13 ++ new := ⟨_, rfl⟩
  rw [← hM14]
  have LM14 : M14.length = M13.length + new.length := by rw [hM14, List.length_append]
  replace C0 : Lv 0 M0.length M14 fun M => ShA M (shV d0 u0a u0b) d0 := by rw [hM14]; exact C0.ext _
  replace C1 : Lv 0 M0.length M14 fun M => TabA M v1 d1 := by rw [hM14]; exact C1.ext _
  replace X0 : BoxA M14 M0.length [.int .i64 d0.life, u0a, u0b, .int .i64 d0.waste, .int .i64 d0.lost] := by rw [hM14]; exact X0.ext _
  replace w : Lv M5.length M6.length M14 fun M => IntsO W M5.length M6.length M vw := by rw [hM14]; exact w.ext _
  replace Y0 : Lv M6.length M7.length M14 fun M => ShO d0 M6.length M7.length M (shV d0 Yu0a Yu0b) := by rw [hM14]; exact Y0.ext _
  replace Z0 : BoxA M14 M7.length [.int .i64 d0.life, Yu0a, Yu0b, .int .i64 d0.waste, .int .i64 d0.lost] := by rw [hM14]; exact Z0.ext _
  replace Y1 : Lv M8.length M9.length M14 fun M => TabO d1 M8.length M9.length M Yv1 := by rw [hM14]; exact Y1.ext _
  replace g : Lv M9.length M10.length M14 fun M => IntsO W M9.length M10.length M vg := by rw [hM14]; exact g.ext _
  clear nrn
  rw [← hM14, ← LM14] at T1
  change Lv M13.length M14.length M14 fun M => TabO d1 M13.length M14.length M Tv1 at T1
  try simp (config := {implicitDefEqProofs := false, maxDischargeDepth := 20}) (disch := first | omega | (simp only [lenE]; done) | (simp only [lenE]; omega) | rfl | (simp only [lenE, markR_len]; done) | (simp only [lenE, markR_len]; omega)) only [runE, mapE, listE, initT_5, initT_6, initT_7, initT_8, resV, oneV, binA, unA, reduceCtorEq, Nat.reduceEqDiff, Nat.reduceAdd, Nat.reduceLT, Nat.reduceLeDiff, Nat.reduceMul, Nat.reduceSub, ↓reduceIte, decide_true, decide_false, Bool.true_eq_false, Bool.false_eq_true, Bool.not_true, Bool.not_false, if_true, if_false, and_true, true_and, memE, celE, w64, Nat.zero_add, Nat.add_zero, Nat.mul_one, putL, and_self, ldn, id_eq, ext_2_0, ext_2_1, ext_3_0, ext_3_1, ext_3_2, ext_4_0, ext_4_1, ext_4_2, ext_4_3, beq_self_eq_true, bne_self_eq_false, gt_iff_lt, X0.ld5, Z0.ld5]
  have TT := eqIntSS_rc M14 _ _ d1 Y1.now.in T1.now.in
  first | refine callH_rc TT ?_ | refine rcallH_rc TT ?_
  clear TT
  rintro r new ⟨rfl, nrn⟩
  obtain ⟨M15, hM15⟩ : ∃ M', M' = M14 ++ new := ⟨_, rfl⟩
  rw [← hM15]
  have LM15 : M15.length = M14.length + new.length := by rw [hM15, List.length_append]
  replace C0 : Lv 0 M0.length M15 fun M => ShA M (shV d0 u0a u0b) d0 := by rw [hM15]; exact C0.ext _
  replace C1 : Lv 0 M0.length M15 fun M => TabA M v1 d1 := by rw [hM15]; exact C1.ext _
  replace X0 : BoxA M15 M0.length [.int .i64 d0.life, u0a, u0b, .int .i64 d0.waste, .int .i64 d0.lost] := by rw [hM15]; exact X0.ext _
  replace w : Lv M5.length M6.length M15 fun M => IntsO W M5.length M6.length M vw := by rw [hM15]; exact w.ext _
  replace Y0 : Lv M6.length M7.length M15 fun M => ShO d0 M6.length M7.length M (shV d0 Yu0a Yu0b) := by rw [hM15]; exact Y0.ext _
  replace Z0 : BoxA M15 M7.length [.int .i64 d0.life, Yu0a, Yu0b, .int .i64 d0.waste, .int .i64 d0.lost] := by rw [hM15]; exact Z0.ext _
  replace Y1 : Lv M8.length M9.length M15 fun M => TabO d1 M8.length M9.length M Yv1 := by rw [hM15]; exact Y1.ext _
  replace g : Lv M9.length M10.length M15 fun M => IntsO W M9.length M10.length M vg := by rw [hM15]; exact g.ext _
  replace T1 : Lv M13.length M14.length M15 fun M => TabO d1 M13.length M14.length M Tv1 := by rw [hM15]; exact T1.ext _
  clear nrn
  clear T1
  try simp (config := {implicitDefEqProofs := false, maxDischargeDepth := 20}) (disch := first | omega | (simp only [lenE]; done) | (simp only [lenE]; omega) | rfl | (simp only [lenE, markR_len]; done) | (simp only [lenE, markR_len]; omega)) only [runE, mapE, listE, initT_5, initT_6, initT_7, initT_8, resV, oneV, binA, unA, reduceCtorEq, Nat.reduceEqDiff, Nat.reduceAdd, Nat.reduceLT, Nat.reduceLeDiff, Nat.reduceMul, Nat.reduceSub, ↓reduceIte, decide_true, decide_false, Bool.true_eq_false, Bool.false_eq_true, Bool.not_true, Bool.not_false, if_true, if_false, and_true, true_and, memE, celE, w64, Nat.zero_add, Nat.add_zero, Nat.mul_one, putL, and_self, ldn, id_eq, ext_2_0, ext_2_1, ext_3_0, ext_3_1, ext_3_2, ext_4_0, ext_4_1, ext_4_2, ext_4_3, beq_self_eq_true, bne_self_eq_false, gt_iff_lt, X0.ld5, Z0.ld5]
  try simp (config := {implicitDefEqProofs := false, maxDischargeDepth := 20}) (disch := first | omega | (simp only [lenE]; done) | (simp only [lenE]; omega) | rfl | (simp only [lenE, markR_len]; done) | (simp only [lenE, markR_len]; omega)) only [runE, mapE, listE, initT_5, initT_6, initT_7, initT_8, resV, oneV, binA, unA, reduceCtorEq, Nat.reduceEqDiff, Nat.reduceAdd, Nat.reduceLT, Nat.reduceLeDiff, Nat.reduceMul, Nat.reduceSub, ↓reduceIte, decide_true, decide_false, Bool.true_eq_false, Bool.false_eq_true, Bool.not_true, Bool.not_false, if_true, if_false, and_true, true_and, memE, celE, w64, Nat.zero_add, Nat.add_zero, Nat.mul_one, putL, and_self, ldn, id_eq, ext_2_0, ext_2_1, ext_3_0, ext_3_1, ext_3_2, ext_4_0, ext_4_1, ext_4_2, ext_4_3, beq_self_eq_true, bne_self_eq_false, gt_iff_lt, X0.ld5, Z0.ld5]
  refine callH_ac (markShelf_ac _ M6.length M7.length _ d0 _ Y0 (by omega) (by omega)) ?_
  rintro r M16 ⟨rfl, hB⟩
  have LM16 := hB.1
  replace C0 : Lv 0 M0.length M16 fun M => ShA M (shV d0 u0a u0b) d0 := C0.but hB (by omega)
  replace C1 : Lv 0 M0.length M16 fun M => TabA M v1 d1 := C1.but hB (by omega)
  replace X0 : BoxA M16 M0.length [.int .i64 d0.life, u0a, u0b, .int .i64 d0.waste, .int .i64 d0.lost] := by have := X0.lt; exact X0.but hB (by omega)
  replace w : Lv M5.length M6.length M16 fun M => IntsO W M5.length M6.length M vw := w.but hB (by omega)
  replace Z0 : BoxA M16 M7.length [.int .i64 d0.life, Yu0a, Yu0b, .int .i64 d0.waste, .int .i64 d0.lost] := by have := Z0.lt; exact Z0.but hB (by omega)
  replace Y1 : Lv M8.length M9.length M16 fun M => TabO d1 M8.length M9.length M Yv1 := Y1.but hB (by omega)
  replace g : Lv M9.length M10.length M16 fun M => IntsO W M9.length M10.length M vg := g.but hB (by omega)
  clear Y0 hB
  try simp (config := {implicitDefEqProofs := false, maxDischargeDepth := 20}) (disch := first | omega | (simp only [lenE]; done) | (simp only [lenE]; omega) | rfl | (simp only [lenE, markR_len]; done) | (simp only [lenE, markR_len]; omega)) only [runE, mapE, listE, initT_5, initT_6, initT_7, initT_8, resV, oneV, binA, unA, reduceCtorEq, Nat.reduceEqDiff, Nat.reduceAdd, Nat.reduceLT, Nat.reduceLeDiff, Nat.reduceMul, Nat.reduceSub, ↓reduceIte, decide_true, decide_false, Bool.true_eq_false, Bool.false_eq_true, Bool.not_true, Bool.not_false, if_true, if_false, and_true, true_and, memE, celE, w64, Nat.zero_add, Nat.add_zero, Nat.mul_one, putL, and_self, ldn, id_eq, ext_2_0, ext_2_1, ext_3_0, ext_3_1, ext_3_2, ext_4_0, ext_4_1, ext_4_2, ext_4_3, beq_self_eq_true, bne_self_eq_false, gt_iff_lt, X0.ld5, Z0.ld5]
  refine callH_ac (markIntSS_ac _ M8.length M9.length _ d1 _ Y1 (by have := tsz_nonneg d1 d1.length; omega) (by omega)) ?_
  rintro r M17 ⟨rfl, hB, -⟩
  have LM17 := hB.1
  replace C0 : Lv 0 M0.length M17 fun M => ShA M (shV d0 u0a u0b) d0 := C0.but hB (by omega)
  replace C1 : Lv 0 M0.length M17 fun M => TabA M v1 d1 := C1.but hB (by omega)
  replace X0 : BoxA M17 M0.length [.int .i64 d0.life, u0a, u0b, .int .i64 d0.waste, .int .i64 d0.lost] := by have := X0.lt; exact X0.but hB (by omega)
  replace w : Lv M5.length M6.length M17 fun M => IntsO W M5.length M6.length M vw := w.but hB (by omega)
  replace Z0 : BoxA M17 M7.length [.int .i64 d0.life, Yu0a, Yu0b, .int .i64 d0.waste, .int .i64 d0.lost] := by have := Z0.lt; exact Z0.but hB (by omega)
  replace g : Lv M9.length M10.length M17 fun M => IntsO W M9.length M10.length M vg := g.but hB (by omega)
  clear Y1 hB
  have tz1 := tsz_nonneg d1 d1.length
  have hkk : ¬ (1 + ((d0.arr.length : Int) + d0.need.length) + (tsz d1 d1.length) < 0) := by omega
  try simp (config := {implicitDefEqProofs := false, maxDischargeDepth := 20}) (disch := first | omega | (simp only [lenE]; done) | (simp only [lenE]; omega) | rfl | (simp only [lenE, markR_len]; done) | (simp only [lenE, markR_len]; omega)) only [runE, mapE, listE, initT_5, initT_6, initT_7, initT_8, resV, oneV, binA, unA, reduceCtorEq, Nat.reduceEqDiff, Nat.reduceAdd, Nat.reduceLT, Nat.reduceLeDiff, Nat.reduceMul, Nat.reduceSub, ↓reduceIte, decide_true, decide_false, Bool.true_eq_false, Bool.false_eq_true, Bool.not_true, Bool.not_false, if_true, if_false, and_true, true_and, memE, celE, w64, Nat.zero_add, Nat.add_zero, Nat.mul_one, putL, and_self, ldn, id_eq, ext_2_0, ext_2_1, ext_3_0, ext_3_1, ext_3_2, ext_4_0, ext_4_1, ext_4_2, ext_4_3, beq_self_eq_true, bne_self_eq_false, gt_iff_lt, hkk, X0.ld5, Z0.ld5]
  try simp (config := {implicitDefEqProofs := false, maxDischargeDepth := 20}) (disch := first | omega | (simp only [lenE]; done) | (simp only [lenE]; omega) | rfl | (simp only [lenE, markR_len]; done) | (simp only [lenE, markR_len]; omega)) only [runE, mapE, listE, initT_5, initT_6, initT_7, initT_8, resV, oneV, binA, unA, reduceCtorEq, Nat.reduceEqDiff, Nat.reduceAdd, Nat.reduceLT, Nat.reduceLeDiff, Nat.reduceMul, Nat.reduceSub, ↓reduceIte, decide_true, decide_false, Bool.true_eq_false, Bool.false_eq_true, Bool.not_true, Bool.not_false, if_true, if_false, and_true, true_and, memE, celE, w64, Nat.zero_add, Nat.add_zero, Nat.mul_one, putL, and_self, ldn, id_eq, ext_2_0, ext_2_1, ext_3_0, ext_3_1, ext_3_2, ext_4_0, ext_4_1, ext_4_2, ext_4_3, beq_self_eq_true, bne_self_eq_false, gt_iff_lt, X0.ld5, Z0.ld5]
  have TT := eqIntsO_rc M17 _ _ W g.now.in w.now.in
  refine callH_rc TT ?_
  clear TT
  rintro r new ⟨rfl, nrn⟩
  obtain ⟨M18, hM18⟩ : ∃ M', M' = M17 ++ new := ⟨_, rfl⟩
  rw [← hM18]
  have LM18 : M18.length = M17.length + new.length := by rw [hM18, List.length_append]
  replace C0 : Lv 0 M0.length M18 fun M => ShA M (shV d0 u0a u0b) d0 := by rw [hM18]; exact C0.ext _
  replace C1 : Lv 0 M0.length M18 fun M => TabA M v1 d1 := by rw [hM18]; exact C1.ext _
  replace X0 : BoxA M18 M0.length [.int .i64 d0.life, u0a, u0b, .int .i64 d0.waste, .int .i64 d0.lost] := by rw [hM18]; exact X0.ext _
  replace w : Lv M5.length M6.length M18 fun M => IntsO W M5.length M6.length M vw := by rw [hM18]; exact w.ext _
  replace Z0 : BoxA M18 M7.length [.int .i64 d0.life, Yu0a, Yu0b, .int .i64 d0.waste, .int .i64 d0.lost] := by rw [hM18]; exact Z0.ext _
  replace g : Lv M9.length M10.length M18 fun M => IntsO W M9.length M10.length M vg := by rw [hM18]; exact g.ext _
  clear nrn
  try simp (config := {implicitDefEqProofs := false, maxDischargeDepth := 20}) (disch := first | omega | (simp only [lenE]; done) | (simp only [lenE]; omega) | rfl | (simp only [lenE, markR_len]; done) | (simp only [lenE, markR_len]; omega)) only [runE, mapE, listE, initT_5, initT_6, initT_7, initT_8, resV, oneV, binA, unA, reduceCtorEq, Nat.reduceEqDiff, Nat.reduceAdd, Nat.reduceLT, Nat.reduceLeDiff, Nat.reduceMul, Nat.reduceSub, ↓reduceIte, decide_true, decide_false, Bool.true_eq_false, Bool.false_eq_true, Bool.not_true, Bool.not_false, if_true, if_false, and_true, true_and, memE, celE, w64, Nat.zero_add, Nat.add_zero, Nat.mul_one, putL, and_self, ldn, id_eq, ext_2_0, ext_2_1, ext_3_0, ext_3_1, ext_3_2, ext_4_0, ext_4_1, ext_4_2, ext_4_3, beq_self_eq_true, bne_self_eq_false, gt_iff_lt, X0.ld5, Z0.ld5]
  refine callH_ac (markIntsO_ac _ M9.length M10.length _ W 1 g (by omega) (by omega)) ?_
  rintro r M19 ⟨rfl, hB, gm⟩
  have LM19 := hB.1
  have gsm := g.now.1
  replace C0 : Lv 0 M0.length M19 fun M => ShA M (shV d0 u0a u0b) d0 := C0.but hB (by omega)
  replace C1 : Lv 0 M0.length M19 fun M => TabA M v1 d1 := C1.but hB (by omega)
  replace X0 : BoxA M19 M0.length [.int .i64 d0.life, u0a, u0b, .int .i64 d0.waste, .int .i64 d0.lost] := by have := X0.lt; exact X0.but hB (by omega)
  replace w : Lv M5.length M6.length M19 fun M => IntsO W M5.length M6.length M vw := w.but hB (by omega)
  replace Z0 : BoxA M19 M7.length [.int .i64 d0.life, Yu0a, Yu0b, .int .i64 d0.waste, .int .i64 d0.lost] := by have := Z0.lt; exact Z0.but hB (by omega)
  clear g hB
  have hkq : ¬ (1 + (W.length : Int) < 0) := by omega
  try simp (config := {implicitDefEqProofs := false, maxDischargeDepth := 20}) (disch := first | omega | (simp only [lenE]; done) | (simp only [lenE]; omega) | rfl | (simp only [lenE, markR_len]; done) | (simp only [lenE, markR_len]; omega)) only [runE, mapE, listE, initT_5, initT_6, initT_7, initT_8, resV, oneV, binA, unA, reduceCtorEq, Nat.reduceEqDiff, Nat.reduceAdd, Nat.reduceLT, Nat.reduceLeDiff, Nat.reduceMul, Nat.reduceSub, ↓reduceIte, decide_true, decide_false, Bool.true_eq_false, Bool.false_eq_true, Bool.not_true, Bool.not_false, if_true, if_false, and_true, true_and, memE, celE, w64, Nat.zero_add, Nat.add_zero, Nat.mul_one, putL, and_self, ldn, id_eq, ext_2_0, ext_2_1, ext_3_0, ext_3_1, ext_3_2, ext_4_0, ext_4_1, ext_4_2, ext_4_3, beq_self_eq_true, bne_self_eq_false, gt_iff_lt, X0.ld5, Z0.ld5]
  refine callH_rc (heldIntsO_rc _ _ 1 W.length gm.now.in (by omega) (by omega) (by omega)) ?_
  rintro r new ⟨rfl, nrn⟩
  obtain ⟨M20, hM20⟩ : ∃ M', M' = M19 ++ new := ⟨_, rfl⟩
  rw [← hM20]
  have LM20 : M20.length = M19.length + new.length := by rw [hM20, List.length_append]
  replace C0 : Lv 0 M0.length M20 fun M => ShA M (shV d0 u0a u0b) d0 := by rw [hM20]; exact C0.ext _
  replace C1 : Lv 0 M0.length M20 fun M => TabA M v1 d1 := by rw [hM20]; exact C1.ext _
  replace X0 : BoxA M20 M0.length [.int .i64 d0.life, u0a, u0b, .int .i64 d0.waste, .int .i64 d0.lost] := by rw [hM20]; exact X0.ext _
  replace w : Lv M5.length M6.length M20 fun M => IntsO W M5.length M6.length M vw := by rw [hM20]; exact w.ext _
  replace Z0 : BoxA M20 M7.length [.int .i64 d0.life, Yu0a, Yu0b, .int .i64 d0.waste, .int .i64 d0.lost] := by rw [hM20]; exact Z0.ext _
  replace gm : Lv M9.length M10.length M20 fun M => IntsO (imarks 1 W.length) M9.length M10.length M vg := by rw [hM20]; exact gm.ext _
  clear nrn
  try simp (config := {implicitDefEqProofs := false, maxDischargeDepth := 20}) (disch := first | omega | (simp only [lenE]; done) | (simp only [lenE]; omega) | rfl | (simp only [lenE, markR_len]; done) | (simp only [lenE, markR_len]; omega)) only [runE, mapE, listE, initT_5, initT_6, initT_7, initT_8, resV, oneV, binA, unA, reduceCtorEq, Nat.reduceEqDiff, Nat.reduceAdd, Nat.reduceLT, Nat.reduceLeDiff, Nat.reduceMul, Nat.reduceSub, ↓reduceIte, decide_true, decide_false, Bool.true_eq_false, Bool.false_eq_true, Bool.not_true, Bool.not_false, if_true, if_false, and_true, true_and, memE, celE, w64, Nat.zero_add, Nat.add_zero, Nat.mul_one, putL, and_self, ldn, id_eq, ext_2_0, ext_2_1, ext_3_0, ext_3_1, ext_3_2, ext_4_0, ext_4_1, ext_4_2, ext_4_3, beq_self_eq_true, bne_self_eq_false, gt_iff_lt, hkq, X0.ld5, Z0.ld5]
  try simp (config := {implicitDefEqProofs := false, maxDischargeDepth := 20}) (disch := first | omega | (simp only [lenE]; done) | (simp only [lenE]; omega) | rfl | (simp only [lenE, markR_len]; done) | (simp only [lenE, markR_len]; omega)) only [runE, mapE, listE, initT_5, initT_6, initT_7, initT_8, resV, oneV, binA, unA, reduceCtorEq, Nat.reduceEqDiff, Nat.reduceAdd, Nat.reduceLT, Nat.reduceLeDiff, Nat.reduceMul, Nat.reduceSub, ↓reduceIte, decide_true, decide_false, Bool.true_eq_false, Bool.false_eq_true, Bool.not_true, Bool.not_false, if_true, if_false, and_true, true_and, memE, celE, w64, Nat.zero_add, Nat.add_zero, Nat.mul_one, putL, and_self, ldn, id_eq, ext_2_0, ext_2_1, ext_3_0, ext_3_1, ext_3_2, ext_4_0, ext_4_1, ext_4_2, ext_4_3, beq_self_eq_true, bne_self_eq_false, gt_iff_lt, X0.ld5, Z0.ld5]
  have TT := toShelf_rc M20 _ d0 C0.now hs0.1 hs0.2
  first | refine callH_rc TT ?_ | refine rcallH_rc TT ?_
  clear TT
  rintro r new ⟨nrn, Uv0, Uv0e, U0⟩
  rw [id_eq] at Uv0e
  subst r
  obtain ⟨M21, hM21⟩ : ∃ M', M' = M20 ++ new := ⟨_, rfl⟩
  rw [← hM21]
  have LM21 : M21.length = M20.length + new.length := by rw [hM21, List.length_append]
  replace C0 : Lv 0 M0.length M21 fun M => ShA M (shV d0 u0a u0b) d0 := by rw [hM21]; exact C0.ext _
  replace C1 : Lv 0 M0.length M21 fun M => TabA M v1 d1 := by rw [hM21]; exact C1.ext _
  replace X0 : BoxA M21 M0.length [.int .i64 d0.life, u0a, u0b, .int .i64 d0.waste, .int .i64 d0.lost] := by rw [hM21]; exact X0.ext _
  replace w : Lv M5.length M6.length M21 fun M => IntsO W M5.length M6.length M vw := by rw [hM21]; exact w.ext _
  replace Z0 : BoxA M21 M7.length [.int .i64 d0.life, Yu0a, Yu0b, .int .i64 d0.waste, .int .i64 d0.lost] := by rw [hM21]; exact Z0.ext _
  replace gm : Lv M9.length M10.length M21 fun M => IntsO (imarks 1 W.length) M9.length M10.length M vg := by rw [hM21]; exact gm.ext _
  clear nrn
  rw [← hM21, ← LM21] at U0
  obtain ⟨Uu0a, Uu0b, rfl, -⟩ := U0.now.in
  change Lv M20.length M21.length M21 fun M => ShO d0 M20.length M21.length M (shV d0 Uu0a Uu0b) at U0
  try simp (config := {implicitDefEqProofs := false, maxDischargeDepth := 20}) (disch := first | omega | (simp only [lenE]; done) | (simp only [lenE]; omega) | rfl | (simp only [lenE, markR_len]; done) | (simp only [lenE, markR_len]; omega)) only [runE, mapE, listE, initT_5, initT_6, initT_7, initT_8, resV, oneV, binA, unA, reduceCtorEq, Nat.reduceEqDiff, Nat.reduceAdd, Nat.reduceLT, Nat.reduceLeDiff, Nat.reduceMul, Nat.reduceSub, ↓reduceIte, decide_true, decide_false, Bool.true_eq_false, Bool.false_eq_true, Bool.not_true, Bool.not_false, if_true, if_false, and_true, true_and, memE, celE, w64, Nat.zero_add, Nat.add_zero, Nat.mul_one, putL, and_self, ldn, id_eq, ext_2_0, ext_2_1, ext_3_0, ext_3_1, ext_3_2, ext_4_0, ext_4_1, ext_4_2, ext_4_3, beq_self_eq_true, bne_self_eq_false, gt_iff_lt, X0.ld5, Z0.ld5]
  have TT := toIntSS_rc M21 _ d1 C1.now hs1.1 hs1.2
  first | refine callH_rc TT ?_ | refine rcallH_rc TT ?_
  clear TT
  rintro r new ⟨nrn, Uv1, Uv1e, U1⟩
  rw [id_eq] at Uv1e
  subst r
  obtain ⟨M22, hM22⟩ : ∃ M', M' = M21 ++ new := ⟨_, rfl⟩
  rw [← hM22]
  have LM22 : M22.length = M21.length + new.length := by rw [hM22, List.length_append]
  replace C0 : Lv 0 M0.length M22 fun M => ShA M (shV d0 u0a u0b) d0 := by rw [hM22]; exact C0.ext _
  replace C1 : Lv 0 M0.length M22 fun M => TabA M v1 d1 := by rw [hM22]; exact C1.ext _
  replace X0 : BoxA M22 M0.length [.int .i64 d0.life, u0a, u0b, .int .i64 d0.waste, .int .i64 d0.lost] := by rw [hM22]; exact X0.ext _
  replace w : Lv M5.length M6.length M22 fun M => IntsO W M5.length M6.length M vw := by rw [hM22]; exact w.ext _
  replace Z0 : BoxA M22 M7.length [.int .i64 d0.life, Yu0a, Yu0b, .int .i64 d0.waste, .int .i64 d0.lost] := by rw [hM22]; exact Z0.ext _
  replace gm : Lv M9.length M10.length M22 fun M => IntsO (imarks 1 W.length) M9.length M10.length M vg := by rw [hM22]; exact gm.ext _
  replace U0 : Lv M20.length M21.length M22 fun M => ShO d0 M20.length M21.length M (shV d0 Uu0a Uu0b) := by rw [hM22]; exact U0.ext _
  clear nrn
  rw [← hM22, ← LM22] at U1
  change Lv M21.length M22.length M22 fun M => TabO d1 M21.length M22.length M Uv1 at U1
  try simp (config := {implicitDefEqProofs := false, maxDischargeDepth := 20}) (disch := first | omega | (simp only [lenE]; done) | (simp only [lenE]; omega) | rfl | (simp only [lenE, markR_len]; done) | (simp only [lenE, markR_len]; omega)) only [runE, mapE, listE, initT_5, initT_6, initT_7, initT_8, resV, oneV, binA, unA, reduceCtorEq, Nat.reduceEqDiff, Nat.reduceAdd, Nat.reduceLT, Nat.reduceLeDiff, Nat.reduceMul, Nat.reduceSub, ↓reduceIte, decide_true, decide_false, Bool.true_eq_false, Bool.false_eq_true, Bool.not_true, Bool.not_false, if_true, if_false, and_true, true_and, memE, celE, w64, Nat.zero_add, Nat.add_zero, Nat.mul_one, putL, and_self, ldn, id_eq, ext_2_0, ext_2_1, ext_3_0, ext_3_1, ext_3_2, ext_4_0, ext_4_1, ext_4_2, ext_4_3, beq_self_eq_true, bne_self_eq_false, gt_iff_lt, X0.ld5, Z0.ld5]
  refine callH_rc (IMP _ _ _ U0.now.in U1.now.in) ?_
  rintro r new ⟨nrn, vh, rfl, h⟩
  obtain ⟨M23, hM23⟩ : ∃ M', M' = M22 ++ new := ⟨_, rfl⟩
  rw [← hM23]
  have LM23 : M23.length = M22.length + new.length := by rw [hM23, List.length_append]
  replace C0 : Lv 0 M0.length M23 fun M => ShA M (shV d0 u0a u0b) d0 := by rw [hM23]; exact C0.ext _
  replace C1 : Lv 0 M0.length M23 fun M => TabA M v1 d1 := by rw [hM23]; exact C1.ext _
  replace X0 : BoxA M23 M0.length [.int .i64 d0.life, u0a, u0b, .int .i64 d0.waste, .int .i64 d0.lost] := by rw [hM23]; exact X0.ext _
  replace w : Lv M5.length M6.length M23 fun M => IntsO W M5.length M6.length M vw := by rw [hM23]; exact w.ext _
  replace Z0 : BoxA M23 M7.length [.int .i64 d0.life, Yu0a, Yu0b, .int .i64 d0.waste, .int .i64 d0.lost] := by rw [hM23]; exact Z0.ext _
  replace gm : Lv M9.length M10.length M23 fun M => IntsO (imarks 1 W.length) M9.length M10.length M vg := by rw [hM23]; exact gm.ext _
  replace U0 : Lv M20.length M21.length M23 fun M => ShO d0 M20.length M21.length M (shV d0 Uu0a Uu0b) := by rw [hM23]; exact U0.ext _
  replace U1 : Lv M21.length M22.length M23 fun M => TabO d1 M21.length M22.length M Uv1 := by rw [hM23]; exact U1.ext _
  clear nrn
  rw [← hM23, ← LM23] at h
  clear U0
  clear U1
  try simp (config := {implicitDefEqProofs := false, maxDischargeDepth := 20}) (disch := first | omega | (simp only [lenE]; done) | (simp only [lenE]; omega) | rfl | (simp only [lenE, markR_len]; done) | (simp only [lenE, markR_len]; omega)) only [runE, mapE, listE, initT_5, initT_6, initT_7, initT_8, resV, oneV, binA, unA, reduceCtorEq, Nat.reduceEqDiff, Nat.reduceAdd, Nat.reduceLT, Nat.reduceLeDiff, Nat.reduceMul, Nat.reduceSub, ↓reduceIte, decide_true, decide_false, Bool.true_eq_false, Bool.false_eq_true, Bool.not_true, Bool.not_false, if_true, if_false, and_true, true_and, memE, celE, w64, Nat.zero_add, Nat.add_zero, Nat.mul_one, putL, and_self, ldn, id_eq, ext_2_0, ext_2_1, ext_3_0, ext_3_1, ext_3_2, ext_4_0, ext_4_1, ext_4_2, ext_4_3, beq_self_eq_true, bne_self_eq_false, gt_iff_lt, X0.ld5, Z0.ld5]
  have TT := eqIntsO_rc M23 _ _ W h.now.in w.now.in
  refine callH_rc TT ?_
  clear TT
  rintro r new ⟨rfl, nrn⟩
  obtain ⟨M24, hM24⟩ : ∃ M', M' = M23 ++ new := ⟨_, rfl⟩
  rw [← hM24]
  have LM24 : M24.length = M23.length + new.length := by rw [hM24, List.length_append]
  replace C0 : Lv 0 M0.length M24 fun M => ShA M (shV d0 u0a u0b) d0 := by rw [hM24]; exact C0.ext _
  replace C1 : Lv 0 M0.length M24 fun M => TabA M v1 d1 := by rw [hM24]; exact C1.ext _
  replace X0 : BoxA M24 M0.length [.int .i64 d0.life, u0a, u0b, .int .i64 d0.waste, .int .i64 d0.lost] := by rw [hM24]; exact X0.ext _
  replace w : Lv M5.length M6.length M24 fun M => IntsO W M5.length M6.length M vw := by rw [hM24]; exact w.ext _
  replace Z0 : BoxA M24 M7.length [.int .i64 d0.life, Yu0a, Yu0b, .int .i64 d0.waste, .int .i64 d0.lost] := by rw [hM24]; exact Z0.ext _
  replace gm : Lv M9.length M10.length M24 fun M => IntsO (imarks 1 W.length) M9.length M10.length M vg := by rw [hM24]; exact gm.ext _
  replace h : Lv M22.length M23.length M24 fun M => IntsO W M22.length M23.length M vh := by rw [hM24]; exact h.ext _
  clear nrn
  try simp (config := {implicitDefEqProofs := false, maxDischargeDepth := 20}) (disch := first | omega | (simp only [lenE]; done) | (simp only [lenE]; omega) | rfl | (simp only [lenE, markR_len]; done) | (simp only [lenE, markR_len]; omega)) only [runE, mapE, listE, initT_5, initT_6, initT_7, initT_8, resV, oneV, binA, unA, reduceCtorEq, Nat.reduceEqDiff, Nat.reduceAdd, Nat.reduceLT, Nat.reduceLeDiff, Nat.reduceMul, Nat.reduceSub, ↓reduceIte, decide_true, decide_false, Bool.true_eq_false, Bool.false_eq_true, Bool.not_true, Bool.not_false, if_true, if_false, and_true, true_and, memE, celE, w64, Nat.zero_add, Nat.add_zero, Nat.mul_one, putL, and_self, ldn, id_eq, ext_2_0, ext_2_1, ext_3_0, ext_3_1, ext_3_2, ext_4_0, ext_4_1, ext_4_2, ext_4_3, beq_self_eq_true, bne_self_eq_false, gt_iff_lt, X0.ld5, Z0.ld5]
  try simp (config := {implicitDefEqProofs := false, maxDischargeDepth := 20}) (disch := first | omega | (simp only [lenE]; done) | (simp only [lenE]; omega) | rfl | (simp only [lenE, markR_len]; done) | (simp only [lenE, markR_len]; omega)) only [runE, mapE, listE, initT_5, initT_6, initT_7, initT_8, resV, oneV, binA, unA, reduceCtorEq, Nat.reduceEqDiff, Nat.reduceAdd, Nat.reduceLT, Nat.reduceLeDiff, Nat.reduceMul, Nat.reduceSub, ↓reduceIte, decide_true, decide_false, Bool.true_eq_false, Bool.false_eq_true, Bool.not_true, Bool.not_false, if_true, if_false, and_true, true_and, memE, celE, w64, Nat.zero_add, Nat.add_zero, Nat.mul_one, putL, and_self, ldn, id_eq, ext_2_0, ext_2_1, ext_3_0, ext_3_1, ext_3_2, ext_4_0, ext_4_1, ext_4_2, ext_4_3, beq_self_eq_true, bne_self_eq_false, gt_iff_lt, X0.ld5, Z0.ld5]
  refine callH_rc (heldIntsO_rc _ _ 1 W.length gm.now.in (by omega) (by omega) (by omega)) ?_
  rintro r new ⟨rfl, nrn⟩
  obtain ⟨M25, hM25⟩ : ∃ M', M' = M24 ++ new := ⟨_, rfl⟩
  rw [← hM25]
  have LM25 : M25.length = M24.length + new.length := by rw [hM25, List.length_append]
  replace C0 : Lv 0 M0.length M25 fun M => ShA M (shV d0 u0a u0b) d0 := by rw [hM25]; exact C0.ext _
  replace C1 : Lv 0 M0.length M25 fun M => TabA M v1 d1 := by rw [hM25]; exact C1.ext _
  replace X0 : BoxA M25 M0.length [.int .i64 d0.life, u0a, u0b, .int .i64 d0.waste, .int .i64 d0.lost] := by rw [hM25]; exact X0.ext _
  replace w : Lv M5.length M6.length M25 fun M => IntsO W M5.length M6.length M vw := by rw [hM25]; exact w.ext _
  replace Z0 : BoxA M25 M7.length [.int .i64 d0.life, Yu0a, Yu0b, .int .i64 d0.waste, .int .i64 d0.lost] := by rw [hM25]; exact Z0.ext _
  replace gm : Lv M9.length M10.length M25 fun M => IntsO (imarks 1 W.length) M9.length M10.length M vg := by rw [hM25]; exact gm.ext _
  replace h : Lv M22.length M23.length M25 fun M => IntsO W M22.length M23.length M vh := by rw [hM25]; exact h.ext _
  clear nrn
  try simp (config := {implicitDefEqProofs := false, maxDischargeDepth := 20}) (disch := first | omega | (simp only [lenE]; done) | (simp only [lenE]; omega) | rfl | (simp only [lenE, markR_len]; done) | (simp only [lenE, markR_len]; omega)) only [runE, mapE, listE, initT_5, initT_6, initT_7, initT_8, resV, oneV, binA, unA, reduceCtorEq, Nat.reduceEqDiff, Nat.reduceAdd, Nat.reduceLT, Nat.reduceLeDiff, Nat.reduceMul, Nat.reduceSub, ↓reduceIte, decide_true, decide_false, Bool.true_eq_false, Bool.false_eq_true, Bool.not_true, Bool.not_false, if_true, if_false, and_true, true_and, memE, celE, w64, Nat.zero_add, Nat.add_zero, Nat.mul_one, putL, and_self, ldn, id_eq, ext_2_0, ext_2_1, ext_3_0, ext_3_1, ext_3_2, ext_4_0, ext_4_1, ext_4_2, ext_4_3, beq_self_eq_true, bne_self_eq_false, gt_iff_lt, hkq, X0.ld5, Z0.ld5]
end Go.Proofs.Ytihjcjhnkpkomaa.Ab
