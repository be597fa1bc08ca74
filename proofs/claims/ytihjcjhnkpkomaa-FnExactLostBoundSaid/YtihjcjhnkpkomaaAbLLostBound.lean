/- FnExactLostBound: its running over abstract memory. -/
import Derived.Test.YtihjcjhnkpkomaaAbSh8
import Derived.Test.YtihjcjhnkpkomaaAbShArg
import Derived.Test.YtihjcjhnkpkomaaAbMarks
import Derived.Test.YtihjcjhnkpkomaaAbBox
import Derived.Test.YtihjcjhnkpkomaaAbArg
import Derived.Test.YtihjcjhnkpkomaaCodLLostBound
namespace Go.Proofs.Ytihjcjhnkpkomaa.Ab
open Go Go.RowKit
set_option linter.unusedVariables false
set_option linter.unusedSimpArgs false
set_option maxRecDepth 100000

set_option maxHeartbeats 4000000 in
theorem law_FnExactLostBound (M0 : Mem) (d0 : Sh) (v0 : Value) (d1 : List Int) (v1 : Value) (A0 : ShA M0 v0 d0) (A1 : IntsA M0 v1 d1) :
    AC Try.prog 11 [v0, v1] M0 fun r _ => r = .bool true := by
  refine ac_of_run mixed ok_laws_FnExactLostBound (by simp) (go_start _ _ _ ?_)
  have A0c := A0
  obtain ⟨u0a, u0b, rfl, -⟩ := A0c
  have len1 := A1.len
  have bd1 := A1.bd
  have C0 : Lv 0 M0.length M0 fun M => ShA M (shV d0 u0a u0b) d0 := Lv.all fun new => A0.ext new
  have C1 : Lv 0 M0.length M0 fun M => IntsA M v1 d1 := Lv.all fun new => A1.ext new
  by_cases s1 : 1048576 < d1.length
  · have s1' : (1048576 : Int) < d1.length := by omega
    try simp (config := {implicitDefEqProofs := false, maxDischargeDepth := 20}) (disch := first | omega | (simp only [lenE]; done) | (simp only [lenE]; omega) | rfl | (simp only [lenE, markR_len]; done) | (simp only [lenE, markR_len]; omega)) only [runE, mapE, listE, initT_5, initT_6, initT_7, initT_8, resV, oneV, binA, unA, reduceCtorEq, Nat.reduceEqDiff, Nat.reduceAdd, Nat.reduceLT, Nat.reduceLeDiff, Nat.reduceMul, Nat.reduceSub, ↓reduceIte, decide_true, decide_false, Bool.true_eq_false, Bool.false_eq_true, Bool.not_true, Bool.not_false, if_true, if_false, and_true, true_and, memE, celE, w64, Nat.zero_add, Nat.add_zero, Nat.mul_one, putL, and_self, ldn, c_laws_FnExactLostBound, r_laws_FnExactLostBound, id_eq, ext_2_0, ext_2_1, ext_3_0, ext_3_1, ext_3_2, ext_4_0, ext_4_1, ext_4_2, ext_4_3, beq_self_eq_true, bne_self_eq_false, gt_iff_lt, s1', len1]
    done
  have s1' : ¬ ((1048576 : Int) < d1.length) := by omega
  try simp (config := {implicitDefEqProofs := false, maxDischargeDepth := 20}) (disch := first | omega | (simp only [lenE]; done) | (simp only [lenE]; omega) | rfl | (simp only [lenE, markR_len]; done) | (simp only [lenE, markR_len]; omega)) only [runE, mapE, listE, initT_5, initT_6, initT_7, initT_8, resV, oneV, binA, unA, reduceCtorEq, Nat.reduceEqDiff, Nat.reduceAdd, Nat.reduceLT, Nat.reduceLeDiff, Nat.reduceMul, Nat.reduceSub, ↓reduceIte, decide_true, decide_false, Bool.true_eq_false, Bool.false_eq_true, Bool.not_true, Bool.not_false, if_true, if_false, and_true, true_and, memE, celE, w64, Nat.zero_add, Nat.add_zero, Nat.mul_one, putL, and_self, ldn, c_laws_FnExactLostBound, r_laws_FnExactLostBound, id_eq, ext_2_0, ext_2_1, ext_3_0, ext_3_1, ext_3_2, ext_4_0, ext_4_1, ext_4_2, ext_4_3, beq_self_eq_true, bne_self_eq_false, gt_iff_lt, s1', len1]
  obtain ⟨M1, hM1⟩ : ∃ M', M' = M0 ++ [⟨.own, 24, [.int .i64 d0.life, u0a, u0b, .int .i64 d0.waste, .int .i64 d0.lost]⟩] := ⟨_, rfl⟩
  rw [← hM1]
  have LM1 : M1.length = M0.length + 1 := by rw [hM1, List.length_append]; rfl
  replace C0 : Lv 0 M0.length M1 fun M => ShA M (shV d0 u0a u0b) d0 := by rw [hM1]; exact C0.ext _
  replace C1 : Lv 0 M0.length M1 fun M => IntsA M v1 d1 := by rw [hM1]; exact C1.ext _
  have X0 : BoxA M1 M0.length [.int .i64 d0.life, u0a, u0b, .int .i64 d0.waste, .int .i64 d0.lost] := by rw [hM1]; exact BoxA.here _ _ _ rfl
  try simp (config := {implicitDefEqProofs := false, maxDischargeDepth := 20}) (disch := first | omega | (simp only [lenE]; done) | (simp only [lenE]; omega) | rfl | (simp only [lenE, markR_len]; done) | (simp only [lenE, markR_len]; omega)) only [runE, mapE, listE, initT_5, initT_6, initT_7, initT_8, resV, oneV, binA, unA, reduceCtorEq, Nat.reduceEqDiff, Nat.reduceAdd, Nat.reduceLT, Nat.reduceLeDiff, Nat.reduceMul, Nat.reduceSub, ↓reduceIte, decide_true, decide_false, Bool.true_eq_false, Bool.false_eq_true, Bool.not_true, Bool.not_false, if_true, if_false, and_true, true_and, memE, celE, w64, Nat.zero_add, Nat.add_zero, Nat.mul_one, putL, and_self, ldn, id_eq, ext_2_0, ext_2_1, ext_3_0, ext_3_1, ext_3_2, ext_4_0, ext_4_1, ext_4_2, ext_4_3, beq_self_eq_true, bne_self_eq_false, gt_iff_lt, X0.ld5]
  refine callH_rc (szShelf_rc _ _ d0 1048576 C0.now (by omega) (by omega)) ?_
  rintro r new ⟨nrn, rfl | ⟨z1, za1, zb1, rfl, hs0⟩⟩
  · simp (config := {implicitDefEqProofs := false, maxDischargeDepth := 20}) (disch := first | omega | (simp only [lenE]; done) | (simp only [lenE]; omega) | rfl | (simp only [lenE, markR_len]; done) | (simp only [lenE, markR_len]; omega)) only [runE, mapE, listE, initT_5, initT_6, initT_7, initT_8, resV, oneV, binA, unA, reduceCtorEq, Nat.reduceEqDiff, Nat.reduceAdd, Nat.reduceLT, Nat.reduceLeDiff, Nat.reduceMul, Nat.reduceSub, ↓reduceIte, decide_true, decide_false, Bool.true_eq_false, Bool.false_eq_true, Bool.not_true, Bool.not_false, if_true, if_false, and_true, true_and, memE, celE, w64, Nat.zero_add, Nat.add_zero, Nat.mul_one, putL, and_self, ldn, show ((-1 : Int) < 0) = True by simp]
  have zc1 : ¬ (z1 < 0) := by omega
  obtain ⟨M2, hM2⟩ : ∃ M', M' = M1 ++ new := ⟨_, rfl⟩
  rw [← hM2]
  have LM2 : M2.length = M1.length + new.length := by rw [hM2, List.length_append]
  replace C0 : Lv 0 M0.length M2 fun M => ShA M (shV d0 u0a u0b) d0 := by rw [hM2]; exact C0.ext _
  replace C1 : Lv 0 M0.length M2 fun M => IntsA M v1 d1 := by rw [hM2]; exact C1.ext _
  replace X0 : BoxA M2 M0.length [.int .i64 d0.life, u0a, u0b, .int .i64 d0.waste, .int .i64 d0.lost] := by rw [hM2]; exact X0.ext _
  clear nrn
  try simp (config := {implicitDefEqProofs := false, maxDischargeDepth := 20}) (disch := first | omega | (simp only [lenE]; done) | (simp only [lenE]; omega) | rfl | (simp only [lenE, markR_len]; done) | (simp only [lenE, markR_len]; omega)) only [runE, mapE, listE, initT_5, initT_6, initT_7, initT_8, resV, oneV, binA, unA, reduceCtorEq, Nat.reduceEqDiff, Nat.reduceAdd, Nat.reduceLT, Nat.reduceLeDiff, Nat.reduceMul, Nat.reduceSub, ↓reduceIte, decide_true, decide_false, Bool.true_eq_false, Bool.false_eq_true, Bool.not_true, Bool.not_false, if_true, if_false, and_true, true_and, memE, celE, w64, Nat.zero_add, Nat.add_zero, Nat.mul_one, putL, and_self, ldn, id_eq, ext_2_0, ext_2_1, ext_3_0, ext_3_1, ext_3_2, ext_4_0, ext_4_1, ext_4_2, ext_4_3, beq_self_eq_true, bne_self_eq_false, gt_iff_lt, zc1, X0.ld5]
  obtain ⟨q0, hq0⟩ : ∃ q : Int, q = (lboundA d0 d1) := ⟨_, rfl⟩
  obtain ⟨q1, hq1⟩ : ∃ q : Bool, q = (lboundOk d0 d1) := ⟨_, rfl⟩
  have SPC := fun m u0 u1 => specLostBound_rc m u0 u1 d0 d1
  have IMP := fun m u0 u1 => implLostBound_rc m u0 u1 d0 d1
  try rw [← hq0] at SPC
  try rw [← hq0] at IMP
  try rw [← hq1] at SPC
  try rw [← hq1] at IMP
  try simp (config := {implicitDefEqProofs := false, maxDischargeDepth := 20}) (disch := first | omega | (simp only [lenE]; done) | (simp only [lenE]; omega) | rfl | (simp only [lenE, markR_len]; done) | (simp only [lenE, markR_len]; omega)) only [runE, mapE, listE, initT_5, initT_6, initT_7, initT_8, resV, oneV, binA, unA, reduceCtorEq, Nat.reduceEqDiff, Nat.reduceAdd, Nat.reduceLT, Nat.reduceLeDiff, Nat.reduceMul, Nat.reduceSub, ↓reduceIte, decide_true, decide_false, Bool.true_eq_false, Bool.false_eq_true, Bool.not_true, Bool.not_false, if_true, if_false, and_true, true_and, memE, celE, w64, Nat.zero_add, Nat.add_zero, Nat.mul_one, putL, and_self, ldn, id_eq, ext_2_0, ext_2_1, ext_3_0, ext_3_1, ext_3_2, ext_4_0, ext_4_1, ext_4_2, ext_4_3, beq_self_eq_true, bne_self_eq_false, gt_iff_lt, X0.ld5]
  have TT := toShelf_rc M2 _ d0 C0.now hs0.1 hs0.2
  first | refine callH_rc TT ?_ | refine rcallH_rc TT ?_
  clear TT
  rintro r new ⟨nrn, Sv0, Sv0e, S0⟩
  rw [id_eq] at Sv0e
  subst r
  obtain ⟨M3, hM3⟩ : ∃ M', M' = M2 ++ new := ⟨_, rfl⟩
  rw [← hM3]
  have LM3 : M3.length = M2.length + new.length := by rw [hM3, List.length_append]
  replace C0 : Lv 0 M0.length M3 fun M => ShA M (shV d0 u0a u0b) d0 := by rw [hM3]; exact C0.ext _
  replace C1 : Lv 0 M0.length M3 fun M => IntsA M v1 d1 := by rw [hM3]; exact C1.ext _
  replace X0 : BoxA M3 M0.length [.int .i64 d0.life, u0a, u0b, .int .i64 d0.waste, .int .i64 d0.lost] := by rw [hM3]; exact X0.ext _
  clear nrn
  rw [← hM3, ← LM3] at S0
  obtain ⟨Su0a, Su0b, rfl, -⟩ := S0.now.in
  change Lv M2.length M3.length M3 fun M => ShO d0 M2.length M3.length M (shV d0 Su0a Su0b) at S0
  try simp (config := {implicitDefEqProofs := false, maxDischargeDepth := 20}) (disch := first | omega | (simp only [lenE]; done) | (simp only [lenE]; omega) | rfl | (simp only [lenE, markR_len]; done) | (simp only [lenE, markR_len]; omega)) only [runE, mapE, listE, initT_5, initT_6, initT_7, initT_8, resV, oneV, binA, unA, reduceCtorEq, Nat.reduceEqDiff, Nat.reduceAdd, Nat.reduceLT, Nat.reduceLeDiff, Nat.reduceMul, Nat.reduceSub, ↓reduceIte, decide_true, decide_false, Bool.true_eq_false, Bool.false_eq_true, Bool.not_true, Bool.not_false, if_true, if_false, and_true, true_and, memE, celE, w64, Nat.zero_add, Nat.add_zero, Nat.mul_one, putL, and_self, ldn, id_eq, ext_2_0, ext_2_1, ext_3_0, ext_3_1, ext_3_2, ext_4_0, ext_4_1, ext_4_2, ext_4_3, beq_self_eq_true, bne_self_eq_false, gt_iff_lt, X0.ld5]
  have TT := toIntsO_rc M3 _ d1 C1.now (by omega)
  first | refine callH_rc TT ?_ | refine rcallH_rc TT ?_
  clear TT
  rintro r new ⟨nrn, Sv1, Sv1e, S1⟩
  rw [id_eq] at Sv1e
  subst r
  obtain ⟨M4, hM4⟩ : ∃ M', M' = M3 ++ new := ⟨_, rfl⟩
  rw [← hM4]
  have LM4 : M4.length = M3.length + new.length := by rw [hM4, List.length_append]
  replace C0 : Lv 0 M0.length M4 fun M => ShA M (shV d0 u0a u0b) d0 := by rw [hM4]; exact C0.ext _
  replace C1 : Lv 0 M0.length M4 fun M => IntsA M v1 d1 := by rw [hM4]; exact C1.ext _
  replace X0 : BoxA M4 M0.length [.int .i64 d0.life, u0a, u0b, .int .i64 d0.waste, .int .i64 d0.lost] := by rw [hM4]; exact X0.ext _
  replace S0 : Lv M2.length M3.length M4 fun M => ShO d0 M2.length M3.length M (shV d0 Su0a Su0b) := by rw [hM4]; exact S0.ext _
  clear nrn
  rw [← hM4, ← LM4] at S1
  change Lv M3.length M4.length M4 fun M => IntsO d1 M3.length M4.length M Sv1 at S1
  try simp (config := {implicitDefEqProofs := false, maxDischargeDepth := 20}) (disch := first | omega | (simp only [lenE]; done) | (simp only [lenE]; omega) | rfl | (simp only [lenE, markR_len]; done) | (simp only [lenE, markR_len]; omega)) only [runE, mapE, listE, initT_5, initT_6, initT_7, initT_8, resV, oneV, binA, unA, reduceCtorEq, Nat.reduceEqDiff, Nat.reduceAdd, Nat.reduceLT, Nat.reduceLeDiff, Nat.reduceMul, Nat.reduceSub, ↓reduceIte, decide_true, decide_false, Bool.true_eq_false, Bool.false_eq_true, Bool.not_true, Bool.not_false, if_true, if_false, and_true, true_and, memE, celE, w64, Nat.zero_add, Nat.add_zero, Nat.mul_one, putL, and_self, ldn, id_eq, ext_2_0, ext_2_1, ext_3_0, ext_3_1, ext_3_2, ext_4_0, ext_4_1, ext_4_2, ext_4_3, beq_self_eq_true, bne_self_eq_false, gt_iff_lt, X0.ld5]
  refine callH_rc (SPC _ _ _ S0.now.in S1.now.in) ?_
  rintro r new ⟨rfl, nrn⟩
  obtain ⟨M5, hM5⟩ : ∃ M', M' = M4 ++ new := ⟨_, rfl⟩
  rw [← hM5]
  have LM5 : M5.length = M4.length + new.length := by rw [hM5, List.length_append]
  replace C0 : Lv 0 M0.length M5 fun M => ShA M (shV d0 u0a u0b) d0 := by rw [hM5]; exact C0.ext _
  replace C1 : Lv 0 M0.length M5 fun M => IntsA M v1 d1 := by rw [hM5]; exact C1.ext _
  replace X0 : BoxA M5 M0.length [.int .i64 d0.life, u0a, u0b, .int .i64 d0.waste, .int .i64 d0.lost] := by rw [hM5]; exact X0.ext _
  replace S0 : Lv M2.length M3.length M5 fun M => ShO d0 M2.length M3.length M (shV d0 Su0a Su0b) := by rw [hM5]; exact S0.ext _
  replace S1 : Lv M3.length M4.length M5 fun M => IntsO d1 M3.length M4.length M Sv1 := by rw [hM5]; exact S1.ext _
  clear nrn
  clear S0
  clear S1
  try simp (config := {implicitDefEqProofs := false, maxDischargeDepth := 20}) (disch := first | omega | (simp only [lenE]; done) | (simp only [lenE]; omega) | rfl | (simp only [lenE, markR_len]; done) | (simp only [lenE, markR_len]; omega)) only [runE, mapE, listE, initT_5, initT_6, initT_7, initT_8, resV, oneV, binA, unA, reduceCtorEq, Nat.reduceEqDiff, Nat.reduceAdd, Nat.reduceLT, Nat.reduceLeDiff, Nat.reduceMul, Nat.reduceSub, ↓reduceIte, decide_true, decide_false, Bool.true_eq_false, Bool.false_eq_true, Bool.not_true, Bool.not_false, if_true, if_false, and_true, true_and, memE, celE, w64, Nat.zero_add, Nat.add_zero, Nat.mul_one, putL, and_self, ldn, id_eq, ext_2_0, ext_2_1, ext_3_0, ext_3_1, ext_3_2, ext_4_0, ext_4_1, ext_4_2, ext_4_3, beq_self_eq_true, bne_self_eq_false, gt_iff_lt, X0.ld5]
  have TT := toShelf_rc M5 _ d0 C0.now hs0.1 hs0.2
  first | refine callH_rc TT ?_ | refine rcallH_rc TT ?_
  clear TT
  rintro r new ⟨nrn, Yv0, Yv0e, Y0⟩
  rw [id_eq] at Yv0e
  subst r
  obtain ⟨M6, hM6⟩ : ∃ M', M' = M5 ++ new := ⟨_, rfl⟩
  rw [← hM6]
  have LM6 : M6.length = M5.length + new.length := by rw [hM6, List.length_append]
  replace C0 : Lv 0 M0.length M6 fun M => ShA M (shV d0 u0a u0b) d0 := by rw [hM6]; exact C0.ext _
  replace C1 : Lv 0 M0.length M6 fun M => IntsA M v1 d1 := by rw [hM6]; exact C1.ext _
  replace X0 : BoxA M6 M0.length [.int .i64 d0.life, u0a, u0b, .int .i64 d0.waste, .int .i64 d0.lost] := by rw [hM6]; exact X0.ext _
  clear nrn
  rw [← hM6, ← LM6] at Y0
  obtain ⟨Yu0a, Yu0b, rfl, -⟩ := Y0.now.in
  change Lv M5.length M6.length M6 fun M => ShO d0 M5.length M6.length M (shV d0 Yu0a Yu0b) at Y0
  have on00 := fun xs => ShA.one1 Y0.now.in xs
  have on01 := fun xs => ShA.one2 Y0.now.in xs
  try simp (config := {implicitDefEqProofs := false, maxDischargeDepth := 20}) (disch := first | omega | (simp only [lenE]; done) | (simp only [lenE]; omega) | rfl | (simp only [lenE, markR_len]; done) | (simp only [lenE, markR_len]; omega)) only [runE, mapE, listE, initT_5, initT_6, initT_7, initT_8, resV, oneV, binA, unA, reduceCtorEq, Nat.reduceEqDiff, Nat.reduceAdd, Nat.reduceLT, Nat.reduceLeDiff, Nat.reduceMul, Nat.reduceSub, ↓reduceIte, decide_true, decide_false, Bool.true_eq_false, Bool.false_eq_true, Bool.not_true, Bool.not_false, if_true, if_false, and_true, true_and, memE, celE, w64, Nat.zero_add, Nat.add_zero, Nat.mul_one, putL, and_self, ldn, id_eq, ext_2_0, ext_2_1, ext_3_0, ext_3_1, ext_3_2, ext_4_0, ext_4_1, ext_4_2, ext_4_3, beq_self_eq_true, bne_self_eq_false, gt_iff_lt, on00, on01, X0.ld5]
  obtain ⟨M7, hM7⟩ : ∃ M', M' = M6 ++ [⟨.own, 27, [.int .i64 d0.life, Yu0a, Yu0b, .int .i64 d0.waste, .int .i64 d0.lost]⟩] := ⟨_, rfl⟩
  rw [← hM7]
  have LM7 : M7.length = M6.length + 1 := by rw [hM7, List.length_append]; rfl
  replace C0 : Lv 0 M0.length M7 fun M => ShA M (shV d0 u0a u0b) d0 := by rw [hM7]; exact C0.ext _
  replace C1 : Lv 0 M0.length M7 fun M => IntsA M v1 d1 := by rw [hM7]; exact C1.ext _
  replace X0 : BoxA M7 M0.length [.int .i64 d0.life, u0a, u0b, .int .i64 d0.waste, .int .i64 d0.lost] := by rw [hM7]; exact X0.ext _
  replace Y0 : Lv M5.length M6.length M7 fun M => ShO d0 M5.length M6.length M (shV d0 Yu0a Yu0b) := by rw [hM7]; exact Y0.ext _
  have Z0 : BoxA M7 M6.length [.int .i64 d0.life, Yu0a, Yu0b, .int .i64 d0.waste, .int .i64 d0.lost] := by rw [hM7]; exact BoxA.here _ _ _ rfl
  try simp (config := {implicitDefEqProofs := false, maxDischargeDepth := 20}) (disch := first | omega | (simp only [lenE]; done) | (simp only [lenE]; omega) | rfl | (simp only [lenE, markR_len]; done) | (simp only [lenE, markR_len]; omega)) only [runE, mapE, listE, initT_5, initT_6, initT_7, initT_8, resV, oneV, binA, unA, reduceCtorEq, Nat.reduceEqDiff, Nat.reduceAdd, Nat.reduceLT, Nat.reduceLeDiff, Nat.reduceMul, Nat.reduceSub, ↓reduceIte, decide_true, decide_false, Bool.true_eq_false, Bool.false_eq_true, Bool.not_true, Bool.not_false, if_true, if_false, and_true, true_and, memE, celE, w64, Nat.zero_add, Nat.add_zero, Nat.mul_one, putL, and_self, ldn, id_eq, ext_2_0, ext_2_1, ext_3_0, ext_3_1, ext_3_2, ext_4_0, ext_4_1, ext_4_2, ext_4_3, beq_self_eq_true, bne_self_eq_false, gt_iff_lt, X0.ld5, Z0.ld5]
  have TT := toIntsO_rc M7 _ d1 C1.now (by omega)
  first | refine callH_rc TT ?_ | refine rcallH_rc TT ?_
  clear TT
  rintro r new ⟨nrn, Yv1, Yv1e, Y1⟩
  rw [id_eq] at Yv1e
  subst r
  obtain ⟨M8, hM8⟩ : ∃ M', M' = M7 ++ new := ⟨_, rfl⟩
  rw [← hM8]
  have LM8 : M8.length = M7.length + new.length := by rw [hM8, List.length_append]
  replace C0 : Lv 0 M0.length M8 fun M => ShA M (shV d0 u0a u0b) d0 := by rw [hM8]; exact C0.ext _
  replace C1 : Lv 0 M0.length M8 fun M => IntsA M v1 d1 := by rw [hM8]; exact C1.ext _
  replace X0 : BoxA M8 M0.length [.int .i64 d0.life, u0a, u0b, .int .i64 d0.waste, .int .i64 d0.lost] := by rw [hM8]; exact X0.ext _
  replace Y0 : Lv M5.length M6.length M8 fun M => ShO d0 M5.length M6.length M (shV d0 Yu0a Yu0b) := by rw [hM8]; exact Y0.ext _
  replace Z0 : BoxA M8 M6.length [.int .i64 d0.life, Yu0a, Yu0b, .int .i64 d0.waste, .int .i64 d0.lost] := by rw [hM8]; exact Z0.ext _
  clear nrn
  rw [← hM8, ← LM8] at Y1
  change Lv M7.length M8.length M8 fun M => IntsO d1 M7.length M8.length M Yv1 at Y1
  try simp (config := {implicitDefEqProofs := false, maxDischargeDepth := 20}) (disch := first | omega | (simp only [lenE]; done) | (simp only [lenE]; omega) | rfl | (simp only [lenE, markR_len]; done) | (simp only [lenE, markR_len]; omega)) only [runE, mapE, listE, initT_5, initT_6, initT_7, initT_8, resV, oneV, binA, unA, reduceCtorEq, Nat.reduceEqDiff, Nat.reduceAdd, Nat.reduceLT, Nat.reduceLeDiff, Nat.reduceMul, Nat.reduceSub, ↓reduceIte, decide_true, decide_false, Bool.true_eq_false, Bool.false_eq_true, Bool.not_true, Bool.not_false, if_true, if_false, and_true, true_and, memE, celE, w64, Nat.zero_add, Nat.add_zero, Nat.mul_one, putL, and_self, ldn, id_eq, ext_2_0, ext_2_1, ext_3_0, ext_3_1, ext_3_2, ext_4_0, ext_4_1, ext_4_2, ext_4_3, beq_self_eq_true, bne_self_eq_false, gt_iff_lt, X0.ld5, Z0.ld5]
  refine callH_rc (IMP _ _ _ Y0.now.in Y1.now.in) ?_
  rintro r new ⟨rfl, nrn⟩
  obtain ⟨M9, hM9⟩ : ∃ M', M' = M8 ++ new := ⟨_, rfl⟩
  rw [← hM9]
  have LM9 : M9.length = M8.length + new.length := by rw [hM9, List.length_append]
  replace C0 : Lv 0 M0.length M9 fun M => ShA M (shV d0 u0a u0b) d0 := by rw [hM9]; exact C0.ext _
  replace C1 : Lv 0 M0.length M9 fun M => IntsA M v1 d1 := by rw [hM9]; exact C1.ext _
  replace X0 : BoxA M9 M0.length [.int .i64 d0.life, u0a, u0b, .int .i64 d0.waste, .int .i64 d0.lost] := by rw [hM9]; exact X0.ext _
  replace Y0 : Lv M5.length M6.length M9 fun M => ShO d0 M5.length M6.length M (shV d0 Yu0a Yu0b) := by rw [hM9]; exact Y0.ext _
  replace Z0 : BoxA M9 M6.length [.int .i64 d0.life, Yu0a, Yu0b, .int .i64 d0.waste, .int .i64 d0.lost] := by rw [hM9]; exact Z0.ext _
  replace Y1 : Lv M7.length M8.length M9 fun M => IntsO d1 M7.length M8.length M Yv1 := by rw [hM9]; exact Y1.ext _
  clear nrn
  try simp (config := {implicitDefEqProofs := false, maxDischargeDepth := 20}) (disch := first | omega | (simp only [lenE]; done) | (simp only [lenE]; omega) | rfl | (simp only [lenE, markR_len]; done) | (simp only [lenE, markR_len]; omega)) only [runE, mapE, listE, initT_5, initT_6, initT_7, initT_8, resV, oneV, binA, unA, reduceCtorEq, Nat.reduceEqDiff, Nat.reduceAdd, Nat.reduceLT, Nat.reduceLeDiff, Nat.reduceMul, Nat.reduceSub, ↓reduceIte, decide_true, decide_false, Bool.true_eq_false, Bool.false_eq_true, Bool.not_true, Bool.not_false, if_true, if_false, and_true, true_and, memE, celE, w64, Nat.zero_add, Nat.add_zero, Nat.mul_one, putL, and_self, ldn, id_eq, ext_2_0, ext_2_1, ext_3_0, ext_3_1, ext_3_2, ext_4_0, ext_4_1, ext_4_2, ext_4_3, beq_self_eq_true, bne_self_eq_false, gt_iff_lt, X0.ld5, Z0.ld5]
  try simp (config := {implicitDefEqProofs := false, maxDischargeDepth := 20}) (disch := first | omega | (simp only [lenE]; done) | (simp only [lenE]; omega) | rfl | (simp only [lenE, markR_len]; done) | (simp only [lenE, markR_len]; omega)) only [runE, mapE, listE, initT_5, initT_6, initT_7, initT_8, resV, oneV, binA, unA, reduceCtorEq, Nat.reduceEqDiff, Nat.reduceAdd, Nat.reduceLT, Nat.reduceLeDiff, Nat.reduceMul, Nat.reduceSub, ↓reduceIte, decide_true, decide_false, Bool.true_eq_false, Bool.false_eq_true, Bool.not_true, Bool.not_false, if_true, if_false, and_true, true_and, memE, celE, w64, Nat.zero_add, Nat.add_zero, Nat.mul_one, putL, and_self, ldn, id_eq, ext_2_0, ext_2_1, ext_3_0, ext_3_1, ext_3_2, ext_4_0, ext_4_1, ext_4_2, ext_4_3, beq_self_eq_true, bne_self_eq_false, gt_iff_lt, X0.ld5, Z0.ld5]
  have TT := toShelf_rc M9 _ d0 C0.now hs0.1 hs0.2
  first | refine callH_rc TT ?_ | refine rcallH_rc TT ?_
  clear TT
  rintro r new ⟨nrn, Tv0, Tv0e, T0⟩
  rw [id_eq] at Tv0e
  subst r
  obtain ⟨M10, hM10⟩ : ∃ M', M' = M9 ++ new := ⟨_, rfl⟩
  rw [← hM10]
  have LM10 : M10.length = M9.length + new.length := by rw [hM10, List.length_append]
  replace C0 : Lv 0 M0.length M10 fun M => ShA M (shV d0 u0a u0b) d0 := by rw [hM10]; exact C0.ext _
  replace C1 : Lv 0 M0.length M10 fun M => IntsA M v1 d1 := by rw [hM10]; exact C1.ext _
  replace X0 : BoxA M10 M0.length [.int .i64 d0.life, u0a, u0b, .int .i64 d0.waste, .int .i64 d0.lost] := by rw [hM10]; exact X0.ext _
  replace Y0 : Lv M5.length M6.length M10 fun M => ShO d0 M5.length M6.length M (shV d0 Yu0a Yu0b) := by rw [hM10]; exact Y0.ext _
  replace Z0 : BoxA M10 M6.length [.int .i64 d0.life, Yu0a, Yu0b, .int .i64 d0.waste, .int .i64 d0.lost] := by rw [hM10]; exact Z0.ext _
  replace Y1 : Lv M7.length M8.length M10 fun M => IntsO d1 M7.length M8.length M Yv1 := by rw [hM10]; exact Y1.ext _
  clear nrn
  rw [← hM10, ← LM10] at T0
  obtain ⟨Tu0a, Tu0b, rfl, -⟩ := T0.now.in
  change Lv M9.length M10.length M10 fun M => ShO d0 M9.length M10.length M (shV d0 Tu0a Tu0b) at T0
  try simp (config := {implicitDefEqProofs := false, maxDischargeDepth := 20}) (disch := first | omega | (simp only [lenE]; done) | (simp only [lenE]; omega) | rfl | (simp only [lenE, markR_len]; done) | (simp only [lenE, markR_len]; omega)) only [runE, mapE, listE, initT_5, initT_6, initT_7, initT_8, resV, oneV, binA, unA, reduceCtorEq, Nat.reduceEqDiff, Nat.reduceAdd, Nat.reduceLT, Nat.reduceLeDiff, Nat.reduceMul, Nat.reduceSub, ↓reduceIte, decide_true, decide_false, Bool.true_eq_false, Bool.false_eq_true, Bool.not_true, Bool.not_false, if_true, if_false, and_true, true_and, memE, celE, w64, Nat.zero_add, Nat.add_zero, Nat.mul_one, putL, and_self, ldn, id_eq, ext_2_0, ext_2_1, ext_3_0, ext_3_1, ext_3_2, ext_4_0, ext_4_1, ext_4_2, ext_4_3, beq_self_eq_true, bne_self_eq_false, gt_iff_lt, X0.ld5, Z0.ld5]
  have TT := eqShelf_rc M10 _ _ d0 Y0.now.in T0.now.in
  first | refine callH_rc TT ?_ | refine rcallH_rc TT ?_
  clear TT
  rintro r new ⟨rfl, nrn⟩
  obtain ⟨M11, hM11⟩ : ∃ M', M' = M10 ++ new := ⟨_, rfl⟩
  rw [← hM11]
  have LM11 : M11.length = M10.length + new.length := by rw [hM11, List.length_append]
  replace C0 : Lv 0 M0.length M11 fun M => ShA M (shV d0 u0a u0b) d0 := by rw [hM11]; exact C0.ext _
  replace C1 : Lv 0 M0.length M11 fun M => IntsA M v1 d1 := by rw [hM11]; exact C1.ext _
  replace X0 : BoxA M11 M0.length [.int .i64 d0.life, u0a, u0b, .int .i64 d0.waste, .int .i64 d0.lost] := by rw [hM11]; exact X0.ext _
  replace Y0 : Lv M5.length M6.length M11 fun M => ShO d0 M5.length M6.length M (shV d0 Yu0a Yu0b) := by rw [hM11]; exact Y0.ext _
  replace Z0 : BoxA M11 M6.length [.int .i64 d0.life, Yu0a, Yu0b, .int .i64 d0.waste, .int .i64 d0.lost] := by rw [hM11]; exact Z0.ext _
  replace Y1 : Lv M7.length M8.length M11 fun M => IntsO d1 M7.length M8.length M Yv1 := by rw [hM11]; exact Y1.ext _
  replace T0 : Lv M9.length M10.length M11 fun M => ShO d0 M9.length M10.length M (shV d0 Tu0a Tu0b) := by rw [hM11]; exact T0.ext _
  clear nrn
  clear T0
  try simp (config := {implicitDefEqProofs := false, maxDischargeDepth := 20}) (disch := first | omega | (simp only [lenE]; done) | (simp only [lenE]; omega) | rfl | (simp only [lenE, markR_len]; done) | (simp only [lenE, markR_len]; omega)) only [runE, mapE, listE, initT_5, initT_6, initT_7, initT_8, resV, oneV, binA, unA, reduceCtorEq, Nat.reduceEqDiff, Nat.reduceAdd, Nat.reduceLT, Nat.reduceLeDiff, Nat.reduceMul, Nat.reduceSub, ↓reduceIte, decide_true, decide_false, Bool.true_eq_false, Bool.false_eq_true, Bool.not_true, Bool.not_false, if_true, if_false, and_true, true_and, memE, celE, w64, Nat.zero_add, Nat.add_zero, Nat.mul_one, putL, and_self, ldn, id_eq, ext_2_0, ext_2_1, ext_3_0, ext_3_1, ext_3_2, ext_4_0, ext_4_1, ext_4_2, ext_4_3, beq_self_eq_true, bne_self_eq_false, gt_iff_lt, X0.ld5, Z0.ld5]
  try simp (config := {implicitDefEqProofs := false, maxDischargeDepth := 20}) (disch := first | omega | (simp only [lenE]; done) | (simp only [lenE]; omega) | rfl | (simp only [lenE, markR_len]; done) | (simp only [lenE, markR_len]; omega)) only [runE, mapE, listE, initT_5, initT_6, initT_7, initT_8, resV, oneV, binA, unA, reduceCtorEq, Nat.reduceEqDiff, Nat.reduceAdd, Nat.reduceLT, Nat.reduceLeDiff, Nat.reduceMul, Nat.reduceSub, ↓reduceIte, decide_true, decide_false, Bool.true_eq_false, Bool.false_eq_true, Bool.not_true, Bool.not_false, if_true, if_false, and_true, true_and, memE, celE, w64, Nat.zero_add, Nat.add_zero, Nat.mul_one, putL, and_self, ldn, id_eq, ext_2_0, ext_2_1, ext_3_0, ext_3_1, ext_3_2, ext_4_0, ext_4_1, ext_4_2, ext_4_3, beq_self_eq_true, bne_self_eq_false, gt_iff_lt, X0.ld5, Z0.ld5]
  have TT := toIntsO_rc M11 _ d1 C1.now (by omega)
  first | refine callH_rc TT ?_ | refine rcallH_rc TT ?_
  clear TT
  rintro r new ⟨nrn, Tv1, Tv1e, T1⟩
  rw [id_eq] at Tv1e
  subst r
  obtain ⟨M12, hM12⟩ : ∃ M', M' = M11 ++ new := ⟨_, rfl⟩
  rw [← hM12]
  have LM12 : M12.length = M11.length + new.length := by rw [hM12, List.length_append]
  replace C0 : Lv 0 M0.length M12 fun M => ShA M (shV d0 u0a u0b) d0 := by rw [hM12]; exact C0.ext _
  replace C1 : Lv 0 M0.length M12 fun M => IntsA M v1 d1 := by rw [hM12]; exact C1.ext _
  replace X0 : BoxA M12 M0.length [.int .i64 d0.life, u0a, u0b, .int .i64 d0.waste, .int .i64 d0.lost] := by rw [hM12]; exact X0.ext _
  replace Y0 : Lv M5.length M6.length M12 fun M => ShO d0 M5.length M6.length M (shV d0 Yu0a Yu0b) := by rw [hM12]; exact Y0.ext _
  replace Z0 : BoxA M12 M6.length [.int .i64 d0.life, Yu0a, Yu0b, .int .i64 d0.waste, .int .i64 d0.lost] := by rw [hM12]; exact Z0.ext _
  replace Y1 : Lv M7.length M8.length M12 fun M => IntsO d1 M7.length M8.length M Yv1 := by rw [hM12]; exact Y1.ext _
  clear nrn
  rw [← hM12, ← LM12] at T1
  change Lv M11.length M12.length M12 fun M => IntsO d1 M11.length M12.length M Tv1 at T1
  try simp (config := {implicitDefEqProofs := false, maxDischargeDepth := 20}) (disch := first | omega | (simp only [lenE]; done) | (simp only [lenE]; omega) | rfl | (simp only [lenE, markR_len]; done) | (simp only [lenE, markR_len]; omega)) only [runE, mapE, listE, initT_5, initT_6, initT_7, initT_8, resV, oneV, binA, unA, reduceCtorEq, Nat.reduceEqDiff, Nat.reduceAdd, Nat.reduceLT, Nat.reduceLeDiff, Nat.reduceMul, Nat.reduceSub, ↓reduceIte, decide_true, decide_false, Bool.true_eq_false, Bool.false_eq_true, Bool.not_true, Bool.not_false, if_true, if_false, and_true, true_and, memE, celE, w64, Nat.zero_add, Nat.add_zero, Nat.mul_one, putL, and_self, ldn, id_eq, ext_2_0, ext_2_1, ext_3_0, ext_3_1, ext_3_2, ext_4_0, ext_4_1, ext_4_2, ext_4_3, beq_self_eq_true, bne_self_eq_false, gt_iff_lt, X0.ld5, Z0.ld5]
  have TT := eqIntsO_rc M12 _ _ d1 Y1.now.in T1.now.in
  first | refine callH_rc TT ?_ | refine rcallH_rc TT ?_
  clear TT
  rintro r new ⟨rfl, nrn⟩
  obtain ⟨M13, hM13⟩ : ∃ M', M' = M12 ++ new := ⟨_, rfl⟩
  rw [← hM13]
  have LM13 : M13.length = M12.length + new.length := by rw [hM13, List.length_append]
  replace C0 : Lv 0 M0.length M13 fun M => ShA M (shV d0 u0a u0b) d0 := by rw [hM13]; exact C0.ext _
  replace C1 : Lv 0 M0.length M13 fun M => IntsA M v1 d1 := by rw [hM13]; exact C1.ext _
  replace X0 : BoxA M13 M0.length [.int .i64 d0.life, u0a, u0b, .int .i64 d0.waste, .int .i64 d0.lost] := by rw [hM13]; exact X0.ext _
  replace Y0 : Lv M5.length M6.length M13 fun M => ShO d0 M5.length M6.length M (shV d0 Yu0a Yu0b) := by rw [hM13]; exact Y0.ext _
  replace Z0 : BoxA M13 M6.length [.int .i64 d0.life, Yu0a, Yu0b, .int .i64 d0.waste, .int .i64 d0.lost] := by rw [hM13]; exact Z0.ext _
  replace Y1 : Lv M7.length M8.length M13 fun M => IntsO d1 M7.length M8.length M Yv1 := by rw [hM13]; exact Y1.ext _
  replace T1 : Lv M11.length M12.length M13 fun M => IntsO d1 M11.length M12.length M Tv1 := by rw [hM13]; exact T1.ext _
  clear nrn
  clear T1
  try simp (config := {implicitDefEqProofs := false, maxDischargeDepth := 20}) (disch := first | omega | (simp only [lenE]; done) | (simp only [lenE]; omega) | rfl | (simp only [lenE, markR_len]; done) | (simp only [lenE, markR_len]; omega)) only [runE, mapE, listE, initT_5, initT_6, initT_7, initT_8, resV, oneV, binA, unA, reduceCtorEq, Nat.reduceEqDiff, Nat.reduceAdd, Nat.reduceLT, Nat.reduceLeDiff, Nat.reduceMul, Nat.reduceSub, ↓reduceIte, decide_true, decide_false, Bool.true_eq_false, Bool.false_eq_true, Bool.not_true, Bool.not_false, if_true, if_false, and_true, true_and, memE, celE, w64, Nat.zero_add, Nat.add_zero, Nat.mul_one, putL, and_self, ldn, id_eq, ext_2_0, ext_2_1, ext_3_0, ext_3_1, ext_3_2, ext_4_0, ext_4_1, ext_4_2, ext_4_3, beq_self_eq_true, bne_self_eq_false, gt_iff_lt, X0.ld5, Z0.ld5]
end Go.Proofs.Ytihjcjhnkpkomaa.Ab
