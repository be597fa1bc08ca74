/- FnExactDayOf: its running over abstract memory. -/
import Derived.Test.YtnkbjliidenldaaAbFl3
import Derived.Test.YtnkbjliidenldaaAbFl
import Derived.Test.YtnkbjliidenldaaAbMarks
import Derived.Test.YtnkbjliidenldaaAbBox
import Derived.Test.YtnkbjliidenldaaAbArg
import Derived.Test.YtnkbjliidenldaaCodLDayOf
namespace Go.Proofs.Ytnkbjliidenldaa.Ab
open Go Go.RowKit
set_option linter.unusedVariables false
set_option linter.unusedSimpArgs false
set_option maxRecDepth 100000

set_option maxHeartbeats 4000000 in
theorem law_FnExactDayOf (M0 : Mem) (d0 : Fl) (v0 : Value) (d1 : Int) (d2 : Int) (A0 : FlA M0 v0 d0) :
    AC Try.prog 5 [v0, .int .i64 d1, .int .i64 d2] M0 fun r _ => r = .bool true := by
  refine ac_of_run mixed ok_laws_FnExactDayOf (by simp) (go_start _ _ _ ?_)
  have A0c := A0
  obtain ⟨u0, rfl, -⟩ := A0c
  have C0 : Lv 0 M0.length M0 fun M => FlA M (flV d0 u0) d0 := Lv.all fun new => A0.ext new
  try simp (config := {implicitDefEqProofs := false, maxDischargeDepth := 20}) (disch := first | omega | (simp only [lenE]; done) | (simp only [lenE]; omega) | rfl | (simp only [lenE, markR_len]; done) | (simp only [lenE, markR_len]; omega)) only [runE, mapE, listE, initT_5, initT_6, initT_7, initT_8, resV, oneV, binA, unA, reduceCtorEq, Nat.reduceEqDiff, Nat.reduceAdd, Nat.reduceLT, Nat.reduceLeDiff, Nat.reduceMul, Nat.reduceSub, ↓reduceIte, decide_true, decide_false, Bool.true_eq_false, Bool.false_eq_true, Bool.not_true, Bool.not_false, if_true, if_false, and_true, true_and, memE, celE, w64, Nat.zero_add, Nat.add_zero, Nat.mul_one, putL, and_self, ldn, c_laws_FnExactDayOf, r_laws_FnExactDayOf, id_eq, ext_2_0, ext_2_1, ext_3_0, ext_3_1, ext_3_2, ext_4_0, ext_4_1, ext_4_2, ext_4_3, beq_self_eq_true, bne_self_eq_false, gt_iff_lt]
  obtain ⟨M1, hM1⟩ : ∃ M', M' = M0 ++ [⟨.own, 24, [.int .i64 d0.stock, u0]⟩] := ⟨_, rfl⟩
  rw [← hM1]
  have LM1 : M1.length = M0.length + 1 := by rw [hM1, List.length_append]; rfl
  replace C0 : Lv 0 M0.length M1 fun M => FlA M (flV d0 u0) d0 := by rw [hM1]; exact C0.ext _
  have X0 : BoxA M1 M0.length [.int .i64 d0.stock, u0] := by rw [hM1]; exact BoxA.here _ _ _ (by omega)
  try simp (config := {implicitDefEqProofs := false, maxDischargeDepth := 20}) (disch := first | omega | (simp only [lenE]; done) | (simp only [lenE]; omega) | rfl | (simp only [lenE, markR_len]; done) | (simp only [lenE, markR_len]; omega)) only [runE, mapE, listE, initT_5, initT_6, initT_7, initT_8, resV, oneV, binA, unA, reduceCtorEq, Nat.reduceEqDiff, Nat.reduceAdd, Nat.reduceLT, Nat.reduceLeDiff, Nat.reduceMul, Nat.reduceSub, ↓reduceIte, decide_true, decide_false, Bool.true_eq_false, Bool.false_eq_true, Bool.not_true, Bool.not_false, if_true, if_false, and_true, true_and, memE, celE, w64, Nat.zero_add, Nat.add_zero, Nat.mul_one, putL, and_self, ldn, id_eq, ext_2_0, ext_2_1, ext_3_0, ext_3_1, ext_3_2, ext_4_0, ext_4_1, ext_4_2, ext_4_3, beq_self_eq_true, bne_self_eq_false, gt_iff_lt, X0.mk2]
  refine callH_rc (szFlow_rc _ _ d0 1048576 C0.now (by omega) (by omega)) ?_
  rintro r new ⟨nrn, rfl | ⟨z1, za1, zb1, rfl, hs0⟩⟩
  · simp (config := {implicitDefEqProofs := false, maxDischargeDepth := 20}) (disch := first | omega | (simp only [lenE]; done) | (simp only [lenE]; omega) | rfl | (simp only [lenE, markR_len]; done) | (simp only [lenE, markR_len]; omega)) only [runE, mapE, listE, initT_5, initT_6, initT_7, initT_8, resV, oneV, binA, unA, reduceCtorEq, Nat.reduceEqDiff, Nat.reduceAdd, Nat.reduceLT, Nat.reduceLeDiff, Nat.reduceMul, Nat.reduceSub, ↓reduceIte, decide_true, decide_false, Bool.true_eq_false, Bool.false_eq_true, Bool.not_true, Bool.not_false, if_true, if_false, and_true, true_and, memE, celE, w64, Nat.zero_add, Nat.add_zero, Nat.mul_one, putL, and_self, ldn, show ((-1 : Int) < 0) = True by simp]
  have zc1 : ¬ (z1 < 0) := by omega
  obtain ⟨M2, hM2⟩ : ∃ M', M' = M1 ++ new := ⟨_, rfl⟩
  rw [← hM2]
  have LM2 : M2.length = M1.length + new.length := by rw [hM2, List.length_append]
  replace C0 : Lv 0 M0.length M2 fun M => FlA M (flV d0 u0) d0 := by rw [hM2]; exact C0.ext _
  replace X0 : BoxA M2 M0.length [.int .i64 d0.stock, u0] := by rw [hM2]; exact X0.ext _
  clear nrn
  try simp (config := {implicitDefEqProofs := false, maxDischargeDepth := 20}) (disch := first | omega | (simp only [lenE]; done) | (simp only [lenE]; omega) | rfl | (simp only [lenE, markR_len]; done) | (simp only [lenE, markR_len]; omega)) only [runE, mapE, listE, initT_5, initT_6, initT_7, initT_8, resV, oneV, binA, unA, reduceCtorEq, Nat.reduceEqDiff, Nat.reduceAdd, Nat.reduceLT, Nat.reduceLeDiff, Nat.reduceMul, Nat.reduceSub, ↓reduceIte, decide_true, decide_false, Bool.true_eq_false, Bool.false_eq_true, Bool.not_true, Bool.not_false, if_true, if_false, and_true, true_and, memE, celE, w64, Nat.zero_add, Nat.add_zero, Nat.mul_one, putL, and_self, ldn, id_eq, ext_2_0, ext_2_1, ext_3_0, ext_3_1, ext_3_2, ext_4_0, ext_4_1, ext_4_2, ext_4_3, beq_self_eq_true, bne_self_eq_false, gt_iff_lt, zc1, X0.mk2]
  obtain ⟨W, hW⟩ : ∃ W : Fl, W = (dayA d0 d1 d2) := ⟨_, rfl⟩
  obtain ⟨q0, hq0⟩ : ∃ q : Bool, q = (dayOk d0 d1 d2) := ⟨_, rfl⟩
  have SPC := fun m u0 => specDayOf_rc m u0 d0 d1 d2
  have IMP := fun m u0 => implDayOf_rc m u0 d0 d1 d2
  try rw [← hW] at SPC
  try rw [← hW] at IMP
  try rw [← hq0] at SPC
  try rw [← hq0] at IMP
  try simp (config := {implicitDefEqProofs := false, maxDischargeDepth := 20}) (disch := first | omega | (simp only [lenE]; done) | (simp only [lenE]; omega) | rfl | (simp only [lenE, markR_len]; done) | (simp only [lenE, markR_len]; omega)) only [runE, mapE, listE, initT_5, initT_6, initT_7, initT_8, resV, oneV, binA, unA, reduceCtorEq, Nat.reduceEqDiff, Nat.reduceAdd, Nat.reduceLT, Nat.reduceLeDiff, Nat.reduceMul, Nat.reduceSub, ↓reduceIte, decide_true, decide_false, Bool.true_eq_false, Bool.false_eq_true, Bool.not_true, Bool.not_false, if_true, if_false, and_true, true_and, memE, celE, w64, Nat.zero_add, Nat.add_zero, Nat.mul_one, putL, and_self, ldn, id_eq, ext_2_0, ext_2_1, ext_3_0, ext_3_1, ext_3_2, ext_4_0, ext_4_1, ext_4_2, ext_4_3, beq_self_eq_true, bne_self_eq_false, gt_iff_lt, X0.mk2]
  have TT := toFlow_rc M2 _ d0 C0.now hs0
  first | refine callH_rc TT ?_ | refine rcallH_rc TT ?_
  clear TT
  rintro r new ⟨nrn, Sv0, Sv0e, S0⟩
  rw [id_eq] at Sv0e
  subst r
  obtain ⟨M3, hM3⟩ : ∃ M', M' = M2 ++ new := ⟨_, rfl⟩
  rw [← hM3]
  have LM3 : M3.length = M2.length + new.length := by rw [hM3, List.length_append]
  replace C0 : Lv 0 M0.length M3 fun M => FlA M (flV d0 u0) d0 := by rw [hM3]; exact C0.ext _
  replace X0 : BoxA M3 M0.length [.int .i64 d0.stock, u0] := by rw [hM3]; exact X0.ext _
  clear nrn
  rw [← hM3, ← LM3] at S0
  obtain ⟨Su0, rfl, -⟩ := S0.now.in
  change Lv M2.length M3.length M3 fun M => FlO d0 M2.length M3.length M (flV d0 Su0) at S0
  try simp (config := {implicitDefEqProofs := false, maxDischargeDepth := 20}) (disch := first | omega | (simp only [lenE]; done) | (simp only [lenE]; omega) | rfl | (simp only [lenE, markR_len]; done) | (simp only [lenE, markR_len]; omega)) only [runE, mapE, listE, initT_5, initT_6, initT_7, initT_8, resV, oneV, binA, unA, reduceCtorEq, Nat.reduceEqDiff, Nat.reduceAdd, Nat.reduceLT, Nat.reduceLeDiff, Nat.reduceMul, Nat.reduceSub, ↓reduceIte, decide_true, decide_false, Bool.true_eq_false, Bool.false_eq_true, Bool.not_true, Bool.not_false, if_true, if_false, and_true, true_and, memE, celE, w64, Nat.zero_add, Nat.add_zero, Nat.mul_one, putL, and_self, ldn, id_eq, ext_2_0, ext_2_1, ext_3_0, ext_3_1, ext_3_2, ext_4_0, ext_4_1, ext_4_2, ext_4_3, beq_self_eq_true, bne_self_eq_false, gt_iff_lt, X0.mk2]
  first | refine callH_rc (SPC _ _ S0.now.in) ?_ | refine rcallH_rc (SPC _ _ S0.now.in) ?_
  rintro r new ⟨nrn, vw, rfl, w⟩
  obtain ⟨M4, hM4⟩ : ∃ M', M' = M3 ++ new := ⟨_, rfl⟩
  rw [← hM4]
  have LM4 : M4.length = M3.length + new.length := by rw [hM4, List.length_append]
  replace C0 : Lv 0 M0.length M4 fun M => FlA M (flV d0 u0) d0 := by rw [hM4]; exact C0.ext _
  replace X0 : BoxA M4 M0.length [.int .i64 d0.stock, u0] := by rw [hM4]; exact X0.ext _
  replace S0 : Lv M2.length M3.length M4 fun M => FlO d0 M2.length M3.length M (flV d0 Su0) := by rw [hM4]; exact S0.ext _
  clear nrn
  rw [← hM4, ← LM4] at w
  obtain ⟨wv0, wv1, hvw, onw⟩ := w.now.agg
  subst hvw
  try simp (config := {implicitDefEqProofs := false, maxDischargeDepth := 20}) (disch := first | omega | (simp only [lenE]; done) | (simp only [lenE]; omega) | rfl | (simp only [lenE, markR_len]; done) | (simp only [lenE, markR_len]; omega)) only [runE, mapE, listE, initT_5, initT_6, initT_7, initT_8, resV, oneV, binA, unA, reduceCtorEq, Nat.reduceEqDiff, Nat.reduceAdd, Nat.reduceLT, Nat.reduceLeDiff, Nat.reduceMul, Nat.reduceSub, ↓reduceIte, decide_true, decide_false, Bool.true_eq_false, Bool.false_eq_true, Bool.not_true, Bool.not_false, if_true, if_false, and_true, true_and, memE, celE, w64, Nat.zero_add, Nat.add_zero, Nat.mul_one, putL, and_self, ldn, id_eq, ext_2_0, ext_2_1, ext_3_0, ext_3_1, ext_3_2, ext_4_0, ext_4_1, ext_4_2, ext_4_3, beq_self_eq_true, bne_self_eq_false, gt_iff_lt, stP_agg2f, onw, X0.rdk7, X0.mk2]
  obtain ⟨M5, hM5⟩ : ∃ M', M' = M4 ++ [⟨.own, 27, [wv0, wv1]⟩] := ⟨_, rfl⟩
  rw [← hM5]
  have LM5 : M5.length = M4.length + 1 := by rw [hM5, List.length_append]; rfl
  replace C0 : Lv 0 M0.length M5 fun M => FlA M (flV d0 u0) d0 := by rw [hM5]; exact C0.ext _
  replace X0 : BoxA M5 M0.length [.int .i64 d0.stock, u0] := by rw [hM5]; exact X0.ext _
  replace S0 : Lv M2.length M3.length M5 fun M => FlO d0 M2.length M3.length M (flV d0 Su0) := by rw [hM5]; exact S0.ext _
  replace w : Lv M3.length M4.length M5 fun M => FlO W M3.length M4.length M (.agg #[wv0, wv1]) := by rw [hM5]; exact w.ext _
  have Bw : BoxA M5 M4.length [wv0, wv1] := by rw [hM5]; exact BoxA.here _ _ _ rfl
  clear S0
  try simp (config := {implicitDefEqProofs := false, maxDischargeDepth := 20}) (disch := first | omega | (simp only [lenE]; done) | (simp only [lenE]; omega) | rfl | (simp only [lenE, markR_len]; done) | (simp only [lenE, markR_len]; omega)) only [runE, mapE, listE, initT_5, initT_6, initT_7, initT_8, resV, oneV, binA, unA, reduceCtorEq, Nat.reduceEqDiff, Nat.reduceAdd, Nat.reduceLT, Nat.reduceLeDiff, Nat.reduceMul, Nat.reduceSub, ↓reduceIte, decide_true, decide_false, Bool.true_eq_false, Bool.false_eq_true, Bool.not_true, Bool.not_false, if_true, if_false, and_true, true_and, memE, celE, w64, Nat.zero_add, Nat.add_zero, Nat.mul_one, putL, and_self, ldn, id_eq, ext_2_0, ext_2_1, ext_3_0, ext_3_1, ext_3_2, ext_4_0, ext_4_1, ext_4_2, ext_4_3, beq_self_eq_true, bne_self_eq_false, gt_iff_lt, X0.mk2, Bw.ld2]
  have TT := toFlow_rc M5 _ d0 C0.now hs0
  first | refine callH_rc TT ?_ | refine rcallH_rc TT ?_
  clear TT
  rintro r new ⟨nrn, Yv0, Yv0e, Y0⟩
  rw [id_eq] at Yv0e
  subst r
  obtain ⟨M6, hM6⟩ : ∃ M', M' = M5 ++ new := ⟨_, rfl⟩
  rw [← hM6]
  have LM6 : M6.length = M5.length + new.length := by rw [hM6, List.length_append]
  replace C0 : Lv 0 M0.length M6 fun M => FlA M (flV d0 u0) d0 := by rw [hM6]; exact C0.ext _
  replace X0 : BoxA M6 M0.length [.int .i64 d0.stock, u0] := by rw [hM6]; exact X0.ext _
  replace w : Lv M3.length M4.length M6 fun M => FlO W M3.length M4.length M (.agg #[wv0, wv1]) := by rw [hM6]; exact w.ext _
  replace Bw : BoxA M6 M4.length [wv0, wv1] := by rw [hM6]; exact Bw.ext _
  clear nrn
  rw [← hM6, ← LM6] at Y0
  obtain ⟨Yu0, rfl, -⟩ := Y0.now.in
  change Lv M5.length M6.length M6 fun M => FlO d0 M5.length M6.length M (flV d0 Yu0) at Y0
  have on00 := fun xs => FlA.one Y0.now.in xs
  try simp (config := {implicitDefEqProofs := false, maxDischargeDepth := 20}) (disch := first | omega | (simp only [lenE]; done) | (simp only [lenE]; omega) | rfl | (simp only [lenE, markR_len]; done) | (simp only [lenE, markR_len]; omega)) only [runE, mapE, listE, initT_5, initT_6, initT_7, initT_8, resV, oneV, binA, unA, reduceCtorEq, Nat.reduceEqDiff, Nat.reduceAdd, Nat.reduceLT, Nat.reduceLeDiff, Nat.reduceMul, Nat.reduceSub, ↓reduceIte, decide_true, decide_false, Bool.true_eq_false, Bool.false_eq_true, Bool.not_true, Bool.not_false, if_true, if_false, and_true, true_and, memE, celE, w64, Nat.zero_add, Nat.add_zero, Nat.mul_one, putL, and_self, ldn, id_eq, ext_2_0, ext_2_1, ext_3_0, ext_3_1, ext_3_2, ext_4_0, ext_4_1, ext_4_2, ext_4_3, beq_self_eq_true, bne_self_eq_false, gt_iff_lt, on00, X0.mk2, Bw.ld2]
  obtain ⟨M7, hM7⟩ : ∃ M', M' = M6 ++ [⟨.own, 27, [.int .i64 d0.stock, Yu0]⟩] := ⟨_, rfl⟩
  rw [← hM7]
  have LM7 : M7.length = M6.length + 1 := by rw [hM7, List.length_append]; rfl
  replace C0 : Lv 0 M0.length M7 fun M => FlA M (flV d0 u0) d0 := by rw [hM7]; exact C0.ext _
  replace X0 : BoxA M7 M0.length [.int .i64 d0.stock, u0] := by rw [hM7]; exact X0.ext _
  replace w : Lv M3.length M4.length M7 fun M => FlO W M3.length M4.length M (.agg #[wv0, wv1]) := by rw [hM7]; exact w.ext _
  replace Bw : BoxA M7 M4.length [wv0, wv1] := by rw [hM7]; exact Bw.ext _
  replace Y0 : Lv M5.length M6.length M7 fun M => FlO d0 M5.length M6.length M (flV d0 Yu0) := by rw [hM7]; exact Y0.ext _
  have Z0 : BoxA M7 M6.length [.int .i64 d0.stock, Yu0] := by rw [hM7]; exact BoxA.here _ _ _ rfl
  try simp (config := {implicitDefEqProofs := false, maxDischargeDepth := 20}) (disch := first | omega | (simp only [lenE]; done) | (simp only [lenE]; omega) | rfl | (simp only [lenE, markR_len]; done) | (simp only [lenE, markR_len]; omega)) only [runE, mapE, listE, initT_5, initT_6, initT_7, initT_8, resV, oneV, binA, unA, reduceCtorEq, Nat.reduceEqDiff, Nat.reduceAdd, Nat.reduceLT, Nat.reduceLeDiff, Nat.reduceMul, Nat.reduceSub, ↓reduceIte, decide_true, decide_false, Bool.true_eq_false, Bool.false_eq_true, Bool.not_true, Bool.not_false, if_true, if_false, and_true, true_and, memE, celE, w64, Nat.zero_add, Nat.add_zero, Nat.mul_one, putL, and_self, ldn, id_eq, ext_2_0, ext_2_1, ext_3_0, ext_3_1, ext_3_2, ext_4_0, ext_4_1, ext_4_2, ext_4_3, beq_self_eq_true, bne_self_eq_false, gt_iff_lt, X0.mk2, Bw.ld2, Z0.mk2]
  first | refine callH_rc (IMP _ _ Y0.now.in) ?_ | refine rcallH_rc (IMP _ _ Y0.now.in) ?_
  rintro r new ⟨nrn, vg, rfl, g⟩
  obtain ⟨M8, hM8⟩ : ∃ M', M' = M7 ++ new := ⟨_, rfl⟩
  rw [← hM8]
  have LM8 : M8.length = M7.length + new.length := by rw [hM8, List.length_append]
  replace C0 : Lv 0 M0.length M8 fun M => FlA M (flV d0 u0) d0 := by rw [hM8]; exact C0.ext _
  replace X0 : BoxA M8 M0.length [.int .i64 d0.stock, u0] := by rw [hM8]; exact X0.ext _
  replace w : Lv M3.length M4.length M8 fun M => FlO W M3.length M4.length M (.agg #[wv0, wv1]) := by rw [hM8]; exact w.ext _
  replace Bw : BoxA M8 M4.length [wv0, wv1] := by rw [hM8]; exact Bw.ext _
  replace Y0 : Lv M5.length M6.length M8 fun M => FlO d0 M5.length M6.length M (flV d0 Yu0) := by rw [hM8]; exact Y0.ext _
  replace Z0 : BoxA M8 M6.length [.int .i64 d0.stock, Yu0] := by rw [hM8]; exact Z0.ext _
  clear nrn
  rw [← hM8, ← LM8] at g
  obtain ⟨gv0, gv1, hvg, ong⟩ := g.now.agg
  subst hvg
  try simp (config := {implicitDefEqProofs := false, maxDischargeDepth := 20}) (disch := first | omega | (simp only [lenE]; done) | (simp only [lenE]; omega) | rfl | (simp only [lenE, markR_len]; done) | (simp only [lenE, markR_len]; omega)) only [runE, mapE, listE, initT_5, initT_6, initT_7, initT_8, resV, oneV, binA, unA, reduceCtorEq, Nat.reduceEqDiff, Nat.reduceAdd, Nat.reduceLT, Nat.reduceLeDiff, Nat.reduceMul, Nat.reduceSub, ↓reduceIte, decide_true, decide_false, Bool.true_eq_false, Bool.false_eq_true, Bool.not_true, Bool.not_false, if_true, if_false, and_true, true_and, memE, celE, w64, Nat.zero_add, Nat.add_zero, Nat.mul_one, putL, and_self, ldn, id_eq, ext_2_0, ext_2_1, ext_3_0, ext_3_1, ext_3_2, ext_4_0, ext_4_1, ext_4_2, ext_4_3, beq_self_eq_true, bne_self_eq_false, gt_iff_lt, stP_agg2f, ong, X0.rdk7, Bw.rdk7, Z0.rdk7, X0.mk2, Bw.ld2, Z0.mk2]
  obtain ⟨M9, hM9⟩ : ∃ M', M' = M8 ++ [⟨.own, 27, [gv0, gv1]⟩] := ⟨_, rfl⟩
  rw [← hM9]
  have LM9 : M9.length = M8.length + 1 := by rw [hM9, List.length_append]; rfl
  replace C0 : Lv 0 M0.length M9 fun M => FlA M (flV d0 u0) d0 := by rw [hM9]; exact C0.ext _
  replace X0 : BoxA M9 M0.length [.int .i64 d0.stock, u0] := by rw [hM9]; exact X0.ext _
  replace w : Lv M3.length M4.length M9 fun M => FlO W M3.length M4.length M (.agg #[wv0, wv1]) := by rw [hM9]; exact w.ext _
  replace Bw : BoxA M9 M4.length [wv0, wv1] := by rw [hM9]; exact Bw.ext _
  replace Y0 : Lv M5.length M6.length M9 fun M => FlO d0 M5.length M6.length M (flV d0 Yu0) := by rw [hM9]; exact Y0.ext _
  replace Z0 : BoxA M9 M6.length [.int .i64 d0.stock, Yu0] := by rw [hM9]; exact Z0.ext _
  replace g : Lv M7.length M8.length M9 fun M => FlO W M7.length M8.length M (.agg #[gv0, gv1]) := by rw [hM9]; exact g.ext _
  have Bg : BoxA M9 M8.length [gv0, gv1] := by rw [hM9]; exact BoxA.here _ _ _ rfl
  try simp (config := {implicitDefEqProofs := false, maxDischargeDepth := 20}) (disch := first | omega | (simp only [lenE]; done) | (simp only [lenE]; omega) | rfl | (simp only [lenE, markR_len]; done) | (simp only [lenE, markR_len]; omega)) only [runE, mapE, listE, initT_5, initT_6, initT_7, initT_8, resV, oneV, binA, unA, reduceCtorEq, Nat.reduceEqDiff, Nat.reduceAdd, Nat.reduceLT, Nat.reduceLeDiff, Nat.reduceMul, Nat.reduceSub, ↓reduceIte, decide_true, decide_false, Bool.true_eq_false, Bool.false_eq_true, Bool.not_true, Bool.not_false, if_true, if_false, and_true, true_and, memE, celE, w64, Nat.zero_add, Nat.add_zero, Nat.mul_one, putL, and_self, ldn, id_eq, ext_2_0, ext_2_1, ext_3_0, ext_3_1, ext_3_2, ext_4_0, ext_4_1, ext_4_2, ext_4_3, beq_self_eq_true, bne_self_eq_false, gt_iff_lt, X0.mk2, Bw.ld2, Z0.mk2, Bg.ld2]
  have TT := eqFlow_rc M9 _ _ W g.now.in w.now.in
  refine callH_rc TT ?_
  clear TT
  rintro r new ⟨rfl, nrn⟩
  obtain ⟨M10, hM10⟩ : ∃ M', M' = M9 ++ new := ⟨_, rfl⟩
  rw [← hM10]
  have LM10 : M10.length = M9.length + new.length := by rw [hM10, List.length_append]
  replace C0 : Lv 0 M0.length M10 fun M => FlA M (flV d0 u0) d0 := by rw [hM10]; exact C0.ext _
  replace X0 : BoxA M10 M0.length [.int .i64 d0.stock, u0] := by rw [hM10]; exact X0.ext _
  replace w : Lv M3.length M4.length M10 fun M => FlO W M3.length M4.length M (.agg #[wv0, wv1]) := by rw [hM10]; exact w.ext _
  replace Bw : BoxA M10 M4.length [wv0, wv1] := by rw [hM10]; exact Bw.ext _
  replace Y0 : Lv M5.length M6.length M10 fun M => FlO d0 M5.length M6.length M (flV d0 Yu0) := by rw [hM10]; exact Y0.ext _
  replace Z0 : BoxA M10 M6.length [.int .i64 d0.stock, Yu0] := by rw [hM10]; exact Z0.ext _
  replace g : Lv M7.length M8.length M10 fun M => FlO W M7.length M8.length M (.agg #[gv0, gv1]) := by rw [hM10]; exact g.ext _
  replace Bg : BoxA M10 M8.length [gv0, gv1] := by rw [hM10]; exact Bg.ext _
  clear nrn
  try simp (config := {implicitDefEqProofs := false, maxDischargeDepth := 20}) (disch := first | omega | (simp only [lenE]; done) | (simp only [lenE]; omega) | rfl | (simp only [lenE, markR_len]; done) | (simp only [lenE, markR_len]; omega)) only [runE, mapE, listE, initT_5, initT_6, initT_7, initT_8, resV, oneV, binA, unA, reduceCtorEq, Nat.reduceEqDiff, Nat.reduceAdd, Nat.reduceLT, Nat.reduceLeDiff, Nat.reduceMul, Nat.reduceSub, ↓reduceIte, decide_true, decide_false, Bool.true_eq_false, Bool.false_eq_true, Bool.not_true, Bool.not_false, if_true, if_false, and_true, true_and, memE, celE, w64, Nat.zero_add, Nat.add_zero, Nat.mul_one, putL, and_self, ldn, id_eq, ext_2_0, ext_2_1, ext_3_0, ext_3_1, ext_3_2, ext_4_0, ext_4_1, ext_4_2, ext_4_3, beq_self_eq_true, bne_self_eq_false, gt_iff_lt, X0.mk2, Bw.ld2, Z0.mk2, Bg.ld2]
  try simp (config := {implicitDefEqProofs := false, maxDischargeDepth := 20}) (disch := first | omega | (simp only [lenE]; done) | (simp only [lenE]; omega) | rfl | (simp only [lenE, markR_len]; done) | (simp only [lenE, markR_len]; omega)) only [runE, mapE, listE, initT_5, initT_6, initT_7, initT_8, resV, oneV, binA, unA, reduceCtorEq, Nat.reduceEqDiff, Nat.reduceAdd, Nat.reduceLT, Nat.reduceLeDiff, Nat.reduceMul, Nat.reduceSub, ↓reduceIte, decide_true, decide_false, Bool.true_eq_false, Bool.false_eq_true, Bool.not_true, Bool.not_false, if_true, if_false, and_true, true_and, memE, celE, w64, Nat.zero_add, Nat.add_zero, Nat.mul_one, putL, and_self, ldn, id_eq, ext_2_0, ext_2_1, ext_3_0, ext_3_1, ext_3_2, ext_4_0, ext_4_1, ext_4_2, ext_4_3, beq_self_eq_true, bne_self_eq_false, gt_iff_lt, X0.mk2, Bw.ld2, Z0.mk2, Bg.ld2]
  have TT := toFlow_rc M10 _ d0 C0.now hs0
  first | refine callH_rc TT ?_ | refine rcallH_rc TT ?_
  clear TT
  rintro r new ⟨nrn, Tv0, Tv0e, T0⟩
  rw [id_eq] at Tv0e
  subst r
  obtain ⟨M11, hM11⟩ : ∃ M', M' = M10 ++ new := ⟨_, rfl⟩
  rw [← hM11]
  have LM11 : M11.length = M10.length + new.length := by rw [hM11, List.length_append]
  replace C0 : Lv 0 M0.length M11 fun M => FlA M (flV d0 u0) d0 := by rw [hM11]; exact C0.ext _
  replace X0 : BoxA M11 M0.length [.int .i64 d0.stock, u0] := by rw [hM11]; exact X0.ext _
  replace w : Lv M3.length M4.length M11 fun M => FlO W M3.length M4.length M (.agg #[wv0, wv1]) := by rw [hM11]; exact w.ext _
  replace Bw : BoxA M11 M4.length [wv0, wv1] := by rw [hM11]; exact Bw.ext _
  replace Y0 : Lv M5.length M6.length M11 fun M => FlO d0 M5.length M6.length M (flV d0 Yu0) := by rw [hM11]; exact Y0.ext _
  replace Z0 : BoxA M11 M6.length [.int .i64 d0.stock, Yu0] := by rw [hM11]; exact Z0.ext _
  replace g : Lv M7.length M8.length M11 fun M => FlO W M7.length M8.length M (.agg #[gv0, gv1]) := by rw [hM11]; exact g.ext _
  replace Bg : BoxA M11 M8.length [gv0, gv1] := by rw [hM11]; exact Bg.ext _
  clear nrn
  rw [← hM11, ← LM11] at T0
  obtain ⟨Tu0, rfl, -⟩ := T0.now.in
  change Lv M10.length M11.length M11 fun M => FlO d0 M10.length M11.length M (flV d0 Tu0) at T0
  try simp (config := {implicitDefEqProofs := false, maxDischargeDepth := 20}) (disch := first | omega | (simp only [lenE]; done) | (simp only [lenE]; omega) | rfl | (simp only [lenE, markR_len]; done) | (simp only [lenE, markR_len]; omega)) only [runE, mapE, listE, initT_5, initT_6, initT_7, initT_8, resV, oneV, binA, unA, reduceCtorEq, Nat.reduceEqDiff, Nat.reduceAdd, Nat.reduceLT, Nat.reduceLeDiff, Nat.reduceMul, Nat.reduceSub, ↓reduceIte, decide_true, decide_false, Bool.true_eq_false, Bool.false_eq_true, Bool.not_true, Bool.not_false, if_true, if_false, and_true, true_and, memE, celE, w64, Nat.zero_add, Nat.add_zero, Nat.mul_one, putL, and_self, ldn, id_eq, ext_2_0, ext_2_1, ext_3_0, ext_3_1, ext_3_2, ext_4_0, ext_4_1, ext_4_2, ext_4_3, beq_self_eq_true, bne_self_eq_false, gt_iff_lt, X0.mk2, Bw.ld2, Z0.mk2, Bg.ld2]
  have TT := eqFlow_rc M11 _ _ d0 Y0.now.in T0.now.in
  first | refine callH_rc TT ?_ | refine rcallH_rc TT ?_
  clear TT
  rintro r new ⟨rfl, nrn⟩
  obtain ⟨M12, hM12⟩ : ∃ M', M' = M11 ++ new := ⟨_, rfl⟩
  rw [← hM12]
  have LM12 : M12.length = M11.length + new.length := by rw [hM12, List.length_append]
  replace C0 : Lv 0 M0.length M12 fun M => FlA M (flV d0 u0) d0 := by rw [hM12]; exact C0.ext _
  replace X0 : BoxA M12 M0.length [.int .i64 d0.stock, u0] := by rw [hM12]; exact X0.ext _
  replace w : Lv M3.length M4.length M12 fun M => FlO W M3.length M4.length M (.agg #[wv0, wv1]) := by rw [hM12]; exact w.ext _
  replace Bw : BoxA M12 M4.length [wv0, wv1] := by rw [hM12]; exact Bw.ext _
  replace Y0 : Lv M5.length M6.length M12 fun M => FlO d0 M5.length M6.length M (flV d0 Yu0) := by rw [hM12]; exact Y0.ext _
  replace Z0 : BoxA M12 M6.length [.int .i64 d0.stock, Yu0] := by rw [hM12]; exact Z0.ext _
  replace g : Lv M7.length M8.length M12 fun M => FlO W M7.length M8.length M (.agg #[gv0, gv1]) := by rw [hM12]; exact g.ext _
  replace Bg : BoxA M12 M8.length [gv0, gv1] := by rw [hM12]; exact Bg.ext _
  replace T0 : Lv M10.length M11.length M12 fun M => FlO d0 M10.length M11.length M (flV d0 Tu0) := by rw [hM12]; exact T0.ext _
  clear nrn
  clear T0
  try simp (config := {implicitDefEqProofs := false, maxDischargeDepth := 20}) (disch := first | omega | (simp only [lenE]; done) | (simp only [lenE]; omega) | rfl | (simp only [lenE, markR_len]; done) | (simp only [lenE, markR_len]; omega)) only [runE, mapE, listE, initT_5, initT_6, initT_7, initT_8, resV, oneV, binA, unA, reduceCtorEq, Nat.reduceEqDiff, Nat.reduceAdd, Nat.reduceLT, Nat.reduceLeDiff, Nat.reduceMul, Nat.reduceSub, ↓reduceIte, decide_true, decide_false, Bool.true_eq_false, Bool.false_eq_true, Bool.not_true, Bool.not_false, if_true, if_false, and_true, true_and, memE, celE, w64, Nat.zero_add, Nat.add_zero, Nat.mul_one, putL, and_self, ldn, id_eq, ext_2_0, ext_2_1, ext_3_0, ext_3_1, ext_3_2, ext_4_0, ext_4_1, ext_4_2, ext_4_3, beq_self_eq_true, bne_self_eq_false, gt_iff_lt, X0.mk2, Bw.ld2, Z0.mk2, Bg.ld2]
  try simp (config := {implicitDefEqProofs := false, maxDischargeDepth := 20}) (disch := first | omega | (simp only [lenE]; done) | (simp only [lenE]; omega) | rfl | (simp only [lenE, markR_len]; done) | (simp only [lenE, markR_len]; omega)) only [runE, mapE, listE, initT_5, initT_6, initT_7, initT_8, resV, oneV, binA, unA, reduceCtorEq, Nat.reduceEqDiff, Nat.reduceAdd, Nat.reduceLT, Nat.reduceLeDiff, Nat.reduceMul, Nat.reduceSub, ↓reduceIte, decide_true, decide_false, Bool.true_eq_false, Bool.false_eq_true, Bool.not_true, Bool.not_false, if_true, if_false, and_true, true_and, memE, celE, w64, Nat.zero_add, Nat.add_zero, Nat.mul_one, putL, and_self, ldn, id_eq, ext_2_0, ext_2_1, ext_3_0, ext_3_1, ext_3_2, ext_4_0, ext_4_1, ext_4_2, ext_4_3, beq_self_eq_true, bne_self_eq_false, gt_iff_lt, X0.mk2, Bw.ld2, Z0.mk2, Bg.ld2]
  refine callH_ac (markFlow_ac _ M5.length M6.length _ d0 _ Y0 (by omega) (by omega)) ?_
  rintro r M13 ⟨rfl, hB⟩
  have LM13 := hB.1
  replace C0 : Lv 0 M0.length M13 fun M => FlA M (flV d0 u0) d0 := C0.but hB (by omega)
  replace X0 : BoxA M13 M0.length [.int .i64 d0.stock, u0] := by have := X0.lt; exact X0.but hB (by omega)
  replace w : Lv M3.length M4.length M13 fun M => FlO W M3.length M4.length M (.agg #[wv0, wv1]) := w.but hB (by omega)
  replace Bw : BoxA M13 M4.length [wv0, wv1] := by have := Bw.lt; exact Bw.but hB (by omega)
  replace Z0 : BoxA M13 M6.length [.int .i64 d0.stock, Yu0] := by have := Z0.lt; exact Z0.but hB (by omega)
  replace g : Lv M7.length M8.length M13 fun M => FlO W M7.length M8.length M (.agg #[gv0, gv1]) := g.but hB (by omega)
  replace Bg : BoxA M13 M8.length [gv0, gv1] := by have := Bg.lt; exact Bg.but hB (by omega)
  clear Y0 hB
  have hkk : ¬ (1 + (d0.under.length : Int) < 0) := by omega
  try simp (config := {implicitDefEqProofs := false, maxDischargeDepth := 20}) (disch := first | omega | (simp only [lenE]; done) | (simp only [lenE]; omega) | rfl | (simp only [lenE, markR_len]; done) | (simp only [lenE, markR_len]; omega)) only [runE, mapE, listE, initT_5, initT_6, initT_7, initT_8, resV, oneV, binA, unA, reduceCtorEq, Nat.reduceEqDiff, Nat.reduceAdd, Nat.reduceLT, Nat.reduceLeDiff, Nat.reduceMul, Nat.reduceSub, ↓reduceIte, decide_true, decide_false, Bool.true_eq_false, Bool.false_eq_true, Bool.not_true, Bool.not_false, if_true, if_false, and_true, true_and, memE, celE, w64, Nat.zero_add, Nat.add_zero, Nat.mul_one, putL, and_self, ldn, id_eq, ext_2_0, ext_2_1, ext_3_0, ext_3_1, ext_3_2, ext_4_0, ext_4_1, ext_4_2, ext_4_3, beq_self_eq_true, bne_self_eq_false, gt_iff_lt, hkk, X0.mk2, Bw.ld2, Z0.mk2, Bg.ld2]
  try simp (config := {implicitDefEqProofs := false, maxDischargeDepth := 20}) (disch := first | omega | (simp only [lenE]; done) | (simp only [lenE]; omega) | rfl | (simp only [lenE, markR_len]; done) | (simp only [lenE, markR_len]; omega)) only [runE, mapE, listE, initT_5, initT_6, initT_7, initT_8, resV, oneV, binA, unA, reduceCtorEq, Nat.reduceEqDiff, Nat.reduceAdd, Nat.reduceLT, Nat.reduceLeDiff, Nat.reduceMul, Nat.reduceSub, ↓reduceIte, decide_true, decide_false, Bool.true_eq_false, Bool.false_eq_true, Bool.not_true, Bool.not_false, if_true, if_false, and_true, true_and, memE, celE, w64, Nat.zero_add, Nat.add_zero, Nat.mul_one, putL, and_self, ldn, id_eq, ext_2_0, ext_2_1, ext_3_0, ext_3_1, ext_3_2, ext_4_0, ext_4_1, ext_4_2, ext_4_3, beq_self_eq_true, bne_self_eq_false, gt_iff_lt, X0.mk2, Bw.ld2, Z0.mk2, Bg.ld2]
  have TT := eqFlow_rc M13 _ _ W g.now.in w.now.in
  refine callH_rc TT ?_
  clear TT
  rintro r new ⟨rfl, nrn⟩
  obtain ⟨M14, hM14⟩ : ∃ M', M' = M13 ++ new := ⟨_, rfl⟩
  rw [← hM14]
  have LM14 : M14.length = M13.length + new.length := by rw [hM14, List.length_append]
  replace C0 : Lv 0 M0.length M14 fun M => FlA M (flV d0 u0) d0 := by rw [hM14]; exact C0.ext _
  replace X0 : BoxA M14 M0.length [.int .i64 d0.stock, u0] := by rw [hM14]; exact X0.ext _
  replace w : Lv M3.length M4.length M14 fun M => FlO W M3.length M4.length M (.agg #[wv0, wv1]) := by rw [hM14]; exact w.ext _
  replace Bw : BoxA M14 M4.length [wv0, wv1] := by rw [hM14]; exact Bw.ext _
  replace Z0 : BoxA M14 M6.length [.int .i64 d0.stock, Yu0] := by rw [hM14]; exact Z0.ext _
  replace g : Lv M7.length M8.length M14 fun M => FlO W M7.length M8.length M (.agg #[gv0, gv1]) := by rw [hM14]; exact g.ext _
  replace Bg : BoxA M14 M8.length [gv0, gv1] := by rw [hM14]; exact Bg.ext _
  clear nrn
  try simp (config := {implicitDefEqProofs := false, maxDischargeDepth := 20}) (disch := first | omega | (simp only [lenE]; done) | (simp only [lenE]; omega) | rfl | (simp only [lenE, markR_len]; done) | (simp only [lenE, markR_len]; omega)) only [runE, mapE, listE, initT_5, initT_6, initT_7, initT_8, resV, oneV, binA, unA, reduceCtorEq, Nat.reduceEqDiff, Nat.reduceAdd, Nat.reduceLT, Nat.reduceLeDiff, Nat.reduceMul, Nat.reduceSub, ↓reduceIte, decide_true, decide_false, Bool.true_eq_false, Bool.false_eq_true, Bool.not_true, Bool.not_false, if_true, if_false, and_true, true_and, memE, celE, w64, Nat.zero_add, Nat.add_zero, Nat.mul_one, putL, and_self, ldn, id_eq, ext_2_0, ext_2_1, ext_3_0, ext_3_1, ext_3_2, ext_4_0, ext_4_1, ext_4_2, ext_4_3, beq_self_eq_true, bne_self_eq_false, gt_iff_lt, X0.mk2, Bw.ld2, Z0.mk2, Bg.ld2]
  refine callH_ac (markFlowO_ac _ M7.length M8.length _ W 1 g (by omega) (by omega)) ?_
  rintro r M15 ⟨rfl, hB, gm⟩
  have LM15 := hB.1
  have gsm : W.under.length ≤ 1048576 := by obtain ⟨_, _, h⟩ := g.now; exact h.1
  replace C0 : Lv 0 M0.length M15 fun M => FlA M (flV d0 u0) d0 := C0.but hB (by omega)
  replace X0 : BoxA M15 M0.length [.int .i64 d0.stock, u0] := by have := X0.lt; exact X0.but hB (by omega)
  replace w : Lv M3.length M4.length M15 fun M => FlO W M3.length M4.length M (.agg #[wv0, wv1]) := w.but hB (by omega)
  replace Bw : BoxA M15 M4.length [wv0, wv1] := by have := Bw.lt; exact Bw.but hB (by omega)
  replace Z0 : BoxA M15 M6.length [.int .i64 d0.stock, Yu0] := by have := Z0.lt; exact Z0.but hB (by omega)
  replace Bg : BoxA M15 M8.length [gv0, gv1] := by have := Bg.lt; exact Bg.but hB (by omega)
  clear g hB
  have hkq : ¬ (1 + (W.under.length : Int) < 0) := by omega
  try simp (config := {implicitDefEqProofs := false, maxDischargeDepth := 20}) (disch := first | omega | (simp only [lenE]; done) | (simp only [lenE]; omega) | rfl | (simp only [lenE, markR_len]; done) | (simp only [lenE, markR_len]; omega)) only [runE, mapE, listE, initT_5, initT_6, initT_7, initT_8, resV, oneV, binA, unA, reduceCtorEq, Nat.reduceEqDiff, Nat.reduceAdd, Nat.reduceLT, Nat.reduceLeDiff, Nat.reduceMul, Nat.reduceSub, ↓reduceIte, decide_true, decide_false, Bool.true_eq_false, Bool.false_eq_true, Bool.not_true, Bool.not_false, if_true, if_false, and_true, true_and, memE, celE, w64, Nat.zero_add, Nat.add_zero, Nat.mul_one, putL, and_self, ldn, id_eq, ext_2_0, ext_2_1, ext_3_0, ext_3_1, ext_3_2, ext_4_0, ext_4_1, ext_4_2, ext_4_3, beq_self_eq_true, bne_self_eq_false, gt_iff_lt, X0.mk2, Bw.ld2, Z0.mk2, Bg.ld2]
  refine callH_rc (heldFlow_rc _ _ 1 W gm.now.in (by omega) (by omega) gsm) ?_
  rintro r new ⟨rfl, nrn⟩
  obtain ⟨M16, hM16⟩ : ∃ M', M' = M15 ++ new := ⟨_, rfl⟩
  rw [← hM16]
  have LM16 : M16.length = M15.length + new.length := by rw [hM16, List.length_append]
  replace C0 : Lv 0 M0.length M16 fun M => FlA M (flV d0 u0) d0 := by rw [hM16]; exact C0.ext _
  replace X0 : BoxA M16 M0.length [.int .i64 d0.stock, u0] := by rw [hM16]; exact X0.ext _
  replace w : Lv M3.length M4.length M16 fun M => FlO W M3.length M4.length M (.agg #[wv0, wv1]) := by rw [hM16]; exact w.ext _
  replace Bw : BoxA M16 M4.length [wv0, wv1] := by rw [hM16]; exact Bw.ext _
  replace Z0 : BoxA M16 M6.length [.int .i64 d0.stock, Yu0] := by rw [hM16]; exact Z0.ext _
  replace Bg : BoxA M16 M8.length [gv0, gv1] := by rw [hM16]; exact Bg.ext _
  replace gm : Lv M7.length M8.length M16 fun M => FlO (fmarks 1 W) M7.length M8.length M (.agg #[gv0, gv1]) := by rw [hM16]; exact gm.ext _
  clear nrn
  try simp (config := {implicitDefEqProofs := false, maxDischargeDepth := 20}) (disch := first | omega | (simp only [lenE]; done) | (simp only [lenE]; omega) | rfl | (simp only [lenE, markR_len]; done) | (simp only [lenE, markR_len]; omega)) only [runE, mapE, listE, initT_5, initT_6, initT_7, initT_8, resV, oneV, binA, unA, reduceCtorEq, Nat.reduceEqDiff, Nat.reduceAdd, Nat.reduceLT, Nat.reduceLeDiff, Nat.reduceMul, Nat.reduceSub, ↓reduceIte, decide_true, decide_false, Bool.true_eq_false, Bool.false_eq_true, Bool.not_true, Bool.not_false, if_true, if_false, and_true, true_and, memE, celE, w64, Nat.zero_add, Nat.add_zero, Nat.mul_one, putL, and_self, ldn, id_eq, ext_2_0, ext_2_1, ext_3_0, ext_3_1, ext_3_2, ext_4_0, ext_4_1, ext_4_2, ext_4_3, beq_self_eq_true, bne_self_eq_false, gt_iff_lt, hkq, X0.mk2, Bw.ld2, Z0.mk2, Bg.ld2]
  try simp (config := {implicitDefEqProofs := false, maxDischargeDepth := 20}) (disch := first | omega | (simp only [lenE]; done) | (simp only [lenE]; omega) | rfl | (simp only [lenE, markR_len]; done) | (simp only [lenE, markR_len]; omega)) only [runE, mapE, listE, initT_5, initT_6, initT_7, initT_8, resV, oneV, binA, unA, reduceCtorEq, Nat.reduceEqDiff, Nat.reduceAdd, Nat.reduceLT, Nat.reduceLeDiff, Nat.reduceMul, Nat.reduceSub, ↓reduceIte, decide_true, decide_false, Bool.true_eq_false, Bool.false_eq_true, Bool.not_true, Bool.not_false, if_true, if_false, and_true, true_and, memE, celE, w64, Nat.zero_add, Nat.add_zero, Nat.mul_one, putL, and_self, ldn, id_eq, ext_2_0, ext_2_1, ext_3_0, ext_3_1, ext_3_2, ext_4_0, ext_4_1, ext_4_2, ext_4_3, beq_self_eq_true, bne_self_eq_false, gt_iff_lt, X0.mk2, Bw.ld2, Z0.mk2, Bg.ld2]
  have TT := toFlow_rc M16 _ d0 C0.now hs0
  first | refine callH_rc TT ?_ | refine rcallH_rc TT ?_
  clear TT
  rintro r new ⟨nrn, Uv0, Uv0e, U0⟩
  rw [id_eq] at Uv0e
  subst r
  obtain ⟨M17, hM17⟩ : ∃ M', M' = M16 ++ new := ⟨_, rfl⟩
  rw [← hM17]
  have LM17 : M17.length = M16.length + new.length := by rw [hM17, List.length_append]
  replace C0 : Lv 0 M0.length M17 fun M => FlA M (flV d0 u0) d0 := by rw [hM17]; exact C0.ext _
  replace X0 : BoxA M17 M0.length [.int .i64 d0.stock, u0] := by rw [hM17]; exact X0.ext _
  replace w : Lv M3.length M4.length M17 fun M => FlO W M3.length M4.length M (.agg #[wv0, wv1]) := by rw [hM17]; exact w.ext _
  replace Bw : BoxA M17 M4.length [wv0, wv1] := by rw [hM17]; exact Bw.ext _
  replace Z0 : BoxA M17 M6.length [.int .i64 d0.stock, Yu0] := by rw [hM17]; exact Z0.ext _
  replace Bg : BoxA M17 M8.length [gv0, gv1] := by rw [hM17]; exact Bg.ext _
  replace gm : Lv M7.length M8.length M17 fun M => FlO (fmarks 1 W) M7.length M8.length M (.agg #[gv0, gv1]) := by rw [hM17]; exact gm.ext _
  clear nrn
  rw [← hM17, ← LM17] at U0
  obtain ⟨Uu0, rfl, -⟩ := U0.now.in
  change Lv M16.length M17.length M17 fun M => FlO d0 M16.length M17.length M (flV d0 Uu0) at U0
  try simp (config := {implicitDefEqProofs := false, maxDischargeDepth := 20}) (disch := first | omega | (simp only [lenE]; done) | (simp only [lenE]; omega) | rfl | (simp only [lenE, markR_len]; done) | (simp only [lenE, markR_len]; omega)) only [runE, mapE, listE, initT_5, initT_6, initT_7, initT_8, resV, oneV, binA, unA, reduceCtorEq, Nat.reduceEqDiff, Nat.reduceAdd, Nat.reduceLT, Nat.reduceLeDiff, Nat.reduceMul, Nat.reduceSub, ↓reduceIte, decide_true, decide_false, Bool.true_eq_false, Bool.false_eq_true, Bool.not_true, Bool.not_false, if_true, if_false, and_true, true_and, memE, celE, w64, Nat.zero_add, Nat.add_zero, Nat.mul_one, putL, and_self, ldn, id_eq, ext_2_0, ext_2_1, ext_3_0, ext_3_1, ext_3_2, ext_4_0, ext_4_1, ext_4_2, ext_4_3, beq_self_eq_true, bne_self_eq_false, gt_iff_lt, X0.mk2, Bw.ld2, Z0.mk2, Bg.ld2]
  first | refine callH_rc (IMP _ _ U0.now.in) ?_ | refine rcallH_rc (IMP _ _ U0.now.in) ?_
  rintro r new ⟨nrn, vh, rfl, h⟩
  obtain ⟨M18, hM18⟩ : ∃ M', M' = M17 ++ new := ⟨_, rfl⟩
  rw [← hM18]
  have LM18 : M18.length = M17.length + new.length := by rw [hM18, List.length_append]
  replace C0 : Lv 0 M0.length M18 fun M => FlA M (flV d0 u0) d0 := by rw [hM18]; exact C0.ext _
  replace X0 : BoxA M18 M0.length [.int .i64 d0.stock, u0] := by rw [hM18]; exact X0.ext _
  replace w : Lv M3.length M4.length M18 fun M => FlO W M3.length M4.length M (.agg #[wv0, wv1]) := by rw [hM18]; exact w.ext _
  replace Bw : BoxA M18 M4.length [wv0, wv1] := by rw [hM18]; exact Bw.ext _
  replace Z0 : BoxA M18 M6.length [.int .i64 d0.stock, Yu0] := by rw [hM18]; exact Z0.ext _
  replace Bg : BoxA M18 M8.length [gv0, gv1] := by rw [hM18]; exact Bg.ext _
  replace gm : Lv M7.length M8.length M18 fun M => FlO (fmarks 1 W) M7.length M8.length M (.agg #[gv0, gv1]) := by rw [hM18]; exact gm.ext _
  replace U0 : Lv M16.length M17.length M18 fun M => FlO d0 M16.length M17.length M (flV d0 Uu0) := by rw [hM18]; exact U0.ext _
  clear nrn
  rw [← hM18, ← LM18] at h
  obtain ⟨hv0, hv1, hvh, onh⟩ := h.now.agg
  subst hvh
  try simp (config := {implicitDefEqProofs := false, maxDischargeDepth := 20}) (disch := first | omega | (simp only [lenE]; done) | (simp only [lenE]; omega) | rfl | (simp only [lenE, markR_len]; done) | (simp only [lenE, markR_len]; omega)) only [runE, mapE, listE, initT_5, initT_6, initT_7, initT_8, resV, oneV, binA, unA, reduceCtorEq, Nat.reduceEqDiff, Nat.reduceAdd, Nat.reduceLT, Nat.reduceLeDiff, Nat.reduceMul, Nat.reduceSub, ↓reduceIte, decide_true, decide_false, Bool.true_eq_false, Bool.false_eq_true, Bool.not_true, Bool.not_false, if_true, if_false, and_true, true_and, memE, celE, w64, Nat.zero_add, Nat.add_zero, Nat.mul_one, putL, and_self, ldn, id_eq, ext_2_0, ext_2_1, ext_3_0, ext_3_1, ext_3_2, ext_4_0, ext_4_1, ext_4_2, ext_4_3, beq_self_eq_true, bne_self_eq_false, gt_iff_lt, stP_agg2f, onh, X0.rdk7, Bw.rdk7, Z0.rdk7, Bg.rdk7, X0.mk2, Bw.ld2, Z0.mk2, Bg.ld2]
  obtain ⟨M19, hM19⟩ : ∃ M', M' = M18 ++ [⟨.own, 27, [hv0, hv1]⟩] := ⟨_, rfl⟩
  rw [← hM19]
  have LM19 : M19.length = M18.length + 1 := by rw [hM19, List.length_append]; rfl
  replace C0 : Lv 0 M0.length M19 fun M => FlA M (flV d0 u0) d0 := by rw [hM19]; exact C0.ext _
  replace X0 : BoxA M19 M0.length [.int .i64 d0.stock, u0] := by rw [hM19]; exact X0.ext _
  replace w : Lv M3.length M4.length M19 fun M => FlO W M3.length M4.length M (.agg #[wv0, wv1]) := by rw [hM19]; exact w.ext _
  replace Bw : BoxA M19 M4.length [wv0, wv1] := by rw [hM19]; exact Bw.ext _
  replace Z0 : BoxA M19 M6.length [.int .i64 d0.stock, Yu0] := by rw [hM19]; exact Z0.ext _
  replace Bg : BoxA M19 M8.length [gv0, gv1] := by rw [hM19]; exact Bg.ext _
  replace gm : Lv M7.length M8.length M19 fun M => FlO (fmarks 1 W) M7.length M8.length M (.agg #[gv0, gv1]) := by rw [hM19]; exact gm.ext _
  replace U0 : Lv M16.length M17.length M19 fun M => FlO d0 M16.length M17.length M (flV d0 Uu0) := by rw [hM19]; exact U0.ext _
  replace h : Lv M17.length M18.length M19 fun M => FlO W M17.length M18.length M (.agg #[hv0, hv1]) := by rw [hM19]; exact h.ext _
  have Bh : BoxA M19 M18.length [hv0, hv1] := by rw [hM19]; exact BoxA.here _ _ _ rfl
  clear U0
  try simp (config := {implicitDefEqProofs := false, maxDischargeDepth := 20}) (disch := first | omega | (simp only [lenE]; done) | (simp only [lenE]; omega) | rfl | (simp only [lenE, markR_len]; done) | (simp only [lenE, markR_len]; omega)) only [runE, mapE, listE, initT_5, initT_6, initT_7, initT_8, resV, oneV, binA, unA, reduceCtorEq, Nat.reduceEqDiff, Nat.reduceAdd, Nat.reduceLT, Nat.reduceLeDiff, Nat.reduceMul, Nat.reduceSub, ↓reduceIte, decide_true, decide_false, Bool.true_eq_false, Bool.false_eq_true, Bool.not_true, Bool.not_false, if_true, if_false, and_true, true_and, memE, celE, w64, Nat.zero_add, Nat.add_zero, Nat.mul_one, putL, and_self, ldn, id_eq, ext_2_0, ext_2_1, ext_3_0, ext_3_1, ext_3_2, ext_4_0, ext_4_1, ext_4_2, ext_4_3, beq_self_eq_true, bne_self_eq_false, gt_iff_lt, X0.mk2, Bw.ld2, Z0.mk2, Bg.ld2, Bh.ld2]
  have TT := eqFlow_rc M19 _ _ W h.now.in w.now.in
  refine callH_rc TT ?_
  clear TT
  rintro r new ⟨rfl, nrn⟩
  obtain ⟨M20, hM20⟩ : ∃ M', M' = M19 ++ new := ⟨_, rfl⟩
  rw [← hM20]
  have LM20 : M20.length = M19.length + new.length := by rw [hM20, List.length_append]
  replace C0 : Lv 0 M0.length M20 fun M => FlA M (flV d0 u0) d0 := by rw [hM20]; exact C0.ext _
  replace X0 : BoxA M20 M0.length [.int .i64 d0.stock, u0] := by rw [hM20]; exact X0.ext _
  replace w : Lv M3.length M4.length M20 fun M => FlO W M3.length M4.length M (.agg #[wv0, wv1]) := by rw [hM20]; exact w.ext _
  replace Bw : BoxA M20 M4.length [wv0, wv1] := by rw [hM20]; exact Bw.ext _
  replace Z0 : BoxA M20 M6.length [.int .i64 d0.stock, Yu0] := by rw [hM20]; exact Z0.ext _
  replace Bg : BoxA M20 M8.length [gv0, gv1] := by rw [hM20]; exact Bg.ext _
  replace gm : Lv M7.length M8.length M20 fun M => FlO (fmarks 1 W) M7.length M8.length M (.agg #[gv0, gv1]) := by rw [hM20]; exact gm.ext _
  replace h : Lv M17.length M18.length M20 fun M => FlO W M17.length M18.length M (.agg #[hv0, hv1]) := by rw [hM20]; exact h.ext _
  replace Bh : BoxA M20 M18.length [hv0, hv1] := by rw [hM20]; exact Bh.ext _
  clear nrn
  try simp (config := {implicitDefEqProofs := false, maxDischargeDepth := 20}) (disch := first | omega | (simp only [lenE]; done) | (simp only [lenE]; omega) | rfl | (simp only [lenE, markR_len]; done) | (simp only [lenE, markR_len]; omega)) only [runE, mapE, listE, initT_5, initT_6, initT_7, initT_8, resV, oneV, binA, unA, reduceCtorEq, Nat.reduceEqDiff, Nat.reduceAdd, Nat.reduceLT, Nat.reduceLeDiff, Nat.reduceMul, Nat.reduceSub, ↓reduceIte, decide_true, decide_false, Bool.true_eq_false, Bool.false_eq_true, Bool.not_true, Bool.not_false, if_true, if_false, and_true, true_and, memE, celE, w64, Nat.zero_add, Nat.add_zero, Nat.mul_one, putL, and_self, ldn, id_eq, ext_2_0, ext_2_1, ext_3_0, ext_3_1, ext_3_2, ext_4_0, ext_4_1, ext_4_2, ext_4_3, beq_self_eq_true, bne_self_eq_false, gt_iff_lt, X0.mk2, Bw.ld2, Z0.mk2, Bg.ld2, Bh.ld2]
  try simp (config := {implicitDefEqProofs := false, maxDischargeDepth := 20}) (disch := first | omega | (simp only [lenE]; done) | (simp only [lenE]; omega) | rfl | (simp only [lenE, markR_len]; done) | (simp only [lenE, markR_len]; omega)) only [runE, mapE, listE, initT_5, initT_6, initT_7, initT_8, resV, oneV, binA, unA, reduceCtorEq, Nat.reduceEqDiff, Nat.reduceAdd, Nat.reduceLT, Nat.reduceLeDiff, Nat.reduceMul, Nat.reduceSub, ↓reduceIte, decide_true, decide_false, Bool.true_eq_false, Bool.false_eq_true, Bool.not_true, Bool.not_false, if_true, if_false, and_true, true_and, memE, celE, w64, Nat.zero_add, Nat.add_zero, Nat.mul_one, putL, and_self, ldn, id_eq, ext_2_0, ext_2_1, ext_3_0, ext_3_1, ext_3_2, ext_4_0, ext_4_1, ext_4_2, ext_4_3, beq_self_eq_true, bne_self_eq_false, gt_iff_lt, X0.mk2, Bw.ld2, Z0.mk2, Bg.ld2, Bh.ld2]
  refine callH_rc (heldFlow_rc _ _ 1 W gm.now.in (by omega) (by omega) gsm) ?_
  rintro r new ⟨rfl, nrn⟩
  obtain ⟨M21, hM21⟩ : ∃ M', M' = M20 ++ new := ⟨_, rfl⟩
  rw [← hM21]
  have LM21 : M21.length = M20.length + new.length := by rw [hM21, List.length_append]
  replace C0 : Lv 0 M0.length M21 fun M => FlA M (flV d0 u0) d0 := by rw [hM21]; exact C0.ext _
  replace X0 : BoxA M21 M0.length [.int .i64 d0.stock, u0] := by rw [hM21]; exact X0.ext _
  replace w : Lv M3.length M4.length M21 fun M => FlO W M3.length M4.length M (.agg #[wv0, wv1]) := by rw [hM21]; exact w.ext _
  replace Bw : BoxA M21 M4.length [wv0, wv1] := by rw [hM21]; exact Bw.ext _
  replace Z0 : BoxA M21 M6.length [.int .i64 d0.stock, Yu0] := by rw [hM21]; exact Z0.ext _
  replace Bg : BoxA M21 M8.length [gv0, gv1] := by rw [hM21]; exact Bg.ext _
  replace gm : Lv M7.length M8.length M21 fun M => FlO (fmarks 1 W) M7.length M8.length M (.agg #[gv0, gv1]) := by rw [hM21]; exact gm.ext _
  replace h : Lv M17.length M18.length M21 fun M => FlO W M17.length M18.length M (.agg #[hv0, hv1]) := by rw [hM21]; exact h.ext _
  replace Bh : BoxA M21 M18.length [hv0, hv1] := by rw [hM21]; exact Bh.ext _
  clear nrn
  try simp (config := {implicitDefEqProofs := false, maxDischargeDepth := 20}) (disch := first | omega | (simp only [lenE]; done) | (simp only [lenE]; omega) | rfl | (simp only [lenE, markR_len]; done) | (simp only [lenE, markR_len]; omega)) only [runE, mapE, listE, initT_5, initT_6, initT_7, initT_8, resV, oneV, binA, unA, reduceCtorEq, Nat.reduceEqDiff, Nat.reduceAdd, Nat.reduceLT, Nat.reduceLeDiff, Nat.reduceMul, Nat.reduceSub, ↓reduceIte, decide_true, decide_false, Bool.true_eq_false, Bool.false_eq_true, Bool.not_true, Bool.not_false, if_true, if_false, and_true, true_and, memE, celE, w64, Nat.zero_add, Nat.add_zero, Nat.mul_one, putL, and_self, ldn, id_eq, ext_2_0, ext_2_1, ext_3_0, ext_3_1, ext_3_2, ext_4_0, ext_4_1, ext_4_2, ext_4_3, beq_self_eq_true, bne_self_eq_false, gt_iff_lt, hkq, X0.mk2, Bw.ld2, Z0.mk2, Bg.ld2, Bh.ld2]
end Go.Proofs.Ytnkbjliidenldaa.Ab
