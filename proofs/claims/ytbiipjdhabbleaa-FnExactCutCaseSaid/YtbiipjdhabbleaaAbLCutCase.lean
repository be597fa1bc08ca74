/- FnExactCutCase: its running over abstract memory. -/
import Derived.Test.YtbiipjdhabbleaaAbCut
import Derived.Test.YtbiipjdhabbleaaAbWalk
import Derived.Test.YtbiipjdhabbleaaCodLCutCase
namespace Go.Proofs.Ytbiipjdhabbleaa.Ab
open Go Go.RowKit
set_option linter.unusedVariables false
set_option linter.unusedSimpArgs false
set_option maxRecDepth 100000

set_option maxHeartbeats 4000000 in
theorem law_FnExactCutCase_yes (M0 : Mem) (k0 : Cs) (a00 a01 a02 a03 : Nat) (x1 : Int) (x2 : Int) (A00 : RowA M0 a00 k0.need) (A01 : RowA M0 a01 k0.setup) (A02 : RowA M0 a02 k0.unit) (A03 : RowA M0 a03 k0.hold) (hok : cutOk k0 x1 x2 = true) :
    AC Try.prog 4 [.agg #[.slice (some ⟨a00, 0, none⟩) k0.need.length 0, .slice (some ⟨a01, 0, none⟩) k0.setup.length 0, .slice (some ⟨a02, 0, none⟩) k0.unit.length 0, .slice (some ⟨a03, 0, none⟩) k0.hold.length 0], .int .i64 x1, .int .i64 x2] M0 fun r _ => r = .bool true := by
  refine ac_of_run mixed ok_laws_FnExactCutCase (by simp) (go_start _ _ _ ?_)
  have B00 := A00.lt
  have B01 := A01.lt
  have B02 := A02.lt
  have B03 := A03.lt
  try simp (config := {implicitDefEqProofs := false, maxDischargeDepth := 20}) (disch := first | omega | (simp only [lenE]; done) | (simp only [lenE]; omega) | rfl | (simp only [lenE, markR_len]; done) | (simp only [lenE, markR_len]; omega)) only [runE, mapE, listE, initT_5, initT_6, initT_7, initT_8, resV, oneV, binA, unA, reduceCtorEq, Nat.reduceEqDiff, Nat.reduceAdd, Nat.reduceLT, Nat.reduceLeDiff, Nat.reduceMul, Nat.reduceSub, ↓reduceIte, decide_true, decide_false, Bool.true_eq_false, Bool.false_eq_true, Bool.not_true, Bool.not_false, if_true, if_false, and_true, true_and, memE, celE, w64, Nat.zero_add, Nat.add_zero, Nat.mul_one, putL, and_self, ldn, c_laws_FnExactCutCase, r_laws_FnExactCutCase, ext_2_0, ext_2_1, ext_4_0, ext_4_1, ext_4_2, ext_4_3, gt_iff_lt, beq_self_eq_true, bne_self_eq_false]
  obtain ⟨M1, hM1⟩ : ∃ M', M' = M0 ++ [⟨.own, 24, [.slice (some ⟨a00, 0, none⟩) k0.need.length 0, .slice (some ⟨a01, 0, none⟩) k0.setup.length 0, .slice (some ⟨a02, 0, none⟩) k0.unit.length 0, .slice (some ⟨a03, 0, none⟩) k0.hold.length 0]⟩] := ⟨_, rfl⟩
  rw [← hM1]
  have LM1 : M1.length = M0.length + 1 := by rw [hM1, List.length_append]; rfl
  replace A00 : RowA M1 a00 k0.need := by rw [hM1]; exact A00.ext _
  replace A01 : RowA M1 a01 k0.setup := by rw [hM1]; exact A01.ext _
  replace A02 : RowA M1 a02 k0.unit := by rw [hM1]; exact A02.ext _
  replace A03 : RowA M1 a03 k0.hold := by rw [hM1]; exact A03.ext _
  have X0 : BoxA M1 M0.length [.slice (some ⟨a00, 0, none⟩) k0.need.length 0, .slice (some ⟨a01, 0, none⟩) k0.setup.length 0, .slice (some ⟨a02, 0, none⟩) k0.unit.length 0, .slice (some ⟨a03, 0, none⟩) k0.hold.length 0] := by rw [hM1]; exact BoxA.here _ _ _ rfl
  refine callH_rc (szCase_rc _ _ k0 (CaseA.rows A00 A01 A02 A03)) ?_
  rintro r new ⟨nrn, rfl | ⟨xz, xz0, xz1, rfl, hs0⟩⟩
  · simp (config := {implicitDefEqProofs := false, maxDischargeDepth := 20}) (disch := first | omega | (simp only [lenE]; done) | (simp only [lenE]; omega) | rfl | (simp only [lenE, markR_len]; done) | (simp only [lenE, markR_len]; omega)) only [runE, mapE, listE, initT_5, initT_6, initT_7, initT_8, resV, oneV, binA, unA, reduceCtorEq, Nat.reduceEqDiff, Nat.reduceAdd, Nat.reduceLT, Nat.reduceLeDiff, Nat.reduceMul, Nat.reduceSub, ↓reduceIte, decide_true, decide_false, Bool.true_eq_false, Bool.false_eq_true, Bool.not_true, Bool.not_false, if_true, if_false, and_true, true_and, memE, celE, w64, Nat.zero_add, Nat.add_zero, Nat.mul_one, putL, and_self, ldn, show ((-1 : Int) < 0) = True by simp]
  have xz' : ¬ (xz < 0) := by omega
  obtain ⟨M2, hM2⟩ : ∃ M', M' = M1 ++ new := ⟨_, rfl⟩
  rw [← hM2]
  have LM2 : M2.length = M1.length + new.length := by rw [hM2, List.length_append]
  replace A00 : RowA M2 a00 k0.need := by rw [hM2]; exact A00.ext _
  replace A01 : RowA M2 a01 k0.setup := by rw [hM2]; exact A01.ext _
  replace A02 : RowA M2 a02 k0.unit := by rw [hM2]; exact A02.ext _
  replace A03 : RowA M2 a03 k0.hold := by rw [hM2]; exact A03.ext _
  replace X0 : BoxA M2 M0.length [.slice (some ⟨a00, 0, none⟩) k0.need.length 0, .slice (some ⟨a01, 0, none⟩) k0.setup.length 0, .slice (some ⟨a02, 0, none⟩) k0.unit.length 0, .slice (some ⟨a03, 0, none⟩) k0.hold.length 0] := by rw [hM2]; exact X0.ext _
  clear nrn
  try simp (config := {implicitDefEqProofs := false, maxDischargeDepth := 20}) (disch := first | omega | (simp only [lenE]; done) | (simp only [lenE]; omega) | rfl | (simp only [lenE, markR_len]; done) | (simp only [lenE, markR_len]; omega)) only [runE, mapE, listE, initT_5, initT_6, initT_7, initT_8, resV, oneV, binA, unA, reduceCtorEq, Nat.reduceEqDiff, Nat.reduceAdd, Nat.reduceLT, Nat.reduceLeDiff, Nat.reduceMul, Nat.reduceSub, ↓reduceIte, decide_true, decide_false, Bool.true_eq_false, Bool.false_eq_true, Bool.not_true, Bool.not_false, if_true, if_false, and_true, true_and, memE, celE, w64, Nat.zero_add, Nat.add_zero, Nat.mul_one, putL, and_self, ldn, xz', X0.ld4]
  have tb0 := Cs.tot_bd hs0
  have sm0 := hs0
  unfold Cs.small at sm0
  obtain ⟨W, hW⟩ : ∃ W, W = cutA k0 x1 x2 := ⟨_, rfl⟩
  obtain ⟨okW, hokW⟩ : ∃ b, b = cutOk k0 x1 x2 := ⟨_, rfl⟩
  have SPC := fun m u0 => specCut_rc m u0 k0 x1 x2
  have IMP := fun m u0 => implCut_rc m u0 k0 x1 x2
  rw [← hW, ← hokW] at SPC IMP
  rw [hok] at hokW
  subst hokW
  refine callH_rc (toCase_rc _ _ k0 (CaseA.rows A00 A01 A02 A03) hs0) ?_
  rintro r new ⟨rfl, c0, c1, c2, rfl, kc0, kc1, kc2⟩
  obtain ⟨M3, hM3⟩ : ∃ M', M' = M2 ++ [c0, c1, c2, rowB k0.need, rowB k0.setup, rowB k0.unit, rowB k0.hold] := ⟨_, rfl⟩
  rw [← hM3]
  have LM3 : M3.length = M2.length + 7 := by rw [hM3, List.length_append]; rfl
  replace A00 : RowA M3 a00 k0.need := by rw [hM3]; exact A00.ext _
  replace A01 : RowA M3 a01 k0.setup := by rw [hM3]; exact A01.ext _
  replace A02 : RowA M3 a02 k0.unit := by rw [hM3]; exact A02.ext _
  replace A03 : RowA M3 a03 k0.hold := by rw [hM3]; exact A03.ext _
  replace X0 : BoxA M3 M0.length [.slice (some ⟨a00, 0, none⟩) k0.need.length 0, .slice (some ⟨a01, 0, none⟩) k0.setup.length 0, .slice (some ⟨a02, 0, none⟩) k0.unit.length 0, .slice (some ⟨a03, 0, none⟩) k0.hold.length 0] := by rw [hM3]; exact X0.ext _
  have S00 : OwnR M3 (M2.length + 3) k0.need := by rw [hM3]; exact OwnR.new (i := 3) (by rfl) rfl
  have S01 : OwnR M3 (M2.length + 4) k0.setup := by rw [hM3]; exact OwnR.new (i := 4) (by rfl) rfl
  have S02 : OwnR M3 (M2.length + 5) k0.unit := by rw [hM3]; exact OwnR.new (i := 5) (by rfl) rfl
  have S03 : OwnR M3 (M2.length + 6) k0.hold := by rw [hM3]; exact OwnR.new (i := 6) (by rfl) rfl
  clear kc0 kc1 kc2
  try simp (config := {implicitDefEqProofs := false, maxDischargeDepth := 20}) (disch := first | omega | (simp only [lenE]; done) | (simp only [lenE]; omega) | rfl | (simp only [lenE, markR_len]; done) | (simp only [lenE, markR_len]; omega)) only [runE, mapE, listE, initT_5, initT_6, initT_7, initT_8, resV, oneV, binA, unA, reduceCtorEq, Nat.reduceEqDiff, Nat.reduceAdd, Nat.reduceLT, Nat.reduceLeDiff, Nat.reduceMul, Nat.reduceSub, ↓reduceIte, decide_true, decide_false, Bool.true_eq_false, Bool.false_eq_true, Bool.not_true, Bool.not_false, if_true, if_false, and_true, true_and, memE, celE, w64, Nat.zero_add, Nat.add_zero, Nat.mul_one, putL, and_self, ldn, X0.ld4]
  refine callH_rc (SPC _ _ (CaseA.rows (S00.row (by omega)) (S01.row (by omega)) (S02.row (by omega)) (S03.row (by omega)))) ?_
  rintro r new ⟨nrn, hsw, ⟨-, iw0, iw1, iw2, iw3, fw0, fw1, fw2, fw3, rfl, y0, y1, y2, y3, dw1, dw2, dw3⟩ | ⟨hno, -, -⟩⟩
  rotate_left
  · cases hno
  obtain ⟨M4, hM4⟩ : ∃ M', M' = M3 ++ new := ⟨_, rfl⟩
  rw [← hM4]
  have LM4 : M4.length = M3.length + new.length := by rw [hM4, List.length_append]
  replace A00 : RowA M4 a00 k0.need := by rw [hM4]; exact A00.ext _
  replace A01 : RowA M4 a01 k0.setup := by rw [hM4]; exact A01.ext _
  replace A02 : RowA M4 a02 k0.unit := by rw [hM4]; exact A02.ext _
  replace A03 : RowA M4 a03 k0.hold := by rw [hM4]; exact A03.ext _
  replace X0 : BoxA M4 M0.length [.slice (some ⟨a00, 0, none⟩) k0.need.length 0, .slice (some ⟨a01, 0, none⟩) k0.setup.length 0, .slice (some ⟨a02, 0, none⟩) k0.unit.length 0, .slice (some ⟨a03, 0, none⟩) k0.hold.length 0] := by rw [hM4]; exact X0.ext _
  replace S00 : OwnR M4 (M2.length + 3) k0.need := by rw [hM4]; exact S00.ext _
  replace S01 : OwnR M4 (M2.length + 4) k0.setup := by rw [hM4]; exact S01.ext _
  replace S02 : OwnR M4 (M2.length + 5) k0.unit := by rw [hM4]; exact S02.ext _
  replace S03 : OwnR M4 (M2.length + 6) k0.hold := by rw [hM4]; exact S03.ext _
  have w0 : OwnR M4 (M3.length + iw0) W.need := by rw [hM4]; exact OwnR.new y0 rfl
  have w1 : OwnR M4 (M3.length + iw1) W.setup := by rw [hM4]; exact OwnR.new y1 rfl
  have w2 : OwnR M4 (M3.length + iw2) W.unit := by rw [hM4]; exact OwnR.new y2 rfl
  have w3 : OwnR M4 (M3.length + iw3) W.hold := by rw [hM4]; exact OwnR.new y3 rfl
  clear nrn y0 y1 y2 y3
  have ltw := w3.lt
  simp (config := {implicitDefEqProofs := false, maxDischargeDepth := 20}) (disch := first | omega | (simp only [lenE]; done) | (simp only [lenE]; omega) | rfl | (simp only [lenE, markR_len]; done) | (simp only [lenE, markR_len]; omega)) only [runE, mapE, listE, initT_5, initT_6, initT_7, initT_8, resV, oneV, binA, unA, reduceCtorEq, Nat.reduceEqDiff, Nat.reduceAdd, Nat.reduceLT, Nat.reduceLeDiff, Nat.reduceMul, Nat.reduceSub, ↓reduceIte, decide_true, decide_false, Bool.true_eq_false, Bool.false_eq_true, Bool.not_true, Bool.not_false, if_true, if_false, and_true, true_and, memE, celE, w64, Nat.zero_add, Nat.add_zero, Nat.mul_one, putL, and_self, ext_2_0, ext_2_1, ext_4_0, ext_4_1, ext_4_2, ext_4_3, beq_self_eq_true, bne_self_eq_false]
  obtain ⟨M5, hM5⟩ : ∃ M', M' = M4 ++ [⟨.own, 28, [.slice (some ⟨M3.length + iw0, 0, none⟩) W.need.length fw0, .slice (some ⟨M3.length + iw1, 0, none⟩) W.setup.length fw1, .slice (some ⟨M3.length + iw2, 0, none⟩) W.unit.length fw2, .slice (some ⟨M3.length + iw3, 0, none⟩) W.hold.length fw3]⟩] := ⟨_, rfl⟩
  rw [← hM5]
  have LM5 : M5.length = M4.length + 1 := by rw [hM5, List.length_append]; rfl
  replace A00 : RowA M5 a00 k0.need := by rw [hM5]; exact A00.ext _
  replace A01 : RowA M5 a01 k0.setup := by rw [hM5]; exact A01.ext _
  replace A02 : RowA M5 a02 k0.unit := by rw [hM5]; exact A02.ext _
  replace A03 : RowA M5 a03 k0.hold := by rw [hM5]; exact A03.ext _
  replace X0 : BoxA M5 M0.length [.slice (some ⟨a00, 0, none⟩) k0.need.length 0, .slice (some ⟨a01, 0, none⟩) k0.setup.length 0, .slice (some ⟨a02, 0, none⟩) k0.unit.length 0, .slice (some ⟨a03, 0, none⟩) k0.hold.length 0] := by rw [hM5]; exact X0.ext _
  replace S00 : OwnR M5 (M2.length + 3) k0.need := by rw [hM5]; exact S00.ext _
  replace S01 : OwnR M5 (M2.length + 4) k0.setup := by rw [hM5]; exact S01.ext _
  replace S02 : OwnR M5 (M2.length + 5) k0.unit := by rw [hM5]; exact S02.ext _
  replace S03 : OwnR M5 (M2.length + 6) k0.hold := by rw [hM5]; exact S03.ext _
  replace w0 : OwnR M5 (M3.length + iw0) W.need := by rw [hM5]; exact w0.ext _
  replace w1 : OwnR M5 (M3.length + iw1) W.setup := by rw [hM5]; exact w1.ext _
  replace w2 : OwnR M5 (M3.length + iw2) W.unit := by rw [hM5]; exact w2.ext _
  replace w3 : OwnR M5 (M3.length + iw3) W.hold := by rw [hM5]; exact w3.ext _
  have Vw : BoxA M5 M4.length [.slice (some ⟨M3.length + iw0, 0, none⟩) W.need.length fw0, .slice (some ⟨M3.length + iw1, 0, none⟩) W.setup.length fw1, .slice (some ⟨M3.length + iw2, 0, none⟩) W.unit.length fw2, .slice (some ⟨M3.length + iw3, 0, none⟩) W.hold.length fw3] := by rw [hM5]; exact BoxA.here _ _ _ rfl
  try simp (config := {implicitDefEqProofs := false, maxDischargeDepth := 20}) (disch := first | omega | (simp only [lenE]; done) | (simp only [lenE]; omega) | rfl | (simp only [lenE, markR_len]; done) | (simp only [lenE, markR_len]; omega)) only [runE, mapE, listE, initT_5, initT_6, initT_7, initT_8, resV, oneV, binA, unA, reduceCtorEq, Nat.reduceEqDiff, Nat.reduceAdd, Nat.reduceLT, Nat.reduceLeDiff, Nat.reduceMul, Nat.reduceSub, ↓reduceIte, decide_true, decide_false, Bool.true_eq_false, Bool.false_eq_true, Bool.not_true, Bool.not_false, if_true, if_false, and_true, true_and, memE, celE, w64, Nat.zero_add, Nat.add_zero, Nat.mul_one, putL, and_self, ldn, ext_2_0, ext_2_1, ext_4_0, ext_4_1, ext_4_2, ext_4_3, beq_self_eq_true, bne_self_eq_false, X0.ld4, Vw.ld4]
  clear S00
  clear S01
  clear S02
  clear S03
  try simp (config := {implicitDefEqProofs := false, maxDischargeDepth := 20}) (disch := first | omega | (simp only [lenE]; done) | (simp only [lenE]; omega) | rfl | (simp only [lenE, markR_len]; done) | (simp only [lenE, markR_len]; omega)) only [runE, mapE, listE, initT_5, initT_6, initT_7, initT_8, resV, oneV, binA, unA, reduceCtorEq, Nat.reduceEqDiff, Nat.reduceAdd, Nat.reduceLT, Nat.reduceLeDiff, Nat.reduceMul, Nat.reduceSub, ↓reduceIte, decide_true, decide_false, Bool.true_eq_false, Bool.false_eq_true, Bool.not_true, Bool.not_false, if_true, if_false, and_true, true_and, memE, celE, w64, Nat.zero_add, Nat.add_zero, Nat.mul_one, putL, and_self, ldn, ext_2_0, ext_2_1, ext_4_0, ext_4_1, ext_4_2, ext_4_3, beq_self_eq_true, bne_self_eq_false, X0.ld4, Vw.ld4]
  refine callH_rc (toCase_rc _ _ k0 (CaseA.rows A00 A01 A02 A03) hs0) ?_
  rintro r new ⟨rfl, c0, c1, c2, rfl, kc0, kc1, kc2⟩
  obtain ⟨M6, hM6⟩ : ∃ M', M' = M5 ++ [c0, c1, c2, rowB k0.need, rowB k0.setup, rowB k0.unit, rowB k0.hold] := ⟨_, rfl⟩
  rw [← hM6]
  have LM6 : M6.length = M5.length + 7 := by rw [hM6, List.length_append]; rfl
  replace A00 : RowA M6 a00 k0.need := by rw [hM6]; exact A00.ext _
  replace A01 : RowA M6 a01 k0.setup := by rw [hM6]; exact A01.ext _
  replace A02 : RowA M6 a02 k0.unit := by rw [hM6]; exact A02.ext _
  replace A03 : RowA M6 a03 k0.hold := by rw [hM6]; exact A03.ext _
  replace X0 : BoxA M6 M0.length [.slice (some ⟨a00, 0, none⟩) k0.need.length 0, .slice (some ⟨a01, 0, none⟩) k0.setup.length 0, .slice (some ⟨a02, 0, none⟩) k0.unit.length 0, .slice (some ⟨a03, 0, none⟩) k0.hold.length 0] := by rw [hM6]; exact X0.ext _
  replace w0 : OwnR M6 (M3.length + iw0) W.need := by rw [hM6]; exact w0.ext _
  replace w1 : OwnR M6 (M3.length + iw1) W.setup := by rw [hM6]; exact w1.ext _
  replace w2 : OwnR M6 (M3.length + iw2) W.unit := by rw [hM6]; exact w2.ext _
  replace w3 : OwnR M6 (M3.length + iw3) W.hold := by rw [hM6]; exact w3.ext _
  replace Vw : BoxA M6 M4.length [.slice (some ⟨M3.length + iw0, 0, none⟩) W.need.length fw0, .slice (some ⟨M3.length + iw1, 0, none⟩) W.setup.length fw1, .slice (some ⟨M3.length + iw2, 0, none⟩) W.unit.length fw2, .slice (some ⟨M3.length + iw3, 0, none⟩) W.hold.length fw3] := by rw [hM6]; exact Vw.ext _
  have Y00 : OwnR M6 (M5.length + 3) k0.need := by rw [hM6]; exact OwnR.new (i := 3) (by rfl) rfl
  have Y01 : OwnR M6 (M5.length + 4) k0.setup := by rw [hM6]; exact OwnR.new (i := 4) (by rfl) rfl
  have Y02 : OwnR M6 (M5.length + 5) k0.unit := by rw [hM6]; exact OwnR.new (i := 5) (by rfl) rfl
  have Y03 : OwnR M6 (M5.length + 6) k0.hold := by rw [hM6]; exact OwnR.new (i := 6) (by rfl) rfl
  clear kc0 kc1 kc2
  try simp (config := {implicitDefEqProofs := false, maxDischargeDepth := 20}) (disch := first | omega | (simp only [lenE]; done) | (simp only [lenE]; omega) | rfl | (simp only [lenE, markR_len]; done) | (simp only [lenE, markR_len]; omega)) only [runE, mapE, listE, initT_5, initT_6, initT_7, initT_8, resV, oneV, binA, unA, reduceCtorEq, Nat.reduceEqDiff, Nat.reduceAdd, Nat.reduceLT, Nat.reduceLeDiff, Nat.reduceMul, Nat.reduceSub, ↓reduceIte, decide_true, decide_false, Bool.true_eq_false, Bool.false_eq_true, Bool.not_true, Bool.not_false, if_true, if_false, and_true, true_and, memE, celE, w64, Nat.zero_add, Nat.add_zero, Nat.mul_one, putL, and_self, ldn, ext_2_0, ext_2_1, ext_4_0, ext_4_1, ext_4_2, ext_4_3, beq_self_eq_true, bne_self_eq_false]
  obtain ⟨M7, hM7⟩ : ∃ M', M' = M6 ++ [⟨.own, 28, [.slice (some ⟨M5.length + 3, 0, none⟩) k0.need.length 1, .slice (some ⟨M5.length + 4, 0, none⟩) k0.setup.length 1, .slice (some ⟨M5.length + 5, 0, none⟩) k0.unit.length 1, .slice (some ⟨M5.length + 6, 0, none⟩) k0.hold.length 1]⟩] := ⟨_, rfl⟩
  rw [← hM7]
  have LM7 : M7.length = M6.length + 1 := by rw [hM7, List.length_append]; rfl
  replace A00 : RowA M7 a00 k0.need := by rw [hM7]; exact A00.ext _
  replace A01 : RowA M7 a01 k0.setup := by rw [hM7]; exact A01.ext _
  replace A02 : RowA M7 a02 k0.unit := by rw [hM7]; exact A02.ext _
  replace A03 : RowA M7 a03 k0.hold := by rw [hM7]; exact A03.ext _
  replace X0 : BoxA M7 M0.length [.slice (some ⟨a00, 0, none⟩) k0.need.length 0, .slice (some ⟨a01, 0, none⟩) k0.setup.length 0, .slice (some ⟨a02, 0, none⟩) k0.unit.length 0, .slice (some ⟨a03, 0, none⟩) k0.hold.length 0] := by rw [hM7]; exact X0.ext _
  replace w0 : OwnR M7 (M3.length + iw0) W.need := by rw [hM7]; exact w0.ext _
  replace w1 : OwnR M7 (M3.length + iw1) W.setup := by rw [hM7]; exact w1.ext _
  replace w2 : OwnR M7 (M3.length + iw2) W.unit := by rw [hM7]; exact w2.ext _
  replace w3 : OwnR M7 (M3.length + iw3) W.hold := by rw [hM7]; exact w3.ext _
  replace Vw : BoxA M7 M4.length [.slice (some ⟨M3.length + iw0, 0, none⟩) W.need.length fw0, .slice (some ⟨M3.length + iw1, 0, none⟩) W.setup.length fw1, .slice (some ⟨M3.length + iw2, 0, none⟩) W.unit.length fw2, .slice (some ⟨M3.length + iw3, 0, none⟩) W.hold.length fw3] := by rw [hM7]; exact Vw.ext _
  replace Y00 : OwnR M7 (M5.length + 3) k0.need := by rw [hM7]; exact Y00.ext _
  replace Y01 : OwnR M7 (M5.length + 4) k0.setup := by rw [hM7]; exact Y01.ext _
  replace Y02 : OwnR M7 (M5.length + 5) k0.unit := by rw [hM7]; exact Y02.ext _
  replace Y03 : OwnR M7 (M5.length + 6) k0.hold := by rw [hM7]; exact Y03.ext _
  have Z0 : BoxA M7 M6.length [.slice (some ⟨M5.length + 3, 0, none⟩) k0.need.length 1, .slice (some ⟨M5.length + 4, 0, none⟩) k0.setup.length 1, .slice (some ⟨M5.length + 5, 0, none⟩) k0.unit.length 1, .slice (some ⟨M5.length + 6, 0, none⟩) k0.hold.length 1] := by rw [hM7]; exact BoxA.here _ _ _ rfl
  try simp (config := {implicitDefEqProofs := false, maxDischargeDepth := 20}) (disch := first | omega | (simp only [lenE]; done) | (simp only [lenE]; omega) | rfl | (simp only [lenE, markR_len]; done) | (simp only [lenE, markR_len]; omega)) only [runE, mapE, listE, initT_5, initT_6, initT_7, initT_8, resV, oneV, binA, unA, reduceCtorEq, Nat.reduceEqDiff, Nat.reduceAdd, Nat.reduceLT, Nat.reduceLeDiff, Nat.reduceMul, Nat.reduceSub, ↓reduceIte, decide_true, decide_false, Bool.true_eq_false, Bool.false_eq_true, Bool.not_true, Bool.not_false, if_true, if_false, and_true, true_and, memE, celE, w64, Nat.zero_add, Nat.add_zero, Nat.mul_one, putL, and_self, ldn, ext_2_0, ext_2_1, ext_4_0, ext_4_1, ext_4_2, ext_4_3, beq_self_eq_true, bne_self_eq_false, X0.ld4, Vw.ld4, Z0.ld4]
  refine callH_rc (IMP _ _ (CaseA.rows (Y00.row (by omega)) (Y01.row (by omega)) (Y02.row (by omega)) (Y03.row (by omega)))) ?_
  rintro r new ⟨nrn, hsg, ⟨-, ig0, ig1, ig2, ig3, fg0, fg1, fg2, fg3, rfl, y0, y1, y2, y3, dg1, dg2, dg3⟩ | ⟨hno, -, -⟩⟩
  rotate_left
  · cases hno
  obtain ⟨M8, hM8⟩ : ∃ M', M' = M7 ++ new := ⟨_, rfl⟩
  rw [← hM8]
  have LM8 : M8.length = M7.length + new.length := by rw [hM8, List.length_append]
  replace A00 : RowA M8 a00 k0.need := by rw [hM8]; exact A00.ext _
  replace A01 : RowA M8 a01 k0.setup := by rw [hM8]; exact A01.ext _
  replace A02 : RowA M8 a02 k0.unit := by rw [hM8]; exact A02.ext _
  replace A03 : RowA M8 a03 k0.hold := by rw [hM8]; exact A03.ext _
  replace X0 : BoxA M8 M0.length [.slice (some ⟨a00, 0, none⟩) k0.need.length 0, .slice (some ⟨a01, 0, none⟩) k0.setup.length 0, .slice (some ⟨a02, 0, none⟩) k0.unit.length 0, .slice (some ⟨a03, 0, none⟩) k0.hold.length 0] := by rw [hM8]; exact X0.ext _
  replace w0 : OwnR M8 (M3.length + iw0) W.need := by rw [hM8]; exact w0.ext _
  replace w1 : OwnR M8 (M3.length + iw1) W.setup := by rw [hM8]; exact w1.ext _
  replace w2 : OwnR M8 (M3.length + iw2) W.unit := by rw [hM8]; exact w2.ext _
  replace w3 : OwnR M8 (M3.length + iw3) W.hold := by rw [hM8]; exact w3.ext _
  replace Vw : BoxA M8 M4.length [.slice (some ⟨M3.length + iw0, 0, none⟩) W.need.length fw0, .slice (some ⟨M3.length + iw1, 0, none⟩) W.setup.length fw1, .slice (some ⟨M3.length + iw2, 0, none⟩) W.unit.length fw2, .slice (some ⟨M3.length + iw3, 0, none⟩) W.hold.length fw3] := by rw [hM8]; exact Vw.ext _
  replace Y00 : OwnR M8 (M5.length + 3) k0.need := by rw [hM8]; exact Y00.ext _
  replace Y01 : OwnR M8 (M5.length + 4) k0.setup := by rw [hM8]; exact Y01.ext _
  replace Y02 : OwnR M8 (M5.length + 5) k0.unit := by rw [hM8]; exact Y02.ext _
  replace Y03 : OwnR M8 (M5.length + 6) k0.hold := by rw [hM8]; exact Y03.ext _
  replace Z0 : BoxA M8 M6.length [.slice (some ⟨M5.length + 3, 0, none⟩) k0.need.length 1, .slice (some ⟨M5.length + 4, 0, none⟩) k0.setup.length 1, .slice (some ⟨M5.length + 5, 0, none⟩) k0.unit.length 1, .slice (some ⟨M5.length + 6, 0, none⟩) k0.hold.length 1] := by rw [hM8]; exact Z0.ext _
  have g0 : OwnR M8 (M7.length + ig0) W.need := by rw [hM8]; exact OwnR.new y0 rfl
  have g1 : OwnR M8 (M7.length + ig1) W.setup := by rw [hM8]; exact OwnR.new y1 rfl
  have g2 : OwnR M8 (M7.length + ig2) W.unit := by rw [hM8]; exact OwnR.new y2 rfl
  have g3 : OwnR M8 (M7.length + ig3) W.hold := by rw [hM8]; exact OwnR.new y3 rfl
  clear nrn y0 y1 y2 y3
  have ltg := g3.lt
  simp (config := {implicitDefEqProofs := false, maxDischargeDepth := 20}) (disch := first | omega | (simp only [lenE]; done) | (simp only [lenE]; omega) | rfl | (simp only [lenE, markR_len]; done) | (simp only [lenE, markR_len]; omega)) only [runE, mapE, listE, initT_5, initT_6, initT_7, initT_8, resV, oneV, binA, unA, reduceCtorEq, Nat.reduceEqDiff, Nat.reduceAdd, Nat.reduceLT, Nat.reduceLeDiff, Nat.reduceMul, Nat.reduceSub, ↓reduceIte, decide_true, decide_false, Bool.true_eq_false, Bool.false_eq_true, Bool.not_true, Bool.not_false, if_true, if_false, and_true, true_and, memE, celE, w64, Nat.zero_add, Nat.add_zero, Nat.mul_one, putL, and_self, ext_2_0, ext_2_1, ext_4_0, ext_4_1, ext_4_2, ext_4_3, beq_self_eq_true, bne_self_eq_false]
  obtain ⟨M9, hM9⟩ : ∃ M', M' = M8 ++ [⟨.own, 28, [.slice (some ⟨M7.length + ig0, 0, none⟩) W.need.length fg0, .slice (some ⟨M7.length + ig1, 0, none⟩) W.setup.length fg1, .slice (some ⟨M7.length + ig2, 0, none⟩) W.unit.length fg2, .slice (some ⟨M7.length + ig3, 0, none⟩) W.hold.length fg3]⟩] := ⟨_, rfl⟩
  rw [← hM9]
  have LM9 : M9.length = M8.length + 1 := by rw [hM9, List.length_append]; rfl
  replace A00 : RowA M9 a00 k0.need := by rw [hM9]; exact A00.ext _
  replace A01 : RowA M9 a01 k0.setup := by rw [hM9]; exact A01.ext _
  replace A02 : RowA M9 a02 k0.unit := by rw [hM9]; exact A02.ext _
  replace A03 : RowA M9 a03 k0.hold := by rw [hM9]; exact A03.ext _
  replace X0 : BoxA M9 M0.length [.slice (some ⟨a00, 0, none⟩) k0.need.length 0, .slice (some ⟨a01, 0, none⟩) k0.setup.length 0, .slice (some ⟨a02, 0, none⟩) k0.unit.length 0, .slice (some ⟨a03, 0, none⟩) k0.hold.length 0] := by rw [hM9]; exact X0.ext _
  replace w0 : OwnR M9 (M3.length + iw0) W.need := by rw [hM9]; exact w0.ext _
  replace w1 : OwnR M9 (M3.length + iw1) W.setup := by rw [hM9]; exact w1.ext _
  replace w2 : OwnR M9 (M3.length + iw2) W.unit := by rw [hM9]; exact w2.ext _
  replace w3 : OwnR M9 (M3.length + iw3) W.hold := by rw [hM9]; exact w3.ext _
  replace Vw : BoxA M9 M4.length [.slice (some ⟨M3.length + iw0, 0, none⟩) W.need.length fw0, .slice (some ⟨M3.length + iw1, 0, none⟩) W.setup.length fw1, .slice (some ⟨M3.length + iw2, 0, none⟩) W.unit.length fw2, .slice (some ⟨M3.length + iw3, 0, none⟩) W.hold.length fw3] := by rw [hM9]; exact Vw.ext _
  replace Y00 : OwnR M9 (M5.length + 3) k0.need := by rw [hM9]; exact Y00.ext _
  replace Y01 : OwnR M9 (M5.length + 4) k0.setup := by rw [hM9]; exact Y01.ext _
  replace Y02 : OwnR M9 (M5.length + 5) k0.unit := by rw [hM9]; exact Y02.ext _
  replace Y03 : OwnR M9 (M5.length + 6) k0.hold := by rw [hM9]; exact Y03.ext _
  replace Z0 : BoxA M9 M6.length [.slice (some ⟨M5.length + 3, 0, none⟩) k0.need.length 1, .slice (some ⟨M5.length + 4, 0, none⟩) k0.setup.length 1, .slice (some ⟨M5.length + 5, 0, none⟩) k0.unit.length 1, .slice (some ⟨M5.length + 6, 0, none⟩) k0.hold.length 1] := by rw [hM9]; exact Z0.ext _
  replace g0 : OwnR M9 (M7.length + ig0) W.need := by rw [hM9]; exact g0.ext _
  replace g1 : OwnR M9 (M7.length + ig1) W.setup := by rw [hM9]; exact g1.ext _
  replace g2 : OwnR M9 (M7.length + ig2) W.unit := by rw [hM9]; exact g2.ext _
  replace g3 : OwnR M9 (M7.length + ig3) W.hold := by rw [hM9]; exact g3.ext _
  have Vg : BoxA M9 M8.length [.slice (some ⟨M7.length + ig0, 0, none⟩) W.need.length fg0, .slice (some ⟨M7.length + ig1, 0, none⟩) W.setup.length fg1, .slice (some ⟨M7.length + ig2, 0, none⟩) W.unit.length fg2, .slice (some ⟨M7.length + ig3, 0, none⟩) W.hold.length fg3] := by rw [hM9]; exact BoxA.here _ _ _ rfl
  try simp (config := {implicitDefEqProofs := false, maxDischargeDepth := 20}) (disch := first | omega | (simp only [lenE]; done) | (simp only [lenE]; omega) | rfl | (simp only [lenE, markR_len]; done) | (simp only [lenE, markR_len]; omega)) only [runE, mapE, listE, initT_5, initT_6, initT_7, initT_8, resV, oneV, binA, unA, reduceCtorEq, Nat.reduceEqDiff, Nat.reduceAdd, Nat.reduceLT, Nat.reduceLeDiff, Nat.reduceMul, Nat.reduceSub, ↓reduceIte, decide_true, decide_false, Bool.true_eq_false, Bool.false_eq_true, Bool.not_true, Bool.not_false, if_true, if_false, and_true, true_and, memE, celE, w64, Nat.zero_add, Nat.add_zero, Nat.mul_one, putL, and_self, ldn, ext_2_0, ext_2_1, ext_4_0, ext_4_1, ext_4_2, ext_4_3, beq_self_eq_true, bne_self_eq_false, X0.ld4, Vw.ld4, Z0.ld4, Vg.ld4]
  try simp (config := {implicitDefEqProofs := false, maxDischargeDepth := 20}) (disch := first | omega | (simp only [lenE]; done) | (simp only [lenE]; omega) | rfl | (simp only [lenE, markR_len]; done) | (simp only [lenE, markR_len]; omega)) only [runE, mapE, listE, initT_5, initT_6, initT_7, initT_8, resV, oneV, binA, unA, reduceCtorEq, Nat.reduceEqDiff, Nat.reduceAdd, Nat.reduceLT, Nat.reduceLeDiff, Nat.reduceMul, Nat.reduceSub, ↓reduceIte, decide_true, decide_false, Bool.true_eq_false, Bool.false_eq_true, Bool.not_true, Bool.not_false, if_true, if_false, and_true, true_and, memE, celE, w64, Nat.zero_add, Nat.add_zero, Nat.mul_one, putL, and_self, ldn, ext_2_0, ext_2_1, ext_4_0, ext_4_1, ext_4_2, ext_4_3, beq_self_eq_true, bne_self_eq_false, X0.ld4, Vw.ld4, Z0.ld4, Vg.ld4]
  have smW := hsw
  unfold Cs.small at smW
  refine callH_rc (eqCase_rc _ _ _ W (CaseA.rows (g0.row (by omega)) (g1.row (by omega)) (g2.row (by omega)) (g3.row (by omega))) (CaseA.rows (w0.row (by omega)) (w1.row (by omega)) (w2.row (by omega)) (w3.row (by omega)))) ?_
  rintro r new ⟨rfl, nrn⟩
  obtain ⟨M10, hM10⟩ : ∃ M', M' = M9 ++ new := ⟨_, rfl⟩
  rw [← hM10]
  have LM10 : M10.length = M9.length + new.length := by rw [hM10, List.length_append]
  replace A00 : RowA M10 a00 k0.need := by rw [hM10]; exact A00.ext _
  replace A01 : RowA M10 a01 k0.setup := by rw [hM10]; exact A01.ext _
  replace A02 : RowA M10 a02 k0.unit := by rw [hM10]; exact A02.ext _
  replace A03 : RowA M10 a03 k0.hold := by rw [hM10]; exact A03.ext _
  replace X0 : BoxA M10 M0.length [.slice (some ⟨a00, 0, none⟩) k0.need.length 0, .slice (some ⟨a01, 0, none⟩) k0.setup.length 0, .slice (some ⟨a02, 0, none⟩) k0.unit.length 0, .slice (some ⟨a03, 0, none⟩) k0.hold.length 0] := by rw [hM10]; exact X0.ext _
  replace w0 : OwnR M10 (M3.length + iw0) W.need := by rw [hM10]; exact w0.ext _
  replace w1 : OwnR M10 (M3.length + iw1) W.setup := by rw [hM10]; exact w1.ext _
  replace w2 : OwnR M10 (M3.length + iw2) W.unit := by rw [hM10]; exact w2.ext _
  replace w3 : OwnR M10 (M3.length + iw3) W.hold := by rw [hM10]; exact w3.ext _
  replace Vw : BoxA M10 M4.length [.slice (some ⟨M3.length + iw0, 0, none⟩) W.need.length fw0, .slice (some ⟨M3.length + iw1, 0, none⟩) W.setup.length fw1, .slice (some ⟨M3.length + iw2, 0, none⟩) W.unit.length fw2, .slice (some ⟨M3.length + iw3, 0, none⟩) W.hold.length fw3] := by rw [hM10]; exact Vw.ext _
  replace Y00 : OwnR M10 (M5.length + 3) k0.need := by rw [hM10]; exact Y00.ext _
  replace Y01 : OwnR M10 (M5.length + 4) k0.setup := by rw [hM10]; exact Y01.ext _
  replace Y02 : OwnR M10 (M5.length + 5) k0.unit := by rw [hM10]; exact Y02.ext _
  replace Y03 : OwnR M10 (M5.length + 6) k0.hold := by rw [hM10]; exact Y03.ext _
  replace Z0 : BoxA M10 M6.length [.slice (some ⟨M5.length + 3, 0, none⟩) k0.need.length 1, .slice (some ⟨M5.length + 4, 0, none⟩) k0.setup.length 1, .slice (some ⟨M5.length + 5, 0, none⟩) k0.unit.length 1, .slice (some ⟨M5.length + 6, 0, none⟩) k0.hold.length 1] := by rw [hM10]; exact Z0.ext _
  replace g0 : OwnR M10 (M7.length + ig0) W.need := by rw [hM10]; exact g0.ext _
  replace g1 : OwnR M10 (M7.length + ig1) W.setup := by rw [hM10]; exact g1.ext _
  replace g2 : OwnR M10 (M7.length + ig2) W.unit := by rw [hM10]; exact g2.ext _
  replace g3 : OwnR M10 (M7.length + ig3) W.hold := by rw [hM10]; exact g3.ext _
  replace Vg : BoxA M10 M8.length [.slice (some ⟨M7.length + ig0, 0, none⟩) W.need.length fg0, .slice (some ⟨M7.length + ig1, 0, none⟩) W.setup.length fg1, .slice (some ⟨M7.length + ig2, 0, none⟩) W.unit.length fg2, .slice (some ⟨M7.length + ig3, 0, none⟩) W.hold.length fg3] := by rw [hM10]; exact Vg.ext _
  clear nrn
  try simp (config := {implicitDefEqProofs := false, maxDischargeDepth := 20}) (disch := first | omega | (simp only [lenE]; done) | (simp only [lenE]; omega) | rfl | (simp only [lenE, markR_len]; done) | (simp only [lenE, markR_len]; omega)) only [runE, mapE, listE, initT_5, initT_6, initT_7, initT_8, resV, oneV, binA, unA, reduceCtorEq, Nat.reduceEqDiff, Nat.reduceAdd, Nat.reduceLT, Nat.reduceLeDiff, Nat.reduceMul, Nat.reduceSub, ↓reduceIte, decide_true, decide_false, Bool.true_eq_false, Bool.false_eq_true, Bool.not_true, Bool.not_false, if_true, if_false, and_true, true_and, memE, celE, w64, Nat.zero_add, Nat.add_zero, Nat.mul_one, putL, and_self, ldn, ext_2_0, ext_2_1, ext_4_0, ext_4_1, ext_4_2, ext_4_3, beq_self_eq_true, bne_self_eq_false, List.append_nil, X0.ld4, Vw.ld4, Z0.ld4, Vg.ld4]
  refine rcallH_rc (toCase_rc _ _ k0 (CaseA.rows A00 A01 A02 A03) hs0) ?_
  rintro r new ⟨rfl, c0, c1, c2, rfl, kc0, kc1, kc2⟩
  obtain ⟨M11, hM11⟩ : ∃ M', M' = M10 ++ [c0, c1, c2, rowB k0.need, rowB k0.setup, rowB k0.unit, rowB k0.hold] := ⟨_, rfl⟩
  rw [← hM11]
  have LM11 : M11.length = M10.length + 7 := by rw [hM11, List.length_append]; rfl
  replace A00 : RowA M11 a00 k0.need := by rw [hM11]; exact A00.ext _
  replace A01 : RowA M11 a01 k0.setup := by rw [hM11]; exact A01.ext _
  replace A02 : RowA M11 a02 k0.unit := by rw [hM11]; exact A02.ext _
  replace A03 : RowA M11 a03 k0.hold := by rw [hM11]; exact A03.ext _
  replace X0 : BoxA M11 M0.length [.slice (some ⟨a00, 0, none⟩) k0.need.length 0, .slice (some ⟨a01, 0, none⟩) k0.setup.length 0, .slice (some ⟨a02, 0, none⟩) k0.unit.length 0, .slice (some ⟨a03, 0, none⟩) k0.hold.length 0] := by rw [hM11]; exact X0.ext _
  replace w0 : OwnR M11 (M3.length + iw0) W.need := by rw [hM11]; exact w0.ext _
  replace w1 : OwnR M11 (M3.length + iw1) W.setup := by rw [hM11]; exact w1.ext _
  replace w2 : OwnR M11 (M3.length + iw2) W.unit := by rw [hM11]; exact w2.ext _
  replace w3 : OwnR M11 (M3.length + iw3) W.hold := by rw [hM11]; exact w3.ext _
  replace Vw : BoxA M11 M4.length [.slice (some ⟨M3.length + iw0, 0, none⟩) W.need.length fw0, .slice (some ⟨M3.length + iw1, 0, none⟩) W.setup.length fw1, .slice (some ⟨M3.length + iw2, 0, none⟩) W.unit.length fw2, .slice (some ⟨M3.length + iw3, 0, none⟩) W.hold.length fw3] := by rw [hM11]; exact Vw.ext _
  replace Y00 : OwnR M11 (M5.length + 3) k0.need := by rw [hM11]; exact Y00.ext _
  replace Y01 : OwnR M11 (M5.length + 4) k0.setup := by rw [hM11]; exact Y01.ext _
  replace Y02 : OwnR M11 (M5.length + 5) k0.unit := by rw [hM11]; exact Y02.ext _
  replace Y03 : OwnR M11 (M5.length + 6) k0.hold := by rw [hM11]; exact Y03.ext _
  replace Z0 : BoxA M11 M6.length [.slice (some ⟨M5.length + 3, 0, none⟩) k0.need.length 1, .slice (some ⟨M5.length + 4, 0, none⟩) k0.setup.length 1, .slice (some ⟨M5.length + 5, 0, none⟩) k0.unit.length 1, .slice (some ⟨M5.length + 6, 0, none⟩) k0.hold.length 1] := by rw [hM11]; exact Z0.ext _
  replace g0 : OwnR M11 (M7.length + ig0) W.need := by rw [hM11]; exact g0.ext _
  replace g1 : OwnR M11 (M7.length + ig1) W.setup := by rw [hM11]; exact g1.ext _
  replace g2 : OwnR M11 (M7.length + ig2) W.unit := by rw [hM11]; exact g2.ext _
  replace g3 : OwnR M11 (M7.length + ig3) W.hold := by rw [hM11]; exact g3.ext _
  replace Vg : BoxA M11 M8.length [.slice (some ⟨M7.length + ig0, 0, none⟩) W.need.length fg0, .slice (some ⟨M7.length + ig1, 0, none⟩) W.setup.length fg1, .slice (some ⟨M7.length + ig2, 0, none⟩) W.unit.length fg2, .slice (some ⟨M7.length + ig3, 0, none⟩) W.hold.length fg3] := by rw [hM11]; exact Vg.ext _
  have T00 : OwnR M11 (M10.length + 3) k0.need := by rw [hM11]; exact OwnR.new (i := 3) (by rfl) rfl
  have T01 : OwnR M11 (M10.length + 4) k0.setup := by rw [hM11]; exact OwnR.new (i := 4) (by rfl) rfl
  have T02 : OwnR M11 (M10.length + 5) k0.unit := by rw [hM11]; exact OwnR.new (i := 5) (by rfl) rfl
  have T03 : OwnR M11 (M10.length + 6) k0.hold := by rw [hM11]; exact OwnR.new (i := 6) (by rfl) rfl
  clear kc0 kc1 kc2
  try simp (config := {implicitDefEqProofs := false, maxDischargeDepth := 20}) (disch := first | omega | (simp only [lenE]; done) | (simp only [lenE]; omega) | rfl | (simp only [lenE, markR_len]; done) | (simp only [lenE, markR_len]; omega)) only [runE, mapE, listE, initT_5, initT_6, initT_7, initT_8, resV, oneV, binA, unA, reduceCtorEq, Nat.reduceEqDiff, Nat.reduceAdd, Nat.reduceLT, Nat.reduceLeDiff, Nat.reduceMul, Nat.reduceSub, ↓reduceIte, decide_true, decide_false, Bool.true_eq_false, Bool.false_eq_true, Bool.not_true, Bool.not_false, if_true, if_false, and_true, true_and, memE, celE, w64, Nat.zero_add, Nat.add_zero, Nat.mul_one, putL, and_self, ldn, ext_2_0, ext_2_1, ext_4_0, ext_4_1, ext_4_2, ext_4_3, beq_self_eq_true, bne_self_eq_false, X0.ld4, Vw.ld4, Z0.ld4, Vg.ld4]
  refine rcallH_rc (eqCase_rc _ _ _ k0 (CaseA.rows (Y00.row (by omega)) (Y01.row (by omega)) (Y02.row (by omega)) (Y03.row (by omega))) (CaseA.rows (T00.row (by omega)) (T01.row (by omega)) (T02.row (by omega)) (T03.row (by omega)))) ?_
  rintro r new ⟨rfl, nrn⟩
  obtain ⟨M12, hM12⟩ : ∃ M', M' = M11 ++ new := ⟨_, rfl⟩
  rw [← hM12]
  have LM12 : M12.length = M11.length + new.length := by rw [hM12, List.length_append]
  replace A00 : RowA M12 a00 k0.need := by rw [hM12]; exact A00.ext _
  replace A01 : RowA M12 a01 k0.setup := by rw [hM12]; exact A01.ext _
  replace A02 : RowA M12 a02 k0.unit := by rw [hM12]; exact A02.ext _
  replace A03 : RowA M12 a03 k0.hold := by rw [hM12]; exact A03.ext _
  replace X0 : BoxA M12 M0.length [.slice (some ⟨a00, 0, none⟩) k0.need.length 0, .slice (some ⟨a01, 0, none⟩) k0.setup.length 0, .slice (some ⟨a02, 0, none⟩) k0.unit.length 0, .slice (some ⟨a03, 0, none⟩) k0.hold.length 0] := by rw [hM12]; exact X0.ext _
  replace w0 : OwnR M12 (M3.length + iw0) W.need := by rw [hM12]; exact w0.ext _
  replace w1 : OwnR M12 (M3.length + iw1) W.setup := by rw [hM12]; exact w1.ext _
  replace w2 : OwnR M12 (M3.length + iw2) W.unit := by rw [hM12]; exact w2.ext _
  replace w3 : OwnR M12 (M3.length + iw3) W.hold := by rw [hM12]; exact w3.ext _
  replace Vw : BoxA M12 M4.length [.slice (some ⟨M3.length + iw0, 0, none⟩) W.need.length fw0, .slice (some ⟨M3.length + iw1, 0, none⟩) W.setup.length fw1, .slice (some ⟨M3.length + iw2, 0, none⟩) W.unit.length fw2, .slice (some ⟨M3.length + iw3, 0, none⟩) W.hold.length fw3] := by rw [hM12]; exact Vw.ext _
  replace Y00 : OwnR M12 (M5.length + 3) k0.need := by rw [hM12]; exact Y00.ext _
  replace Y01 : OwnR M12 (M5.length + 4) k0.setup := by rw [hM12]; exact Y01.ext _
  replace Y02 : OwnR M12 (M5.length + 5) k0.unit := by rw [hM12]; exact Y02.ext _
  replace Y03 : OwnR M12 (M5.length + 6) k0.hold := by rw [hM12]; exact Y03.ext _
  replace Z0 : BoxA M12 M6.length [.slice (some ⟨M5.length + 3, 0, none⟩) k0.need.length 1, .slice (some ⟨M5.length + 4, 0, none⟩) k0.setup.length 1, .slice (some ⟨M5.length + 5, 0, none⟩) k0.unit.length 1, .slice (some ⟨M5.length + 6, 0, none⟩) k0.hold.length 1] := by rw [hM12]; exact Z0.ext _
  replace g0 : OwnR M12 (M7.length + ig0) W.need := by rw [hM12]; exact g0.ext _
  replace g1 : OwnR M12 (M7.length + ig1) W.setup := by rw [hM12]; exact g1.ext _
  replace g2 : OwnR M12 (M7.length + ig2) W.unit := by rw [hM12]; exact g2.ext _
  replace g3 : OwnR M12 (M7.length + ig3) W.hold := by rw [hM12]; exact g3.ext _
  replace Vg : BoxA M12 M8.length [.slice (some ⟨M7.length + ig0, 0, none⟩) W.need.length fg0, .slice (some ⟨M7.length + ig1, 0, none⟩) W.setup.length fg1, .slice (some ⟨M7.length + ig2, 0, none⟩) W.unit.length fg2, .slice (some ⟨M7.length + ig3, 0, none⟩) W.hold.length fg3] := by rw [hM12]; exact Vg.ext _
  clear nrn T00 T01 T02 T03
  try simp (config := {implicitDefEqProofs := false, maxDischargeDepth := 20}) (disch := first | omega | (simp only [lenE]; done) | (simp only [lenE]; omega) | rfl | (simp only [lenE, markR_len]; done) | (simp only [lenE, markR_len]; omega)) only [runE, mapE, listE, initT_5, initT_6, initT_7, initT_8, resV, oneV, binA, unA, reduceCtorEq, Nat.reduceEqDiff, Nat.reduceAdd, Nat.reduceLT, Nat.reduceLeDiff, Nat.reduceMul, Nat.reduceSub, ↓reduceIte, decide_true, decide_false, Bool.true_eq_false, Bool.false_eq_true, Bool.not_true, Bool.not_false, if_true, if_false, and_true, true_and, memE, celE, w64, Nat.zero_add, Nat.add_zero, Nat.mul_one, putL, and_self, ldn, ext_2_0, ext_2_1, ext_4_0, ext_4_1, ext_4_2, ext_4_3, beq_self_eq_true, bne_self_eq_false, X0.ld4, Vw.ld4, Z0.ld4, Vg.ld4]
  refine callH_ac (markCase_ac _ (M5.length + 3) (M5.length + 4) (M5.length + 5) (M5.length + 6) _ _ _ _ k0 (1) Y00 Y01 Y02 Y03 (by omega) (by omega) (by omega) (by omega) (by omega) (by omega) (by omega) (by omega) hs0) ?_
  rintro r m' ⟨rfl, cb, rfl⟩
  have y00 := Y00.lt
  have y01 := Y01.lt
  have y02 := Y02.lt
  have y03 := Y03.lt
  obtain ⟨M13, hM13⟩ : ∃ M', M' = markR (markR (markR (markR (M12) (M5.length + 3) (1) k0.need.length) (M5.length + 4) (1 + k0.need.length) k0.setup.length) (M5.length + 5) (1 + k0.need.length + k0.setup.length) k0.unit.length) (M5.length + 6) (1 + k0.need.length + k0.setup.length + k0.unit.length) k0.hold.length ++ [cb] := ⟨_, rfl⟩
  rw [← hM13]
  have LM13 : M13.length = M12.length + 1 := by rw [hM13]; simp [markR_len]
  have NA00 := A00.lt
  have NA01 := A01.lt
  have NA02 := A02.lt
  have NA03 := A03.lt
  have NX0 := X0.lt
  have Nw0 := w0.lt
  have Nw1 := w1.lt
  have Nw2 := w2.lt
  have Nw3 := w3.lt
  have NVw := Vw.lt
  have NZ0 := Z0.lt
  have Ng0 := g0.lt
  have Ng1 := g1.lt
  have Ng2 := g2.lt
  have Ng3 := g3.lt
  have NVg := Vg.lt
  replace A00 : RowA M13 a00 k0.need := by rw [hM13]; exact ((((A00.other (by omega)).other (by omega)).other (by omega)).other (by omega)).ext _
  replace A01 : RowA M13 a01 k0.setup := by rw [hM13]; exact ((((A01.other (by omega)).other (by omega)).other (by omega)).other (by omega)).ext _
  replace A02 : RowA M13 a02 k0.unit := by rw [hM13]; exact ((((A02.other (by omega)).other (by omega)).other (by omega)).other (by omega)).ext _
  replace A03 : RowA M13 a03 k0.hold := by rw [hM13]; exact ((((A03.other (by omega)).other (by omega)).other (by omega)).other (by omega)).ext _
  replace X0 : BoxA M13 M0.length [.slice (some ⟨a00, 0, none⟩) k0.need.length 0, .slice (some ⟨a01, 0, none⟩) k0.setup.length 0, .slice (some ⟨a02, 0, none⟩) k0.unit.length 0, .slice (some ⟨a03, 0, none⟩) k0.hold.length 0] := by rw [hM13]; exact ((((X0.other (by omega)).other (by omega)).other (by omega)).other (by omega)).ext _
  replace w0 : OwnR M13 (M3.length + iw0) W.need := by rw [hM13]; exact ((((w0.other' (by omega)).other' (by omega)).other' (by omega)).other' (by omega)).ext _
  replace w1 : OwnR M13 (M3.length + iw1) W.setup := by rw [hM13]; exact ((((w1.other' (by omega)).other' (by omega)).other' (by omega)).other' (by omega)).ext _
  replace w2 : OwnR M13 (M3.length + iw2) W.unit := by rw [hM13]; exact ((((w2.other' (by omega)).other' (by omega)).other' (by omega)).other' (by omega)).ext _
  replace w3 : OwnR M13 (M3.length + iw3) W.hold := by rw [hM13]; exact ((((w3.other' (by omega)).other' (by omega)).other' (by omega)).other' (by omega)).ext _
  replace Vw : BoxA M13 M4.length [.slice (some ⟨M3.length + iw0, 0, none⟩) W.need.length fw0, .slice (some ⟨M3.length + iw1, 0, none⟩) W.setup.length fw1, .slice (some ⟨M3.length + iw2, 0, none⟩) W.unit.length fw2, .slice (some ⟨M3.length + iw3, 0, none⟩) W.hold.length fw3] := by rw [hM13]; exact ((((Vw.other (by omega)).other (by omega)).other (by omega)).other (by omega)).ext _
  replace Z0 : BoxA M13 M6.length [.slice (some ⟨M5.length + 3, 0, none⟩) k0.need.length 1, .slice (some ⟨M5.length + 4, 0, none⟩) k0.setup.length 1, .slice (some ⟨M5.length + 5, 0, none⟩) k0.unit.length 1, .slice (some ⟨M5.length + 6, 0, none⟩) k0.hold.length 1] := by rw [hM13]; exact ((((Z0.other (by omega)).other (by omega)).other (by omega)).other (by omega)).ext _
  replace g0 : OwnR M13 (M7.length + ig0) W.need := by rw [hM13]; exact ((((g0.other' (by omega)).other' (by omega)).other' (by omega)).other' (by omega)).ext _
  replace g1 : OwnR M13 (M7.length + ig1) W.setup := by rw [hM13]; exact ((((g1.other' (by omega)).other' (by omega)).other' (by omega)).other' (by omega)).ext _
  replace g2 : OwnR M13 (M7.length + ig2) W.unit := by rw [hM13]; exact ((((g2.other' (by omega)).other' (by omega)).other' (by omega)).other' (by omega)).ext _
  replace g3 : OwnR M13 (M7.length + ig3) W.hold := by rw [hM13]; exact ((((g3.other' (by omega)).other' (by omega)).other' (by omega)).other' (by omega)).ext _
  replace Vg : BoxA M13 M8.length [.slice (some ⟨M7.length + ig0, 0, none⟩) W.need.length fg0, .slice (some ⟨M7.length + ig1, 0, none⟩) W.setup.length fg1, .slice (some ⟨M7.length + ig2, 0, none⟩) W.unit.length fg2, .slice (some ⟨M7.length + ig3, 0, none⟩) W.hold.length fg3] := by rw [hM13]; exact ((((Vg.other (by omega)).other (by omega)).other (by omega)).other (by omega)).ext _
  clear NA00 NA01 NA02 NA03 NX0 Nw0 Nw1 Nw2 Nw3 NVw NZ0 Ng0 Ng1 Ng2 Ng3 NVg
  clear Y00 Y01 Y02 Y03
  have kneg : ¬ ((1 + k0.tot : Int) < 0) := by omega
  try simp (config := {implicitDefEqProofs := false, maxDischargeDepth := 20}) (disch := first | omega | (simp only [lenE]; done) | (simp only [lenE]; omega) | rfl | (simp only [lenE, markR_len]; done) | (simp only [lenE, markR_len]; omega)) only [runE, mapE, listE, initT_5, initT_6, initT_7, initT_8, resV, oneV, binA, unA, reduceCtorEq, Nat.reduceEqDiff, Nat.reduceAdd, Nat.reduceLT, Nat.reduceLeDiff, Nat.reduceMul, Nat.reduceSub, ↓reduceIte, decide_true, decide_false, Bool.true_eq_false, Bool.false_eq_true, Bool.not_true, Bool.not_false, if_true, if_false, and_true, true_and, memE, celE, w64, Nat.zero_add, Nat.add_zero, Nat.mul_one, putL, and_self, ldn, ext_2_0, ext_2_1, ext_4_0, ext_4_1, ext_4_2, ext_4_3, beq_self_eq_true, bne_self_eq_false, kneg, X0.ld4, Vw.ld4, Z0.ld4, Vg.ld4]
  try simp (config := {implicitDefEqProofs := false, maxDischargeDepth := 20}) (disch := first | omega | (simp only [lenE]; done) | (simp only [lenE]; omega) | rfl | (simp only [lenE, markR_len]; done) | (simp only [lenE, markR_len]; omega)) only [runE, mapE, listE, initT_5, initT_6, initT_7, initT_8, resV, oneV, binA, unA, reduceCtorEq, Nat.reduceEqDiff, Nat.reduceAdd, Nat.reduceLT, Nat.reduceLeDiff, Nat.reduceMul, Nat.reduceSub, ↓reduceIte, decide_true, decide_false, Bool.true_eq_false, Bool.false_eq_true, Bool.not_true, Bool.not_false, if_true, if_false, and_true, true_and, memE, celE, w64, Nat.zero_add, Nat.add_zero, Nat.mul_one, putL, and_self, ldn, ext_2_0, ext_2_1, ext_4_0, ext_4_1, ext_4_2, ext_4_3, beq_self_eq_true, bne_self_eq_false, X0.ld4, Vw.ld4, Z0.ld4, Vg.ld4]
  have smW := hsw
  unfold Cs.small at smW
  refine callH_rc (eqCase_rc _ _ _ W (CaseA.rows (g0.row (by omega)) (g1.row (by omega)) (g2.row (by omega)) (g3.row (by omega))) (CaseA.rows (w0.row (by omega)) (w1.row (by omega)) (w2.row (by omega)) (w3.row (by omega)))) ?_
  rintro r new ⟨rfl, nrn⟩
  obtain ⟨M14, hM14⟩ : ∃ M', M' = M13 ++ new := ⟨_, rfl⟩
  rw [← hM14]
  have LM14 : M14.length = M13.length + new.length := by rw [hM14, List.length_append]
  replace A00 : RowA M14 a00 k0.need := by rw [hM14]; exact A00.ext _
  replace A01 : RowA M14 a01 k0.setup := by rw [hM14]; exact A01.ext _
  replace A02 : RowA M14 a02 k0.unit := by rw [hM14]; exact A02.ext _
  replace A03 : RowA M14 a03 k0.hold := by rw [hM14]; exact A03.ext _
  replace X0 : BoxA M14 M0.length [.slice (some ⟨a00, 0, none⟩) k0.need.length 0, .slice (some ⟨a01, 0, none⟩) k0.setup.length 0, .slice (some ⟨a02, 0, none⟩) k0.unit.length 0, .slice (some ⟨a03, 0, none⟩) k0.hold.length 0] := by rw [hM14]; exact X0.ext _
  replace w0 : OwnR M14 (M3.length + iw0) W.need := by rw [hM14]; exact w0.ext _
  replace w1 : OwnR M14 (M3.length + iw1) W.setup := by rw [hM14]; exact w1.ext _
  replace w2 : OwnR M14 (M3.length + iw2) W.unit := by rw [hM14]; exact w2.ext _
  replace w3 : OwnR M14 (M3.length + iw3) W.hold := by rw [hM14]; exact w3.ext _
  replace Vw : BoxA M14 M4.length [.slice (some ⟨M3.length + iw0, 0, none⟩) W.need.length fw0, .slice (some ⟨M3.length + iw1, 0, none⟩) W.setup.length fw1, .slice (some ⟨M3.length + iw2, 0, none⟩) W.unit.length fw2, .slice (some ⟨M3.length + iw3, 0, none⟩) W.hold.length fw3] := by rw [hM14]; exact Vw.ext _
  replace Z0 : BoxA M14 M6.length [.slice (some ⟨M5.length + 3, 0, none⟩) k0.need.length 1, .slice (some ⟨M5.length + 4, 0, none⟩) k0.setup.length 1, .slice (some ⟨M5.length + 5, 0, none⟩) k0.unit.length 1, .slice (some ⟨M5.length + 6, 0, none⟩) k0.hold.length 1] := by rw [hM14]; exact Z0.ext _
  replace g0 : OwnR M14 (M7.length + ig0) W.need := by rw [hM14]; exact g0.ext _
  replace g1 : OwnR M14 (M7.length + ig1) W.setup := by rw [hM14]; exact g1.ext _
  replace g2 : OwnR M14 (M7.length + ig2) W.unit := by rw [hM14]; exact g2.ext _
  replace g3 : OwnR M14 (M7.length + ig3) W.hold := by rw [hM14]; exact g3.ext _
  replace Vg : BoxA M14 M8.length [.slice (some ⟨M7.length + ig0, 0, none⟩) W.need.length fg0, .slice (some ⟨M7.length + ig1, 0, none⟩) W.setup.length fg1, .slice (some ⟨M7.length + ig2, 0, none⟩) W.unit.length fg2, .slice (some ⟨M7.length + ig3, 0, none⟩) W.hold.length fg3] := by rw [hM14]; exact Vg.ext _
  clear nrn
  try simp (config := {implicitDefEqProofs := false, maxDischargeDepth := 20}) (disch := first | omega | (simp only [lenE]; done) | (simp only [lenE]; omega) | rfl | (simp only [lenE, markR_len]; done) | (simp only [lenE, markR_len]; omega)) only [runE, mapE, listE, initT_5, initT_6, initT_7, initT_8, resV, oneV, binA, unA, reduceCtorEq, Nat.reduceEqDiff, Nat.reduceAdd, Nat.reduceLT, Nat.reduceLeDiff, Nat.reduceMul, Nat.reduceSub, ↓reduceIte, decide_true, decide_false, Bool.true_eq_false, Bool.false_eq_true, Bool.not_true, Bool.not_false, if_true, if_false, and_true, true_and, memE, celE, w64, Nat.zero_add, Nat.add_zero, Nat.mul_one, putL, and_self, ldn, ext_2_0, ext_2_1, ext_4_0, ext_4_1, ext_4_2, ext_4_3, beq_self_eq_true, bne_self_eq_false, List.append_nil, X0.ld4, Vw.ld4, Z0.ld4, Vg.ld4]
  have tbW := Cs.tot_bd hsw
  refine callH_ac (markCase_ac _ (M7.length + ig0) (M7.length + ig1) (M7.length + ig2) (M7.length + ig3) _ _ _ _ W 1 g0 g1 g2 g3 (by omega) (by omega) (by omega) (by omega) (by omega) (by omega) (by omega) (by omega) hsw) ?_
  rintro r m' ⟨rfl, cb, rfl⟩
  have yg0 := g0.lt
  have yg1 := g1.lt
  have yg2 := g2.lt
  have yg3 := g3.lt
  obtain ⟨M15, hM15⟩ : ∃ M', M' = markR (markR (markR (markR (M14) (M7.length + ig0) (1) W.need.length) (M7.length + ig1) (1 + W.need.length) W.setup.length) (M7.length + ig2) (1 + W.need.length + W.setup.length) W.unit.length) (M7.length + ig3) (1 + W.need.length + W.setup.length + W.unit.length) W.hold.length ++ [cb] := ⟨_, rfl⟩
  rw [← hM15]
  have LM15 : M15.length = M14.length + 1 := by rw [hM15]; simp [markR_len]
  have NA00 := A00.lt
  have NA01 := A01.lt
  have NA02 := A02.lt
  have NA03 := A03.lt
  have NX0 := X0.lt
  have Nw0 := w0.lt
  have Nw1 := w1.lt
  have Nw2 := w2.lt
  have Nw3 := w3.lt
  have NVw := Vw.lt
  have NZ0 := Z0.lt
  have NVg := Vg.lt
  replace A00 : RowA M15 a00 k0.need := by rw [hM15]; exact ((((A00.other (by omega)).other (by omega)).other (by omega)).other (by omega)).ext _
  replace A01 : RowA M15 a01 k0.setup := by rw [hM15]; exact ((((A01.other (by omega)).other (by omega)).other (by omega)).other (by omega)).ext _
  replace A02 : RowA M15 a02 k0.unit := by rw [hM15]; exact ((((A02.other (by omega)).other (by omega)).other (by omega)).other (by omega)).ext _
  replace A03 : RowA M15 a03 k0.hold := by rw [hM15]; exact ((((A03.other (by omega)).other (by omega)).other (by omega)).other (by omega)).ext _
  replace X0 : BoxA M15 M0.length [.slice (some ⟨a00, 0, none⟩) k0.need.length 0, .slice (some ⟨a01, 0, none⟩) k0.setup.length 0, .slice (some ⟨a02, 0, none⟩) k0.unit.length 0, .slice (some ⟨a03, 0, none⟩) k0.hold.length 0] := by rw [hM15]; exact ((((X0.other (by omega)).other (by omega)).other (by omega)).other (by omega)).ext _
  replace w0 : OwnR M15 (M3.length + iw0) W.need := by rw [hM15]; exact ((((w0.other' (by omega)).other' (by omega)).other' (by omega)).other' (by omega)).ext _
  replace w1 : OwnR M15 (M3.length + iw1) W.setup := by rw [hM15]; exact ((((w1.other' (by omega)).other' (by omega)).other' (by omega)).other' (by omega)).ext _
  replace w2 : OwnR M15 (M3.length + iw2) W.unit := by rw [hM15]; exact ((((w2.other' (by omega)).other' (by omega)).other' (by omega)).other' (by omega)).ext _
  replace w3 : OwnR M15 (M3.length + iw3) W.hold := by rw [hM15]; exact ((((w3.other' (by omega)).other' (by omega)).other' (by omega)).other' (by omega)).ext _
  replace Vw : BoxA M15 M4.length [.slice (some ⟨M3.length + iw0, 0, none⟩) W.need.length fw0, .slice (some ⟨M3.length + iw1, 0, none⟩) W.setup.length fw1, .slice (some ⟨M3.length + iw2, 0, none⟩) W.unit.length fw2, .slice (some ⟨M3.length + iw3, 0, none⟩) W.hold.length fw3] := by rw [hM15]; exact ((((Vw.other (by omega)).other (by omega)).other (by omega)).other (by omega)).ext _
  replace Z0 : BoxA M15 M6.length [.slice (some ⟨M5.length + 3, 0, none⟩) k0.need.length 1, .slice (some ⟨M5.length + 4, 0, none⟩) k0.setup.length 1, .slice (some ⟨M5.length + 5, 0, none⟩) k0.unit.length 1, .slice (some ⟨M5.length + 6, 0, none⟩) k0.hold.length 1] := by rw [hM15]; exact ((((Z0.other (by omega)).other (by omega)).other (by omega)).other (by omega)).ext _
  replace Vg : BoxA M15 M8.length [.slice (some ⟨M7.length + ig0, 0, none⟩) W.need.length fg0, .slice (some ⟨M7.length + ig1, 0, none⟩) W.setup.length fg1, .slice (some ⟨M7.length + ig2, 0, none⟩) W.unit.length fg2, .slice (some ⟨M7.length + ig3, 0, none⟩) W.hold.length fg3] := by rw [hM15]; exact ((((Vg.other (by omega)).other (by omega)).other (by omega)).other (by omega)).ext _
  clear NA00 NA01 NA02 NA03 NX0 Nw0 Nw1 Nw2 Nw3 NVw NZ0 NVg
  replace g0 : OwnR M15 (M7.length + ig0) (imarks (1) W.need.length) := by rw [hM15]; exact ((((OwnR.marked (m := M14) (1) _ (by (try simp only [markR_len]); exact yg0)).other _ _ (by omega)).other _ _ (by omega)).other _ _ (by omega)).ext _
  replace g1 : OwnR M15 (M7.length + ig1) (imarks (1 + W.need.length) W.setup.length) := by rw [hM15]; exact (((OwnR.marked (m := markR (M14) (M7.length + ig0) (1) W.need.length) (1 + W.need.length) _ (by (try simp only [markR_len]); exact yg1)).other _ _ (by omega)).other _ _ (by omega)).ext _
  replace g2 : OwnR M15 (M7.length + ig2) (imarks (1 + W.need.length + W.setup.length) W.unit.length) := by rw [hM15]; exact ((OwnR.marked (m := markR (markR (M14) (M7.length + ig0) (1) W.need.length) (M7.length + ig1) (1 + W.need.length) W.setup.length) (1 + W.need.length + W.setup.length) _ (by (try simp only [markR_len]); exact yg2)).other _ _ (by omega)).ext _
  replace g3 : OwnR M15 (M7.length + ig3) (imarks (1 + W.need.length + W.setup.length + W.unit.length) W.hold.length) := by rw [hM15]; exact (OwnR.marked (m := markR (markR (markR (M14) (M7.length + ig0) (1) W.need.length) (M7.length + ig1) (1 + W.need.length) W.setup.length) (M7.length + ig2) (1 + W.need.length + W.setup.length) W.unit.length) (1 + W.need.length + W.setup.length + W.unit.length) _ (by (try simp only [markR_len]); exact yg3)).ext _
  have hqe : 1 + W.tot = 1 + (W.need.length : Int) + W.setup.length + W.unit.length + W.hold.length := by unfold Cs.tot; omega
  have hq0 : ¬ (1 + (W.need.length : Int) + W.setup.length + W.unit.length + W.hold.length < 0) := by omega
  try simp (config := {implicitDefEqProofs := false, maxDischargeDepth := 20}) (disch := first | omega | (simp only [lenE]; done) | (simp only [lenE]; omega) | rfl | (simp only [lenE, markR_len]; done) | (simp only [lenE, markR_len]; omega)) only [runE, mapE, listE, initT_5, initT_6, initT_7, initT_8, resV, oneV, binA, unA, reduceCtorEq, Nat.reduceEqDiff, Nat.reduceAdd, Nat.reduceLT, Nat.reduceLeDiff, Nat.reduceMul, Nat.reduceSub, ↓reduceIte, decide_true, decide_false, Bool.true_eq_false, Bool.false_eq_true, Bool.not_true, Bool.not_false, if_true, if_false, and_true, true_and, memE, celE, w64, Nat.zero_add, Nat.add_zero, Nat.mul_one, putL, and_self, ldn, ext_2_0, ext_2_1, ext_4_0, ext_4_1, ext_4_2, ext_4_3, beq_self_eq_true, bne_self_eq_false, List.append_nil, hqe, X0.ld4, Vw.ld4, Z0.ld4, Vg.ld4]
  have hg : CaseA M15 (.agg #[.slice (some ⟨(M7.length + ig0), 0, none⟩) (imarks (1) W.need.length).length fg0, .slice (some ⟨(M7.length + ig1), 0, none⟩) (imarks (1 + W.need.length) W.setup.length).length fg1, .slice (some ⟨(M7.length + ig2), 0, none⟩) (imarks (1 + W.need.length + W.setup.length) W.unit.length).length fg2, .slice (some ⟨(M7.length + ig3), 0, none⟩) (imarks (1 + W.need.length + W.setup.length + W.unit.length) W.hold.length).length fg3]) ⟨imarks (1) W.need.length, imarks (1 + W.need.length) W.setup.length, imarks (1 + W.need.length + W.setup.length) W.unit.length, imarks (1 + W.need.length + W.setup.length + W.unit.length) W.hold.length⟩ := CaseA.rows (k := ⟨imarks (1) W.need.length, imarks (1 + W.need.length) W.setup.length, imarks (1 + W.need.length + W.setup.length) W.unit.length, imarks (1 + W.need.length + W.setup.length + W.unit.length) W.hold.length⟩) (g0.row (by rw [imarks_len]; omega)) (g1.row (by rw [imarks_len]; omega)) (g2.row (by rw [imarks_len]; omega)) (g3.row (by rw [imarks_len]; omega))
  simp only [imarks_len] at hg
  refine callH_rc (heldCase_rc _ _ W.need.length W.setup.length W.unit.length W.hold.length 1 hg (by omega) (by omega) (by omega) (by omega) (by omega) (by omega)) ?_
  rintro r new ⟨rfl, nrn⟩
  obtain ⟨M16, hM16⟩ : ∃ M', M' = M15 ++ new := ⟨_, rfl⟩
  rw [← hM16]
  have LM16 : M16.length = M15.length + new.length := by rw [hM16, List.length_append]
  replace A00 : RowA M16 a00 k0.need := by rw [hM16]; exact A00.ext _
  replace A01 : RowA M16 a01 k0.setup := by rw [hM16]; exact A01.ext _
  replace A02 : RowA M16 a02 k0.unit := by rw [hM16]; exact A02.ext _
  replace A03 : RowA M16 a03 k0.hold := by rw [hM16]; exact A03.ext _
  replace X0 : BoxA M16 M0.length [.slice (some ⟨a00, 0, none⟩) k0.need.length 0, .slice (some ⟨a01, 0, none⟩) k0.setup.length 0, .slice (some ⟨a02, 0, none⟩) k0.unit.length 0, .slice (some ⟨a03, 0, none⟩) k0.hold.length 0] := by rw [hM16]; exact X0.ext _
  replace w0 : OwnR M16 (M3.length + iw0) W.need := by rw [hM16]; exact w0.ext _
  replace w1 : OwnR M16 (M3.length + iw1) W.setup := by rw [hM16]; exact w1.ext _
  replace w2 : OwnR M16 (M3.length + iw2) W.unit := by rw [hM16]; exact w2.ext _
  replace w3 : OwnR M16 (M3.length + iw3) W.hold := by rw [hM16]; exact w3.ext _
  replace Vw : BoxA M16 M4.length [.slice (some ⟨M3.length + iw0, 0, none⟩) W.need.length fw0, .slice (some ⟨M3.length + iw1, 0, none⟩) W.setup.length fw1, .slice (some ⟨M3.length + iw2, 0, none⟩) W.unit.length fw2, .slice (some ⟨M3.length + iw3, 0, none⟩) W.hold.length fw3] := by rw [hM16]; exact Vw.ext _
  replace Z0 : BoxA M16 M6.length [.slice (some ⟨M5.length + 3, 0, none⟩) k0.need.length 1, .slice (some ⟨M5.length + 4, 0, none⟩) k0.setup.length 1, .slice (some ⟨M5.length + 5, 0, none⟩) k0.unit.length 1, .slice (some ⟨M5.length + 6, 0, none⟩) k0.hold.length 1] := by rw [hM16]; exact Z0.ext _
  replace Vg : BoxA M16 M8.length [.slice (some ⟨M7.length + ig0, 0, none⟩) W.need.length fg0, .slice (some ⟨M7.length + ig1, 0, none⟩) W.setup.length fg1, .slice (some ⟨M7.length + ig2, 0, none⟩) W.unit.length fg2, .slice (some ⟨M7.length + ig3, 0, none⟩) W.hold.length fg3] := by rw [hM16]; exact Vg.ext _
  replace g0 : OwnR M16 (M7.length + ig0) (imarks (1) W.need.length) := by rw [hM16]; exact g0.ext _
  replace g1 : OwnR M16 (M7.length + ig1) (imarks (1 + W.need.length) W.setup.length) := by rw [hM16]; exact g1.ext _
  replace g2 : OwnR M16 (M7.length + ig2) (imarks (1 + W.need.length + W.setup.length) W.unit.length) := by rw [hM16]; exact g2.ext _
  replace g3 : OwnR M16 (M7.length + ig3) (imarks (1 + W.need.length + W.setup.length + W.unit.length) W.hold.length) := by rw [hM16]; exact g3.ext _
  clear nrn
  clear hg
  try simp (config := {implicitDefEqProofs := false, maxDischargeDepth := 20}) (disch := first | omega | (simp only [lenE]; done) | (simp only [lenE]; omega) | rfl | (simp only [lenE, markR_len]; done) | (simp only [lenE, markR_len]; omega)) only [runE, mapE, listE, initT_5, initT_6, initT_7, initT_8, resV, oneV, binA, unA, reduceCtorEq, Nat.reduceEqDiff, Nat.reduceAdd, Nat.reduceLT, Nat.reduceLeDiff, Nat.reduceMul, Nat.reduceSub, ↓reduceIte, decide_true, decide_false, Bool.true_eq_false, Bool.false_eq_true, Bool.not_true, Bool.not_false, if_true, if_false, and_true, true_and, memE, celE, w64, Nat.zero_add, Nat.add_zero, Nat.mul_one, putL, and_self, ldn, ext_2_0, ext_2_1, ext_4_0, ext_4_1, ext_4_2, ext_4_3, beq_self_eq_true, bne_self_eq_false, List.append_nil, hq0, X0.ld4, Vw.ld4, Z0.ld4, Vg.ld4]
  refine callH_rc (toCase_rc _ _ k0 (CaseA.rows A00 A01 A02 A03) hs0) ?_
  rintro r new ⟨rfl, c0, c1, c2, rfl, kc0, kc1, kc2⟩
  obtain ⟨M17, hM17⟩ : ∃ M', M' = M16 ++ [c0, c1, c2, rowB k0.need, rowB k0.setup, rowB k0.unit, rowB k0.hold] := ⟨_, rfl⟩
  rw [← hM17]
  have LM17 : M17.length = M16.length + 7 := by rw [hM17, List.length_append]; rfl
  replace A00 : RowA M17 a00 k0.need := by rw [hM17]; exact A00.ext _
  replace A01 : RowA M17 a01 k0.setup := by rw [hM17]; exact A01.ext _
  replace A02 : RowA M17 a02 k0.unit := by rw [hM17]; exact A02.ext _
  replace A03 : RowA M17 a03 k0.hold := by rw [hM17]; exact A03.ext _
  replace X0 : BoxA M17 M0.length [.slice (some ⟨a00, 0, none⟩) k0.need.length 0, .slice (some ⟨a01, 0, none⟩) k0.setup.length 0, .slice (some ⟨a02, 0, none⟩) k0.unit.length 0, .slice (some ⟨a03, 0, none⟩) k0.hold.length 0] := by rw [hM17]; exact X0.ext _
  replace w0 : OwnR M17 (M3.length + iw0) W.need := by rw [hM17]; exact w0.ext _
  replace w1 : OwnR M17 (M3.length + iw1) W.setup := by rw [hM17]; exact w1.ext _
  replace w2 : OwnR M17 (M3.length + iw2) W.unit := by rw [hM17]; exact w2.ext _
  replace w3 : OwnR M17 (M3.length + iw3) W.hold := by rw [hM17]; exact w3.ext _
  replace Vw : BoxA M17 M4.length [.slice (some ⟨M3.length + iw0, 0, none⟩) W.need.length fw0, .slice (some ⟨M3.length + iw1, 0, none⟩) W.setup.length fw1, .slice (some ⟨M3.length + iw2, 0, none⟩) W.unit.length fw2, .slice (some ⟨M3.length + iw3, 0, none⟩) W.hold.length fw3] := by rw [hM17]; exact Vw.ext _
  replace Z0 : BoxA M17 M6.length [.slice (some ⟨M5.length + 3, 0, none⟩) k0.need.length 1, .slice (some ⟨M5.length + 4, 0, none⟩) k0.setup.length 1, .slice (some ⟨M5.length + 5, 0, none⟩) k0.unit.length 1, .slice (some ⟨M5.length + 6, 0, none⟩) k0.hold.length 1] := by rw [hM17]; exact Z0.ext _
  replace Vg : BoxA M17 M8.length [.slice (some ⟨M7.length + ig0, 0, none⟩) W.need.length fg0, .slice (some ⟨M7.length + ig1, 0, none⟩) W.setup.length fg1, .slice (some ⟨M7.length + ig2, 0, none⟩) W.unit.length fg2, .slice (some ⟨M7.length + ig3, 0, none⟩) W.hold.length fg3] := by rw [hM17]; exact Vg.ext _
  replace g0 : OwnR M17 (M7.length + ig0) (imarks (1) W.need.length) := by rw [hM17]; exact g0.ext _
  replace g1 : OwnR M17 (M7.length + ig1) (imarks (1 + W.need.length) W.setup.length) := by rw [hM17]; exact g1.ext _
  replace g2 : OwnR M17 (M7.length + ig2) (imarks (1 + W.need.length + W.setup.length) W.unit.length) := by rw [hM17]; exact g2.ext _
  replace g3 : OwnR M17 (M7.length + ig3) (imarks (1 + W.need.length + W.setup.length + W.unit.length) W.hold.length) := by rw [hM17]; exact g3.ext _
  have U00 : OwnR M17 (M16.length + 3) k0.need := by rw [hM17]; exact OwnR.new (i := 3) (by rfl) rfl
  have U01 : OwnR M17 (M16.length + 4) k0.setup := by rw [hM17]; exact OwnR.new (i := 4) (by rfl) rfl
  have U02 : OwnR M17 (M16.length + 5) k0.unit := by rw [hM17]; exact OwnR.new (i := 5) (by rfl) rfl
  have U03 : OwnR M17 (M16.length + 6) k0.hold := by rw [hM17]; exact OwnR.new (i := 6) (by rfl) rfl
  clear kc0 kc1 kc2
  try simp (config := {implicitDefEqProofs := false, maxDischargeDepth := 20}) (disch := first | omega | (simp only [lenE]; done) | (simp only [lenE]; omega) | rfl | (simp only [lenE, markR_len]; done) | (simp only [lenE, markR_len]; omega)) only [runE, mapE, listE, initT_5, initT_6, initT_7, initT_8, resV, oneV, binA, unA, reduceCtorEq, Nat.reduceEqDiff, Nat.reduceAdd, Nat.reduceLT, Nat.reduceLeDiff, Nat.reduceMul, Nat.reduceSub, ↓reduceIte, decide_true, decide_false, Bool.true_eq_false, Bool.false_eq_true, Bool.not_true, Bool.not_false, if_true, if_false, and_true, true_and, memE, celE, w64, Nat.zero_add, Nat.add_zero, Nat.mul_one, putL, and_self, ldn, ext_2_0, ext_2_1, ext_4_0, ext_4_1, ext_4_2, ext_4_3, beq_self_eq_true, bne_self_eq_false, X0.ld4, Vw.ld4, Z0.ld4, Vg.ld4]
  refine callH_rc (IMP _ _ (CaseA.rows (U00.row (by omega)) (U01.row (by omega)) (U02.row (by omega)) (U03.row (by omega)))) ?_
  rintro r new ⟨nrn, hsh, ⟨-, ih0, ih1, ih2, ih3, fh0, fh1, fh2, fh3, rfl, y0, y1, y2, y3, dh1, dh2, dh3⟩ | ⟨hno, -, -⟩⟩
  rotate_left
  · cases hno
  obtain ⟨M18, hM18⟩ : ∃ M', M' = M17 ++ new := ⟨_, rfl⟩
  rw [← hM18]
  have LM18 : M18.length = M17.length + new.length := by rw [hM18, List.length_append]
  replace A00 : RowA M18 a00 k0.need := by rw [hM18]; exact A00.ext _
  replace A01 : RowA M18 a01 k0.setup := by rw [hM18]; exact A01.ext _
  replace A02 : RowA M18 a02 k0.unit := by rw [hM18]; exact A02.ext _
  replace A03 : RowA M18 a03 k0.hold := by rw [hM18]; exact A03.ext _
  replace X0 : BoxA M18 M0.length [.slice (some ⟨a00, 0, none⟩) k0.need.length 0, .slice (some ⟨a01, 0, none⟩) k0.setup.length 0, .slice (some ⟨a02, 0, none⟩) k0.unit.length 0, .slice (some ⟨a03, 0, none⟩) k0.hold.length 0] := by rw [hM18]; exact X0.ext _
  replace w0 : OwnR M18 (M3.length + iw0) W.need := by rw [hM18]; exact w0.ext _
  replace w1 : OwnR M18 (M3.length + iw1) W.setup := by rw [hM18]; exact w1.ext _
  replace w2 : OwnR M18 (M3.length + iw2) W.unit := by rw [hM18]; exact w2.ext _
  replace w3 : OwnR M18 (M3.length + iw3) W.hold := by rw [hM18]; exact w3.ext _
  replace Vw : BoxA M18 M4.length [.slice (some ⟨M3.length + iw0, 0, none⟩) W.need.length fw0, .slice (some ⟨M3.length + iw1, 0, none⟩) W.setup.length fw1, .slice (some ⟨M3.length + iw2, 0, none⟩) W.unit.length fw2, .slice (some ⟨M3.length + iw3, 0, none⟩) W.hold.length fw3] := by rw [hM18]; exact Vw.ext _
  replace Z0 : BoxA M18 M6.length [.slice (some ⟨M5.length + 3, 0, none⟩) k0.need.length 1, .slice (some ⟨M5.length + 4, 0, none⟩) k0.setup.length 1, .slice (some ⟨M5.length + 5, 0, none⟩) k0.unit.length 1, .slice (some ⟨M5.length + 6, 0, none⟩) k0.hold.length 1] := by rw [hM18]; exact Z0.ext _
  replace Vg : BoxA M18 M8.length [.slice (some ⟨M7.length + ig0, 0, none⟩) W.need.length fg0, .slice (some ⟨M7.length + ig1, 0, none⟩) W.setup.length fg1, .slice (some ⟨M7.length + ig2, 0, none⟩) W.unit.length fg2, .slice (some ⟨M7.length + ig3, 0, none⟩) W.hold.length fg3] := by rw [hM18]; exact Vg.ext _
  replace g0 : OwnR M18 (M7.length + ig0) (imarks (1) W.need.length) := by rw [hM18]; exact g0.ext _
  replace g1 : OwnR M18 (M7.length + ig1) (imarks (1 + W.need.length) W.setup.length) := by rw [hM18]; exact g1.ext _
  replace g2 : OwnR M18 (M7.length + ig2) (imarks (1 + W.need.length + W.setup.length) W.unit.length) := by rw [hM18]; exact g2.ext _
  replace g3 : OwnR M18 (M7.length + ig3) (imarks (1 + W.need.length + W.setup.length + W.unit.length) W.hold.length) := by rw [hM18]; exact g3.ext _
  replace U00 : OwnR M18 (M16.length + 3) k0.need := by rw [hM18]; exact U00.ext _
  replace U01 : OwnR M18 (M16.length + 4) k0.setup := by rw [hM18]; exact U01.ext _
  replace U02 : OwnR M18 (M16.length + 5) k0.unit := by rw [hM18]; exact U02.ext _
  replace U03 : OwnR M18 (M16.length + 6) k0.hold := by rw [hM18]; exact U03.ext _
  have h0 : OwnR M18 (M17.length + ih0) W.need := by rw [hM18]; exact OwnR.new y0 rfl
  have h1 : OwnR M18 (M17.length + ih1) W.setup := by rw [hM18]; exact OwnR.new y1 rfl
  have h2 : OwnR M18 (M17.length + ih2) W.unit := by rw [hM18]; exact OwnR.new y2 rfl
  have h3 : OwnR M18 (M17.length + ih3) W.hold := by rw [hM18]; exact OwnR.new y3 rfl
  clear nrn y0 y1 y2 y3
  have lth := h3.lt
  simp (config := {implicitDefEqProofs := false, maxDischargeDepth := 20}) (disch := first | omega | (simp only [lenE]; done) | (simp only [lenE]; omega) | rfl | (simp only [lenE, markR_len]; done) | (simp only [lenE, markR_len]; omega)) only [runE, mapE, listE, initT_5, initT_6, initT_7, initT_8, resV, oneV, binA, unA, reduceCtorEq, Nat.reduceEqDiff, Nat.reduceAdd, Nat.reduceLT, Nat.reduceLeDiff, Nat.reduceMul, Nat.reduceSub, ↓reduceIte, decide_true, decide_false, Bool.true_eq_false, Bool.false_eq_true, Bool.not_true, Bool.not_false, if_true, if_false, and_true, true_and, memE, celE, w64, Nat.zero_add, Nat.add_zero, Nat.mul_one, putL, and_self, ext_2_0, ext_2_1, ext_4_0, ext_4_1, ext_4_2, ext_4_3, beq_self_eq_true, bne_self_eq_false]
  obtain ⟨M19, hM19⟩ : ∃ M', M' = M18 ++ [⟨.own, 28, [.slice (some ⟨M17.length + ih0, 0, none⟩) W.need.length fh0, .slice (some ⟨M17.length + ih1, 0, none⟩) W.setup.length fh1, .slice (some ⟨M17.length + ih2, 0, none⟩) W.unit.length fh2, .slice (some ⟨M17.length + ih3, 0, none⟩) W.hold.length fh3]⟩] := ⟨_, rfl⟩
  rw [← hM19]
  have LM19 : M19.length = M18.length + 1 := by rw [hM19, List.length_append]; rfl
  replace A00 : RowA M19 a00 k0.need := by rw [hM19]; exact A00.ext _
  replace A01 : RowA M19 a01 k0.setup := by rw [hM19]; exact A01.ext _
  replace A02 : RowA M19 a02 k0.unit := by rw [hM19]; exact A02.ext _
  replace A03 : RowA M19 a03 k0.hold := by rw [hM19]; exact A03.ext _
  replace X0 : BoxA M19 M0.length [.slice (some ⟨a00, 0, none⟩) k0.need.length 0, .slice (some ⟨a01, 0, none⟩) k0.setup.length 0, .slice (some ⟨a02, 0, none⟩) k0.unit.length 0, .slice (some ⟨a03, 0, none⟩) k0.hold.length 0] := by rw [hM19]; exact X0.ext _
  replace w0 : OwnR M19 (M3.length + iw0) W.need := by rw [hM19]; exact w0.ext _
  replace w1 : OwnR M19 (M3.length + iw1) W.setup := by rw [hM19]; exact w1.ext _
  replace w2 : OwnR M19 (M3.length + iw2) W.unit := by rw [hM19]; exact w2.ext _
  replace w3 : OwnR M19 (M3.length + iw3) W.hold := by rw [hM19]; exact w3.ext _
  replace Vw : BoxA M19 M4.length [.slice (some ⟨M3.length + iw0, 0, none⟩) W.need.length fw0, .slice (some ⟨M3.length + iw1, 0, none⟩) W.setup.length fw1, .slice (some ⟨M3.length + iw2, 0, none⟩) W.unit.length fw2, .slice (some ⟨M3.length + iw3, 0, none⟩) W.hold.length fw3] := by rw [hM19]; exact Vw.ext _
  replace Z0 : BoxA M19 M6.length [.slice (some ⟨M5.length + 3, 0, none⟩) k0.need.length 1, .slice (some ⟨M5.length + 4, 0, none⟩) k0.setup.length 1, .slice (some ⟨M5.length + 5, 0, none⟩) k0.unit.length 1, .slice (some ⟨M5.length + 6, 0, none⟩) k0.hold.length 1] := by rw [hM19]; exact Z0.ext _
  replace Vg : BoxA M19 M8.length [.slice (some ⟨M7.length + ig0, 0, none⟩) W.need.length fg0, .slice (some ⟨M7.length + ig1, 0, none⟩) W.setup.length fg1, .slice (some ⟨M7.length + ig2, 0, none⟩) W.unit.length fg2, .slice (some ⟨M7.length + ig3, 0, none⟩) W.hold.length fg3] := by rw [hM19]; exact Vg.ext _
  replace g0 : OwnR M19 (M7.length + ig0) (imarks (1) W.need.length) := by rw [hM19]; exact g0.ext _
  replace g1 : OwnR M19 (M7.length + ig1) (imarks (1 + W.need.length) W.setup.length) := by rw [hM19]; exact g1.ext _
  replace g2 : OwnR M19 (M7.length + ig2) (imarks (1 + W.need.length + W.setup.length) W.unit.length) := by rw [hM19]; exact g2.ext _
  replace g3 : OwnR M19 (M7.length + ig3) (imarks (1 + W.need.length + W.setup.length + W.unit.length) W.hold.length) := by rw [hM19]; exact g3.ext _
  replace U00 : OwnR M19 (M16.length + 3) k0.need := by rw [hM19]; exact U00.ext _
  replace U01 : OwnR M19 (M16.length + 4) k0.setup := by rw [hM19]; exact U01.ext _
  replace U02 : OwnR M19 (M16.length + 5) k0.unit := by rw [hM19]; exact U02.ext _
  replace U03 : OwnR M19 (M16.length + 6) k0.hold := by rw [hM19]; exact U03.ext _
  replace h0 : OwnR M19 (M17.length + ih0) W.need := by rw [hM19]; exact h0.ext _
  replace h1 : OwnR M19 (M17.length + ih1) W.setup := by rw [hM19]; exact h1.ext _
  replace h2 : OwnR M19 (M17.length + ih2) W.unit := by rw [hM19]; exact h2.ext _
  replace h3 : OwnR M19 (M17.length + ih3) W.hold := by rw [hM19]; exact h3.ext _
  have Vh : BoxA M19 M18.length [.slice (some ⟨M17.length + ih0, 0, none⟩) W.need.length fh0, .slice (some ⟨M17.length + ih1, 0, none⟩) W.setup.length fh1, .slice (some ⟨M17.length + ih2, 0, none⟩) W.unit.length fh2, .slice (some ⟨M17.length + ih3, 0, none⟩) W.hold.length fh3] := by rw [hM19]; exact BoxA.here _ _ _ rfl
  try simp (config := {implicitDefEqProofs := false, maxDischargeDepth := 20}) (disch := first | omega | (simp only [lenE]; done) | (simp only [lenE]; omega) | rfl | (simp only [lenE, markR_len]; done) | (simp only [lenE, markR_len]; omega)) only [runE, mapE, listE, initT_5, initT_6, initT_7, initT_8, resV, oneV, binA, unA, reduceCtorEq, Nat.reduceEqDiff, Nat.reduceAdd, Nat.reduceLT, Nat.reduceLeDiff, Nat.reduceMul, Nat.reduceSub, ↓reduceIte, decide_true, decide_false, Bool.true_eq_false, Bool.false_eq_true, Bool.not_true, Bool.not_false, if_true, if_false, and_true, true_and, memE, celE, w64, Nat.zero_add, Nat.add_zero, Nat.mul_one, putL, and_self, ldn, ext_2_0, ext_2_1, ext_4_0, ext_4_1, ext_4_2, ext_4_3, beq_self_eq_true, bne_self_eq_false, X0.ld4, Vw.ld4, Z0.ld4, Vg.ld4, Vh.ld4]
  clear U00
  clear U01
  clear U02
  clear U03
  try simp (config := {implicitDefEqProofs := false, maxDischargeDepth := 20}) (disch := first | omega | (simp only [lenE]; done) | (simp only [lenE]; omega) | rfl | (simp only [lenE, markR_len]; done) | (simp only [lenE, markR_len]; omega)) only [runE, mapE, listE, initT_5, initT_6, initT_7, initT_8, resV, oneV, binA, unA, reduceCtorEq, Nat.reduceEqDiff, Nat.reduceAdd, Nat.reduceLT, Nat.reduceLeDiff, Nat.reduceMul, Nat.reduceSub, ↓reduceIte, decide_true, decide_false, Bool.true_eq_false, Bool.false_eq_true, Bool.not_true, Bool.not_false, if_true, if_false, and_true, true_and, memE, celE, w64, Nat.zero_add, Nat.add_zero, Nat.mul_one, putL, and_self, ldn, ext_2_0, ext_2_1, ext_4_0, ext_4_1, ext_4_2, ext_4_3, beq_self_eq_true, bne_self_eq_false, X0.ld4, Vw.ld4, Z0.ld4, Vg.ld4, Vh.ld4]
  try simp (config := {implicitDefEqProofs := false, maxDischargeDepth := 20}) (disch := first | omega | (simp only [lenE]; done) | (simp only [lenE]; omega) | rfl | (simp only [lenE, markR_len]; done) | (simp only [lenE, markR_len]; omega)) only [runE, mapE, listE, initT_5, initT_6, initT_7, initT_8, resV, oneV, binA, unA, reduceCtorEq, Nat.reduceEqDiff, Nat.reduceAdd, Nat.reduceLT, Nat.reduceLeDiff, Nat.reduceMul, Nat.reduceSub, ↓reduceIte, decide_true, decide_false, Bool.true_eq_false, Bool.false_eq_true, Bool.not_true, Bool.not_false, if_true, if_false, and_true, true_and, memE, celE, w64, Nat.zero_add, Nat.add_zero, Nat.mul_one, putL, and_self, ldn, ext_2_0, ext_2_1, ext_4_0, ext_4_1, ext_4_2, ext_4_3, beq_self_eq_true, bne_self_eq_false, X0.ld4, Vw.ld4, Z0.ld4, Vg.ld4, Vh.ld4]
  refine callH_rc (eqCase_rc _ _ _ W (CaseA.rows (h0.row (by omega)) (h1.row (by omega)) (h2.row (by omega)) (h3.row (by omega))) (CaseA.rows (w0.row (by omega)) (w1.row (by omega)) (w2.row (by omega)) (w3.row (by omega)))) ?_
  rintro r new ⟨rfl, nrn⟩
  obtain ⟨M20, hM20⟩ : ∃ M', M' = M19 ++ new := ⟨_, rfl⟩
  rw [← hM20]
  have LM20 : M20.length = M19.length + new.length := by rw [hM20, List.length_append]
  replace A00 : RowA M20 a00 k0.need := by rw [hM20]; exact A00.ext _
  replace A01 : RowA M20 a01 k0.setup := by rw [hM20]; exact A01.ext _
  replace A02 : RowA M20 a02 k0.unit := by rw [hM20]; exact A02.ext _
  replace A03 : RowA M20 a03 k0.hold := by rw [hM20]; exact A03.ext _
  replace X0 : BoxA M20 M0.length [.slice (some ⟨a00, 0, none⟩) k0.need.length 0, .slice (some ⟨a01, 0, none⟩) k0.setup.length 0, .slice (some ⟨a02, 0, none⟩) k0.unit.length 0, .slice (some ⟨a03, 0, none⟩) k0.hold.length 0] := by rw [hM20]; exact X0.ext _
  replace w0 : OwnR M20 (M3.length + iw0) W.need := by rw [hM20]; exact w0.ext _
  replace w1 : OwnR M20 (M3.length + iw1) W.setup := by rw [hM20]; exact w1.ext _
  replace w2 : OwnR M20 (M3.length + iw2) W.unit := by rw [hM20]; exact w2.ext _
  replace w3 : OwnR M20 (M3.length + iw3) W.hold := by rw [hM20]; exact w3.ext _
  replace Vw : BoxA M20 M4.length [.slice (some ⟨M3.length + iw0, 0, none⟩) W.need.length fw0, .slice (some ⟨M3.length + iw1, 0, none⟩) W.setup.length fw1, .slice (some ⟨M3.length + iw2, 0, none⟩) W.unit.length fw2, .slice (some ⟨M3.length + iw3, 0, none⟩) W.hold.length fw3] := by rw [hM20]; exact Vw.ext _
  replace Z0 : BoxA M20 M6.length [.slice (some ⟨M5.length + 3, 0, none⟩) k0.need.length 1, .slice (some ⟨M5.length + 4, 0, none⟩) k0.setup.length 1, .slice (some ⟨M5.length + 5, 0, none⟩) k0.unit.length 1, .slice (some ⟨M5.length + 6, 0, none⟩) k0.hold.length 1] := by rw [hM20]; exact Z0.ext _
  replace Vg : BoxA M20 M8.length [.slice (some ⟨M7.length + ig0, 0, none⟩) W.need.length fg0, .slice (some ⟨M7.length + ig1, 0, none⟩) W.setup.length fg1, .slice (some ⟨M7.length + ig2, 0, none⟩) W.unit.length fg2, .slice (some ⟨M7.length + ig3, 0, none⟩) W.hold.length fg3] := by rw [hM20]; exact Vg.ext _
  replace g0 : OwnR M20 (M7.length + ig0) (imarks (1) W.need.length) := by rw [hM20]; exact g0.ext _
  replace g1 : OwnR M20 (M7.length + ig1) (imarks (1 + W.need.length) W.setup.length) := by rw [hM20]; exact g1.ext _
  replace g2 : OwnR M20 (M7.length + ig2) (imarks (1 + W.need.length + W.setup.length) W.unit.length) := by rw [hM20]; exact g2.ext _
  replace g3 : OwnR M20 (M7.length + ig3) (imarks (1 + W.need.length + W.setup.length + W.unit.length) W.hold.length) := by rw [hM20]; exact g3.ext _
  replace h0 : OwnR M20 (M17.length + ih0) W.need := by rw [hM20]; exact h0.ext _
  replace h1 : OwnR M20 (M17.length + ih1) W.setup := by rw [hM20]; exact h1.ext _
  replace h2 : OwnR M20 (M17.length + ih2) W.unit := by rw [hM20]; exact h2.ext _
  replace h3 : OwnR M20 (M17.length + ih3) W.hold := by rw [hM20]; exact h3.ext _
  replace Vh : BoxA M20 M18.length [.slice (some ⟨M17.length + ih0, 0, none⟩) W.need.length fh0, .slice (some ⟨M17.length + ih1, 0, none⟩) W.setup.length fh1, .slice (some ⟨M17.length + ih2, 0, none⟩) W.unit.length fh2, .slice (some ⟨M17.length + ih3, 0, none⟩) W.hold.length fh3] := by rw [hM20]; exact Vh.ext _
  clear nrn
  try simp (config := {implicitDefEqProofs := false, maxDischargeDepth := 20}) (disch := first | omega | (simp only [lenE]; done) | (simp only [lenE]; omega) | rfl | (simp only [lenE, markR_len]; done) | (simp only [lenE, markR_len]; omega)) only [runE, mapE, listE, initT_5, initT_6, initT_7, initT_8, resV, oneV, binA, unA, reduceCtorEq, Nat.reduceEqDiff, Nat.reduceAdd, Nat.reduceLT, Nat.reduceLeDiff, Nat.reduceMul, Nat.reduceSub, ↓reduceIte, decide_true, decide_false, Bool.true_eq_false, Bool.false_eq_true, Bool.not_true, Bool.not_false, if_true, if_false, and_true, true_and, memE, celE, w64, Nat.zero_add, Nat.add_zero, Nat.mul_one, putL, and_self, ldn, ext_2_0, ext_2_1, ext_4_0, ext_4_1, ext_4_2, ext_4_3, beq_self_eq_true, bne_self_eq_false, List.append_nil, X0.ld4, Vw.ld4, Z0.ld4, Vg.ld4, Vh.ld4]
  try simp (config := {implicitDefEqProofs := false, maxDischargeDepth := 20}) (disch := first | omega | (simp only [lenE]; done) | (simp only [lenE]; omega) | rfl | (simp only [lenE, markR_len]; done) | (simp only [lenE, markR_len]; omega)) only [runE, mapE, listE, initT_5, initT_6, initT_7, initT_8, resV, oneV, binA, unA, reduceCtorEq, Nat.reduceEqDiff, Nat.reduceAdd, Nat.reduceLT, Nat.reduceLeDiff, Nat.reduceMul, Nat.reduceSub, ↓reduceIte, decide_true, decide_false, Bool.true_eq_false, Bool.false_eq_true, Bool.not_true, Bool.not_false, if_true, if_false, and_true, true_and, memE, celE, w64, Nat.zero_add, Nat.add_zero, Nat.mul_one, putL, and_self, ldn, ext_2_0, ext_2_1, ext_4_0, ext_4_1, ext_4_2, ext_4_3, beq_self_eq_true, bne_self_eq_false, List.append_nil, hqe, X0.ld4, Vw.ld4, Z0.ld4, Vg.ld4, Vh.ld4]
  have hg : CaseA M20 (.agg #[.slice (some ⟨(M7.length + ig0), 0, none⟩) (imarks (1) W.need.length).length fg0, .slice (some ⟨(M7.length + ig1), 0, none⟩) (imarks (1 + W.need.length) W.setup.length).length fg1, .slice (some ⟨(M7.length + ig2), 0, none⟩) (imarks (1 + W.need.length + W.setup.length) W.unit.length).length fg2, .slice (some ⟨(M7.length + ig3), 0, none⟩) (imarks (1 + W.need.length + W.setup.length + W.unit.length) W.hold.length).length fg3]) ⟨imarks (1) W.need.length, imarks (1 + W.need.length) W.setup.length, imarks (1 + W.need.length + W.setup.length) W.unit.length, imarks (1 + W.need.length + W.setup.length + W.unit.length) W.hold.length⟩ := CaseA.rows (k := ⟨imarks (1) W.need.length, imarks (1 + W.need.length) W.setup.length, imarks (1 + W.need.length + W.setup.length) W.unit.length, imarks (1 + W.need.length + W.setup.length + W.unit.length) W.hold.length⟩) (g0.row (by rw [imarks_len]; omega)) (g1.row (by rw [imarks_len]; omega)) (g2.row (by rw [imarks_len]; omega)) (g3.row (by rw [imarks_len]; omega))
  simp only [imarks_len] at hg
  refine callH_rc (heldCase_rc _ _ W.need.length W.setup.length W.unit.length W.hold.length 1 hg (by omega) (by omega) (by omega) (by omega) (by omega) (by omega)) ?_
  rintro r new ⟨rfl, nrn⟩
  obtain ⟨M21, hM21⟩ : ∃ M', M' = M20 ++ new := ⟨_, rfl⟩
  rw [← hM21]
  have LM21 : M21.length = M20.length + new.length := by rw [hM21, List.length_append]
  replace A00 : RowA M21 a00 k0.need := by rw [hM21]; exact A00.ext _
  replace A01 : RowA M21 a01 k0.setup := by rw [hM21]; exact A01.ext _
  replace A02 : RowA M21 a02 k0.unit := by rw [hM21]; exact A02.ext _
  replace A03 : RowA M21 a03 k0.hold := by rw [hM21]; exact A03.ext _
  replace X0 : BoxA M21 M0.length [.slice (some ⟨a00, 0, none⟩) k0.need.length 0, .slice (some ⟨a01, 0, none⟩) k0.setup.length 0, .slice (some ⟨a02, 0, none⟩) k0.unit.length 0, .slice (some ⟨a03, 0, none⟩) k0.hold.length 0] := by rw [hM21]; exact X0.ext _
  replace w0 : OwnR M21 (M3.length + iw0) W.need := by rw [hM21]; exact w0.ext _
  replace w1 : OwnR M21 (M3.length + iw1) W.setup := by rw [hM21]; exact w1.ext _
  replace w2 : OwnR M21 (M3.length + iw2) W.unit := by rw [hM21]; exact w2.ext _
  replace w3 : OwnR M21 (M3.length + iw3) W.hold := by rw [hM21]; exact w3.ext _
  replace Vw : BoxA M21 M4.length [.slice (some ⟨M3.length + iw0, 0, none⟩) W.need.length fw0, .slice (some ⟨M3.length + iw1, 0, none⟩) W.setup.length fw1, .slice (some ⟨M3.length + iw2, 0, none⟩) W.unit.length fw2, .slice (some ⟨M3.length + iw3, 0, none⟩) W.hold.length fw3] := by rw [hM21]; exact Vw.ext _
  replace Z0 : BoxA M21 M6.length [.slice (some ⟨M5.length + 3, 0, none⟩) k0.need.length 1, .slice (some ⟨M5.length + 4, 0, none⟩) k0.setup.length 1, .slice (some ⟨M5.length + 5, 0, none⟩) k0.unit.length 1, .slice (some ⟨M5.length + 6, 0, none⟩) k0.hold.length 1] := by rw [hM21]; exact Z0.ext _
  replace Vg : BoxA M21 M8.length [.slice (some ⟨M7.length + ig0, 0, none⟩) W.need.length fg0, .slice (some ⟨M7.length + ig1, 0, none⟩) W.setup.length fg1, .slice (some ⟨M7.length + ig2, 0, none⟩) W.unit.length fg2, .slice (some ⟨M7.length + ig3, 0, none⟩) W.hold.length fg3] := by rw [hM21]; exact Vg.ext _
  replace g0 : OwnR M21 (M7.length + ig0) (imarks (1) W.need.length) := by rw [hM21]; exact g0.ext _
  replace g1 : OwnR M21 (M7.length + ig1) (imarks (1 + W.need.length) W.setup.length) := by rw [hM21]; exact g1.ext _
  replace g2 : OwnR M21 (M7.length + ig2) (imarks (1 + W.need.length + W.setup.length) W.unit.length) := by rw [hM21]; exact g2.ext _
  replace g3 : OwnR M21 (M7.length + ig3) (imarks (1 + W.need.length + W.setup.length + W.unit.length) W.hold.length) := by rw [hM21]; exact g3.ext _
  replace h0 : OwnR M21 (M17.length + ih0) W.need := by rw [hM21]; exact h0.ext _
  replace h1 : OwnR M21 (M17.length + ih1) W.setup := by rw [hM21]; exact h1.ext _
  replace h2 : OwnR M21 (M17.length + ih2) W.unit := by rw [hM21]; exact h2.ext _
  replace h3 : OwnR M21 (M17.length + ih3) W.hold := by rw [hM21]; exact h3.ext _
  replace Vh : BoxA M21 M18.length [.slice (some ⟨M17.length + ih0, 0, none⟩) W.need.length fh0, .slice (some ⟨M17.length + ih1, 0, none⟩) W.setup.length fh1, .slice (some ⟨M17.length + ih2, 0, none⟩) W.unit.length fh2, .slice (some ⟨M17.length + ih3, 0, none⟩) W.hold.length fh3] := by rw [hM21]; exact Vh.ext _
  clear nrn
  clear hg
  try simp (config := {implicitDefEqProofs := false, maxDischargeDepth := 20}) (disch := first | omega | (simp only [lenE]; done) | (simp only [lenE]; omega) | rfl | (simp only [lenE, markR_len]; done) | (simp only [lenE, markR_len]; omega)) only [runE, mapE, listE, initT_5, initT_6, initT_7, initT_8, resV, oneV, binA, unA, reduceCtorEq, Nat.reduceEqDiff, Nat.reduceAdd, Nat.reduceLT, Nat.reduceLeDiff, Nat.reduceMul, Nat.reduceSub, ↓reduceIte, decide_true, decide_false, Bool.true_eq_false, Bool.false_eq_true, Bool.not_true, Bool.not_false, if_true, if_false, and_true, true_and, memE, celE, w64, Nat.zero_add, Nat.add_zero, Nat.mul_one, putL, and_self, ldn, ext_2_0, ext_2_1, ext_4_0, ext_4_1, ext_4_2, ext_4_3, beq_self_eq_true, bne_self_eq_false, List.append_nil, hq0, X0.ld4, Vw.ld4, Z0.ld4, Vg.ld4, Vh.ld4]

set_option maxHeartbeats 4000000 in
theorem law_FnExactCutCase_no (M0 : Mem) (k0 : Cs) (a00 a01 a02 a03 : Nat) (x1 : Int) (x2 : Int) (A00 : RowA M0 a00 k0.need) (A01 : RowA M0 a01 k0.setup) (A02 : RowA M0 a02 k0.unit) (A03 : RowA M0 a03 k0.hold) (hok : cutOk k0 x1 x2 = false) :
    AC Try.prog 4 [.agg #[.slice (some ⟨a00, 0, none⟩) k0.need.length 0, .slice (some ⟨a01, 0, none⟩) k0.setup.length 0, .slice (some ⟨a02, 0, none⟩) k0.unit.length 0, .slice (some ⟨a03, 0, none⟩) k0.hold.length 0], .int .i64 x1, .int .i64 x2] M0 fun r _ => r = .bool true := by
  refine ac_of_run mixed ok_laws_FnExactCutCase (by simp) (go_start _ _ _ ?_)
  have B00 := A00.lt
  have B01 := A01.lt
  have B02 := A02.lt
  have B03 := A03.lt
  try simp (config := {implicitDefEqProofs := false, maxDischargeDepth := 20}) (disch := first | omega | (simp only [lenE]; done) | (simp only [lenE]; omega) | rfl | (simp only [lenE, markR_len]; done) | (simp only [lenE, markR_len]; omega)) only [runE, mapE, listE, initT_5, initT_6, initT_7, initT_8, resV, oneV, binA, unA, reduceCtorEq, Nat.reduceEqDiff, Nat.reduceAdd, Nat.reduceLT, Nat.reduceLeDiff, Nat.reduceMul, Nat.reduceSub, ↓reduceIte, decide_true, decide_false, Bool.true_eq_false, Bool.false_eq_true, Bool.not_true, Bool.not_false, if_true, if_false, and_true, true_and, memE, celE, w64, Nat.zero_add, Nat.add_zero, Nat.mul_one, putL, and_self, ldn, c_laws_FnExactCutCase, r_laws_FnExactCutCase, ext_2_0, ext_2_1, ext_4_0, ext_4_1, ext_4_2, ext_4_3, gt_iff_lt, beq_self_eq_true, bne_self_eq_false]
  obtain ⟨M1, hM1⟩ : ∃ M', M' = M0 ++ [⟨.own, 24, [.slice (some ⟨a00, 0, none⟩) k0.need.length 0, .slice (some ⟨a01, 0, none⟩) k0.setup.length 0, .slice (some ⟨a02, 0, none⟩) k0.unit.length 0, .slice (some ⟨a03, 0, none⟩) k0.hold.length 0]⟩] := ⟨_, rfl⟩
  rw [← hM1]
  have LM1 : M1.length = M0.length + 1 := by rw [hM1, List.length_append]; rfl
  replace A00 : RowA M1 a00 k0.need := by rw [hM1]; exact A00.ext _
  replace A01 : RowA M1 a01 k0.setup := by rw [hM1]; exact A01.ext _
  replace A02 : RowA M1 a02 k0.unit := by rw [hM1]; exact A02.ext _
  replace A03 : RowA M1 a03 k0.hold := by rw [hM1]; exact A03.ext _
  have X0 : BoxA M1 M0.length [.slice (some ⟨a00, 0, none⟩) k0.need.length 0, .slice (some ⟨a01, 0, none⟩) k0.setup.length 0, .slice (some ⟨a02, 0, none⟩) k0.unit.length 0, .slice (some ⟨a03, 0, none⟩) k0.hold.length 0] := by rw [hM1]; exact BoxA.here _ _ _ rfl
  refine callH_rc (szCase_rc _ _ k0 (CaseA.rows A00 A01 A02 A03)) ?_
  rintro r new ⟨nrn, rfl | ⟨xz, xz0, xz1, rfl, hs0⟩⟩
  · simp (config := {implicitDefEqProofs := false, maxDischargeDepth := 20}) (disch := first | omega | (simp only [lenE]; done) | (simp only [lenE]; omega) | rfl | (simp only [lenE, markR_len]; done) | (simp only [lenE, markR_len]; omega)) only [runE, mapE, listE, initT_5, initT_6, initT_7, initT_8, resV, oneV, binA, unA, reduceCtorEq, Nat.reduceEqDiff, Nat.reduceAdd, Nat.reduceLT, Nat.reduceLeDiff, Nat.reduceMul, Nat.reduceSub, ↓reduceIte, decide_true, decide_false, Bool.true_eq_false, Bool.false_eq_true, Bool.not_true, Bool.not_false, if_true, if_false, and_true, true_and, memE, celE, w64, Nat.zero_add, Nat.add_zero, Nat.mul_one, putL, and_self, ldn, show ((-1 : Int) < 0) = True by simp]
  have xz' : ¬ (xz < 0) := by omega
  obtain ⟨M2, hM2⟩ : ∃ M', M' = M1 ++ new := ⟨_, rfl⟩
  rw [← hM2]
  have LM2 : M2.length = M1.length + new.length := by rw [hM2, List.length_append]
  replace A00 : RowA M2 a00 k0.need := by rw [hM2]; exact A00.ext _
  replace A01 : RowA M2 a01 k0.setup := by rw [hM2]; exact A01.ext _
  replace A02 : RowA M2 a02 k0.unit := by rw [hM2]; exact A02.ext _
  replace A03 : RowA M2 a03 k0.hold := by rw [hM2]; exact A03.ext _
  replace X0 : BoxA M2 M0.length [.slice (some ⟨a00, 0, none⟩) k0.need.length 0, .slice (some ⟨a01, 0, none⟩) k0.setup.length 0, .slice (some ⟨a02, 0, none⟩) k0.unit.length 0, .slice (some ⟨a03, 0, none⟩) k0.hold.length 0] := by rw [hM2]; exact X0.ext _
  clear nrn
  try simp (config := {implicitDefEqProofs := false, maxDischargeDepth := 20}) (disch := first | omega | (simp only [lenE]; done) | (simp only [lenE]; omega) | rfl | (simp only [lenE, markR_len]; done) | (simp only [lenE, markR_len]; omega)) only [runE, mapE, listE, initT_5, initT_6, initT_7, initT_8, resV, oneV, binA, unA, reduceCtorEq, Nat.reduceEqDiff, Nat.reduceAdd, Nat.reduceLT, Nat.reduceLeDiff, Nat.reduceMul, Nat.reduceSub, ↓reduceIte, decide_true, decide_false, Bool.true_eq_false, Bool.false_eq_true, Bool.not_true, Bool.not_false, if_true, if_false, and_true, true_and, memE, celE, w64, Nat.zero_add, Nat.add_zero, Nat.mul_one, putL, and_self, ldn, xz', X0.ld4]
  have tb0 := Cs.tot_bd hs0
  have sm0 := hs0
  unfold Cs.small at sm0
  obtain ⟨W, hW⟩ : ∃ W, W = cutA k0 x1 x2 := ⟨_, rfl⟩
  obtain ⟨okW, hokW⟩ : ∃ b, b = cutOk k0 x1 x2 := ⟨_, rfl⟩
  have SPC := fun m u0 => specCut_rc m u0 k0 x1 x2
  have IMP := fun m u0 => implCut_rc m u0 k0 x1 x2
  rw [← hW, ← hokW] at SPC IMP
  rw [hok] at hokW
  subst hokW
  refine callH_rc (toCase_rc _ _ k0 (CaseA.rows A00 A01 A02 A03) hs0) ?_
  rintro r new ⟨rfl, c0, c1, c2, rfl, kc0, kc1, kc2⟩
  obtain ⟨M3, hM3⟩ : ∃ M', M' = M2 ++ [c0, c1, c2, rowB k0.need, rowB k0.setup, rowB k0.unit, rowB k0.hold] := ⟨_, rfl⟩
  rw [← hM3]
  have LM3 : M3.length = M2.length + 7 := by rw [hM3, List.length_append]; rfl
  replace A00 : RowA M3 a00 k0.need := by rw [hM3]; exact A00.ext _
  replace A01 : RowA M3 a01 k0.setup := by rw [hM3]; exact A01.ext _
  replace A02 : RowA M3 a02 k0.unit := by rw [hM3]; exact A02.ext _
  replace A03 : RowA M3 a03 k0.hold := by rw [hM3]; exact A03.ext _
  replace X0 : BoxA M3 M0.length [.slice (some ⟨a00, 0, none⟩) k0.need.length 0, .slice (some ⟨a01, 0, none⟩) k0.setup.length 0, .slice (some ⟨a02, 0, none⟩) k0.unit.length 0, .slice (some ⟨a03, 0, none⟩) k0.hold.length 0] := by rw [hM3]; exact X0.ext _
  have S00 : OwnR M3 (M2.length + 3) k0.need := by rw [hM3]; exact OwnR.new (i := 3) (by rfl) rfl
  have S01 : OwnR M3 (M2.length + 4) k0.setup := by rw [hM3]; exact OwnR.new (i := 4) (by rfl) rfl
  have S02 : OwnR M3 (M2.length + 5) k0.unit := by rw [hM3]; exact OwnR.new (i := 5) (by rfl) rfl
  have S03 : OwnR M3 (M2.length + 6) k0.hold := by rw [hM3]; exact OwnR.new (i := 6) (by rfl) rfl
  clear kc0 kc1 kc2
  try simp (config := {implicitDefEqProofs := false, maxDischargeDepth := 20}) (disch := first | omega | (simp only [lenE]; done) | (simp only [lenE]; omega) | rfl | (simp only [lenE, markR_len]; done) | (simp only [lenE, markR_len]; omega)) only [runE, mapE, listE, initT_5, initT_6, initT_7, initT_8, resV, oneV, binA, unA, reduceCtorEq, Nat.reduceEqDiff, Nat.reduceAdd, Nat.reduceLT, Nat.reduceLeDiff, Nat.reduceMul, Nat.reduceSub, ↓reduceIte, decide_true, decide_false, Bool.true_eq_false, Bool.false_eq_true, Bool.not_true, Bool.not_false, if_true, if_false, and_true, true_and, memE, celE, w64, Nat.zero_add, Nat.add_zero, Nat.mul_one, putL, and_self, ldn, X0.ld4]
  refine callH_rc (SPC _ _ (CaseA.rows (S00.row (by omega)) (S01.row (by omega)) (S02.row (by omega)) (S03.row (by omega)))) ?_
  rintro r new ⟨nrn, hsw, ⟨hno, -⟩ | ⟨-, hWe, rfl⟩⟩
  · cases hno
  obtain ⟨M4, hM4⟩ : ∃ M', M' = M3 ++ new := ⟨_, rfl⟩
  rw [← hM4]
  have LM4 : M4.length = M3.length + new.length := by rw [hM4, List.length_append]
  replace A00 : RowA M4 a00 k0.need := by rw [hM4]; exact A00.ext _
  replace A01 : RowA M4 a01 k0.setup := by rw [hM4]; exact A01.ext _
  replace A02 : RowA M4 a02 k0.unit := by rw [hM4]; exact A02.ext _
  replace A03 : RowA M4 a03 k0.hold := by rw [hM4]; exact A03.ext _
  replace X0 : BoxA M4 M0.length [.slice (some ⟨a00, 0, none⟩) k0.need.length 0, .slice (some ⟨a01, 0, none⟩) k0.setup.length 0, .slice (some ⟨a02, 0, none⟩) k0.unit.length 0, .slice (some ⟨a03, 0, none⟩) k0.hold.length 0] := by rw [hM4]; exact X0.ext _
  replace S00 : OwnR M4 (M2.length + 3) k0.need := by rw [hM4]; exact S00.ext _
  replace S01 : OwnR M4 (M2.length + 4) k0.setup := by rw [hM4]; exact S01.ext _
  replace S02 : OwnR M4 (M2.length + 5) k0.unit := by rw [hM4]; exact S02.ext _
  replace S03 : OwnR M4 (M2.length + 6) k0.hold := by rw [hM4]; exact S03.ext _
  clear nrn
  simp (config := {implicitDefEqProofs := false, maxDischargeDepth := 20}) (disch := first | omega | (simp only [lenE]; done) | (simp only [lenE]; omega) | rfl | (simp only [lenE, markR_len]; done) | (simp only [lenE, markR_len]; omega)) only [runE, mapE, listE, initT_5, initT_6, initT_7, initT_8, resV, oneV, binA, unA, reduceCtorEq, Nat.reduceEqDiff, Nat.reduceAdd, Nat.reduceLT, Nat.reduceLeDiff, Nat.reduceMul, Nat.reduceSub, ↓reduceIte, decide_true, decide_false, Bool.true_eq_false, Bool.false_eq_true, Bool.not_true, Bool.not_false, if_true, if_false, and_true, true_and, memE, celE, w64, Nat.zero_add, Nat.add_zero, Nat.mul_one, putL, and_self, ext_2_0, ext_2_1, ext_4_0, ext_4_1, ext_4_2, ext_4_3, beq_self_eq_true, bne_self_eq_false]
  obtain ⟨M5, hM5⟩ : ∃ M', M' = M4 ++ [⟨.own, 28, [.slice none 0 0, .slice none 0 0, .slice none 0 0, .slice none 0 0]⟩] := ⟨_, rfl⟩
  rw [← hM5]
  have LM5 : M5.length = M4.length + 1 := by rw [hM5, List.length_append]; rfl
  replace A00 : RowA M5 a00 k0.need := by rw [hM5]; exact A00.ext _
  replace A01 : RowA M5 a01 k0.setup := by rw [hM5]; exact A01.ext _
  replace A02 : RowA M5 a02 k0.unit := by rw [hM5]; exact A02.ext _
  replace A03 : RowA M5 a03 k0.hold := by rw [hM5]; exact A03.ext _
  replace X0 : BoxA M5 M0.length [.slice (some ⟨a00, 0, none⟩) k0.need.length 0, .slice (some ⟨a01, 0, none⟩) k0.setup.length 0, .slice (some ⟨a02, 0, none⟩) k0.unit.length 0, .slice (some ⟨a03, 0, none⟩) k0.hold.length 0] := by rw [hM5]; exact X0.ext _
  replace S00 : OwnR M5 (M2.length + 3) k0.need := by rw [hM5]; exact S00.ext _
  replace S01 : OwnR M5 (M2.length + 4) k0.setup := by rw [hM5]; exact S01.ext _
  replace S02 : OwnR M5 (M2.length + 5) k0.unit := by rw [hM5]; exact S02.ext _
  replace S03 : OwnR M5 (M2.length + 6) k0.hold := by rw [hM5]; exact S03.ext _
  have Vw : BoxA M5 M4.length [.slice none 0 0, .slice none 0 0, .slice none 0 0, .slice none 0 0] := by rw [hM5]; exact BoxA.here _ _ _ rfl
  try simp (config := {implicitDefEqProofs := false, maxDischargeDepth := 20}) (disch := first | omega | (simp only [lenE]; done) | (simp only [lenE]; omega) | rfl | (simp only [lenE, markR_len]; done) | (simp only [lenE, markR_len]; omega)) only [runE, mapE, listE, initT_5, initT_6, initT_7, initT_8, resV, oneV, binA, unA, reduceCtorEq, Nat.reduceEqDiff, Nat.reduceAdd, Nat.reduceLT, Nat.reduceLeDiff, Nat.reduceMul, Nat.reduceSub, ↓reduceIte, decide_true, decide_false, Bool.true_eq_false, Bool.false_eq_true, Bool.not_true, Bool.not_false, if_true, if_false, and_true, true_and, memE, celE, w64, Nat.zero_add, Nat.add_zero, Nat.mul_one, putL, and_self, ldn, ext_2_0, ext_2_1, ext_4_0, ext_4_1, ext_4_2, ext_4_3, beq_self_eq_true, bne_self_eq_false, X0.ld4, Vw.ld4]
  clear S00
  clear S01
  clear S02
  clear S03
  try simp (config := {implicitDefEqProofs := false, maxDischargeDepth := 20}) (disch := first | omega | (simp only [lenE]; done) | (simp only [lenE]; omega) | rfl | (simp only [lenE, markR_len]; done) | (simp only [lenE, markR_len]; omega)) only [runE, mapE, listE, initT_5, initT_6, initT_7, initT_8, resV, oneV, binA, unA, reduceCtorEq, Nat.reduceEqDiff, Nat.reduceAdd, Nat.reduceLT, Nat.reduceLeDiff, Nat.reduceMul, Nat.reduceSub, ↓reduceIte, decide_true, decide_false, Bool.true_eq_false, Bool.false_eq_true, Bool.not_true, Bool.not_false, if_true, if_false, and_true, true_and, memE, celE, w64, Nat.zero_add, Nat.add_zero, Nat.mul_one, putL, and_self, ldn, ext_2_0, ext_2_1, ext_4_0, ext_4_1, ext_4_2, ext_4_3, beq_self_eq_true, bne_self_eq_false, X0.ld4, Vw.ld4]
  refine callH_rc (toCase_rc _ _ k0 (CaseA.rows A00 A01 A02 A03) hs0) ?_
  rintro r new ⟨rfl, c0, c1, c2, rfl, kc0, kc1, kc2⟩
  obtain ⟨M6, hM6⟩ : ∃ M', M' = M5 ++ [c0, c1, c2, rowB k0.need, rowB k0.setup, rowB k0.unit, rowB k0.hold] := ⟨_, rfl⟩
  rw [← hM6]
  have LM6 : M6.length = M5.length + 7 := by rw [hM6, List.length_append]; rfl
  replace A00 : RowA M6 a00 k0.need := by rw [hM6]; exact A00.ext _
  replace A01 : RowA M6 a01 k0.setup := by rw [hM6]; exact A01.ext _
  replace A02 : RowA M6 a02 k0.unit := by rw [hM6]; exact A02.ext _
  replace A03 : RowA M6 a03 k0.hold := by rw [hM6]; exact A03.ext _
  replace X0 : BoxA M6 M0.length [.slice (some ⟨a00, 0, none⟩) k0.need.length 0, .slice (some ⟨a01, 0, none⟩) k0.setup.length 0, .slice (some ⟨a02, 0, none⟩) k0.unit.length 0, .slice (some ⟨a03, 0, none⟩) k0.hold.length 0] := by rw [hM6]; exact X0.ext _
  replace Vw : BoxA M6 M4.length [.slice none 0 0, .slice none 0 0, .slice none 0 0, .slice none 0 0] := by rw [hM6]; exact Vw.ext _
  have Y00 : OwnR M6 (M5.length + 3) k0.need := by rw [hM6]; exact OwnR.new (i := 3) (by rfl) rfl
  have Y01 : OwnR M6 (M5.length + 4) k0.setup := by rw [hM6]; exact OwnR.new (i := 4) (by rfl) rfl
  have Y02 : OwnR M6 (M5.length + 5) k0.unit := by rw [hM6]; exact OwnR.new (i := 5) (by rfl) rfl
  have Y03 : OwnR M6 (M5.length + 6) k0.hold := by rw [hM6]; exact OwnR.new (i := 6) (by rfl) rfl
  clear kc0 kc1 kc2
  try simp (config := {implicitDefEqProofs := false, maxDischargeDepth := 20}) (disch := first | omega | (simp only [lenE]; done) | (simp only [lenE]; omega) | rfl | (simp only [lenE, markR_len]; done) | (simp only [lenE, markR_len]; omega)) only [runE, mapE, listE, initT_5, initT_6, initT_7, initT_8, resV, oneV, binA, unA, reduceCtorEq, Nat.reduceEqDiff, Nat.reduceAdd, Nat.reduceLT, Nat.reduceLeDiff, Nat.reduceMul, Nat.reduceSub, ↓reduceIte, decide_true, decide_false, Bool.true_eq_false, Bool.false_eq_true, Bool.not_true, Bool.not_false, if_true, if_false, and_true, true_and, memE, celE, w64, Nat.zero_add, Nat.add_zero, Nat.mul_one, putL, and_self, ldn, ext_2_0, ext_2_1, ext_4_0, ext_4_1, ext_4_2, ext_4_3, beq_self_eq_true, bne_self_eq_false]
  obtain ⟨M7, hM7⟩ : ∃ M', M' = M6 ++ [⟨.own, 28, [.slice (some ⟨M5.length + 3, 0, none⟩) k0.need.length 1, .slice (some ⟨M5.length + 4, 0, none⟩) k0.setup.length 1, .slice (some ⟨M5.length + 5, 0, none⟩) k0.unit.length 1, .slice (some ⟨M5.length + 6, 0, none⟩) k0.hold.length 1]⟩] := ⟨_, rfl⟩
  rw [← hM7]
  have LM7 : M7.length = M6.length + 1 := by rw [hM7, List.length_append]; rfl
  replace A00 : RowA M7 a00 k0.need := by rw [hM7]; exact A00.ext _
  replace A01 : RowA M7 a01 k0.setup := by rw [hM7]; exact A01.ext _
  replace A02 : RowA M7 a02 k0.unit := by rw [hM7]; exact A02.ext _
  replace A03 : RowA M7 a03 k0.hold := by rw [hM7]; exact A03.ext _
  replace X0 : BoxA M7 M0.length [.slice (some ⟨a00, 0, none⟩) k0.need.length 0, .slice (some ⟨a01, 0, none⟩) k0.setup.length 0, .slice (some ⟨a02, 0, none⟩) k0.unit.length 0, .slice (some ⟨a03, 0, none⟩) k0.hold.length 0] := by rw [hM7]; exact X0.ext _
  replace Vw : BoxA M7 M4.length [.slice none 0 0, .slice none 0 0, .slice none 0 0, .slice none 0 0] := by rw [hM7]; exact Vw.ext _
  replace Y00 : OwnR M7 (M5.length + 3) k0.need := by rw [hM7]; exact Y00.ext _
  replace Y01 : OwnR M7 (M5.length + 4) k0.setup := by rw [hM7]; exact Y01.ext _
  replace Y02 : OwnR M7 (M5.length + 5) k0.unit := by rw [hM7]; exact Y02.ext _
  replace Y03 : OwnR M7 (M5.length + 6) k0.hold := by rw [hM7]; exact Y03.ext _
  have Z0 : BoxA M7 M6.length [.slice (some ⟨M5.length + 3, 0, none⟩) k0.need.length 1, .slice (some ⟨M5.length + 4, 0, none⟩) k0.setup.length 1, .slice (some ⟨M5.length + 5, 0, none⟩) k0.unit.length 1, .slice (some ⟨M5.length + 6, 0, none⟩) k0.hold.length 1] := by rw [hM7]; exact BoxA.here _ _ _ rfl
  try simp (config := {implicitDefEqProofs := false, maxDischargeDepth := 20}) (disch := first | omega | (simp only [lenE]; done) | (simp only [lenE]; omega) | rfl | (simp only [lenE, markR_len]; done) | (simp only [lenE, markR_len]; omega)) only [runE, mapE, listE, initT_5, initT_6, initT_7, initT_8, resV, oneV, binA, unA, reduceCtorEq, Nat.reduceEqDiff, Nat.reduceAdd, Nat.reduceLT, Nat.reduceLeDiff, Nat.reduceMul, Nat.reduceSub, ↓reduceIte, decide_true, decide_false, Bool.true_eq_false, Bool.false_eq_true, Bool.not_true, Bool.not_false, if_true, if_false, and_true, true_and, memE, celE, w64, Nat.zero_add, Nat.add_zero, Nat.mul_one, putL, and_self, ldn, ext_2_0, ext_2_1, ext_4_0, ext_4_1, ext_4_2, ext_4_3, beq_self_eq_true, bne_self_eq_false, X0.ld4, Vw.ld4, Z0.ld4]
  refine callH_rc (IMP _ _ (CaseA.rows (Y00.row (by omega)) (Y01.row (by omega)) (Y02.row (by omega)) (Y03.row (by omega)))) ?_
  rintro r new ⟨nrn, hsg, ⟨hno, -⟩ | ⟨-, hWe, rfl⟩⟩
  · cases hno
  obtain ⟨M8, hM8⟩ : ∃ M', M' = M7 ++ new := ⟨_, rfl⟩
  rw [← hM8]
  have LM8 : M8.length = M7.length + new.length := by rw [hM8, List.length_append]
  replace A00 : RowA M8 a00 k0.need := by rw [hM8]; exact A00.ext _
  replace A01 : RowA M8 a01 k0.setup := by rw [hM8]; exact A01.ext _
  replace A02 : RowA M8 a02 k0.unit := by rw [hM8]; exact A02.ext _
  replace A03 : RowA M8 a03 k0.hold := by rw [hM8]; exact A03.ext _
  replace X0 : BoxA M8 M0.length [.slice (some ⟨a00, 0, none⟩) k0.need.length 0, .slice (some ⟨a01, 0, none⟩) k0.setup.length 0, .slice (some ⟨a02, 0, none⟩) k0.unit.length 0, .slice (some ⟨a03, 0, none⟩) k0.hold.length 0] := by rw [hM8]; exact X0.ext _
  replace Vw : BoxA M8 M4.length [.slice none 0 0, .slice none 0 0, .slice none 0 0, .slice none 0 0] := by rw [hM8]; exact Vw.ext _
  replace Y00 : OwnR M8 (M5.length + 3) k0.need := by rw [hM8]; exact Y00.ext _
  replace Y01 : OwnR M8 (M5.length + 4) k0.setup := by rw [hM8]; exact Y01.ext _
  replace Y02 : OwnR M8 (M5.length + 5) k0.unit := by rw [hM8]; exact Y02.ext _
  replace Y03 : OwnR M8 (M5.length + 6) k0.hold := by rw [hM8]; exact Y03.ext _
  replace Z0 : BoxA M8 M6.length [.slice (some ⟨M5.length + 3, 0, none⟩) k0.need.length 1, .slice (some ⟨M5.length + 4, 0, none⟩) k0.setup.length 1, .slice (some ⟨M5.length + 5, 0, none⟩) k0.unit.length 1, .slice (some ⟨M5.length + 6, 0, none⟩) k0.hold.length 1] := by rw [hM8]; exact Z0.ext _
  clear nrn
  simp (config := {implicitDefEqProofs := false, maxDischargeDepth := 20}) (disch := first | omega | (simp only [lenE]; done) | (simp only [lenE]; omega) | rfl | (simp only [lenE, markR_len]; done) | (simp only [lenE, markR_len]; omega)) only [runE, mapE, listE, initT_5, initT_6, initT_7, initT_8, resV, oneV, binA, unA, reduceCtorEq, Nat.reduceEqDiff, Nat.reduceAdd, Nat.reduceLT, Nat.reduceLeDiff, Nat.reduceMul, Nat.reduceSub, ↓reduceIte, decide_true, decide_false, Bool.true_eq_false, Bool.false_eq_true, Bool.not_true, Bool.not_false, if_true, if_false, and_true, true_and, memE, celE, w64, Nat.zero_add, Nat.add_zero, Nat.mul_one, putL, and_self, ext_2_0, ext_2_1, ext_4_0, ext_4_1, ext_4_2, ext_4_3, beq_self_eq_true, bne_self_eq_false]
  obtain ⟨M9, hM9⟩ : ∃ M', M' = M8 ++ [⟨.own, 28, [.slice none 0 0, .slice none 0 0, .slice none 0 0, .slice none 0 0]⟩] := ⟨_, rfl⟩
  rw [← hM9]
  have LM9 : M9.length = M8.length + 1 := by rw [hM9, List.length_append]; rfl
  replace A00 : RowA M9 a00 k0.need := by rw [hM9]; exact A00.ext _
  replace A01 : RowA M9 a01 k0.setup := by rw [hM9]; exact A01.ext _
  replace A02 : RowA M9 a02 k0.unit := by rw [hM9]; exact A02.ext _
  replace A03 : RowA M9 a03 k0.hold := by rw [hM9]; exact A03.ext _
  replace X0 : BoxA M9 M0.length [.slice (some ⟨a00, 0, none⟩) k0.need.length 0, .slice (some ⟨a01, 0, none⟩) k0.setup.length 0, .slice (some ⟨a02, 0, none⟩) k0.unit.length 0, .slice (some ⟨a03, 0, none⟩) k0.hold.length 0] := by rw [hM9]; exact X0.ext _
  replace Vw : BoxA M9 M4.length [.slice none 0 0, .slice none 0 0, .slice none 0 0, .slice none 0 0] := by rw [hM9]; exact Vw.ext _
  replace Y00 : OwnR M9 (M5.length + 3) k0.need := by rw [hM9]; exact Y00.ext _
  replace Y01 : OwnR M9 (M5.length + 4) k0.setup := by rw [hM9]; exact Y01.ext _
  replace Y02 : OwnR M9 (M5.length + 5) k0.unit := by rw [hM9]; exact Y02.ext _
  replace Y03 : OwnR M9 (M5.length + 6) k0.hold := by rw [hM9]; exact Y03.ext _
  replace Z0 : BoxA M9 M6.length [.slice (some ⟨M5.length + 3, 0, none⟩) k0.need.length 1, .slice (some ⟨M5.length + 4, 0, none⟩) k0.setup.length 1, .slice (some ⟨M5.length + 5, 0, none⟩) k0.unit.length 1, .slice (some ⟨M5.length + 6, 0, none⟩) k0.hold.length 1] := by rw [hM9]; exact Z0.ext _
  have Vg : BoxA M9 M8.length [.slice none 0 0, .slice none 0 0, .slice none 0 0, .slice none 0 0] := by rw [hM9]; exact BoxA.here _ _ _ rfl
  try simp (config := {implicitDefEqProofs := false, maxDischargeDepth := 20}) (disch := first | omega | (simp only [lenE]; done) | (simp only [lenE]; omega) | rfl | (simp only [lenE, markR_len]; done) | (simp only [lenE, markR_len]; omega)) only [runE, mapE, listE, initT_5, initT_6, initT_7, initT_8, resV, oneV, binA, unA, reduceCtorEq, Nat.reduceEqDiff, Nat.reduceAdd, Nat.reduceLT, Nat.reduceLeDiff, Nat.reduceMul, Nat.reduceSub, ↓reduceIte, decide_true, decide_false, Bool.true_eq_false, Bool.false_eq_true, Bool.not_true, Bool.not_false, if_true, if_false, and_true, true_and, memE, celE, w64, Nat.zero_add, Nat.add_zero, Nat.mul_one, putL, and_self, ldn, ext_2_0, ext_2_1, ext_4_0, ext_4_1, ext_4_2, ext_4_3, beq_self_eq_true, bne_self_eq_false, X0.ld4, Vw.ld4, Z0.ld4, Vg.ld4]
  try simp (config := {implicitDefEqProofs := false, maxDischargeDepth := 20}) (disch := first | omega | (simp only [lenE]; done) | (simp only [lenE]; omega) | rfl | (simp only [lenE, markR_len]; done) | (simp only [lenE, markR_len]; omega)) only [runE, mapE, listE, initT_5, initT_6, initT_7, initT_8, resV, oneV, binA, unA, reduceCtorEq, Nat.reduceEqDiff, Nat.reduceAdd, Nat.reduceLT, Nat.reduceLeDiff, Nat.reduceMul, Nat.reduceSub, ↓reduceIte, decide_true, decide_false, Bool.true_eq_false, Bool.false_eq_true, Bool.not_true, Bool.not_false, if_true, if_false, and_true, true_and, memE, celE, w64, Nat.zero_add, Nat.add_zero, Nat.mul_one, putL, and_self, ldn, ext_2_0, ext_2_1, ext_4_0, ext_4_1, ext_4_2, ext_4_3, beq_self_eq_true, bne_self_eq_false, X0.ld4, Vw.ld4, Z0.ld4, Vg.ld4]
  refine callH_rc (eqCase_rc _ _ _ ⟨[], [], [], []⟩ ⟨_, _, _, _, rfl, IntsA.nil _, IntsA.nil _, IntsA.nil _, IntsA.nil _⟩ ⟨_, _, _, _, rfl, IntsA.nil _, IntsA.nil _, IntsA.nil _, IntsA.nil _⟩) ?_
  rintro r new ⟨rfl, nrn⟩
  obtain ⟨M10, hM10⟩ : ∃ M', M' = M9 ++ new := ⟨_, rfl⟩
  rw [← hM10]
  have LM10 : M10.length = M9.length + new.length := by rw [hM10, List.length_append]
  replace A00 : RowA M10 a00 k0.need := by rw [hM10]; exact A00.ext _
  replace A01 : RowA M10 a01 k0.setup := by rw [hM10]; exact A01.ext _
  replace A02 : RowA M10 a02 k0.unit := by rw [hM10]; exact A02.ext _
  replace A03 : RowA M10 a03 k0.hold := by rw [hM10]; exact A03.ext _
  replace X0 : BoxA M10 M0.length [.slice (some ⟨a00, 0, none⟩) k0.need.length 0, .slice (some ⟨a01, 0, none⟩) k0.setup.length 0, .slice (some ⟨a02, 0, none⟩) k0.unit.length 0, .slice (some ⟨a03, 0, none⟩) k0.hold.length 0] := by rw [hM10]; exact X0.ext _
  replace Vw : BoxA M10 M4.length [.slice none 0 0, .slice none 0 0, .slice none 0 0, .slice none 0 0] := by rw [hM10]; exact Vw.ext _
  replace Y00 : OwnR M10 (M5.length + 3) k0.need := by rw [hM10]; exact Y00.ext _
  replace Y01 : OwnR M10 (M5.length + 4) k0.setup := by rw [hM10]; exact Y01.ext _
  replace Y02 : OwnR M10 (M5.length + 5) k0.unit := by rw [hM10]; exact Y02.ext _
  replace Y03 : OwnR M10 (M5.length + 6) k0.hold := by rw [hM10]; exact Y03.ext _
  replace Z0 : BoxA M10 M6.length [.slice (some ⟨M5.length + 3, 0, none⟩) k0.need.length 1, .slice (some ⟨M5.length + 4, 0, none⟩) k0.setup.length 1, .slice (some ⟨M5.length + 5, 0, none⟩) k0.unit.length 1, .slice (some ⟨M5.length + 6, 0, none⟩) k0.hold.length 1] := by rw [hM10]; exact Z0.ext _
  replace Vg : BoxA M10 M8.length [.slice none 0 0, .slice none 0 0, .slice none 0 0, .slice none 0 0] := by rw [hM10]; exact Vg.ext _
  clear nrn
  try simp (config := {implicitDefEqProofs := false, maxDischargeDepth := 20}) (disch := first | omega | (simp only [lenE]; done) | (simp only [lenE]; omega) | rfl | (simp only [lenE, markR_len]; done) | (simp only [lenE, markR_len]; omega)) only [runE, mapE, listE, initT_5, initT_6, initT_7, initT_8, resV, oneV, binA, unA, reduceCtorEq, Nat.reduceEqDiff, Nat.reduceAdd, Nat.reduceLT, Nat.reduceLeDiff, Nat.reduceMul, Nat.reduceSub, ↓reduceIte, decide_true, decide_false, Bool.true_eq_false, Bool.false_eq_true, Bool.not_true, Bool.not_false, if_true, if_false, and_true, true_and, memE, celE, w64, Nat.zero_add, Nat.add_zero, Nat.mul_one, putL, and_self, ldn, ext_2_0, ext_2_1, ext_4_0, ext_4_1, ext_4_2, ext_4_3, beq_self_eq_true, bne_self_eq_false, List.append_nil, X0.ld4, Vw.ld4, Z0.ld4, Vg.ld4]
  refine rcallH_rc (toCase_rc _ _ k0 (CaseA.rows A00 A01 A02 A03) hs0) ?_
  rintro r new ⟨rfl, c0, c1, c2, rfl, kc0, kc1, kc2⟩
  obtain ⟨M11, hM11⟩ : ∃ M', M' = M10 ++ [c0, c1, c2, rowB k0.need, rowB k0.setup, rowB k0.unit, rowB k0.hold] := ⟨_, rfl⟩
  rw [← hM11]
  have LM11 : M11.length = M10.length + 7 := by rw [hM11, List.length_append]; rfl
  replace A00 : RowA M11 a00 k0.need := by rw [hM11]; exact A00.ext _
  replace A01 : RowA M11 a01 k0.setup := by rw [hM11]; exact A01.ext _
  replace A02 : RowA M11 a02 k0.unit := by rw [hM11]; exact A02.ext _
  replace A03 : RowA M11 a03 k0.hold := by rw [hM11]; exact A03.ext _
  replace X0 : BoxA M11 M0.length [.slice (some ⟨a00, 0, none⟩) k0.need.length 0, .slice (some ⟨a01, 0, none⟩) k0.setup.length 0, .slice (some ⟨a02, 0, none⟩) k0.unit.length 0, .slice (some ⟨a03, 0, none⟩) k0.hold.length 0] := by rw [hM11]; exact X0.ext _
  replace Vw : BoxA M11 M4.length [.slice none 0 0, .slice none 0 0, .slice none 0 0, .slice none 0 0] := by rw [hM11]; exact Vw.ext _
  replace Y00 : OwnR M11 (M5.length + 3) k0.need := by rw [hM11]; exact Y00.ext _
  replace Y01 : OwnR M11 (M5.length + 4) k0.setup := by rw [hM11]; exact Y01.ext _
  replace Y02 : OwnR M11 (M5.length + 5) k0.unit := by rw [hM11]; exact Y02.ext _
  replace Y03 : OwnR M11 (M5.length + 6) k0.hold := by rw [hM11]; exact Y03.ext _
  replace Z0 : BoxA M11 M6.length [.slice (some ⟨M5.length + 3, 0, none⟩) k0.need.length 1, .slice (some ⟨M5.length + 4, 0, none⟩) k0.setup.length 1, .slice (some ⟨M5.length + 5, 0, none⟩) k0.unit.length 1, .slice (some ⟨M5.length + 6, 0, none⟩) k0.hold.length 1] := by rw [hM11]; exact Z0.ext _
  replace Vg : BoxA M11 M8.length [.slice none 0 0, .slice none 0 0, .slice none 0 0, .slice none 0 0] := by rw [hM11]; exact Vg.ext _
  have T00 : OwnR M11 (M10.length + 3) k0.need := by rw [hM11]; exact OwnR.new (i := 3) (by rfl) rfl
  have T01 : OwnR M11 (M10.length + 4) k0.setup := by rw [hM11]; exact OwnR.new (i := 4) (by rfl) rfl
  have T02 : OwnR M11 (M10.length + 5) k0.unit := by rw [hM11]; exact OwnR.new (i := 5) (by rfl) rfl
  have T03 : OwnR M11 (M10.length + 6) k0.hold := by rw [hM11]; exact OwnR.new (i := 6) (by rfl) rfl
  clear kc0 kc1 kc2
  try simp (config := {implicitDefEqProofs := false, maxDischargeDepth := 20}) (disch := first | omega | (simp only [lenE]; done) | (simp only [lenE]; omega) | rfl | (simp only [lenE, markR_len]; done) | (simp only [lenE, markR_len]; omega)) only [runE, mapE, listE, initT_5, initT_6, initT_7, initT_8, resV, oneV, binA, unA, reduceCtorEq, Nat.reduceEqDiff, Nat.reduceAdd, Nat.reduceLT, Nat.reduceLeDiff, Nat.reduceMul, Nat.reduceSub, ↓reduceIte, decide_true, decide_false, Bool.true_eq_false, Bool.false_eq_true, Bool.not_true, Bool.not_false, if_true, if_false, and_true, true_and, memE, celE, w64, Nat.zero_add, Nat.add_zero, Nat.mul_one, putL, and_self, ldn, ext_2_0, ext_2_1, ext_4_0, ext_4_1, ext_4_2, ext_4_3, beq_self_eq_true, bne_self_eq_false, X0.ld4, Vw.ld4, Z0.ld4, Vg.ld4]
  refine rcallH_rc (eqCase_rc _ _ _ k0 (CaseA.rows (Y00.row (by omega)) (Y01.row (by omega)) (Y02.row (by omega)) (Y03.row (by omega))) (CaseA.rows (T00.row (by omega)) (T01.row (by omega)) (T02.row (by omega)) (T03.row (by omega)))) ?_
  rintro r new ⟨rfl, nrn⟩
  obtain ⟨M12, hM12⟩ : ∃ M', M' = M11 ++ new := ⟨_, rfl⟩
  rw [← hM12]
  have LM12 : M12.length = M11.length + new.length := by rw [hM12, List.length_append]
  replace A00 : RowA M12 a00 k0.need := by rw [hM12]; exact A00.ext _
  replace A01 : RowA M12 a01 k0.setup := by rw [hM12]; exact A01.ext _
  replace A02 : RowA M12 a02 k0.unit := by rw [hM12]; exact A02.ext _
  replace A03 : RowA M12 a03 k0.hold := by rw [hM12]; exact A03.ext _
  replace X0 : BoxA M12 M0.length [.slice (some ⟨a00, 0, none⟩) k0.need.length 0, .slice (some ⟨a01, 0, none⟩) k0.setup.length 0, .slice (some ⟨a02, 0, none⟩) k0.unit.length 0, .slice (some ⟨a03, 0, none⟩) k0.hold.length 0] := by rw [hM12]; exact X0.ext _
  replace Vw : BoxA M12 M4.length [.slice none 0 0, .slice none 0 0, .slice none 0 0, .slice none 0 0] := by rw [hM12]; exact Vw.ext _
  replace Y00 : OwnR M12 (M5.length + 3) k0.need := by rw [hM12]; exact Y00.ext _
  replace Y01 : OwnR M12 (M5.length + 4) k0.setup := by rw [hM12]; exact Y01.ext _
  replace Y02 : OwnR M12 (M5.length + 5) k0.unit := by rw [hM12]; exact Y02.ext _
  replace Y03 : OwnR M12 (M5.length + 6) k0.hold := by rw [hM12]; exact Y03.ext _
  replace Z0 : BoxA M12 M6.length [.slice (some ⟨M5.length + 3, 0, none⟩) k0.need.length 1, .slice (some ⟨M5.length + 4, 0, none⟩) k0.setup.length 1, .slice (some ⟨M5.length + 5, 0, none⟩) k0.unit.length 1, .slice (some ⟨M5.length + 6, 0, none⟩) k0.hold.length 1] := by rw [hM12]; exact Z0.ext _
  replace Vg : BoxA M12 M8.length [.slice none 0 0, .slice none 0 0, .slice none 0 0, .slice none 0 0] := by rw [hM12]; exact Vg.ext _
  clear nrn T00 T01 T02 T03
  try simp (config := {implicitDefEqProofs := false, maxDischargeDepth := 20}) (disch := first | omega | (simp only [lenE]; done) | (simp only [lenE]; omega) | rfl | (simp only [lenE, markR_len]; done) | (simp only [lenE, markR_len]; omega)) only [runE, mapE, listE, initT_5, initT_6, initT_7, initT_8, resV, oneV, binA, unA, reduceCtorEq, Nat.reduceEqDiff, Nat.reduceAdd, Nat.reduceLT, Nat.reduceLeDiff, Nat.reduceMul, Nat.reduceSub, ↓reduceIte, decide_true, decide_false, Bool.true_eq_false, Bool.false_eq_true, Bool.not_true, Bool.not_false, if_true, if_false, and_true, true_and, memE, celE, w64, Nat.zero_add, Nat.add_zero, Nat.mul_one, putL, and_self, ldn, ext_2_0, ext_2_1, ext_4_0, ext_4_1, ext_4_2, ext_4_3, beq_self_eq_true, bne_self_eq_false, X0.ld4, Vw.ld4, Z0.ld4, Vg.ld4]
  refine callH_ac (markCase_ac _ (M5.length + 3) (M5.length + 4) (M5.length + 5) (M5.length + 6) _ _ _ _ k0 (1) Y00 Y01 Y02 Y03 (by omega) (by omega) (by omega) (by omega) (by omega) (by omega) (by omega) (by omega) hs0) ?_
  rintro r m' ⟨rfl, cb, rfl⟩
  have y00 := Y00.lt
  have y01 := Y01.lt
  have y02 := Y02.lt
  have y03 := Y03.lt
  obtain ⟨M13, hM13⟩ : ∃ M', M' = markR (markR (markR (markR (M12) (M5.length + 3) (1) k0.need.length) (M5.length + 4) (1 + k0.need.length) k0.setup.length) (M5.length + 5) (1 + k0.need.length + k0.setup.length) k0.unit.length) (M5.length + 6) (1 + k0.need.length + k0.setup.length + k0.unit.length) k0.hold.length ++ [cb] := ⟨_, rfl⟩
  rw [← hM13]
  have LM13 : M13.length = M12.length + 1 := by rw [hM13]; simp [markR_len]
  have NA00 := A00.lt
  have NA01 := A01.lt
  have NA02 := A02.lt
  have NA03 := A03.lt
  have NX0 := X0.lt
  have NVw := Vw.lt
  have NZ0 := Z0.lt
  have NVg := Vg.lt
  replace A00 : RowA M13 a00 k0.need := by rw [hM13]; exact ((((A00.other (by omega)).other (by omega)).other (by omega)).other (by omega)).ext _
  replace A01 : RowA M13 a01 k0.setup := by rw [hM13]; exact ((((A01.other (by omega)).other (by omega)).other (by omega)).other (by omega)).ext _
  replace A02 : RowA M13 a02 k0.unit := by rw [hM13]; exact ((((A02.other (by omega)).other (by omega)).other (by omega)).other (by omega)).ext _
  replace A03 : RowA M13 a03 k0.hold := by rw [hM13]; exact ((((A03.other (by omega)).other (by omega)).other (by omega)).other (by omega)).ext _
  replace X0 : BoxA M13 M0.length [.slice (some ⟨a00, 0, none⟩) k0.need.length 0, .slice (some ⟨a01, 0, none⟩) k0.setup.length 0, .slice (some ⟨a02, 0, none⟩) k0.unit.length 0, .slice (some ⟨a03, 0, none⟩) k0.hold.length 0] := by rw [hM13]; exact ((((X0.other (by omega)).other (by omega)).other (by omega)).other (by omega)).ext _
  replace Vw : BoxA M13 M4.length [.slice none 0 0, .slice none 0 0, .slice none 0 0, .slice none 0 0] := by rw [hM13]; exact ((((Vw.other (by omega)).other (by omega)).other (by omega)).other (by omega)).ext _
  replace Z0 : BoxA M13 M6.length [.slice (some ⟨M5.length + 3, 0, none⟩) k0.need.length 1, .slice (some ⟨M5.length + 4, 0, none⟩) k0.setup.length 1, .slice (some ⟨M5.length + 5, 0, none⟩) k0.unit.length 1, .slice (some ⟨M5.length + 6, 0, none⟩) k0.hold.length 1] := by rw [hM13]; exact ((((Z0.other (by omega)).other (by omega)).other (by omega)).other (by omega)).ext _
  replace Vg : BoxA M13 M8.length [.slice none 0 0, .slice none 0 0, .slice none 0 0, .slice none 0 0] := by rw [hM13]; exact ((((Vg.other (by omega)).other (by omega)).other (by omega)).other (by omega)).ext _
  clear NA00 NA01 NA02 NA03 NX0 NVw NZ0 NVg
  clear Y00 Y01 Y02 Y03
  have kneg : ¬ ((1 + k0.tot : Int) < 0) := by omega
  try simp (config := {implicitDefEqProofs := false, maxDischargeDepth := 20}) (disch := first | omega | (simp only [lenE]; done) | (simp only [lenE]; omega) | rfl | (simp only [lenE, markR_len]; done) | (simp only [lenE, markR_len]; omega)) only [runE, mapE, listE, initT_5, initT_6, initT_7, initT_8, resV, oneV, binA, unA, reduceCtorEq, Nat.reduceEqDiff, Nat.reduceAdd, Nat.reduceLT, Nat.reduceLeDiff, Nat.reduceMul, Nat.reduceSub, ↓reduceIte, decide_true, decide_false, Bool.true_eq_false, Bool.false_eq_true, Bool.not_true, Bool.not_false, if_true, if_false, and_true, true_and, memE, celE, w64, Nat.zero_add, Nat.add_zero, Nat.mul_one, putL, and_self, ldn, ext_2_0, ext_2_1, ext_4_0, ext_4_1, ext_4_2, ext_4_3, beq_self_eq_true, bne_self_eq_false, kneg, X0.ld4, Vw.ld4, Z0.ld4, Vg.ld4]
  try simp (config := {implicitDefEqProofs := false, maxDischargeDepth := 20}) (disch := first | omega | (simp only [lenE]; done) | (simp only [lenE]; omega) | rfl | (simp only [lenE, markR_len]; done) | (simp only [lenE, markR_len]; omega)) only [runE, mapE, listE, initT_5, initT_6, initT_7, initT_8, resV, oneV, binA, unA, reduceCtorEq, Nat.reduceEqDiff, Nat.reduceAdd, Nat.reduceLT, Nat.reduceLeDiff, Nat.reduceMul, Nat.reduceSub, ↓reduceIte, decide_true, decide_false, Bool.true_eq_false, Bool.false_eq_true, Bool.not_true, Bool.not_false, if_true, if_false, and_true, true_and, memE, celE, w64, Nat.zero_add, Nat.add_zero, Nat.mul_one, putL, and_self, ldn, ext_2_0, ext_2_1, ext_4_0, ext_4_1, ext_4_2, ext_4_3, beq_self_eq_true, bne_self_eq_false, X0.ld4, Vw.ld4, Z0.ld4, Vg.ld4]
  refine callH_rc (eqCase_rc _ _ _ ⟨[], [], [], []⟩ ⟨_, _, _, _, rfl, IntsA.nil _, IntsA.nil _, IntsA.nil _, IntsA.nil _⟩ ⟨_, _, _, _, rfl, IntsA.nil _, IntsA.nil _, IntsA.nil _, IntsA.nil _⟩) ?_
  rintro r new ⟨rfl, nrn⟩
  obtain ⟨M14, hM14⟩ : ∃ M', M' = M13 ++ new := ⟨_, rfl⟩
  rw [← hM14]
  have LM14 : M14.length = M13.length + new.length := by rw [hM14, List.length_append]
  replace A00 : RowA M14 a00 k0.need := by rw [hM14]; exact A00.ext _
  replace A01 : RowA M14 a01 k0.setup := by rw [hM14]; exact A01.ext _
  replace A02 : RowA M14 a02 k0.unit := by rw [hM14]; exact A02.ext _
  replace A03 : RowA M14 a03 k0.hold := by rw [hM14]; exact A03.ext _
  replace X0 : BoxA M14 M0.length [.slice (some ⟨a00, 0, none⟩) k0.need.length 0, .slice (some ⟨a01, 0, none⟩) k0.setup.length 0, .slice (some ⟨a02, 0, none⟩) k0.unit.length 0, .slice (some ⟨a03, 0, none⟩) k0.hold.length 0] := by rw [hM14]; exact X0.ext _
  replace Vw : BoxA M14 M4.length [.slice none 0 0, .slice none 0 0, .slice none 0 0, .slice none 0 0] := by rw [hM14]; exact Vw.ext _
  replace Z0 : BoxA M14 M6.length [.slice (some ⟨M5.length + 3, 0, none⟩) k0.need.length 1, .slice (some ⟨M5.length + 4, 0, none⟩) k0.setup.length 1, .slice (some ⟨M5.length + 5, 0, none⟩) k0.unit.length 1, .slice (some ⟨M5.length + 6, 0, none⟩) k0.hold.length 1] := by rw [hM14]; exact Z0.ext _
  replace Vg : BoxA M14 M8.length [.slice none 0 0, .slice none 0 0, .slice none 0 0, .slice none 0 0] := by rw [hM14]; exact Vg.ext _
  clear nrn
  try simp (config := {implicitDefEqProofs := false, maxDischargeDepth := 20}) (disch := first | omega | (simp only [lenE]; done) | (simp only [lenE]; omega) | rfl | (simp only [lenE, markR_len]; done) | (simp only [lenE, markR_len]; omega)) only [runE, mapE, listE, initT_5, initT_6, initT_7, initT_8, resV, oneV, binA, unA, reduceCtorEq, Nat.reduceEqDiff, Nat.reduceAdd, Nat.reduceLT, Nat.reduceLeDiff, Nat.reduceMul, Nat.reduceSub, ↓reduceIte, decide_true, decide_false, Bool.true_eq_false, Bool.false_eq_true, Bool.not_true, Bool.not_false, if_true, if_false, and_true, true_and, memE, celE, w64, Nat.zero_add, Nat.add_zero, Nat.mul_one, putL, and_self, ldn, ext_2_0, ext_2_1, ext_4_0, ext_4_1, ext_4_2, ext_4_3, beq_self_eq_true, bne_self_eq_false, List.append_nil, X0.ld4, Vw.ld4, Z0.ld4, Vg.ld4]
  refine callH_ac (markCase_nil _ 1 (by omega) (by omega)) ?_
  rintro r m' ⟨rfl, cb, rfl⟩
  obtain ⟨M15, hM15⟩ : ∃ M', M' = M14 ++ [cb] := ⟨_, rfl⟩
  rw [← hM15]
  have LM15 : M15.length = M14.length + 1 := by rw [hM15, List.length_append]; rfl
  replace A00 : RowA M15 a00 k0.need := by rw [hM15]; exact A00.ext _
  replace A01 : RowA M15 a01 k0.setup := by rw [hM15]; exact A01.ext _
  replace A02 : RowA M15 a02 k0.unit := by rw [hM15]; exact A02.ext _
  replace A03 : RowA M15 a03 k0.hold := by rw [hM15]; exact A03.ext _
  replace X0 : BoxA M15 M0.length [.slice (some ⟨a00, 0, none⟩) k0.need.length 0, .slice (some ⟨a01, 0, none⟩) k0.setup.length 0, .slice (some ⟨a02, 0, none⟩) k0.unit.length 0, .slice (some ⟨a03, 0, none⟩) k0.hold.length 0] := by rw [hM15]; exact X0.ext _
  replace Vw : BoxA M15 M4.length [.slice none 0 0, .slice none 0 0, .slice none 0 0, .slice none 0 0] := by rw [hM15]; exact Vw.ext _
  replace Z0 : BoxA M15 M6.length [.slice (some ⟨M5.length + 3, 0, none⟩) k0.need.length 1, .slice (some ⟨M5.length + 4, 0, none⟩) k0.setup.length 1, .slice (some ⟨M5.length + 5, 0, none⟩) k0.unit.length 1, .slice (some ⟨M5.length + 6, 0, none⟩) k0.hold.length 1] := by rw [hM15]; exact Z0.ext _
  replace Vg : BoxA M15 M8.length [.slice none 0 0, .slice none 0 0, .slice none 0 0, .slice none 0 0] := by rw [hM15]; exact Vg.ext _
  try simp (config := {implicitDefEqProofs := false, maxDischargeDepth := 20}) (disch := first | omega | (simp only [lenE]; done) | (simp only [lenE]; omega) | rfl | (simp only [lenE, markR_len]; done) | (simp only [lenE, markR_len]; omega)) only [runE, mapE, listE, initT_5, initT_6, initT_7, initT_8, resV, oneV, binA, unA, reduceCtorEq, Nat.reduceEqDiff, Nat.reduceAdd, Nat.reduceLT, Nat.reduceLeDiff, Nat.reduceMul, Nat.reduceSub, ↓reduceIte, decide_true, decide_false, Bool.true_eq_false, Bool.false_eq_true, Bool.not_true, Bool.not_false, if_true, if_false, and_true, true_and, memE, celE, w64, Nat.zero_add, Nat.add_zero, Nat.mul_one, putL, and_self, ldn, ext_2_0, ext_2_1, ext_4_0, ext_4_1, ext_4_2, ext_4_3, beq_self_eq_true, bne_self_eq_false, List.append_nil, X0.ld4, Vw.ld4, Z0.ld4, Vg.ld4]
  refine callH_rc (heldCase_rc _ _ 0 0 0 0 1 ⟨_, _, _, _, rfl, IntsA.nil _, IntsA.nil _, IntsA.nil _, IntsA.nil _⟩ (by omega) (by omega) (by omega) (by omega) (by omega) (by omega)) ?_
  rintro r new ⟨rfl, nrn⟩
  obtain ⟨M16, hM16⟩ : ∃ M', M' = M15 ++ new := ⟨_, rfl⟩
  rw [← hM16]
  have LM16 : M16.length = M15.length + new.length := by rw [hM16, List.length_append]
  replace A00 : RowA M16 a00 k0.need := by rw [hM16]; exact A00.ext _
  replace A01 : RowA M16 a01 k0.setup := by rw [hM16]; exact A01.ext _
  replace A02 : RowA M16 a02 k0.unit := by rw [hM16]; exact A02.ext _
  replace A03 : RowA M16 a03 k0.hold := by rw [hM16]; exact A03.ext _
  replace X0 : BoxA M16 M0.length [.slice (some ⟨a00, 0, none⟩) k0.need.length 0, .slice (some ⟨a01, 0, none⟩) k0.setup.length 0, .slice (some ⟨a02, 0, none⟩) k0.unit.length 0, .slice (some ⟨a03, 0, none⟩) k0.hold.length 0] := by rw [hM16]; exact X0.ext _
  replace Vw : BoxA M16 M4.length [.slice none 0 0, .slice none 0 0, .slice none 0 0, .slice none 0 0] := by rw [hM16]; exact Vw.ext _
  replace Z0 : BoxA M16 M6.length [.slice (some ⟨M5.length + 3, 0, none⟩) k0.need.length 1, .slice (some ⟨M5.length + 4, 0, none⟩) k0.setup.length 1, .slice (some ⟨M5.length + 5, 0, none⟩) k0.unit.length 1, .slice (some ⟨M5.length + 6, 0, none⟩) k0.hold.length 1] := by rw [hM16]; exact Z0.ext _
  replace Vg : BoxA M16 M8.length [.slice none 0 0, .slice none 0 0, .slice none 0 0, .slice none 0 0] := by rw [hM16]; exact Vg.ext _
  clear nrn
  try simp (config := {implicitDefEqProofs := false, maxDischargeDepth := 20}) (disch := first | omega | (simp only [lenE]; done) | (simp only [lenE]; omega) | rfl | (simp only [lenE, markR_len]; done) | (simp only [lenE, markR_len]; omega)) only [runE, mapE, listE, initT_5, initT_6, initT_7, initT_8, resV, oneV, binA, unA, reduceCtorEq, Nat.reduceEqDiff, Nat.reduceAdd, Nat.reduceLT, Nat.reduceLeDiff, Nat.reduceMul, Nat.reduceSub, ↓reduceIte, decide_true, decide_false, Bool.true_eq_false, Bool.false_eq_true, Bool.not_true, Bool.not_false, if_true, if_false, and_true, true_and, memE, celE, w64, Nat.zero_add, Nat.add_zero, Nat.mul_one, putL, and_self, ldn, ext_2_0, ext_2_1, ext_4_0, ext_4_1, ext_4_2, ext_4_3, beq_self_eq_true, bne_self_eq_false, List.append_nil, show ¬ ((1 : Int) + ((0 : Nat) : Int) + ((0 : Nat) : Int) + ((0 : Nat) : Int) + ((0 : Nat) : Int) < 0) by decide, X0.ld4, Vw.ld4, Z0.ld4, Vg.ld4]
  refine callH_rc (toCase_rc _ _ k0 (CaseA.rows A00 A01 A02 A03) hs0) ?_
  rintro r new ⟨rfl, c0, c1, c2, rfl, kc0, kc1, kc2⟩
  obtain ⟨M17, hM17⟩ : ∃ M', M' = M16 ++ [c0, c1, c2, rowB k0.need, rowB k0.setup, rowB k0.unit, rowB k0.hold] := ⟨_, rfl⟩
  rw [← hM17]
  have LM17 : M17.length = M16.length + 7 := by rw [hM17, List.length_append]; rfl
  replace A00 : RowA M17 a00 k0.need := by rw [hM17]; exact A00.ext _
  replace A01 : RowA M17 a01 k0.setup := by rw [hM17]; exact A01.ext _
  replace A02 : RowA M17 a02 k0.unit := by rw [hM17]; exact A02.ext _
  replace A03 : RowA M17 a03 k0.hold := by rw [hM17]; exact A03.ext _
  replace X0 : BoxA M17 M0.length [.slice (some ⟨a00, 0, none⟩) k0.need.length 0, .slice (some ⟨a01, 0, none⟩) k0.setup.length 0, .slice (some ⟨a02, 0, none⟩) k0.unit.length 0, .slice (some ⟨a03, 0, none⟩) k0.hold.length 0] := by rw [hM17]; exact X0.ext _
  replace Vw : BoxA M17 M4.length [.slice none 0 0, .slice none 0 0, .slice none 0 0, .slice none 0 0] := by rw [hM17]; exact Vw.ext _
  replace Z0 : BoxA M17 M6.length [.slice (some ⟨M5.length + 3, 0, none⟩) k0.need.length 1, .slice (some ⟨M5.length + 4, 0, none⟩) k0.setup.length 1, .slice (some ⟨M5.length + 5, 0, none⟩) k0.unit.length 1, .slice (some ⟨M5.length + 6, 0, none⟩) k0.hold.length 1] := by rw [hM17]; exact Z0.ext _
  replace Vg : BoxA M17 M8.length [.slice none 0 0, .slice none 0 0, .slice none 0 0, .slice none 0 0] := by rw [hM17]; exact Vg.ext _
  have U00 : OwnR M17 (M16.length + 3) k0.need := by rw [hM17]; exact OwnR.new (i := 3) (by rfl) rfl
  have U01 : OwnR M17 (M16.length + 4) k0.setup := by rw [hM17]; exact OwnR.new (i := 4) (by rfl) rfl
  have U02 : OwnR M17 (M16.length + 5) k0.unit := by rw [hM17]; exact OwnR.new (i := 5) (by rfl) rfl
  have U03 : OwnR M17 (M16.length + 6) k0.hold := by rw [hM17]; exact OwnR.new (i := 6) (by rfl) rfl
  clear kc0 kc1 kc2
  try simp (config := {implicitDefEqProofs := false, maxDischargeDepth := 20}) (disch := first | omega | (simp only [lenE]; done) | (simp only [lenE]; omega) | rfl | (simp only [lenE, markR_len]; done) | (simp only [lenE, markR_len]; omega)) only [runE, mapE, listE, initT_5, initT_6, initT_7, initT_8, resV, oneV, binA, unA, reduceCtorEq, Nat.reduceEqDiff, Nat.reduceAdd, Nat.reduceLT, Nat.reduceLeDiff, Nat.reduceMul, Nat.reduceSub, ↓reduceIte, decide_true, decide_false, Bool.true_eq_false, Bool.false_eq_true, Bool.not_true, Bool.not_false, if_true, if_false, and_true, true_and, memE, celE, w64, Nat.zero_add, Nat.add_zero, Nat.mul_one, putL, and_self, ldn, ext_2_0, ext_2_1, ext_4_0, ext_4_1, ext_4_2, ext_4_3, beq_self_eq_true, bne_self_eq_false, X0.ld4, Vw.ld4, Z0.ld4, Vg.ld4]
  refine callH_rc (IMP _ _ (CaseA.rows (U00.row (by omega)) (U01.row (by omega)) (U02.row (by omega)) (U03.row (by omega)))) ?_
  rintro r new ⟨nrn, hsh, ⟨hno, -⟩ | ⟨-, hWe, rfl⟩⟩
  · cases hno
  obtain ⟨M18, hM18⟩ : ∃ M', M' = M17 ++ new := ⟨_, rfl⟩
  rw [← hM18]
  have LM18 : M18.length = M17.length + new.length := by rw [hM18, List.length_append]
  replace A00 : RowA M18 a00 k0.need := by rw [hM18]; exact A00.ext _
  replace A01 : RowA M18 a01 k0.setup := by rw [hM18]; exact A01.ext _
  replace A02 : RowA M18 a02 k0.unit := by rw [hM18]; exact A02.ext _
  replace A03 : RowA M18 a03 k0.hold := by rw [hM18]; exact A03.ext _
  replace X0 : BoxA M18 M0.length [.slice (some ⟨a00, 0, none⟩) k0.need.length 0, .slice (some ⟨a01, 0, none⟩) k0.setup.length 0, .slice (some ⟨a02, 0, none⟩) k0.unit.length 0, .slice (some ⟨a03, 0, none⟩) k0.hold.length 0] := by rw [hM18]; exact X0.ext _
  replace Vw : BoxA M18 M4.length [.slice none 0 0, .slice none 0 0, .slice none 0 0, .slice none 0 0] := by rw [hM18]; exact Vw.ext _
  replace Z0 : BoxA M18 M6.length [.slice (some ⟨M5.length + 3, 0, none⟩) k0.need.length 1, .slice (some ⟨M5.length + 4, 0, none⟩) k0.setup.length 1, .slice (some ⟨M5.length + 5, 0, none⟩) k0.unit.length 1, .slice (some ⟨M5.length + 6, 0, none⟩) k0.hold.length 1] := by rw [hM18]; exact Z0.ext _
  replace Vg : BoxA M18 M8.length [.slice none 0 0, .slice none 0 0, .slice none 0 0, .slice none 0 0] := by rw [hM18]; exact Vg.ext _
  replace U00 : OwnR M18 (M16.length + 3) k0.need := by rw [hM18]; exact U00.ext _
  replace U01 : OwnR M18 (M16.length + 4) k0.setup := by rw [hM18]; exact U01.ext _
  replace U02 : OwnR M18 (M16.length + 5) k0.unit := by rw [hM18]; exact U02.ext _
  replace U03 : OwnR M18 (M16.length + 6) k0.hold := by rw [hM18]; exact U03.ext _
  clear nrn
  simp (config := {implicitDefEqProofs := false, maxDischargeDepth := 20}) (disch := first | omega | (simp only [lenE]; done) | (simp only [lenE]; omega) | rfl | (simp only [lenE, markR_len]; done) | (simp only [lenE, markR_len]; omega)) only [runE, mapE, listE, initT_5, initT_6, initT_7, initT_8, resV, oneV, binA, unA, reduceCtorEq, Nat.reduceEqDiff, Nat.reduceAdd, Nat.reduceLT, Nat.reduceLeDiff, Nat.reduceMul, Nat.reduceSub, ↓reduceIte, decide_true, decide_false, Bool.true_eq_false, Bool.false_eq_true, Bool.not_true, Bool.not_false, if_true, if_false, and_true, true_and, memE, celE, w64, Nat.zero_add, Nat.add_zero, Nat.mul_one, putL, and_self, ext_2_0, ext_2_1, ext_4_0, ext_4_1, ext_4_2, ext_4_3, beq_self_eq_true, bne_self_eq_false]
  obtain ⟨M19, hM19⟩ : ∃ M', M' = M18 ++ [⟨.own, 28, [.slice none 0 0, .slice none 0 0, .slice none 0 0, .slice none 0 0]⟩] := ⟨_, rfl⟩
  rw [← hM19]
  have LM19 : M19.length = M18.length + 1 := by rw [hM19, List.length_append]; rfl
  replace A00 : RowA M19 a00 k0.need := by rw [hM19]; exact A00.ext _
  replace A01 : RowA M19 a01 k0.setup := by rw [hM19]; exact A01.ext _
  replace A02 : RowA M19 a02 k0.unit := by rw [hM19]; exact A02.ext _
  replace A03 : RowA M19 a03 k0.hold := by rw [hM19]; exact A03.ext _
  replace X0 : BoxA M19 M0.length [.slice (some ⟨a00, 0, none⟩) k0.need.length 0, .slice (some ⟨a01, 0, none⟩) k0.setup.length 0, .slice (some ⟨a02, 0, none⟩) k0.unit.length 0, .slice (some ⟨a03, 0, none⟩) k0.hold.length 0] := by rw [hM19]; exact X0.ext _
  replace Vw : BoxA M19 M4.length [.slice none 0 0, .slice none 0 0, .slice none 0 0, .slice none 0 0] := by rw [hM19]; exact Vw.ext _
  replace Z0 : BoxA M19 M6.length [.slice (some ⟨M5.length + 3, 0, none⟩) k0.need.length 1, .slice (some ⟨M5.length + 4, 0, none⟩) k0.setup.length 1, .slice (some ⟨M5.length + 5, 0, none⟩) k0.unit.length 1, .slice (some ⟨M5.length + 6, 0, none⟩) k0.hold.length 1] := by rw [hM19]; exact Z0.ext _
  replace Vg : BoxA M19 M8.length [.slice none 0 0, .slice none 0 0, .slice none 0 0, .slice none 0 0] := by rw [hM19]; exact Vg.ext _
  replace U00 : OwnR M19 (M16.length + 3) k0.need := by rw [hM19]; exact U00.ext _
  replace U01 : OwnR M19 (M16.length + 4) k0.setup := by rw [hM19]; exact U01.ext _
  replace U02 : OwnR M19 (M16.length + 5) k0.unit := by rw [hM19]; exact U02.ext _
  replace U03 : OwnR M19 (M16.length + 6) k0.hold := by rw [hM19]; exact U03.ext _
  have Vh : BoxA M19 M18.length [.slice none 0 0, .slice none 0 0, .slice none 0 0, .slice none 0 0] := by rw [hM19]; exact BoxA.here _ _ _ rfl
  try simp (config := {implicitDefEqProofs := false, maxDischargeDepth := 20}) (disch := first | omega | (simp only [lenE]; done) | (simp only [lenE]; omega) | rfl | (simp only [lenE, markR_len]; done) | (simp only [lenE, markR_len]; omega)) only [runE, mapE, listE, initT_5, initT_6, initT_7, initT_8, resV, oneV, binA, unA, reduceCtorEq, Nat.reduceEqDiff, Nat.reduceAdd, Nat.reduceLT, Nat.reduceLeDiff, Nat.reduceMul, Nat.reduceSub, ↓reduceIte, decide_true, decide_false, Bool.true_eq_false, Bool.false_eq_true, Bool.not_true, Bool.not_false, if_true, if_false, and_true, true_and, memE, celE, w64, Nat.zero_add, Nat.add_zero, Nat.mul_one, putL, and_self, ldn, ext_2_0, ext_2_1, ext_4_0, ext_4_1, ext_4_2, ext_4_3, beq_self_eq_true, bne_self_eq_false, X0.ld4, Vw.ld4, Z0.ld4, Vg.ld4, Vh.ld4]
  clear U00
  clear U01
  clear U02
  clear U03
  try simp (config := {implicitDefEqProofs := false, maxDischargeDepth := 20}) (disch := first | omega | (simp only [lenE]; done) | (simp only [lenE]; omega) | rfl | (simp only [lenE, markR_len]; done) | (simp only [lenE, markR_len]; omega)) only [runE, mapE, listE, initT_5, initT_6, initT_7, initT_8, resV, oneV, binA, unA, reduceCtorEq, Nat.reduceEqDiff, Nat.reduceAdd, Nat.reduceLT, Nat.reduceLeDiff, Nat.reduceMul, Nat.reduceSub, ↓reduceIte, decide_true, decide_false, Bool.true_eq_false, Bool.false_eq_true, Bool.not_true, Bool.not_false, if_true, if_false, and_true, true_and, memE, celE, w64, Nat.zero_add, Nat.add_zero, Nat.mul_one, putL, and_self, ldn, ext_2_0, ext_2_1, ext_4_0, ext_4_1, ext_4_2, ext_4_3, beq_self_eq_true, bne_self_eq_false, X0.ld4, Vw.ld4, Z0.ld4, Vg.ld4, Vh.ld4]
  try simp (config := {implicitDefEqProofs := false, maxDischargeDepth := 20}) (disch := first | omega | (simp only [lenE]; done) | (simp only [lenE]; omega) | rfl | (simp only [lenE, markR_len]; done) | (simp only [lenE, markR_len]; omega)) only [runE, mapE, listE, initT_5, initT_6, initT_7, initT_8, resV, oneV, binA, unA, reduceCtorEq, Nat.reduceEqDiff, Nat.reduceAdd, Nat.reduceLT, Nat.reduceLeDiff, Nat.reduceMul, Nat.reduceSub, ↓reduceIte, decide_true, decide_false, Bool.true_eq_false, Bool.false_eq_true, Bool.not_true, Bool.not_false, if_true, if_false, and_true, true_and, memE, celE, w64, Nat.zero_add, Nat.add_zero, Nat.mul_one, putL, and_self, ldn, ext_2_0, ext_2_1, ext_4_0, ext_4_1, ext_4_2, ext_4_3, beq_self_eq_true, bne_self_eq_false, X0.ld4, Vw.ld4, Z0.ld4, Vg.ld4, Vh.ld4]
  refine callH_rc (eqCase_rc _ _ _ ⟨[], [], [], []⟩ ⟨_, _, _, _, rfl, IntsA.nil _, IntsA.nil _, IntsA.nil _, IntsA.nil _⟩ ⟨_, _, _, _, rfl, IntsA.nil _, IntsA.nil _, IntsA.nil _, IntsA.nil _⟩) ?_
  rintro r new ⟨rfl, nrn⟩
  obtain ⟨M20, hM20⟩ : ∃ M', M' = M19 ++ new := ⟨_, rfl⟩
  rw [← hM20]
  have LM20 : M20.length = M19.length + new.length := by rw [hM20, List.length_append]
  replace A00 : RowA M20 a00 k0.need := by rw [hM20]; exact A00.ext _
  replace A01 : RowA M20 a01 k0.setup := by rw [hM20]; exact A01.ext _
  replace A02 : RowA M20 a02 k0.unit := by rw [hM20]; exact A02.ext _
  replace A03 : RowA M20 a03 k0.hold := by rw [hM20]; exact A03.ext _
  replace X0 : BoxA M20 M0.length [.slice (some ⟨a00, 0, none⟩) k0.need.length 0, .slice (some ⟨a01, 0, none⟩) k0.setup.length 0, .slice (some ⟨a02, 0, none⟩) k0.unit.length 0, .slice (some ⟨a03, 0, none⟩) k0.hold.length 0] := by rw [hM20]; exact X0.ext _
  replace Vw : BoxA M20 M4.length [.slice none 0 0, .slice none 0 0, .slice none 0 0, .slice none 0 0] := by rw [hM20]; exact Vw.ext _
  replace Z0 : BoxA M20 M6.length [.slice (some ⟨M5.length + 3, 0, none⟩) k0.need.length 1, .slice (some ⟨M5.length + 4, 0, none⟩) k0.setup.length 1, .slice (some ⟨M5.length + 5, 0, none⟩) k0.unit.length 1, .slice (some ⟨M5.length + 6, 0, none⟩) k0.hold.length 1] := by rw [hM20]; exact Z0.ext _
  replace Vg : BoxA M20 M8.length [.slice none 0 0, .slice none 0 0, .slice none 0 0, .slice none 0 0] := by rw [hM20]; exact Vg.ext _
  replace Vh : BoxA M20 M18.length [.slice none 0 0, .slice none 0 0, .slice none 0 0, .slice none 0 0] := by rw [hM20]; exact Vh.ext _
  clear nrn
  try simp (config := {implicitDefEqProofs := false, maxDischargeDepth := 20}) (disch := first | omega | (simp only [lenE]; done) | (simp only [lenE]; omega) | rfl | (simp only [lenE, markR_len]; done) | (simp only [lenE, markR_len]; omega)) only [runE, mapE, listE, initT_5, initT_6, initT_7, initT_8, resV, oneV, binA, unA, reduceCtorEq, Nat.reduceEqDiff, Nat.reduceAdd, Nat.reduceLT, Nat.reduceLeDiff, Nat.reduceMul, Nat.reduceSub, ↓reduceIte, decide_true, decide_false, Bool.true_eq_false, Bool.false_eq_true, Bool.not_true, Bool.not_false, if_true, if_false, and_true, true_and, memE, celE, w64, Nat.zero_add, Nat.add_zero, Nat.mul_one, putL, and_self, ldn, ext_2_0, ext_2_1, ext_4_0, ext_4_1, ext_4_2, ext_4_3, beq_self_eq_true, bne_self_eq_false, List.append_nil, X0.ld4, Vw.ld4, Z0.ld4, Vg.ld4, Vh.ld4]
  try simp (config := {implicitDefEqProofs := false, maxDischargeDepth := 20}) (disch := first | omega | (simp only [lenE]; done) | (simp only [lenE]; omega) | rfl | (simp only [lenE, markR_len]; done) | (simp only [lenE, markR_len]; omega)) only [runE, mapE, listE, initT_5, initT_6, initT_7, initT_8, resV, oneV, binA, unA, reduceCtorEq, Nat.reduceEqDiff, Nat.reduceAdd, Nat.reduceLT, Nat.reduceLeDiff, Nat.reduceMul, Nat.reduceSub, ↓reduceIte, decide_true, decide_false, Bool.true_eq_false, Bool.false_eq_true, Bool.not_true, Bool.not_false, if_true, if_false, and_true, true_and, memE, celE, w64, Nat.zero_add, Nat.add_zero, Nat.mul_one, putL, and_self, ldn, ext_2_0, ext_2_1, ext_4_0, ext_4_1, ext_4_2, ext_4_3, beq_self_eq_true, bne_self_eq_false, List.append_nil, X0.ld4, Vw.ld4, Z0.ld4, Vg.ld4, Vh.ld4]
  refine callH_rc (heldCase_rc _ _ 0 0 0 0 1 ⟨_, _, _, _, rfl, IntsA.nil _, IntsA.nil _, IntsA.nil _, IntsA.nil _⟩ (by omega) (by omega) (by omega) (by omega) (by omega) (by omega)) ?_
  rintro r new ⟨rfl, nrn⟩
  obtain ⟨M21, hM21⟩ : ∃ M', M' = M20 ++ new := ⟨_, rfl⟩
  rw [← hM21]
  have LM21 : M21.length = M20.length + new.length := by rw [hM21, List.length_append]
  replace A00 : RowA M21 a00 k0.need := by rw [hM21]; exact A00.ext _
  replace A01 : RowA M21 a01 k0.setup := by rw [hM21]; exact A01.ext _
  replace A02 : RowA M21 a02 k0.unit := by rw [hM21]; exact A02.ext _
  replace A03 : RowA M21 a03 k0.hold := by rw [hM21]; exact A03.ext _
  replace X0 : BoxA M21 M0.length [.slice (some ⟨a00, 0, none⟩) k0.need.length 0, .slice (some ⟨a01, 0, none⟩) k0.setup.length 0, .slice (some ⟨a02, 0, none⟩) k0.unit.length 0, .slice (some ⟨a03, 0, none⟩) k0.hold.length 0] := by rw [hM21]; exact X0.ext _
  replace Vw : BoxA M21 M4.length [.slice none 0 0, .slice none 0 0, .slice none 0 0, .slice none 0 0] := by rw [hM21]; exact Vw.ext _
  replace Z0 : BoxA M21 M6.length [.slice (some ⟨M5.length + 3, 0, none⟩) k0.need.length 1, .slice (some ⟨M5.length + 4, 0, none⟩) k0.setup.length 1, .slice (some ⟨M5.length + 5, 0, none⟩) k0.unit.length 1, .slice (some ⟨M5.length + 6, 0, none⟩) k0.hold.length 1] := by rw [hM21]; exact Z0.ext _
  replace Vg : BoxA M21 M8.length [.slice none 0 0, .slice none 0 0, .slice none 0 0, .slice none 0 0] := by rw [hM21]; exact Vg.ext _
  replace Vh : BoxA M21 M18.length [.slice none 0 0, .slice none 0 0, .slice none 0 0, .slice none 0 0] := by rw [hM21]; exact Vh.ext _
  clear nrn
  try simp (config := {implicitDefEqProofs := false, maxDischargeDepth := 20}) (disch := first | omega | (simp only [lenE]; done) | (simp only [lenE]; omega) | rfl | (simp only [lenE, markR_len]; done) | (simp only [lenE, markR_len]; omega)) only [runE, mapE, listE, initT_5, initT_6, initT_7, initT_8, resV, oneV, binA, unA, reduceCtorEq, Nat.reduceEqDiff, Nat.reduceAdd, Nat.reduceLT, Nat.reduceLeDiff, Nat.reduceMul, Nat.reduceSub, ↓reduceIte, decide_true, decide_false, Bool.true_eq_false, Bool.false_eq_true, Bool.not_true, Bool.not_false, if_true, if_false, and_true, true_and, memE, celE, w64, Nat.zero_add, Nat.add_zero, Nat.mul_one, putL, and_self, ldn, ext_2_0, ext_2_1, ext_4_0, ext_4_1, ext_4_2, ext_4_3, beq_self_eq_true, bne_self_eq_false, List.append_nil, show ¬ ((1 : Int) + ((0 : Nat) : Int) + ((0 : Nat) : Int) + ((0 : Nat) : Int) + ((0 : Nat) : Int) < 0) by decide, X0.ld4, Vw.ld4, Z0.ld4, Vg.ld4, Vh.ld4]

theorem law_FnExactCutCase (M0 : Mem) (k0 : Cs) (a00 a01 a02 a03 : Nat) (x1 : Int) (x2 : Int) (A00 : RowA M0 a00 k0.need) (A01 : RowA M0 a01 k0.setup) (A02 : RowA M0 a02 k0.unit) (A03 : RowA M0 a03 k0.hold) :
    AC Try.prog 4 [.agg #[.slice (some ⟨a00, 0, none⟩) k0.need.length 0, .slice (some ⟨a01, 0, none⟩) k0.setup.length 0, .slice (some ⟨a02, 0, none⟩) k0.unit.length 0, .slice (some ⟨a03, 0, none⟩) k0.hold.length 0], .int .i64 x1, .int .i64 x2] M0 fun r _ => r = .bool true := by
  cases hok : cutOk k0 x1 x2 with
  | true => exact law_FnExactCutCase_yes M0 k0 _ _ _ _ x1 x2 A00 A01 A02 A03 hok
  | false => exact law_FnExactCutCase_no M0 k0 _ _ _ _ x1 x2 A00 A01 A02 A03 hok
end Go.Proofs.Ytbiipjdhabbleaa.Ab
