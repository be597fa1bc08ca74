/- FnExactBestPeriods: its running over abstract memory. -/
import Derived.Test.YtonpeflncnccdaaAbBestP
import Derived.Test.YtonpeflncnccdaaAbWalk
import Derived.Test.YtonpeflncnccdaaCodLBestPeriods
namespace Go.Proofs.Ytonpeflncnccdaa.Ab
open Go Go.RowKit
set_option linter.unusedVariables false
set_option linter.unusedSimpArgs false
set_option maxRecDepth 100000

set_option maxHeartbeats 4000000 in
theorem law_FnExactBestPeriods (M0 : Mem) (k0 : Cs) (a00 a01 a02 a03 : Nat) (A00 : RowA M0 a00 k0.need) (A01 : RowA M0 a01 k0.setup) (A02 : RowA M0 a02 k0.unit) (A03 : RowA M0 a03 k0.hold) :
    AC Try.prog 4 [.agg #[.slice (some ⟨a00, 0, none⟩) k0.need.length 0, .slice (some ⟨a01, 0, none⟩) k0.setup.length 0, .slice (some ⟨a02, 0, none⟩) k0.unit.length 0, .slice (some ⟨a03, 0, none⟩) k0.hold.length 0]] M0 fun r _ => r = .bool true := by
  refine ac_of_run mixed ok_laws_FnExactBestPeriods (by simp) (go_start _ _ _ ?_)
  have B00 := A00.lt
  have B01 := A01.lt
  have B02 := A02.lt
  have B03 := A03.lt
  try simp (config := {implicitDefEqProofs := false, maxDischargeDepth := 20}) (disch := first | omega | (simp only [lenE]; done) | (simp only [lenE]; omega) | rfl | (simp only [lenE, markR_len]; done) | (simp only [lenE, markR_len]; omega)) only [runE, mapE, listE, initT_5, initT_6, initT_7, initT_8, resV, oneV, binA, unA, reduceCtorEq, Nat.reduceEqDiff, Nat.reduceAdd, Nat.reduceLT, Nat.reduceLeDiff, Nat.reduceMul, Nat.reduceSub, ↓reduceIte, decide_true, decide_false, Bool.true_eq_false, Bool.false_eq_true, Bool.not_true, Bool.not_false, if_true, if_false, and_true, true_and, memE, celE, w64, Nat.zero_add, Nat.add_zero, Nat.mul_one, putL, and_self, ldn, c_laws_FnExactBestPeriods, r_laws_FnExactBestPeriods, ext_2_0, ext_2_1, ext_4_0, ext_4_1, ext_4_2, ext_4_3, gt_iff_lt, beq_self_eq_true, bne_self_eq_false]
  obtain ⟨M1, hM1⟩ : ∃ M', M' = M0 ++ [⟨.own, 24, [.slice (some ⟨a00, 0, none⟩) k0.need.length 0, .slice (some ⟨a01, 0, none⟩) k0.setup.length 0, .slice (some ⟨a02, 0, none⟩) k0.unit.length 0, .slice (some ⟨a03, 0, none⟩) k0.hold.length 0]⟩] := ⟨_, rfl⟩
  rw [← hM1]
  have LM1 : M1.length = M0.length + 1 := by rw [hM1, List.length_append]; rfl
  replace A00 : RowA M1 a00 k0.need := by rw [hM1]; exact A00.ext _
  replace A01 : RowA M1 a01 k0.setup := by rw [hM1]; exact A01.ext _
  replace A02 : RowA M1 a02 k0.unit := by rw [hM1]; exact A02.ext _
  replace A03 : RowA M1 a03 k0.hold := by rw [hM1]; exact A03.ext _
  have X0 : BoxA M1 M0.length [.slice (some ⟨a00, 0, none⟩) k0.need.length 0, .slice (some ⟨a01, 0, none⟩) k0.setup.length 0, .slice (some ⟨a02, 0, none⟩) k0.unit.length 0, .slice (some ⟨a03, 0, none⟩) k0.hold.length 0] := by rw [hM1]; exact BoxA.here _ _ _ rfl
  refine callH_rc (szCase_rc _ _ k0 (CaseA.rows A00 A01 A02 A03)) ?_
  rintro r new ⟨nrn, rfl | ⟨xz, xz0, xz1, rfl, hs0⟩⟩
  · simp (config := {implicitDefEqProofs := false, maxDischargeDepth := 20}) (disch := first | omega | (simp only [lenE]; done) | (simp only [lenE]; omega) | rfl | (simp only [lenE, markR_len]; done) | (simp only [lenE, markR_len]; omega)) only [runE, mapE, listE, initT_5, initT_6, initT_7, initT_8, resV, oneV, binA, unA, reduceCtorEq, Nat.reduceEqDiff, Nat.reduceAdd, Nat.reduceLT, Nat.reduceLeDiff, Nat.reduceMul, Nat.reduceSub, ↓reduceIte, decide_true, decide_false, Bool.true_eq_false, Bool.false_eq_true, Bool.not_true, Bool.not_false, if_true, if_false, and_true, true_and, memE, celE, w64, Nat.zero_add, Nat.add_zero, Nat.mul_one, putL, and_self, ldn, show ((-1 : Int) < 0) = True by simp]
  have xz' : ¬ (xz < 0) := by omega
  obtain ⟨M2, hM2⟩ : ∃ M', M' = M1 ++ new := ⟨_, rfl⟩
  rw [← hM2]
  have LM2 : M2.length = M1.length + new.length := by rw [hM2, List.length_append]
  replace A00 : RowA M2 a00 k0.need := by rw [hM2]; exact A00.ext _
  replace A01 : RowA M2 a01 k0.setup := by rw [hM2]; exact A01.ext _
  replace A02 : RowA M2 a02 k0.unit := by rw [hM2]; exact A02.ext _
  replace A03 : RowA M2 a03 k0.hold := by rw [hM2]; exact A03.ext _
  replace X0 : BoxA M2 M0.length [.slice (some ⟨a00, 0, none⟩) k0.need.length 0, .slice (some ⟨a01, 0, none⟩) k0.setup.length 0, .slice (some ⟨a02, 0, none⟩) k0.unit.length 0, .slice (some ⟨a03, 0, none⟩) k0.hold.length 0] := by rw [hM2]; exact X0.ext _
  clear nrn
  try simp (config := {implicitDefEqProofs := false, maxDischargeDepth := 20}) (disch := first | omega | (simp only [lenE]; done) | (simp only [lenE]; omega) | rfl | (simp only [lenE, markR_len]; done) | (simp only [lenE, markR_len]; omega)) only [runE, mapE, listE, initT_5, initT_6, initT_7, initT_8, resV, oneV, binA, unA, reduceCtorEq, Nat.reduceEqDiff, Nat.reduceAdd, Nat.reduceLT, Nat.reduceLeDiff, Nat.reduceMul, Nat.reduceSub, ↓reduceIte, decide_true, decide_false, Bool.true_eq_false, Bool.false_eq_true, Bool.not_true, Bool.not_false, if_true, if_false, and_true, true_and, memE, celE, w64, Nat.zero_add, Nat.add_zero, Nat.mul_one, putL, and_self, ldn, xz', X0.ld4]
  have tb0 := Cs.tot_bd hs0
  have sm0 := hs0
  unfold Cs.small at sm0
  obtain ⟨W, hW⟩ : ∃ W, W = bestPA k0 := ⟨_, rfl⟩
  obtain ⟨okW, hokW⟩ : ∃ b, b = k0.good := ⟨_, rfl⟩
  have SPC := fun m u0 => specBestPeriods_rc m u0 k0
  have IMP := fun m u0 => implBestPeriods_rc m u0 k0
  rw [← hW, ← hokW] at SPC IMP
  refine callH_rc (toCase_rc _ _ k0 (CaseA.rows A00 A01 A02 A03) hs0) ?_
  rintro r new ⟨rfl, c0, c1, c2, rfl, kc0, kc1, kc2⟩
  obtain ⟨M3, hM3⟩ : ∃ M', M' = M2 ++ [c0, c1, c2, rowB k0.need, rowB k0.setup, rowB k0.unit, rowB k0.hold] := ⟨_, rfl⟩
  rw [← hM3]
  have LM3 : M3.length = M2.length + 7 := by rw [hM3, List.length_append]; rfl
  replace A00 : RowA M3 a00 k0.need := by rw [hM3]; exact A00.ext _
  replace A01 : RowA M3 a01 k0.setup := by rw [hM3]; exact A01.ext _
  replace A02 : RowA M3 a02 k0.unit := by rw [hM3]; exact A02.ext _
  replace A03 : RowA M3 a03 k0.hold := by rw [hM3]; exact A03.ext _
  replace X0 : BoxA M3 M0.length [.slice (some ⟨a00, 0, none⟩) k0.need.length 0, .slice (some ⟨a01, 0, none⟩) k0.setup.length 0, .slice (some ⟨a02, 0, none⟩) k0.unit.length 0, .slice (some ⟨a03, 0, none⟩) k0.hold.length 0] := by rw [hM3]; exact X0.ext _
  have S00 : OwnR M3 (M2.length + 3) k0.need := by rw [hM3]; exact OwnR.new (i := 3) (by rfl) rfl
  have S01 : OwnR M3 (M2.length + 4) k0.setup := by rw [hM3]; exact OwnR.new (i := 4) (by rfl) rfl
  have S02 : OwnR M3 (M2.length + 5) k0.unit := by rw [hM3]; exact OwnR.new (i := 5) (by rfl) rfl
  have S03 : OwnR M3 (M2.length + 6) k0.hold := by rw [hM3]; exact OwnR.new (i := 6) (by rfl) rfl
  clear kc0 kc1 kc2
  try simp (config := {implicitDefEqProofs := false, maxDischargeDepth := 20}) (disch := first | omega | (simp only [lenE]; done) | (simp only [lenE]; omega) | rfl | (simp only [lenE, markR_len]; done) | (simp only [lenE, markR_len]; omega)) only [runE, mapE, listE, initT_5, initT_6, initT_7, initT_8, resV, oneV, binA, unA, reduceCtorEq, Nat.reduceEqDiff, Nat.reduceAdd, Nat.reduceLT, Nat.reduceLeDiff, Nat.reduceMul, Nat.reduceSub, ↓reduceIte, decide_true, decide_false, Bool.true_eq_false, Bool.false_eq_true, Bool.not_true, Bool.not_false, if_true, if_false, and_true, true_and, memE, celE, w64, Nat.zero_add, Nat.add_zero, Nat.mul_one, putL, and_self, ldn, X0.ld4]
  refine callH_rc (SPC _ _ (CaseA.rows (S00.row (by omega)) (S01.row (by omega)) (S02.row (by omega)) (S03.row (by omega)))) ?_
  rintro r new ⟨nrn, hlw, iw, fw, rfl, hiw⟩
  obtain ⟨M4, hM4⟩ : ∃ M', M' = M3 ++ new := ⟨_, rfl⟩
  rw [← hM4]
  have LM4 : M4.length = M3.length + new.length := by rw [hM4, List.length_append]
  replace A00 : RowA M4 a00 k0.need := by rw [hM4]; exact A00.ext _
  replace A01 : RowA M4 a01 k0.setup := by rw [hM4]; exact A01.ext _
  replace A02 : RowA M4 a02 k0.unit := by rw [hM4]; exact A02.ext _
  replace A03 : RowA M4 a03 k0.hold := by rw [hM4]; exact A03.ext _
  replace X0 : BoxA M4 M0.length [.slice (some ⟨a00, 0, none⟩) k0.need.length 0, .slice (some ⟨a01, 0, none⟩) k0.setup.length 0, .slice (some ⟨a02, 0, none⟩) k0.unit.length 0, .slice (some ⟨a03, 0, none⟩) k0.hold.length 0] := by rw [hM4]; exact X0.ext _
  replace S00 : OwnR M4 (M2.length + 3) k0.need := by rw [hM4]; exact S00.ext _
  replace S01 : OwnR M4 (M2.length + 4) k0.setup := by rw [hM4]; exact S01.ext _
  replace S02 : OwnR M4 (M2.length + 5) k0.unit := by rw [hM4]; exact S02.ext _
  replace S03 : OwnR M4 (M2.length + 6) k0.hold := by rw [hM4]; exact S03.ext _
  have w : OwnR M4 (M3.length + iw) W := by rw [hM4]; exact OwnR.new hiw rfl
  clear nrn hiw
  have ltw := w.lt
  clear S00
  clear S01
  clear S02
  clear S03
  try simp (config := {implicitDefEqProofs := false, maxDischargeDepth := 20}) (disch := first | omega | (simp only [lenE]; done) | (simp only [lenE]; omega) | rfl | (simp only [lenE, markR_len]; done) | (simp only [lenE, markR_len]; omega)) only [runE, mapE, listE, initT_5, initT_6, initT_7, initT_8, resV, oneV, binA, unA, reduceCtorEq, Nat.reduceEqDiff, Nat.reduceAdd, Nat.reduceLT, Nat.reduceLeDiff, Nat.reduceMul, Nat.reduceSub, ↓reduceIte, decide_true, decide_false, Bool.true_eq_false, Bool.false_eq_true, Bool.not_true, Bool.not_false, if_true, if_false, and_true, true_and, memE, celE, w64, Nat.zero_add, Nat.add_zero, Nat.mul_one, putL, and_self, ldn, ext_2_0, ext_2_1, ext_4_0, ext_4_1, ext_4_2, ext_4_3, beq_self_eq_true, bne_self_eq_false, X0.ld4]
  refine callH_rc (toCase_rc _ _ k0 (CaseA.rows A00 A01 A02 A03) hs0) ?_
  rintro r new ⟨rfl, c0, c1, c2, rfl, kc0, kc1, kc2⟩
  obtain ⟨M5, hM5⟩ : ∃ M', M' = M4 ++ [c0, c1, c2, rowB k0.need, rowB k0.setup, rowB k0.unit, rowB k0.hold] := ⟨_, rfl⟩
  rw [← hM5]
  have LM5 : M5.length = M4.length + 7 := by rw [hM5, List.length_append]; rfl
  replace A00 : RowA M5 a00 k0.need := by rw [hM5]; exact A00.ext _
  replace A01 : RowA M5 a01 k0.setup := by rw [hM5]; exact A01.ext _
  replace A02 : RowA M5 a02 k0.unit := by rw [hM5]; exact A02.ext _
  replace A03 : RowA M5 a03 k0.hold := by rw [hM5]; exact A03.ext _
  replace X0 : BoxA M5 M0.length [.slice (some ⟨a00, 0, none⟩) k0.need.length 0, .slice (some ⟨a01, 0, none⟩) k0.setup.length 0, .slice (some ⟨a02, 0, none⟩) k0.unit.length 0, .slice (some ⟨a03, 0, none⟩) k0.hold.length 0] := by rw [hM5]; exact X0.ext _
  replace w : OwnR M5 (M3.length + iw) W := by rw [hM5]; exact w.ext _
  have Y00 : OwnR M5 (M4.length + 3) k0.need := by rw [hM5]; exact OwnR.new (i := 3) (by rfl) rfl
  have Y01 : OwnR M5 (M4.length + 4) k0.setup := by rw [hM5]; exact OwnR.new (i := 4) (by rfl) rfl
  have Y02 : OwnR M5 (M4.length + 5) k0.unit := by rw [hM5]; exact OwnR.new (i := 5) (by rfl) rfl
  have Y03 : OwnR M5 (M4.length + 6) k0.hold := by rw [hM5]; exact OwnR.new (i := 6) (by rfl) rfl
  clear kc0 kc1 kc2
  try simp (config := {implicitDefEqProofs := false, maxDischargeDepth := 20}) (disch := first | omega | (simp only [lenE]; done) | (simp only [lenE]; omega) | rfl | (simp only [lenE, markR_len]; done) | (simp only [lenE, markR_len]; omega)) only [runE, mapE, listE, initT_5, initT_6, initT_7, initT_8, resV, oneV, binA, unA, reduceCtorEq, Nat.reduceEqDiff, Nat.reduceAdd, Nat.reduceLT, Nat.reduceLeDiff, Nat.reduceMul, Nat.reduceSub, ↓reduceIte, decide_true, decide_false, Bool.true_eq_false, Bool.false_eq_true, Bool.not_true, Bool.not_false, if_true, if_false, and_true, true_and, memE, celE, w64, Nat.zero_add, Nat.add_zero, Nat.mul_one, putL, and_self, ldn, ext_2_0, ext_2_1, ext_4_0, ext_4_1, ext_4_2, ext_4_3, beq_self_eq_true, bne_self_eq_false]
  obtain ⟨M6, hM6⟩ : ∃ M', M' = M5 ++ [⟨.own, 28, [.slice (some ⟨M4.length + 3, 0, none⟩) k0.need.length 1, .slice (some ⟨M4.length + 4, 0, none⟩) k0.setup.length 1, .slice (some ⟨M4.length + 5, 0, none⟩) k0.unit.length 1, .slice (some ⟨M4.length + 6, 0, none⟩) k0.hold.length 1]⟩] := ⟨_, rfl⟩
  rw [← hM6]
  have LM6 : M6.length = M5.length + 1 := by rw [hM6, List.length_append]; rfl
  replace A00 : RowA M6 a00 k0.need := by rw [hM6]; exact A00.ext _
  replace A01 : RowA M6 a01 k0.setup := by rw [hM6]; exact A01.ext _
  replace A02 : RowA M6 a02 k0.unit := by rw [hM6]; exact A02.ext _
  replace A03 : RowA M6 a03 k0.hold := by rw [hM6]; exact A03.ext _
  replace X0 : BoxA M6 M0.length [.slice (some ⟨a00, 0, none⟩) k0.need.length 0, .slice (some ⟨a01, 0, none⟩) k0.setup.length 0, .slice (some ⟨a02, 0, none⟩) k0.unit.length 0, .slice (some ⟨a03, 0, none⟩) k0.hold.length 0] := by rw [hM6]; exact X0.ext _
  replace w : OwnR M6 (M3.length + iw) W := by rw [hM6]; exact w.ext _
  replace Y00 : OwnR M6 (M4.length + 3) k0.need := by rw [hM6]; exact Y00.ext _
  replace Y01 : OwnR M6 (M4.length + 4) k0.setup := by rw [hM6]; exact Y01.ext _
  replace Y02 : OwnR M6 (M4.length + 5) k0.unit := by rw [hM6]; exact Y02.ext _
  replace Y03 : OwnR M6 (M4.length + 6) k0.hold := by rw [hM6]; exact Y03.ext _
  have Z0 : BoxA M6 M5.length [.slice (some ⟨M4.length + 3, 0, none⟩) k0.need.length 1, .slice (some ⟨M4.length + 4, 0, none⟩) k0.setup.length 1, .slice (some ⟨M4.length + 5, 0, none⟩) k0.unit.length 1, .slice (some ⟨M4.length + 6, 0, none⟩) k0.hold.length 1] := by rw [hM6]; exact BoxA.here _ _ _ rfl
  try simp (config := {implicitDefEqProofs := false, maxDischargeDepth := 20}) (disch := first | omega | (simp only [lenE]; done) | (simp only [lenE]; omega) | rfl | (simp only [lenE, markR_len]; done) | (simp only [lenE, markR_len]; omega)) only [runE, mapE, listE, initT_5, initT_6, initT_7, initT_8, resV, oneV, binA, unA, reduceCtorEq, Nat.reduceEqDiff, Nat.reduceAdd, Nat.reduceLT, Nat.reduceLeDiff, Nat.reduceMul, Nat.reduceSub, ↓reduceIte, decide_true, decide_false, Bool.true_eq_false, Bool.false_eq_true, Bool.not_true, Bool.not_false, if_true, if_false, and_true, true_and, memE, celE, w64, Nat.zero_add, Nat.add_zero, Nat.mul_one, putL, and_self, ldn, ext_2_0, ext_2_1, ext_4_0, ext_4_1, ext_4_2, ext_4_3, beq_self_eq_true, bne_self_eq_false, X0.ld4, Z0.ld4]
  refine callH_rc (IMP _ _ (CaseA.rows (Y00.row (by omega)) (Y01.row (by omega)) (Y02.row (by omega)) (Y03.row (by omega)))) ?_
  rintro r new ⟨nrn, hlg, ig, fg, rfl, hig⟩
  obtain ⟨M7, hM7⟩ : ∃ M', M' = M6 ++ new := ⟨_, rfl⟩
  rw [← hM7]
  have LM7 : M7.length = M6.length + new.length := by rw [hM7, List.length_append]
  replace A00 : RowA M7 a00 k0.need := by rw [hM7]; exact A00.ext _
  replace A01 : RowA M7 a01 k0.setup := by rw [hM7]; exact A01.ext _
  replace A02 : RowA M7 a02 k0.unit := by rw [hM7]; exact A02.ext _
  replace A03 : RowA M7 a03 k0.hold := by rw [hM7]; exact A03.ext _
  replace X0 : BoxA M7 M0.length [.slice (some ⟨a00, 0, none⟩) k0.need.length 0, .slice (some ⟨a01, 0, none⟩) k0.setup.length 0, .slice (some ⟨a02, 0, none⟩) k0.unit.length 0, .slice (some ⟨a03, 0, none⟩) k0.hold.length 0] := by rw [hM7]; exact X0.ext _
  replace w : OwnR M7 (M3.length + iw) W := by rw [hM7]; exact w.ext _
  replace Y00 : OwnR M7 (M4.length + 3) k0.need := by rw [hM7]; exact Y00.ext _
  replace Y01 : OwnR M7 (M4.length + 4) k0.setup := by rw [hM7]; exact Y01.ext _
  replace Y02 : OwnR M7 (M4.length + 5) k0.unit := by rw [hM7]; exact Y02.ext _
  replace Y03 : OwnR M7 (M4.length + 6) k0.hold := by rw [hM7]; exact Y03.ext _
  replace Z0 : BoxA M7 M5.length [.slice (some ⟨M4.length + 3, 0, none⟩) k0.need.length 1, .slice (some ⟨M4.length + 4, 0, none⟩) k0.setup.length 1, .slice (some ⟨M4.length + 5, 0, none⟩) k0.unit.length 1, .slice (some ⟨M4.length + 6, 0, none⟩) k0.hold.length 1] := by rw [hM7]; exact Z0.ext _
  have g : OwnR M7 (M6.length + ig) W := by rw [hM7]; exact OwnR.new hig rfl
  clear nrn hig
  have ltg := g.lt
  try simp (config := {implicitDefEqProofs := false, maxDischargeDepth := 20}) (disch := first | omega | (simp only [lenE]; done) | (simp only [lenE]; omega) | rfl | (simp only [lenE, markR_len]; done) | (simp only [lenE, markR_len]; omega)) only [runE, mapE, listE, initT_5, initT_6, initT_7, initT_8, resV, oneV, binA, unA, reduceCtorEq, Nat.reduceEqDiff, Nat.reduceAdd, Nat.reduceLT, Nat.reduceLeDiff, Nat.reduceMul, Nat.reduceSub, ↓reduceIte, decide_true, decide_false, Bool.true_eq_false, Bool.false_eq_true, Bool.not_true, Bool.not_false, if_true, if_false, and_true, true_and, memE, celE, w64, Nat.zero_add, Nat.add_zero, Nat.mul_one, putL, and_self, ldn, ext_2_0, ext_2_1, ext_4_0, ext_4_1, ext_4_2, ext_4_3, beq_self_eq_true, bne_self_eq_false, X0.ld4, Z0.ld4]
  refine callH_rc (eqIntS_rc _ _ _ W ((g.row (by omega)).ints _) ((w.row (by omega)).ints _)) ?_
  rintro r new ⟨rfl, rfl⟩
  rw [List.append_nil]
  try simp (config := {implicitDefEqProofs := false, maxDischargeDepth := 20}) (disch := first | omega | (simp only [lenE]; done) | (simp only [lenE]; omega) | rfl | (simp only [lenE, markR_len]; done) | (simp only [lenE, markR_len]; omega)) only [runE, mapE, listE, initT_5, initT_6, initT_7, initT_8, resV, oneV, binA, unA, reduceCtorEq, Nat.reduceEqDiff, Nat.reduceAdd, Nat.reduceLT, Nat.reduceLeDiff, Nat.reduceMul, Nat.reduceSub, ↓reduceIte, decide_true, decide_false, Bool.true_eq_false, Bool.false_eq_true, Bool.not_true, Bool.not_false, if_true, if_false, and_true, true_and, memE, celE, w64, Nat.zero_add, Nat.add_zero, Nat.mul_one, putL, and_self, ldn, ext_2_0, ext_2_1, ext_4_0, ext_4_1, ext_4_2, ext_4_3, beq_self_eq_true, bne_self_eq_false, List.append_nil, X0.ld4, Z0.ld4]
  refine rcallH_rc (toCase_rc _ _ k0 (CaseA.rows A00 A01 A02 A03) hs0) ?_
  rintro r new ⟨rfl, c0, c1, c2, rfl, kc0, kc1, kc2⟩
  obtain ⟨M8, hM8⟩ : ∃ M', M' = M7 ++ [c0, c1, c2, rowB k0.need, rowB k0.setup, rowB k0.unit, rowB k0.hold] := ⟨_, rfl⟩
  rw [← hM8]
  have LM8 : M8.length = M7.length + 7 := by rw [hM8, List.length_append]; rfl
  replace A00 : RowA M8 a00 k0.need := by rw [hM8]; exact A00.ext _
  replace A01 : RowA M8 a01 k0.setup := by rw [hM8]; exact A01.ext _
  replace A02 : RowA M8 a02 k0.unit := by rw [hM8]; exact A02.ext _
  replace A03 : RowA M8 a03 k0.hold := by rw [hM8]; exact A03.ext _
  replace X0 : BoxA M8 M0.length [.slice (some ⟨a00, 0, none⟩) k0.need.length 0, .slice (some ⟨a01, 0, none⟩) k0.setup.length 0, .slice (some ⟨a02, 0, none⟩) k0.unit.length 0, .slice (some ⟨a03, 0, none⟩) k0.hold.length 0] := by rw [hM8]; exact X0.ext _
  replace w : OwnR M8 (M3.length + iw) W := by rw [hM8]; exact w.ext _
  replace Y00 : OwnR M8 (M4.length + 3) k0.need := by rw [hM8]; exact Y00.ext _
  replace Y01 : OwnR M8 (M4.length + 4) k0.setup := by rw [hM8]; exact Y01.ext _
  replace Y02 : OwnR M8 (M4.length + 5) k0.unit := by rw [hM8]; exact Y02.ext _
  replace Y03 : OwnR M8 (M4.length + 6) k0.hold := by rw [hM8]; exact Y03.ext _
  replace Z0 : BoxA M8 M5.length [.slice (some ⟨M4.length + 3, 0, none⟩) k0.need.length 1, .slice (some ⟨M4.length + 4, 0, none⟩) k0.setup.length 1, .slice (some ⟨M4.length + 5, 0, none⟩) k0.unit.length 1, .slice (some ⟨M4.length + 6, 0, none⟩) k0.hold.length 1] := by rw [hM8]; exact Z0.ext _
  replace g : OwnR M8 (M6.length + ig) W := by rw [hM8]; exact g.ext _
  have T00 : OwnR M8 (M7.length + 3) k0.need := by rw [hM8]; exact OwnR.new (i := 3) (by rfl) rfl
  have T01 : OwnR M8 (M7.length + 4) k0.setup := by rw [hM8]; exact OwnR.new (i := 4) (by rfl) rfl
  have T02 : OwnR M8 (M7.length + 5) k0.unit := by rw [hM8]; exact OwnR.new (i := 5) (by rfl) rfl
  have T03 : OwnR M8 (M7.length + 6) k0.hold := by rw [hM8]; exact OwnR.new (i := 6) (by rfl) rfl
  clear kc0 kc1 kc2
  try simp (config := {implicitDefEqProofs := false, maxDischargeDepth := 20}) (disch := first | omega | (simp only [lenE]; done) | (simp only [lenE]; omega) | rfl | (simp only [lenE, markR_len]; done) | (simp only [lenE, markR_len]; omega)) only [runE, mapE, listE, initT_5, initT_6, initT_7, initT_8, resV, oneV, binA, unA, reduceCtorEq, Nat.reduceEqDiff, Nat.reduceAdd, Nat.reduceLT, Nat.reduceLeDiff, Nat.reduceMul, Nat.reduceSub, ↓reduceIte, decide_true, decide_false, Bool.true_eq_false, Bool.false_eq_true, Bool.not_true, Bool.not_false, if_true, if_false, and_true, true_and, memE, celE, w64, Nat.zero_add, Nat.add_zero, Nat.mul_one, putL, and_self, ldn, ext_2_0, ext_2_1, ext_4_0, ext_4_1, ext_4_2, ext_4_3, beq_self_eq_true, bne_self_eq_false, X0.ld4, Z0.ld4]
  refine rcallH_rc (eqCase_rc _ _ _ k0 (CaseA.rows (Y00.row (by omega)) (Y01.row (by omega)) (Y02.row (by omega)) (Y03.row (by omega))) (CaseA.rows (T00.row (by omega)) (T01.row (by omega)) (T02.row (by omega)) (T03.row (by omega)))) ?_
  rintro r new ⟨rfl, nrn⟩
  obtain ⟨M9, hM9⟩ : ∃ M', M' = M8 ++ new := ⟨_, rfl⟩
  rw [← hM9]
  have LM9 : M9.length = M8.length + new.length := by rw [hM9, List.length_append]
  replace A00 : RowA M9 a00 k0.need := by rw [hM9]; exact A00.ext _
  replace A01 : RowA M9 a01 k0.setup := by rw [hM9]; exact A01.ext _
  replace A02 : RowA M9 a02 k0.unit := by rw [hM9]; exact A02.ext _
  replace A03 : RowA M9 a03 k0.hold := by rw [hM9]; exact A03.ext _
  replace X0 : BoxA M9 M0.length [.slice (some ⟨a00, 0, none⟩) k0.need.length 0, .slice (some ⟨a01, 0, none⟩) k0.setup.length 0, .slice (some ⟨a02, 0, none⟩) k0.unit.length 0, .slice (some ⟨a03, 0, none⟩) k0.hold.length 0] := by rw [hM9]; exact X0.ext _
  replace w : OwnR M9 (M3.length + iw) W := by rw [hM9]; exact w.ext _
  replace Y00 : OwnR M9 (M4.length + 3) k0.need := by rw [hM9]; exact Y00.ext _
  replace Y01 : OwnR M9 (M4.length + 4) k0.setup := by rw [hM9]; exact Y01.ext _
  replace Y02 : OwnR M9 (M4.length + 5) k0.unit := by rw [hM9]; exact Y02.ext _
  replace Y03 : OwnR M9 (M4.length + 6) k0.hold := by rw [hM9]; exact Y03.ext _
  replace Z0 : BoxA M9 M5.length [.slice (some ⟨M4.length + 3, 0, none⟩) k0.need.length 1, .slice (some ⟨M4.length + 4, 0, none⟩) k0.setup.length 1, .slice (some ⟨M4.length + 5, 0, none⟩) k0.unit.length 1, .slice (some ⟨M4.length + 6, 0, none⟩) k0.hold.length 1] := by rw [hM9]; exact Z0.ext _
  replace g : OwnR M9 (M6.length + ig) W := by rw [hM9]; exact g.ext _
  clear nrn T00 T01 T02 T03
  try simp (config := {implicitDefEqProofs := false, maxDischargeDepth := 20}) (disch := first | omega | (simp only [lenE]; done) | (simp only [lenE]; omega) | rfl | (simp only [lenE, markR_len]; done) | (simp only [lenE, markR_len]; omega)) only [runE, mapE, listE, initT_5, initT_6, initT_7, initT_8, resV, oneV, binA, unA, reduceCtorEq, Nat.reduceEqDiff, Nat.reduceAdd, Nat.reduceLT, Nat.reduceLeDiff, Nat.reduceMul, Nat.reduceSub, ↓reduceIte, decide_true, decide_false, Bool.true_eq_false, Bool.false_eq_true, Bool.not_true, Bool.not_false, if_true, if_false, and_true, true_and, memE, celE, w64, Nat.zero_add, Nat.add_zero, Nat.mul_one, putL, and_self, ldn, ext_2_0, ext_2_1, ext_4_0, ext_4_1, ext_4_2, ext_4_3, beq_self_eq_true, bne_self_eq_false, X0.ld4, Z0.ld4]
  refine callH_ac (markCase_ac _ (M4.length + 3) (M4.length + 4) (M4.length + 5) (M4.length + 6) _ _ _ _ k0 (1) Y00 Y01 Y02 Y03 (by omega) (by omega) (by omega) (by omega) (by omega) (by omega) (by omega) (by omega) hs0) ?_
  rintro r m' ⟨rfl, cb, rfl⟩
  have y00 := Y00.lt
  have y01 := Y01.lt
  have y02 := Y02.lt
  have y03 := Y03.lt
  obtain ⟨M10, hM10⟩ : ∃ M', M' = markR (markR (markR (markR (M9) (M4.length + 3) (1) k0.need.length) (M4.length + 4) (1 + k0.need.length) k0.setup.length) (M4.length + 5) (1 + k0.need.length + k0.setup.length) k0.unit.length) (M4.length + 6) (1 + k0.need.length + k0.setup.length + k0.unit.length) k0.hold.length ++ [cb] := ⟨_, rfl⟩
  rw [← hM10]
  have LM10 : M10.length = M9.length + 1 := by rw [hM10]; simp [markR_len]
  have NA00 := A00.lt
  have NA01 := A01.lt
  have NA02 := A02.lt
  have NA03 := A03.lt
  have NX0 := X0.lt
  have Nw := w.lt
  have NZ0 := Z0.lt
  have Ng := g.lt
  replace A00 : RowA M10 a00 k0.need := by rw [hM10]; exact ((((A00.other (by omega)).other (by omega)).other (by omega)).other (by omega)).ext _
  replace A01 : RowA M10 a01 k0.setup := by rw [hM10]; exact ((((A01.other (by omega)).other (by omega)).other (by omega)).other (by omega)).ext _
  replace A02 : RowA M10 a02 k0.unit := by rw [hM10]; exact ((((A02.other (by omega)).other (by omega)).other (by omega)).other (by omega)).ext _
  replace A03 : RowA M10 a03 k0.hold := by rw [hM10]; exact ((((A03.other (by omega)).other (by omega)).other (by omega)).other (by omega)).ext _
  replace X0 : BoxA M10 M0.length [.slice (some ⟨a00, 0, none⟩) k0.need.length 0, .slice (some ⟨a01, 0, none⟩) k0.setup.length 0, .slice (some ⟨a02, 0, none⟩) k0.unit.length 0, .slice (some ⟨a03, 0, none⟩) k0.hold.length 0] := by rw [hM10]; exact ((((X0.other (by omega)).other (by omega)).other (by omega)).other (by omega)).ext _
  replace w : OwnR M10 (M3.length + iw) W := by rw [hM10]; exact ((((w.other' (by omega)).other' (by omega)).other' (by omega)).other' (by omega)).ext _
  replace Z0 : BoxA M10 M5.length [.slice (some ⟨M4.length + 3, 0, none⟩) k0.need.length 1, .slice (some ⟨M4.length + 4, 0, none⟩) k0.setup.length 1, .slice (some ⟨M4.length + 5, 0, none⟩) k0.unit.length 1, .slice (some ⟨M4.length + 6, 0, none⟩) k0.hold.length 1] := by rw [hM10]; exact ((((Z0.other (by omega)).other (by omega)).other (by omega)).other (by omega)).ext _
  replace g : OwnR M10 (M6.length + ig) W := by rw [hM10]; exact ((((g.other' (by omega)).other' (by omega)).other' (by omega)).other' (by omega)).ext _
  clear NA00 NA01 NA02 NA03 NX0 Nw NZ0 Ng
  clear Y00 Y01 Y02 Y03
  have kneg : ¬ ((1 + k0.tot : Int) < 0) := by omega
  try simp (config := {implicitDefEqProofs := false, maxDischargeDepth := 20}) (disch := first | omega | (simp only [lenE]; done) | (simp only [lenE]; omega) | rfl | (simp only [lenE, markR_len]; done) | (simp only [lenE, markR_len]; omega)) only [runE, mapE, listE, initT_5, initT_6, initT_7, initT_8, resV, oneV, binA, unA, reduceCtorEq, Nat.reduceEqDiff, Nat.reduceAdd, Nat.reduceLT, Nat.reduceLeDiff, Nat.reduceMul, Nat.reduceSub, ↓reduceIte, decide_true, decide_false, Bool.true_eq_false, Bool.false_eq_true, Bool.not_true, Bool.not_false, if_true, if_false, and_true, true_and, memE, celE, w64, Nat.zero_add, Nat.add_zero, Nat.mul_one, putL, and_self, ldn, ext_2_0, ext_2_1, ext_4_0, ext_4_1, ext_4_2, ext_4_3, beq_self_eq_true, bne_self_eq_false, kneg, X0.ld4, Z0.ld4]
  refine callH_rc (eqIntS_rc _ _ _ W ((g.row (by omega)).ints _) ((w.row (by omega)).ints _)) ?_
  rintro r new ⟨rfl, rfl⟩
  rw [List.append_nil]
  try simp (config := {implicitDefEqProofs := false, maxDischargeDepth := 20}) (disch := first | omega | (simp only [lenE]; done) | (simp only [lenE]; omega) | rfl | (simp only [lenE, markR_len]; done) | (simp only [lenE, markR_len]; omega)) only [runE, mapE, listE, initT_5, initT_6, initT_7, initT_8, resV, oneV, binA, unA, reduceCtorEq, Nat.reduceEqDiff, Nat.reduceAdd, Nat.reduceLT, Nat.reduceLeDiff, Nat.reduceMul, Nat.reduceSub, ↓reduceIte, decide_true, decide_false, Bool.true_eq_false, Bool.false_eq_true, Bool.not_true, Bool.not_false, if_true, if_false, and_true, true_and, memE, celE, w64, Nat.zero_add, Nat.add_zero, Nat.mul_one, putL, and_self, ldn, ext_2_0, ext_2_1, ext_4_0, ext_4_1, ext_4_2, ext_4_3, beq_self_eq_true, bne_self_eq_false, List.append_nil, X0.ld4, Z0.ld4]
  refine callH_ac (markIntS_any _ (M6.length + ig) _ W 1 g (by omega) (by omega) (by omega)) ?_
  rintro r m' ⟨rfl, rfl⟩
  have lg := g.lt
  obtain ⟨M11, hM11⟩ : ∃ M', M' = markR M10 (M6.length + ig) 1 W.length := ⟨_, rfl⟩
  rw [← hM11]
  have LM11 : M11.length = M10.length := by rw [hM11]; simp [markR_len]
  have NA00 := A00.lt
  have NA01 := A01.lt
  have NA02 := A02.lt
  have NA03 := A03.lt
  have NX0 := X0.lt
  have Nw := w.lt
  have NZ0 := Z0.lt
  replace A00 : RowA M11 a00 k0.need := by rw [hM11]; exact A00.other (by omega)
  replace A01 : RowA M11 a01 k0.setup := by rw [hM11]; exact A01.other (by omega)
  replace A02 : RowA M11 a02 k0.unit := by rw [hM11]; exact A02.other (by omega)
  replace A03 : RowA M11 a03 k0.hold := by rw [hM11]; exact A03.other (by omega)
  replace X0 : BoxA M11 M0.length [.slice (some ⟨a00, 0, none⟩) k0.need.length 0, .slice (some ⟨a01, 0, none⟩) k0.setup.length 0, .slice (some ⟨a02, 0, none⟩) k0.unit.length 0, .slice (some ⟨a03, 0, none⟩) k0.hold.length 0] := by rw [hM11]; exact X0.other (by omega)
  replace w : OwnR M11 (M3.length + iw) W := by rw [hM11]; exact w.other' (by omega)
  replace Z0 : BoxA M11 M5.length [.slice (some ⟨M4.length + 3, 0, none⟩) k0.need.length 1, .slice (some ⟨M4.length + 4, 0, none⟩) k0.setup.length 1, .slice (some ⟨M4.length + 5, 0, none⟩) k0.unit.length 1, .slice (some ⟨M4.length + 6, 0, none⟩) k0.hold.length 1] := by rw [hM11]; exact Z0.other (by omega)
  clear NA00 NA01 NA02 NA03 NX0 Nw NZ0
  replace g : OwnR M11 (M6.length + ig) (imarks 1 W.length) := by rw [hM11]; exact OwnR.marked _ _ lg
  have glen := imarks_len 1 W.length
  have hq0 : ¬ (1 + (W.length : Int) < 0) := by omega
  try simp (config := {implicitDefEqProofs := false, maxDischargeDepth := 20}) (disch := first | omega | (simp only [lenE]; done) | (simp only [lenE]; omega) | rfl | (simp only [lenE, markR_len]; done) | (simp only [lenE, markR_len]; omega)) only [runE, mapE, listE, initT_5, initT_6, initT_7, initT_8, resV, oneV, binA, unA, reduceCtorEq, Nat.reduceEqDiff, Nat.reduceAdd, Nat.reduceLT, Nat.reduceLeDiff, Nat.reduceMul, Nat.reduceSub, ↓reduceIte, decide_true, decide_false, Bool.true_eq_false, Bool.false_eq_true, Bool.not_true, Bool.not_false, if_true, if_false, and_true, true_and, memE, celE, w64, Nat.zero_add, Nat.add_zero, Nat.mul_one, putL, and_self, ldn, ext_2_0, ext_2_1, ext_4_0, ext_4_1, ext_4_2, ext_4_3, beq_self_eq_true, bne_self_eq_false, List.append_nil, X0.ld4, Z0.ld4]
  have hg := (g.row (by rw [glen]; omega)).ints fg
  rw [glen] at hg
  refine callH_rc (heldIntS_rc _ _ 1 W.length hg (by omega) (by omega) (by omega)) ?_
  rintro r new ⟨rfl, rfl⟩
  rw [List.append_nil]
  clear hg
  try simp (config := {implicitDefEqProofs := false, maxDischargeDepth := 20}) (disch := first | omega | (simp only [lenE]; done) | (simp only [lenE]; omega) | rfl | (simp only [lenE, markR_len]; done) | (simp only [lenE, markR_len]; omega)) only [runE, mapE, listE, initT_5, initT_6, initT_7, initT_8, resV, oneV, binA, unA, reduceCtorEq, Nat.reduceEqDiff, Nat.reduceAdd, Nat.reduceLT, Nat.reduceLeDiff, Nat.reduceMul, Nat.reduceSub, ↓reduceIte, decide_true, decide_false, Bool.true_eq_false, Bool.false_eq_true, Bool.not_true, Bool.not_false, if_true, if_false, and_true, true_and, memE, celE, w64, Nat.zero_add, Nat.add_zero, Nat.mul_one, putL, and_self, ldn, ext_2_0, ext_2_1, ext_4_0, ext_4_1, ext_4_2, ext_4_3, beq_self_eq_true, bne_self_eq_false, List.append_nil, hq0, X0.ld4, Z0.ld4]
  refine callH_rc (toCase_rc _ _ k0 (CaseA.rows A00 A01 A02 A03) hs0) ?_
  rintro r new ⟨rfl, c0, c1, c2, rfl, kc0, kc1, kc2⟩
  obtain ⟨M12, hM12⟩ : ∃ M', M' = M11 ++ [c0, c1, c2, rowB k0.need, rowB k0.setup, rowB k0.unit, rowB k0.hold] := ⟨_, rfl⟩
  rw [← hM12]
  have LM12 : M12.length = M11.length + 7 := by rw [hM12, List.length_append]; rfl
  replace A00 : RowA M12 a00 k0.need := by rw [hM12]; exact A00.ext _
  replace A01 : RowA M12 a01 k0.setup := by rw [hM12]; exact A01.ext _
  replace A02 : RowA M12 a02 k0.unit := by rw [hM12]; exact A02.ext _
  replace A03 : RowA M12 a03 k0.hold := by rw [hM12]; exact A03.ext _
  replace X0 : BoxA M12 M0.length [.slice (some ⟨a00, 0, none⟩) k0.need.length 0, .slice (some ⟨a01, 0, none⟩) k0.setup.length 0, .slice (some ⟨a02, 0, none⟩) k0.unit.length 0, .slice (some ⟨a03, 0, none⟩) k0.hold.length 0] := by rw [hM12]; exact X0.ext _
  replace w : OwnR M12 (M3.length + iw) W := by rw [hM12]; exact w.ext _
  replace Z0 : BoxA M12 M5.length [.slice (some ⟨M4.length + 3, 0, none⟩) k0.need.length 1, .slice (some ⟨M4.length + 4, 0, none⟩) k0.setup.length 1, .slice (some ⟨M4.length + 5, 0, none⟩) k0.unit.length 1, .slice (some ⟨M4.length + 6, 0, none⟩) k0.hold.length 1] := by rw [hM12]; exact Z0.ext _
  replace g : OwnR M12 (M6.length + ig) (imarks 1 W.length) := by rw [hM12]; exact g.ext _
  have U00 : OwnR M12 (M11.length + 3) k0.need := by rw [hM12]; exact OwnR.new (i := 3) (by rfl) rfl
  have U01 : OwnR M12 (M11.length + 4) k0.setup := by rw [hM12]; exact OwnR.new (i := 4) (by rfl) rfl
  have U02 : OwnR M12 (M11.length + 5) k0.unit := by rw [hM12]; exact OwnR.new (i := 5) (by rfl) rfl
  have U03 : OwnR M12 (M11.length + 6) k0.hold := by rw [hM12]; exact OwnR.new (i := 6) (by rfl) rfl
  clear kc0 kc1 kc2
  try simp (config := {implicitDefEqProofs := false, maxDischargeDepth := 20}) (disch := first | omega | (simp only [lenE]; done) | (simp only [lenE]; omega) | rfl | (simp only [lenE, markR_len]; done) | (simp only [lenE, markR_len]; omega)) only [runE, mapE, listE, initT_5, initT_6, initT_7, initT_8, resV, oneV, binA, unA, reduceCtorEq, Nat.reduceEqDiff, Nat.reduceAdd, Nat.reduceLT, Nat.reduceLeDiff, Nat.reduceMul, Nat.reduceSub, ↓reduceIte, decide_true, decide_false, Bool.true_eq_false, Bool.false_eq_true, Bool.not_true, Bool.not_false, if_true, if_false, and_true, true_and, memE, celE, w64, Nat.zero_add, Nat.add_zero, Nat.mul_one, putL, and_self, ldn, ext_2_0, ext_2_1, ext_4_0, ext_4_1, ext_4_2, ext_4_3, beq_self_eq_true, bne_self_eq_false, X0.ld4, Z0.ld4]
  refine callH_rc (IMP _ _ (CaseA.rows (U00.row (by omega)) (U01.row (by omega)) (U02.row (by omega)) (U03.row (by omega)))) ?_
  rintro r new ⟨nrn, hlh, ih, fh, rfl, hih⟩
  obtain ⟨M13, hM13⟩ : ∃ M', M' = M12 ++ new := ⟨_, rfl⟩
  rw [← hM13]
  have LM13 : M13.length = M12.length + new.length := by rw [hM13, List.length_append]
  replace A00 : RowA M13 a00 k0.need := by rw [hM13]; exact A00.ext _
  replace A01 : RowA M13 a01 k0.setup := by rw [hM13]; exact A01.ext _
  replace A02 : RowA M13 a02 k0.unit := by rw [hM13]; exact A02.ext _
  replace A03 : RowA M13 a03 k0.hold := by rw [hM13]; exact A03.ext _
  replace X0 : BoxA M13 M0.length [.slice (some ⟨a00, 0, none⟩) k0.need.length 0, .slice (some ⟨a01, 0, none⟩) k0.setup.length 0, .slice (some ⟨a02, 0, none⟩) k0.unit.length 0, .slice (some ⟨a03, 0, none⟩) k0.hold.length 0] := by rw [hM13]; exact X0.ext _
  replace w : OwnR M13 (M3.length + iw) W := by rw [hM13]; exact w.ext _
  replace Z0 : BoxA M13 M5.length [.slice (some ⟨M4.length + 3, 0, none⟩) k0.need.length 1, .slice (some ⟨M4.length + 4, 0, none⟩) k0.setup.length 1, .slice (some ⟨M4.length + 5, 0, none⟩) k0.unit.length 1, .slice (some ⟨M4.length + 6, 0, none⟩) k0.hold.length 1] := by rw [hM13]; exact Z0.ext _
  replace g : OwnR M13 (M6.length + ig) (imarks 1 W.length) := by rw [hM13]; exact g.ext _
  replace U00 : OwnR M13 (M11.length + 3) k0.need := by rw [hM13]; exact U00.ext _
  replace U01 : OwnR M13 (M11.length + 4) k0.setup := by rw [hM13]; exact U01.ext _
  replace U02 : OwnR M13 (M11.length + 5) k0.unit := by rw [hM13]; exact U02.ext _
  replace U03 : OwnR M13 (M11.length + 6) k0.hold := by rw [hM13]; exact U03.ext _
  have h : OwnR M13 (M12.length + ih) W := by rw [hM13]; exact OwnR.new hih rfl
  clear nrn hih
  have lth := h.lt
  clear U00
  clear U01
  clear U02
  clear U03
  try simp (config := {implicitDefEqProofs := false, maxDischargeDepth := 20}) (disch := first | omega | (simp only [lenE]; done) | (simp only [lenE]; omega) | rfl | (simp only [lenE, markR_len]; done) | (simp only [lenE, markR_len]; omega)) only [runE, mapE, listE, initT_5, initT_6, initT_7, initT_8, resV, oneV, binA, unA, reduceCtorEq, Nat.reduceEqDiff, Nat.reduceAdd, Nat.reduceLT, Nat.reduceLeDiff, Nat.reduceMul, Nat.reduceSub, ↓reduceIte, decide_true, decide_false, Bool.true_eq_false, Bool.false_eq_true, Bool.not_true, Bool.not_false, if_true, if_false, and_true, true_and, memE, celE, w64, Nat.zero_add, Nat.add_zero, Nat.mul_one, putL, and_self, ldn, ext_2_0, ext_2_1, ext_4_0, ext_4_1, ext_4_2, ext_4_3, beq_self_eq_true, bne_self_eq_false, X0.ld4, Z0.ld4]
  refine callH_rc (eqIntS_rc _ _ _ W ((h.row (by omega)).ints _) ((w.row (by omega)).ints _)) ?_
  rintro r new ⟨rfl, rfl⟩
  rw [List.append_nil]
  try simp (config := {implicitDefEqProofs := false, maxDischargeDepth := 20}) (disch := first | omega | (simp only [lenE]; done) | (simp only [lenE]; omega) | rfl | (simp only [lenE, markR_len]; done) | (simp only [lenE, markR_len]; omega)) only [runE, mapE, listE, initT_5, initT_6, initT_7, initT_8, resV, oneV, binA, unA, reduceCtorEq, Nat.reduceEqDiff, Nat.reduceAdd, Nat.reduceLT, Nat.reduceLeDiff, Nat.reduceMul, Nat.reduceSub, ↓reduceIte, decide_true, decide_false, Bool.true_eq_false, Bool.false_eq_true, Bool.not_true, Bool.not_false, if_true, if_false, and_true, true_and, memE, celE, w64, Nat.zero_add, Nat.add_zero, Nat.mul_one, putL, and_self, ldn, ext_2_0, ext_2_1, ext_4_0, ext_4_1, ext_4_2, ext_4_3, beq_self_eq_true, bne_self_eq_false, List.append_nil, X0.ld4, Z0.ld4]
  try simp (config := {implicitDefEqProofs := false, maxDischargeDepth := 20}) (disch := first | omega | (simp only [lenE]; done) | (simp only [lenE]; omega) | rfl | (simp only [lenE, markR_len]; done) | (simp only [lenE, markR_len]; omega)) only [runE, mapE, listE, initT_5, initT_6, initT_7, initT_8, resV, oneV, binA, unA, reduceCtorEq, Nat.reduceEqDiff, Nat.reduceAdd, Nat.reduceLT, Nat.reduceLeDiff, Nat.reduceMul, Nat.reduceSub, ↓reduceIte, decide_true, decide_false, Bool.true_eq_false, Bool.false_eq_true, Bool.not_true, Bool.not_false, if_true, if_false, and_true, true_and, memE, celE, w64, Nat.zero_add, Nat.add_zero, Nat.mul_one, putL, and_self, ldn, ext_2_0, ext_2_1, ext_4_0, ext_4_1, ext_4_2, ext_4_3, beq_self_eq_true, bne_self_eq_false, List.append_nil, X0.ld4, Z0.ld4]
  have hg := (g.row (by rw [glen]; omega)).ints fg
  rw [glen] at hg
  refine callH_rc (heldIntS_rc _ _ 1 W.length hg (by omega) (by omega) (by omega)) ?_
  rintro r new ⟨rfl, rfl⟩
  rw [List.append_nil]
  clear hg
  try simp (config := {implicitDefEqProofs := false, maxDischargeDepth := 20}) (disch := first | omega | (simp only [lenE]; done) | (simp only [lenE]; omega) | rfl | (simp only [lenE, markR_len]; done) | (simp only [lenE, markR_len]; omega)) only [runE, mapE, listE, initT_5, initT_6, initT_7, initT_8, resV, oneV, binA, unA, reduceCtorEq, Nat.reduceEqDiff, Nat.reduceAdd, Nat.reduceLT, Nat.reduceLeDiff, Nat.reduceMul, Nat.reduceSub, ↓reduceIte, decide_true, decide_false, Bool.true_eq_false, Bool.false_eq_true, Bool.not_true, Bool.not_false, if_true, if_false, and_true, true_and, memE, celE, w64, Nat.zero_add, Nat.add_zero, Nat.mul_one, putL, and_self, ldn, ext_2_0, ext_2_1, ext_4_0, ext_4_1, ext_4_2, ext_4_3, beq_self_eq_true, bne_self_eq_false, List.append_nil, hq0, X0.ld4, Z0.ld4]
end Go.Proofs.Ytonpeflncnccdaa.Ab
