/- FnExactIsPriceProof: its running over abstract memory. -/
import Derived.Test.YtonpeflncnccdaaAbPrice
import Derived.Test.YtonpeflncnccdaaAbWalk
import Derived.Test.YtonpeflncnccdaaCodLIsPriceProof
namespace Go.Proofs.Ytonpeflncnccdaa.Ab
open Go Go.RowKit
set_option linter.unusedVariables false
set_option linter.unusedSimpArgs false
set_option maxRecDepth 100000

set_option maxHeartbeats 4000000 in
theorem law_FnExactIsPriceProof (M0 : Mem) (k0 : Cs) (a00 a01 a02 a03 : Nat) (l1 : List Int) (a1 : Nat) (l2 : List Int) (a2 : Nat) (A00 : RowA M0 a00 k0.need) (A01 : RowA M0 a01 k0.setup) (A02 : RowA M0 a02 k0.unit) (A03 : RowA M0 a03 k0.hold) (A1 : RowA M0 a1 l1) (A2 : RowA M0 a2 l2) :
    AC Try.prog 10 [.agg #[.slice (some ⟨a00, 0, none⟩) k0.need.length 0, .slice (some ⟨a01, 0, none⟩) k0.setup.length 0, .slice (some ⟨a02, 0, none⟩) k0.unit.length 0, .slice (some ⟨a03, 0, none⟩) k0.hold.length 0], .slice (some ⟨a1, 0, none⟩) l1.length 0, .slice (some ⟨a2, 0, none⟩) l2.length 0] M0 fun r _ => r = .bool true := by
  refine ac_of_run mixed ok_laws_FnExactIsPriceProof (by simp) (go_start _ _ _ ?_)
  have B00 := A00.lt
  have B01 := A01.lt
  have B02 := A02.lt
  have B03 := A03.lt
  have B1 := A1.lt
  have B2 := A2.lt
  by_cases s1 : 1048576 < l1.length
  · have s1' : (1048576 : Int) < l1.length := by omega
    try simp (config := {implicitDefEqProofs := false, maxDischargeDepth := 20}) (disch := first | omega | (simp only [lenE]; done) | (simp only [lenE]; omega) | rfl | (simp only [lenE, markR_len]; done) | (simp only [lenE, markR_len]; omega)) only [runE, mapE, listE, initT_5, initT_6, initT_7, initT_8, resV, oneV, binA, unA, reduceCtorEq, Nat.reduceEqDiff, Nat.reduceAdd, Nat.reduceLT, Nat.reduceLeDiff, Nat.reduceMul, Nat.reduceSub, ↓reduceIte, decide_true, decide_false, Bool.true_eq_false, Bool.false_eq_true, Bool.not_true, Bool.not_false, if_true, if_false, and_true, true_and, memE, celE, w64, Nat.zero_add, Nat.add_zero, Nat.mul_one, putL, and_self, ldn, c_laws_FnExactIsPriceProof, r_laws_FnExactIsPriceProof, ext_2_0, ext_2_1, ext_4_0, ext_4_1, ext_4_2, ext_4_3, gt_iff_lt, beq_self_eq_true, bne_self_eq_false, s1']
    done
  have s1' : ¬ ((1048576 : Int) < l1.length) := by omega
  by_cases s2 : 1048576 < l2.length
  · have s2' : (1048576 : Int) < l2.length := by omega
    try simp (config := {implicitDefEqProofs := false, maxDischargeDepth := 20}) (disch := first | omega | (simp only [lenE]; done) | (simp only [lenE]; omega) | rfl | (simp only [lenE, markR_len]; done) | (simp only [lenE, markR_len]; omega)) only [runE, mapE, listE, initT_5, initT_6, initT_7, initT_8, resV, oneV, binA, unA, reduceCtorEq, Nat.reduceEqDiff, Nat.reduceAdd, Nat.reduceLT, Nat.reduceLeDiff, Nat.reduceMul, Nat.reduceSub, ↓reduceIte, decide_true, decide_false, Bool.true_eq_false, Bool.false_eq_true, Bool.not_true, Bool.not_false, if_true, if_false, and_true, true_and, memE, celE, w64, Nat.zero_add, Nat.add_zero, Nat.mul_one, putL, and_self, ldn, c_laws_FnExactIsPriceProof, r_laws_FnExactIsPriceProof, ext_2_0, ext_2_1, ext_4_0, ext_4_1, ext_4_2, ext_4_3, gt_iff_lt, beq_self_eq_true, bne_self_eq_false, s2', s1']
    done
  have s2' : ¬ ((1048576 : Int) < l2.length) := by omega
  try simp (config := {implicitDefEqProofs := false, maxDischargeDepth := 20}) (disch := first | omega | (simp only [lenE]; done) | (simp only [lenE]; omega) | rfl | (simp only [lenE, markR_len]; done) | (simp only [lenE, markR_len]; omega)) only [runE, mapE, listE, initT_5, initT_6, initT_7, initT_8, resV, oneV, binA, unA, reduceCtorEq, Nat.reduceEqDiff, Nat.reduceAdd, Nat.reduceLT, Nat.reduceLeDiff, Nat.reduceMul, Nat.reduceSub, ↓reduceIte, decide_true, decide_false, Bool.true_eq_false, Bool.false_eq_true, Bool.not_true, Bool.not_false, if_true, if_false, and_true, true_and, memE, celE, w64, Nat.zero_add, Nat.add_zero, Nat.mul_one, putL, and_self, ldn, c_laws_FnExactIsPriceProof, r_laws_FnExactIsPriceProof, ext_2_0, ext_2_1, ext_4_0, ext_4_1, ext_4_2, ext_4_3, gt_iff_lt, beq_self_eq_true, bne_self_eq_false, s1', s2']
  obtain ⟨M1, hM1⟩ : ∃ M', M' = M0 ++ [⟨.own, 24, [.slice (some ⟨a00, 0, none⟩) k0.need.length 0, .slice (some ⟨a01, 0, none⟩) k0.setup.length 0, .slice (some ⟨a02, 0, none⟩) k0.unit.length 0, .slice (some ⟨a03, 0, none⟩) k0.hold.length 0]⟩] := ⟨_, rfl⟩
  rw [← hM1]
  have LM1 : M1.length = M0.length + 1 := by rw [hM1, List.length_append]; rfl
  replace A00 : RowA M1 a00 k0.need := by rw [hM1]; exact A00.ext _
  replace A01 : RowA M1 a01 k0.setup := by rw [hM1]; exact A01.ext _
  replace A02 : RowA M1 a02 k0.unit := by rw [hM1]; exact A02.ext _
  replace A03 : RowA M1 a03 k0.hold := by rw [hM1]; exact A03.ext _
  replace A1 : RowA M1 a1 l1 := by rw [hM1]; exact A1.ext _
  replace A2 : RowA M1 a2 l2 := by rw [hM1]; exact A2.ext _
  have X0 : BoxA M1 M0.length [.slice (some ⟨a00, 0, none⟩) k0.need.length 0, .slice (some ⟨a01, 0, none⟩) k0.setup.length 0, .slice (some ⟨a02, 0, none⟩) k0.unit.length 0, .slice (some ⟨a03, 0, none⟩) k0.hold.length 0] := by rw [hM1]; exact BoxA.here _ _ _ rfl
  refine callH_rc (szCase_rc _ _ k0 (CaseA.rows A00 A01 A02 A03)) ?_
  rintro r new ⟨nrn, rfl | ⟨xz, xz0, xz1, rfl, hs0⟩⟩
  · simp (config := {implicitDefEqProofs := false, maxDischargeDepth := 20}) (disch := first | omega | (simp only [lenE]; done) | (simp only [lenE]; omega) | rfl | (simp only [lenE, markR_len]; done) | (simp only [lenE, markR_len]; omega)) only [runE, mapE, listE, initT_5, initT_6, initT_7, initT_8, resV, oneV, binA, unA, reduceCtorEq, Nat.reduceEqDiff, Nat.reduceAdd, Nat.reduceLT, Nat.reduceLeDiff, Nat.reduceMul, Nat.reduceSub, ↓reduceIte, decide_true, decide_false, Bool.true_eq_false, Bool.false_eq_true, Bool.not_true, Bool.not_false, if_true, if_false, and_true, true_and, memE, celE, w64, Nat.zero_add, Nat.add_zero, Nat.mul_one, putL, and_self, ldn, show ((-1 : Int) < 0) = True by simp]
  have xz' : ¬ (xz < 0) := by omega
  obtain ⟨M2, hM2⟩ : ∃ M', M' = M1 ++ new := ⟨_, rfl⟩
  rw [← hM2]
  have LM2 : M2.length = M1.length + new.length := by rw [hM2, List.length_append]
  replace A00 : RowA M2 a00 k0.need := by rw [hM2]; exact A00.ext _
  replace A01 : RowA M2 a01 k0.setup := by rw [hM2]; exact A01.ext _
  replace A02 : RowA M2 a02 k0.unit := by rw [hM2]; exact A02.ext _
  replace A03 : RowA M2 a03 k0.hold := by rw [hM2]; exact A03.ext _
  replace A1 : RowA M2 a1 l1 := by rw [hM2]; exact A1.ext _
  replace A2 : RowA M2 a2 l2 := by rw [hM2]; exact A2.ext _
  replace X0 : BoxA M2 M0.length [.slice (some ⟨a00, 0, none⟩) k0.need.length 0, .slice (some ⟨a01, 0, none⟩) k0.setup.length 0, .slice (some ⟨a02, 0, none⟩) k0.unit.length 0, .slice (some ⟨a03, 0, none⟩) k0.hold.length 0] := by rw [hM2]; exact X0.ext _
  clear nrn
  try simp (config := {implicitDefEqProofs := false, maxDischargeDepth := 20}) (disch := first | omega | (simp only [lenE]; done) | (simp only [lenE]; omega) | rfl | (simp only [lenE, markR_len]; done) | (simp only [lenE, markR_len]; omega)) only [runE, mapE, listE, initT_5, initT_6, initT_7, initT_8, resV, oneV, binA, unA, reduceCtorEq, Nat.reduceEqDiff, Nat.reduceAdd, Nat.reduceLT, Nat.reduceLeDiff, Nat.reduceMul, Nat.reduceSub, ↓reduceIte, decide_true, decide_false, Bool.true_eq_false, Bool.false_eq_true, Bool.not_true, Bool.not_false, if_true, if_false, and_true, true_and, memE, celE, w64, Nat.zero_add, Nat.add_zero, Nat.mul_one, putL, and_self, ldn, xz', X0.ld4]
  have tb0 := Cs.tot_bd hs0
  have sm0 := hs0
  unfold Cs.small at sm0
  refine callH_rc (toCase_rc _ _ k0 (CaseA.rows A00 A01 A02 A03) hs0) ?_
  rintro r new ⟨rfl, c0, c1, c2, rfl, kc0, kc1, kc2⟩
  obtain ⟨M3, hM3⟩ : ∃ M', M' = M2 ++ [c0, c1, c2, rowB k0.need, rowB k0.setup, rowB k0.unit, rowB k0.hold] := ⟨_, rfl⟩
  rw [← hM3]
  have LM3 : M3.length = M2.length + 7 := by rw [hM3, List.length_append]; rfl
  replace A00 : RowA M3 a00 k0.need := by rw [hM3]; exact A00.ext _
  replace A01 : RowA M3 a01 k0.setup := by rw [hM3]; exact A01.ext _
  replace A02 : RowA M3 a02 k0.unit := by rw [hM3]; exact A02.ext _
  replace A03 : RowA M3 a03 k0.hold := by rw [hM3]; exact A03.ext _
  replace A1 : RowA M3 a1 l1 := by rw [hM3]; exact A1.ext _
  replace A2 : RowA M3 a2 l2 := by rw [hM3]; exact A2.ext _
  replace X0 : BoxA M3 M0.length [.slice (some ⟨a00, 0, none⟩) k0.need.length 0, .slice (some ⟨a01, 0, none⟩) k0.setup.length 0, .slice (some ⟨a02, 0, none⟩) k0.unit.length 0, .slice (some ⟨a03, 0, none⟩) k0.hold.length 0] := by rw [hM3]; exact X0.ext _
  have S00 : OwnR M3 (M2.length + 3) k0.need := by rw [hM3]; exact OwnR.new (i := 3) (by rfl) rfl
  have S01 : OwnR M3 (M2.length + 4) k0.setup := by rw [hM3]; exact OwnR.new (i := 4) (by rfl) rfl
  have S02 : OwnR M3 (M2.length + 5) k0.unit := by rw [hM3]; exact OwnR.new (i := 5) (by rfl) rfl
  have S03 : OwnR M3 (M2.length + 6) k0.hold := by rw [hM3]; exact OwnR.new (i := 6) (by rfl) rfl
  clear kc0 kc1 kc2
  try simp (config := {implicitDefEqProofs := false, maxDischargeDepth := 20}) (disch := first | omega | (simp only [lenE]; done) | (simp only [lenE]; omega) | rfl | (simp only [lenE, markR_len]; done) | (simp only [lenE, markR_len]; omega)) only [runE, mapE, listE, initT_5, initT_6, initT_7, initT_8, resV, oneV, binA, unA, reduceCtorEq, Nat.reduceEqDiff, Nat.reduceAdd, Nat.reduceLT, Nat.reduceLeDiff, Nat.reduceMul, Nat.reduceSub, ↓reduceIte, decide_true, decide_false, Bool.true_eq_false, Bool.false_eq_true, Bool.not_true, Bool.not_false, if_true, if_false, and_true, true_and, memE, celE, w64, Nat.zero_add, Nat.add_zero, Nat.mul_one, putL, and_self, ldn, X0.ld4]
  refine callH_rc (toIntS_rc _ _ l1 (A1.ints _) (by omega)) ?_
  rintro r new ⟨rfl, rfl⟩
  obtain ⟨M4, hM4⟩ : ∃ M', M' = M3 ++ [rowB l1] := ⟨_, rfl⟩
  rw [← hM4]
  have LM4 : M4.length = M3.length + 1 := by rw [hM4, List.length_append]; rfl
  replace A00 : RowA M4 a00 k0.need := by rw [hM4]; exact A00.ext _
  replace A01 : RowA M4 a01 k0.setup := by rw [hM4]; exact A01.ext _
  replace A02 : RowA M4 a02 k0.unit := by rw [hM4]; exact A02.ext _
  replace A03 : RowA M4 a03 k0.hold := by rw [hM4]; exact A03.ext _
  replace A1 : RowA M4 a1 l1 := by rw [hM4]; exact A1.ext _
  replace A2 : RowA M4 a2 l2 := by rw [hM4]; exact A2.ext _
  replace X0 : BoxA M4 M0.length [.slice (some ⟨a00, 0, none⟩) k0.need.length 0, .slice (some ⟨a01, 0, none⟩) k0.setup.length 0, .slice (some ⟨a02, 0, none⟩) k0.unit.length 0, .slice (some ⟨a03, 0, none⟩) k0.hold.length 0] := by rw [hM4]; exact X0.ext _
  replace S00 : OwnR M4 (M2.length + 3) k0.need := by rw [hM4]; exact S00.ext _
  replace S01 : OwnR M4 (M2.length + 4) k0.setup := by rw [hM4]; exact S01.ext _
  replace S02 : OwnR M4 (M2.length + 5) k0.unit := by rw [hM4]; exact S02.ext _
  replace S03 : OwnR M4 (M2.length + 6) k0.hold := by rw [hM4]; exact S03.ext _
  have S1 : OwnR M4 M3.length l1 := by rw [hM4]; exact OwnR.new (i := 0) (by rfl) rfl
  try simp (config := {implicitDefEqProofs := false, maxDischargeDepth := 20}) (disch := first | omega | (simp only [lenE]; done) | (simp only [lenE]; omega) | rfl | (simp only [lenE, markR_len]; done) | (simp only [lenE, markR_len]; omega)) only [runE, mapE, listE, initT_5, initT_6, initT_7, initT_8, resV, oneV, binA, unA, reduceCtorEq, Nat.reduceEqDiff, Nat.reduceAdd, Nat.reduceLT, Nat.reduceLeDiff, Nat.reduceMul, Nat.reduceSub, ↓reduceIte, decide_true, decide_false, Bool.true_eq_false, Bool.false_eq_true, Bool.not_true, Bool.not_false, if_true, if_false, and_true, true_and, memE, celE, w64, Nat.zero_add, Nat.add_zero, Nat.mul_one, putL, and_self, ldn, X0.ld4]
  refine callH_rc (toIntS_rc _ _ l2 (A2.ints _) (by omega)) ?_
  rintro r new ⟨rfl, rfl⟩
  obtain ⟨M5, hM5⟩ : ∃ M', M' = M4 ++ [rowB l2] := ⟨_, rfl⟩
  rw [← hM5]
  have LM5 : M5.length = M4.length + 1 := by rw [hM5, List.length_append]; rfl
  replace A00 : RowA M5 a00 k0.need := by rw [hM5]; exact A00.ext _
  replace A01 : RowA M5 a01 k0.setup := by rw [hM5]; exact A01.ext _
  replace A02 : RowA M5 a02 k0.unit := by rw [hM5]; exact A02.ext _
  replace A03 : RowA M5 a03 k0.hold := by rw [hM5]; exact A03.ext _
  replace A1 : RowA M5 a1 l1 := by rw [hM5]; exact A1.ext _
  replace A2 : RowA M5 a2 l2 := by rw [hM5]; exact A2.ext _
  replace X0 : BoxA M5 M0.length [.slice (some ⟨a00, 0, none⟩) k0.need.length 0, .slice (some ⟨a01, 0, none⟩) k0.setup.length 0, .slice (some ⟨a02, 0, none⟩) k0.unit.length 0, .slice (some ⟨a03, 0, none⟩) k0.hold.length 0] := by rw [hM5]; exact X0.ext _
  replace S00 : OwnR M5 (M2.length + 3) k0.need := by rw [hM5]; exact S00.ext _
  replace S01 : OwnR M5 (M2.length + 4) k0.setup := by rw [hM5]; exact S01.ext _
  replace S02 : OwnR M5 (M2.length + 5) k0.unit := by rw [hM5]; exact S02.ext _
  replace S03 : OwnR M5 (M2.length + 6) k0.hold := by rw [hM5]; exact S03.ext _
  replace S1 : OwnR M5 M3.length l1 := by rw [hM5]; exact S1.ext _
  have S2 : OwnR M5 M4.length l2 := by rw [hM5]; exact OwnR.new (i := 0) (by rfl) rfl
  try simp (config := {implicitDefEqProofs := false, maxDischargeDepth := 20}) (disch := first | omega | (simp only [lenE]; done) | (simp only [lenE]; omega) | rfl | (simp only [lenE, markR_len]; done) | (simp only [lenE, markR_len]; omega)) only [runE, mapE, listE, initT_5, initT_6, initT_7, initT_8, resV, oneV, binA, unA, reduceCtorEq, Nat.reduceEqDiff, Nat.reduceAdd, Nat.reduceLT, Nat.reduceLeDiff, Nat.reduceMul, Nat.reduceSub, ↓reduceIte, decide_true, decide_false, Bool.true_eq_false, Bool.false_eq_true, Bool.not_true, Bool.not_false, if_true, if_false, and_true, true_and, memE, celE, w64, Nat.zero_add, Nat.add_zero, Nat.mul_one, putL, and_self, ldn, X0.ld4]
  refine callH_rc (specProof_rc _ _ _ _ k0 l1 l2 (CaseA.rows (S00.row (by omega)) (S01.row (by omega)) (S02.row (by omega)) (S03.row (by omega))) ((S1.row (by omega)).ints _) ((S2.row (by omega)).ints _)) ?_
  rintro r new ⟨rfl, nrn⟩
  obtain ⟨M6, hM6⟩ : ∃ M', M' = M5 ++ new := ⟨_, rfl⟩
  rw [← hM6]
  have LM6 : M6.length = M5.length + new.length := by rw [hM6, List.length_append]
  replace A00 : RowA M6 a00 k0.need := by rw [hM6]; exact A00.ext _
  replace A01 : RowA M6 a01 k0.setup := by rw [hM6]; exact A01.ext _
  replace A02 : RowA M6 a02 k0.unit := by rw [hM6]; exact A02.ext _
  replace A03 : RowA M6 a03 k0.hold := by rw [hM6]; exact A03.ext _
  replace A1 : RowA M6 a1 l1 := by rw [hM6]; exact A1.ext _
  replace A2 : RowA M6 a2 l2 := by rw [hM6]; exact A2.ext _
  replace X0 : BoxA M6 M0.length [.slice (some ⟨a00, 0, none⟩) k0.need.length 0, .slice (some ⟨a01, 0, none⟩) k0.setup.length 0, .slice (some ⟨a02, 0, none⟩) k0.unit.length 0, .slice (some ⟨a03, 0, none⟩) k0.hold.length 0] := by rw [hM6]; exact X0.ext _
  replace S00 : OwnR M6 (M2.length + 3) k0.need := by rw [hM6]; exact S00.ext _
  replace S01 : OwnR M6 (M2.length + 4) k0.setup := by rw [hM6]; exact S01.ext _
  replace S02 : OwnR M6 (M2.length + 5) k0.unit := by rw [hM6]; exact S02.ext _
  replace S03 : OwnR M6 (M2.length + 6) k0.hold := by rw [hM6]; exact S03.ext _
  replace S1 : OwnR M6 M3.length l1 := by rw [hM6]; exact S1.ext _
  replace S2 : OwnR M6 M4.length l2 := by rw [hM6]; exact S2.ext _
  clear nrn
  clear S00
  clear S01
  clear S02
  clear S03
  clear S1
  clear S2
  try simp (config := {implicitDefEqProofs := false, maxDischargeDepth := 20}) (disch := first | omega | (simp only [lenE]; done) | (simp only [lenE]; omega) | rfl | (simp only [lenE, markR_len]; done) | (simp only [lenE, markR_len]; omega)) only [runE, mapE, listE, initT_5, initT_6, initT_7, initT_8, resV, oneV, binA, unA, reduceCtorEq, Nat.reduceEqDiff, Nat.reduceAdd, Nat.reduceLT, Nat.reduceLeDiff, Nat.reduceMul, Nat.reduceSub, ↓reduceIte, decide_true, decide_false, Bool.true_eq_false, Bool.false_eq_true, Bool.not_true, Bool.not_false, if_true, if_false, and_true, true_and, memE, celE, w64, Nat.zero_add, Nat.add_zero, Nat.mul_one, putL, and_self, ldn, ext_2_0, ext_2_1, ext_4_0, ext_4_1, ext_4_2, ext_4_3, beq_self_eq_true, bne_self_eq_false, X0.ld4]
  refine callH_rc (toCase_rc _ _ k0 (CaseA.rows A00 A01 A02 A03) hs0) ?_
  rintro r new ⟨rfl, c0, c1, c2, rfl, kc0, kc1, kc2⟩
  obtain ⟨M7, hM7⟩ : ∃ M', M' = M6 ++ [c0, c1, c2, rowB k0.need, rowB k0.setup, rowB k0.unit, rowB k0.hold] := ⟨_, rfl⟩
  rw [← hM7]
  have LM7 : M7.length = M6.length + 7 := by rw [hM7, List.length_append]; rfl
  replace A00 : RowA M7 a00 k0.need := by rw [hM7]; exact A00.ext _
  replace A01 : RowA M7 a01 k0.setup := by rw [hM7]; exact A01.ext _
  replace A02 : RowA M7 a02 k0.unit := by rw [hM7]; exact A02.ext _
  replace A03 : RowA M7 a03 k0.hold := by rw [hM7]; exact A03.ext _
  replace A1 : RowA M7 a1 l1 := by rw [hM7]; exact A1.ext _
  replace A2 : RowA M7 a2 l2 := by rw [hM7]; exact A2.ext _
  replace X0 : BoxA M7 M0.length [.slice (some ⟨a00, 0, none⟩) k0.need.length 0, .slice (some ⟨a01, 0, none⟩) k0.setup.length 0, .slice (some ⟨a02, 0, none⟩) k0.unit.length 0, .slice (some ⟨a03, 0, none⟩) k0.hold.length 0] := by rw [hM7]; exact X0.ext _
  have Y00 : OwnR M7 (M6.length + 3) k0.need := by rw [hM7]; exact OwnR.new (i := 3) (by rfl) rfl
  have Y01 : OwnR M7 (M6.length + 4) k0.setup := by rw [hM7]; exact OwnR.new (i := 4) (by rfl) rfl
  have Y02 : OwnR M7 (M6.length + 5) k0.unit := by rw [hM7]; exact OwnR.new (i := 5) (by rfl) rfl
  have Y03 : OwnR M7 (M6.length + 6) k0.hold := by rw [hM7]; exact OwnR.new (i := 6) (by rfl) rfl
  clear kc0 kc1 kc2
  try simp (config := {implicitDefEqProofs := false, maxDischargeDepth := 20}) (disch := first | omega | (simp only [lenE]; done) | (simp only [lenE]; omega) | rfl | (simp only [lenE, markR_len]; done) | (simp only [lenE, markR_len]; omega)) only [runE, mapE, listE, initT_5, initT_6, initT_7, initT_8, resV, oneV, binA, unA, reduceCtorEq, Nat.reduceEqDiff, Nat.reduceAdd, Nat.reduceLT, Nat.reduceLeDiff, Nat.reduceMul, Nat.reduceSub, ↓reduceIte, decide_true, decide_false, Bool.true_eq_false, Bool.false_eq_true, Bool.not_true, Bool.not_false, if_true, if_false, and_true, true_and, memE, celE, w64, Nat.zero_add, Nat.add_zero, Nat.mul_one, putL, and_self, ldn, ext_2_0, ext_2_1, ext_4_0, ext_4_1, ext_4_2, ext_4_3, beq_self_eq_true, bne_self_eq_false]
  obtain ⟨M8, hM8⟩ : ∃ M', M' = M7 ++ [⟨.own, 28, [.slice (some ⟨M6.length + 3, 0, none⟩) k0.need.length 1, .slice (some ⟨M6.length + 4, 0, none⟩) k0.setup.length 1, .slice (some ⟨M6.length + 5, 0, none⟩) k0.unit.length 1, .slice (some ⟨M6.length + 6, 0, none⟩) k0.hold.length 1]⟩] := ⟨_, rfl⟩
  rw [← hM8]
  have LM8 : M8.length = M7.length + 1 := by rw [hM8, List.length_append]; rfl
  replace A00 : RowA M8 a00 k0.need := by rw [hM8]; exact A00.ext _
  replace A01 : RowA M8 a01 k0.setup := by rw [hM8]; exact A01.ext _
  replace A02 : RowA M8 a02 k0.unit := by rw [hM8]; exact A02.ext _
  replace A03 : RowA M8 a03 k0.hold := by rw [hM8]; exact A03.ext _
  replace A1 : RowA M8 a1 l1 := by rw [hM8]; exact A1.ext _
  replace A2 : RowA M8 a2 l2 := by rw [hM8]; exact A2.ext _
  replace X0 : BoxA M8 M0.length [.slice (some ⟨a00, 0, none⟩) k0.need.length 0, .slice (some ⟨a01, 0, none⟩) k0.setup.length 0, .slice (some ⟨a02, 0, none⟩) k0.unit.length 0, .slice (some ⟨a03, 0, none⟩) k0.hold.length 0] := by rw [hM8]; exact X0.ext _
  replace Y00 : OwnR M8 (M6.length + 3) k0.need := by rw [hM8]; exact Y00.ext _
  replace Y01 : OwnR M8 (M6.length + 4) k0.setup := by rw [hM8]; exact Y01.ext _
  replace Y02 : OwnR M8 (M6.length + 5) k0.unit := by rw [hM8]; exact Y02.ext _
  replace Y03 : OwnR M8 (M6.length + 6) k0.hold := by rw [hM8]; exact Y03.ext _
  have Z0 : BoxA M8 M7.length [.slice (some ⟨M6.length + 3, 0, none⟩) k0.need.length 1, .slice (some ⟨M6.length + 4, 0, none⟩) k0.setup.length 1, .slice (some ⟨M6.length + 5, 0, none⟩) k0.unit.length 1, .slice (some ⟨M6.length + 6, 0, none⟩) k0.hold.length 1] := by rw [hM8]; exact BoxA.here _ _ _ rfl
  try simp (config := {implicitDefEqProofs := false, maxDischargeDepth := 20}) (disch := first | omega | (simp only [lenE]; done) | (simp only [lenE]; omega) | rfl | (simp only [lenE, markR_len]; done) | (simp only [lenE, markR_len]; omega)) only [runE, mapE, listE, initT_5, initT_6, initT_7, initT_8, resV, oneV, binA, unA, reduceCtorEq, Nat.reduceEqDiff, Nat.reduceAdd, Nat.reduceLT, Nat.reduceLeDiff, Nat.reduceMul, Nat.reduceSub, ↓reduceIte, decide_true, decide_false, Bool.true_eq_false, Bool.false_eq_true, Bool.not_true, Bool.not_false, if_true, if_false, and_true, true_and, memE, celE, w64, Nat.zero_add, Nat.add_zero, Nat.mul_one, putL, and_self, ldn, ext_2_0, ext_2_1, ext_4_0, ext_4_1, ext_4_2, ext_4_3, beq_self_eq_true, bne_self_eq_false, X0.ld4, Z0.ld4]
  refine callH_rc (toIntS_rc _ _ l1 (A1.ints _) (by omega)) ?_
  rintro r new ⟨rfl, rfl⟩
  obtain ⟨M9, hM9⟩ : ∃ M', M' = M8 ++ [rowB l1] := ⟨_, rfl⟩
  rw [← hM9]
  have LM9 : M9.length = M8.length + 1 := by rw [hM9, List.length_append]; rfl
  replace A00 : RowA M9 a00 k0.need := by rw [hM9]; exact A00.ext _
  replace A01 : RowA M9 a01 k0.setup := by rw [hM9]; exact A01.ext _
  replace A02 : RowA M9 a02 k0.unit := by rw [hM9]; exact A02.ext _
  replace A03 : RowA M9 a03 k0.hold := by rw [hM9]; exact A03.ext _
  replace A1 : RowA M9 a1 l1 := by rw [hM9]; exact A1.ext _
  replace A2 : RowA M9 a2 l2 := by rw [hM9]; exact A2.ext _
  replace X0 : BoxA M9 M0.length [.slice (some ⟨a00, 0, none⟩) k0.need.length 0, .slice (some ⟨a01, 0, none⟩) k0.setup.length 0, .slice (some ⟨a02, 0, none⟩) k0.unit.length 0, .slice (some ⟨a03, 0, none⟩) k0.hold.length 0] := by rw [hM9]; exact X0.ext _
  replace Y00 : OwnR M9 (M6.length + 3) k0.need := by rw [hM9]; exact Y00.ext _
  replace Y01 : OwnR M9 (M6.length + 4) k0.setup := by rw [hM9]; exact Y01.ext _
  replace Y02 : OwnR M9 (M6.length + 5) k0.unit := by rw [hM9]; exact Y02.ext _
  replace Y03 : OwnR M9 (M6.length + 6) k0.hold := by rw [hM9]; exact Y03.ext _
  replace Z0 : BoxA M9 M7.length [.slice (some ⟨M6.length + 3, 0, none⟩) k0.need.length 1, .slice (some ⟨M6.length + 4, 0, none⟩) k0.setup.length 1, .slice (some ⟨M6.length + 5, 0, none⟩) k0.unit.length 1, .slice (some ⟨M6.length + 6, 0, none⟩) k0.hold.length 1] := by rw [hM9]; exact Z0.ext _
  have Y1 : OwnR M9 M8.length l1 := by rw [hM9]; exact OwnR.new (i := 0) (by rfl) rfl
  try simp (config := {implicitDefEqProofs := false, maxDischargeDepth := 20}) (disch := first | omega | (simp only [lenE]; done) | (simp only [lenE]; omega) | rfl | (simp only [lenE, markR_len]; done) | (simp only [lenE, markR_len]; omega)) only [runE, mapE, listE, initT_5, initT_6, initT_7, initT_8, resV, oneV, binA, unA, reduceCtorEq, Nat.reduceEqDiff, Nat.reduceAdd, Nat.reduceLT, Nat.reduceLeDiff, Nat.reduceMul, Nat.reduceSub, ↓reduceIte, decide_true, decide_false, Bool.true_eq_false, Bool.false_eq_true, Bool.not_true, Bool.not_false, if_true, if_false, and_true, true_and, memE, celE, w64, Nat.zero_add, Nat.add_zero, Nat.mul_one, putL, and_self, ldn, ext_2_0, ext_2_1, ext_4_0, ext_4_1, ext_4_2, ext_4_3, beq_self_eq_true, bne_self_eq_false, X0.ld4, Z0.ld4]
  refine callH_rc (toIntS_rc _ _ l2 (A2.ints _) (by omega)) ?_
  rintro r new ⟨rfl, rfl⟩
  obtain ⟨M10, hM10⟩ : ∃ M', M' = M9 ++ [rowB l2] := ⟨_, rfl⟩
  rw [← hM10]
  have LM10 : M10.length = M9.length + 1 := by rw [hM10, List.length_append]; rfl
  replace A00 : RowA M10 a00 k0.need := by rw [hM10]; exact A00.ext _
  replace A01 : RowA M10 a01 k0.setup := by rw [hM10]; exact A01.ext _
  replace A02 : RowA M10 a02 k0.unit := by rw [hM10]; exact A02.ext _
  replace A03 : RowA M10 a03 k0.hold := by rw [hM10]; exact A03.ext _
  replace A1 : RowA M10 a1 l1 := by rw [hM10]; exact A1.ext _
  replace A2 : RowA M10 a2 l2 := by rw [hM10]; exact A2.ext _
  replace X0 : BoxA M10 M0.length [.slice (some ⟨a00, 0, none⟩) k0.need.length 0, .slice (some ⟨a01, 0, none⟩) k0.setup.length 0, .slice (some ⟨a02, 0, none⟩) k0.unit.length 0, .slice (some ⟨a03, 0, none⟩) k0.hold.length 0] := by rw [hM10]; exact X0.ext _
  replace Y00 : OwnR M10 (M6.length + 3) k0.need := by rw [hM10]; exact Y00.ext _
  replace Y01 : OwnR M10 (M6.length + 4) k0.setup := by rw [hM10]; exact Y01.ext _
  replace Y02 : OwnR M10 (M6.length + 5) k0.unit := by rw [hM10]; exact Y02.ext _
  replace Y03 : OwnR M10 (M6.length + 6) k0.hold := by rw [hM10]; exact Y03.ext _
  replace Z0 : BoxA M10 M7.length [.slice (some ⟨M6.length + 3, 0, none⟩) k0.need.length 1, .slice (some ⟨M6.length + 4, 0, none⟩) k0.setup.length 1, .slice (some ⟨M6.length + 5, 0, none⟩) k0.unit.length 1, .slice (some ⟨M6.length + 6, 0, none⟩) k0.hold.length 1] := by rw [hM10]; exact Z0.ext _
  replace Y1 : OwnR M10 M8.length l1 := by rw [hM10]; exact Y1.ext _
  have Y2 : OwnR M10 M9.length l2 := by rw [hM10]; exact OwnR.new (i := 0) (by rfl) rfl
  try simp (config := {implicitDefEqProofs := false, maxDischargeDepth := 20}) (disch := first | omega | (simp only [lenE]; done) | (simp only [lenE]; omega) | rfl | (simp only [lenE, markR_len]; done) | (simp only [lenE, markR_len]; omega)) only [runE, mapE, listE, initT_5, initT_6, initT_7, initT_8, resV, oneV, binA, unA, reduceCtorEq, Nat.reduceEqDiff, Nat.reduceAdd, Nat.reduceLT, Nat.reduceLeDiff, Nat.reduceMul, Nat.reduceSub, ↓reduceIte, decide_true, decide_false, Bool.true_eq_false, Bool.false_eq_true, Bool.not_true, Bool.not_false, if_true, if_false, and_true, true_and, memE, celE, w64, Nat.zero_add, Nat.add_zero, Nat.mul_one, putL, and_self, ldn, ext_2_0, ext_2_1, ext_4_0, ext_4_1, ext_4_2, ext_4_3, beq_self_eq_true, bne_self_eq_false, X0.ld4, Z0.ld4]
  refine callH_rc (implProof_rc _ _ _ _ k0 l1 l2 (CaseA.rows (Y00.row (by omega)) (Y01.row (by omega)) (Y02.row (by omega)) (Y03.row (by omega))) ((Y1.row (by omega)).ints _) ((Y2.row (by omega)).ints _)) ?_
  rintro r new ⟨rfl, nrn⟩
  obtain ⟨M11, hM11⟩ : ∃ M', M' = M10 ++ new := ⟨_, rfl⟩
  rw [← hM11]
  have LM11 : M11.length = M10.length + new.length := by rw [hM11, List.length_append]
  replace A00 : RowA M11 a00 k0.need := by rw [hM11]; exact A00.ext _
  replace A01 : RowA M11 a01 k0.setup := by rw [hM11]; exact A01.ext _
  replace A02 : RowA M11 a02 k0.unit := by rw [hM11]; exact A02.ext _
  replace A03 : RowA M11 a03 k0.hold := by rw [hM11]; exact A03.ext _
  replace A1 : RowA M11 a1 l1 := by rw [hM11]; exact A1.ext _
  replace A2 : RowA M11 a2 l2 := by rw [hM11]; exact A2.ext _
  replace X0 : BoxA M11 M0.length [.slice (some ⟨a00, 0, none⟩) k0.need.length 0, .slice (some ⟨a01, 0, none⟩) k0.setup.length 0, .slice (some ⟨a02, 0, none⟩) k0.unit.length 0, .slice (some ⟨a03, 0, none⟩) k0.hold.length 0] := by rw [hM11]; exact X0.ext _
  replace Y00 : OwnR M11 (M6.length + 3) k0.need := by rw [hM11]; exact Y00.ext _
  replace Y01 : OwnR M11 (M6.length + 4) k0.setup := by rw [hM11]; exact Y01.ext _
  replace Y02 : OwnR M11 (M6.length + 5) k0.unit := by rw [hM11]; exact Y02.ext _
  replace Y03 : OwnR M11 (M6.length + 6) k0.hold := by rw [hM11]; exact Y03.ext _
  replace Z0 : BoxA M11 M7.length [.slice (some ⟨M6.length + 3, 0, none⟩) k0.need.length 1, .slice (some ⟨M6.length + 4, 0, none⟩) k0.setup.length 1, .slice (some ⟨M6.length + 5, 0, none⟩) k0.unit.length 1, .slice (some ⟨M6.length + 6, 0, none⟩) k0.hold.length 1] := by rw [hM11]; exact Z0.ext _
  replace Y1 : OwnR M11 M8.length l1 := by rw [hM11]; exact Y1.ext _
  replace Y2 : OwnR M11 M9.length l2 := by rw [hM11]; exact Y2.ext _
  clear nrn
  try simp (config := {implicitDefEqProofs := false, maxDischargeDepth := 20}) (disch := first | omega | (simp only [lenE]; done) | (simp only [lenE]; omega) | rfl | (simp only [lenE, markR_len]; done) | (simp only [lenE, markR_len]; omega)) only [runE, mapE, listE, initT_5, initT_6, initT_7, initT_8, resV, oneV, binA, unA, reduceCtorEq, Nat.reduceEqDiff, Nat.reduceAdd, Nat.reduceLT, Nat.reduceLeDiff, Nat.reduceMul, Nat.reduceSub, ↓reduceIte, decide_true, decide_false, Bool.true_eq_false, Bool.false_eq_true, Bool.not_true, Bool.not_false, if_true, if_false, and_true, true_and, memE, celE, w64, Nat.zero_add, Nat.add_zero, Nat.mul_one, putL, and_self, ldn, ext_2_0, ext_2_1, ext_4_0, ext_4_1, ext_4_2, ext_4_3, beq_self_eq_true, bne_self_eq_false, List.append_nil, X0.ld4, Z0.ld4]
  refine rcallH_rc (toCase_rc _ _ k0 (CaseA.rows A00 A01 A02 A03) hs0) ?_
  rintro r new ⟨rfl, c0, c1, c2, rfl, kc0, kc1, kc2⟩
  obtain ⟨M12, hM12⟩ : ∃ M', M' = M11 ++ [c0, c1, c2, rowB k0.need, rowB k0.setup, rowB k0.unit, rowB k0.hold] := ⟨_, rfl⟩
  rw [← hM12]
  have LM12 : M12.length = M11.length + 7 := by rw [hM12, List.length_append]; rfl
  replace A00 : RowA M12 a00 k0.need := by rw [hM12]; exact A00.ext _
  replace A01 : RowA M12 a01 k0.setup := by rw [hM12]; exact A01.ext _
  replace A02 : RowA M12 a02 k0.unit := by rw [hM12]; exact A02.ext _
  replace A03 : RowA M12 a03 k0.hold := by rw [hM12]; exact A03.ext _
  replace A1 : RowA M12 a1 l1 := by rw [hM12]; exact A1.ext _
  replace A2 : RowA M12 a2 l2 := by rw [hM12]; exact A2.ext _
  replace X0 : BoxA M12 M0.length [.slice (some ⟨a00, 0, none⟩) k0.need.length 0, .slice (some ⟨a01, 0, none⟩) k0.setup.length 0, .slice (some ⟨a02, 0, none⟩) k0.unit.length 0, .slice (some ⟨a03, 0, none⟩) k0.hold.length 0] := by rw [hM12]; exact X0.ext _
  replace Y00 : OwnR M12 (M6.length + 3) k0.need := by rw [hM12]; exact Y00.ext _
  replace Y01 : OwnR M12 (M6.length + 4) k0.setup := by rw [hM12]; exact Y01.ext _
  replace Y02 : OwnR M12 (M6.length + 5) k0.unit := by rw [hM12]; exact Y02.ext _
  replace Y03 : OwnR M12 (M6.length + 6) k0.hold := by rw [hM12]; exact Y03.ext _
  replace Z0 : BoxA M12 M7.length [.slice (some ⟨M6.length + 3, 0, none⟩) k0.need.length 1, .slice (some ⟨M6.length + 4, 0, none⟩) k0.setup.length 1, .slice (some ⟨M6.length + 5, 0, none⟩) k0.unit.length 1, .slice (some ⟨M6.length + 6, 0, none⟩) k0.hold.length 1] := by rw [hM12]; exact Z0.ext _
  replace Y1 : OwnR M12 M8.length l1 := by rw [hM12]; exact Y1.ext _
  replace Y2 : OwnR M12 M9.length l2 := by rw [hM12]; exact Y2.ext _
  have T00 : OwnR M12 (M11.length + 3) k0.need := by rw [hM12]; exact OwnR.new (i := 3) (by rfl) rfl
  have T01 : OwnR M12 (M11.length + 4) k0.setup := by rw [hM12]; exact OwnR.new (i := 4) (by rfl) rfl
  have T02 : OwnR M12 (M11.length + 5) k0.unit := by rw [hM12]; exact OwnR.new (i := 5) (by rfl) rfl
  have T03 : OwnR M12 (M11.length + 6) k0.hold := by rw [hM12]; exact OwnR.new (i := 6) (by rfl) rfl
  clear kc0 kc1 kc2
  try simp (config := {implicitDefEqProofs := false, maxDischargeDepth := 20}) (disch := first | omega | (simp only [lenE]; done) | (simp only [lenE]; omega) | rfl | (simp only [lenE, markR_len]; done) | (simp only [lenE, markR_len]; omega)) only [runE, mapE, listE, initT_5, initT_6, initT_7, initT_8, resV, oneV, binA, unA, reduceCtorEq, Nat.reduceEqDiff, Nat.reduceAdd, Nat.reduceLT, Nat.reduceLeDiff, Nat.reduceMul, Nat.reduceSub, ↓reduceIte, decide_true, decide_false, Bool.true_eq_false, Bool.false_eq_true, Bool.not_true, Bool.not_false, if_true, if_false, and_true, true_and, memE, celE, w64, Nat.zero_add, Nat.add_zero, Nat.mul_one, putL, and_self, ldn, ext_2_0, ext_2_1, ext_4_0, ext_4_1, ext_4_2, ext_4_3, beq_self_eq_true, bne_self_eq_false, X0.ld4, Z0.ld4]
  refine rcallH_rc (eqCase_rc _ _ _ k0 (CaseA.rows (Y00.row (by omega)) (Y01.row (by omega)) (Y02.row (by omega)) (Y03.row (by omega))) (CaseA.rows (T00.row (by omega)) (T01.row (by omega)) (T02.row (by omega)) (T03.row (by omega)))) ?_
  rintro r new ⟨rfl, nrn⟩
  obtain ⟨M13, hM13⟩ : ∃ M', M' = M12 ++ new := ⟨_, rfl⟩
  rw [← hM13]
  have LM13 : M13.length = M12.length + new.length := by rw [hM13, List.length_append]
  replace A00 : RowA M13 a00 k0.need := by rw [hM13]; exact A00.ext _
  replace A01 : RowA M13 a01 k0.setup := by rw [hM13]; exact A01.ext _
  replace A02 : RowA M13 a02 k0.unit := by rw [hM13]; exact A02.ext _
  replace A03 : RowA M13 a03 k0.hold := by rw [hM13]; exact A03.ext _
  replace A1 : RowA M13 a1 l1 := by rw [hM13]; exact A1.ext _
  replace A2 : RowA M13 a2 l2 := by rw [hM13]; exact A2.ext _
  replace X0 : BoxA M13 M0.length [.slice (some ⟨a00, 0, none⟩) k0.need.length 0, .slice (some ⟨a01, 0, none⟩) k0.setup.length 0, .slice (some ⟨a02, 0, none⟩) k0.unit.length 0, .slice (some ⟨a03, 0, none⟩) k0.hold.length 0] := by rw [hM13]; exact X0.ext _
  replace Y00 : OwnR M13 (M6.length + 3) k0.need := by rw [hM13]; exact Y00.ext _
  replace Y01 : OwnR M13 (M6.length + 4) k0.setup := by rw [hM13]; exact Y01.ext _
  replace Y02 : OwnR M13 (M6.length + 5) k0.unit := by rw [hM13]; exact Y02.ext _
  replace Y03 : OwnR M13 (M6.length + 6) k0.hold := by rw [hM13]; exact Y03.ext _
  replace Z0 : BoxA M13 M7.length [.slice (some ⟨M6.length + 3, 0, none⟩) k0.need.length 1, .slice (some ⟨M6.length + 4, 0, none⟩) k0.setup.length 1, .slice (some ⟨M6.length + 5, 0, none⟩) k0.unit.length 1, .slice (some ⟨M6.length + 6, 0, none⟩) k0.hold.length 1] := by rw [hM13]; exact Z0.ext _
  replace Y1 : OwnR M13 M8.length l1 := by rw [hM13]; exact Y1.ext _
  replace Y2 : OwnR M13 M9.length l2 := by rw [hM13]; exact Y2.ext _
  clear nrn T00 T01 T02 T03
  try simp (config := {implicitDefEqProofs := false, maxDischargeDepth := 20}) (disch := first | omega | (simp only [lenE]; done) | (simp only [lenE]; omega) | rfl | (simp only [lenE, markR_len]; done) | (simp only [lenE, markR_len]; omega)) only [runE, mapE, listE, initT_5, initT_6, initT_7, initT_8, resV, oneV, binA, unA, reduceCtorEq, Nat.reduceEqDiff, Nat.reduceAdd, Nat.reduceLT, Nat.reduceLeDiff, Nat.reduceMul, Nat.reduceSub, ↓reduceIte, decide_true, decide_false, Bool.true_eq_false, Bool.false_eq_true, Bool.not_true, Bool.not_false, if_true, if_false, and_true, true_and, memE, celE, w64, Nat.zero_add, Nat.add_zero, Nat.mul_one, putL, and_self, ldn, ext_2_0, ext_2_1, ext_4_0, ext_4_1, ext_4_2, ext_4_3, beq_self_eq_true, bne_self_eq_false, X0.ld4, Z0.ld4]
  refine callH_rc (toIntS_rc _ _ l1 (A1.ints _) (by omega)) ?_
  rintro r new ⟨rfl, rfl⟩
  obtain ⟨M14, hM14⟩ : ∃ M', M' = M13 ++ [rowB l1] := ⟨_, rfl⟩
  rw [← hM14]
  have LM14 : M14.length = M13.length + 1 := by rw [hM14, List.length_append]; rfl
  replace A00 : RowA M14 a00 k0.need := by rw [hM14]; exact A00.ext _
  replace A01 : RowA M14 a01 k0.setup := by rw [hM14]; exact A01.ext _
  replace A02 : RowA M14 a02 k0.unit := by rw [hM14]; exact A02.ext _
  replace A03 : RowA M14 a03 k0.hold := by rw [hM14]; exact A03.ext _
  replace A1 : RowA M14 a1 l1 := by rw [hM14]; exact A1.ext _
  replace A2 : RowA M14 a2 l2 := by rw [hM14]; exact A2.ext _
  replace X0 : BoxA M14 M0.length [.slice (some ⟨a00, 0, none⟩) k0.need.length 0, .slice (some ⟨a01, 0, none⟩) k0.setup.length 0, .slice (some ⟨a02, 0, none⟩) k0.unit.length 0, .slice (some ⟨a03, 0, none⟩) k0.hold.length 0] := by rw [hM14]; exact X0.ext _
  replace Y00 : OwnR M14 (M6.length + 3) k0.need := by rw [hM14]; exact Y00.ext _
  replace Y01 : OwnR M14 (M6.length + 4) k0.setup := by rw [hM14]; exact Y01.ext _
  replace Y02 : OwnR M14 (M6.length + 5) k0.unit := by rw [hM14]; exact Y02.ext _
  replace Y03 : OwnR M14 (M6.length + 6) k0.hold := by rw [hM14]; exact Y03.ext _
  replace Z0 : BoxA M14 M7.length [.slice (some ⟨M6.length + 3, 0, none⟩) k0.need.length 1, .slice (some ⟨M6.length + 4, 0, none⟩) k0.setup.length 1, .slice (some ⟨M6.length + 5, 0, none⟩) k0.unit.length 1, .slice (some ⟨M6.length + 6, 0, none⟩) k0.hold.length 1] := by rw [hM14]; exact Z0.ext _
  replace Y1 : OwnR M14 M8.length l1 := by rw [hM14]; exact Y1.ext _
  replace Y2 : OwnR M14 M9.length l2 := by rw [hM14]; exact Y2.ext _
  have T1 : OwnR M14 M13.length l1 := by rw [hM14]; exact OwnR.new (i := 0) (by rfl) rfl
  try simp (config := {implicitDefEqProofs := false, maxDischargeDepth := 20}) (disch := first | omega | (simp only [lenE]; done) | (simp only [lenE]; omega) | rfl | (simp only [lenE, markR_len]; done) | (simp only [lenE, markR_len]; omega)) only [runE, mapE, listE, initT_5, initT_6, initT_7, initT_8, resV, oneV, binA, unA, reduceCtorEq, Nat.reduceEqDiff, Nat.reduceAdd, Nat.reduceLT, Nat.reduceLeDiff, Nat.reduceMul, Nat.reduceSub, ↓reduceIte, decide_true, decide_false, Bool.true_eq_false, Bool.false_eq_true, Bool.not_true, Bool.not_false, if_true, if_false, and_true, true_and, memE, celE, w64, Nat.zero_add, Nat.add_zero, Nat.mul_one, putL, and_self, ldn, ext_2_0, ext_2_1, ext_4_0, ext_4_1, ext_4_2, ext_4_3, beq_self_eq_true, bne_self_eq_false, X0.ld4, Z0.ld4]
  refine callH_rc (eqIntS_rc _ _ _ l1 ((Y1.row (by omega)).ints _) ((T1.row (by omega)).ints _)) ?_
  rintro r new ⟨rfl, rfl⟩
  rw [List.append_nil]
  clear T1
  try simp (config := {implicitDefEqProofs := false, maxDischargeDepth := 20}) (disch := first | omega | (simp only [lenE]; done) | (simp only [lenE]; omega) | rfl | (simp only [lenE, markR_len]; done) | (simp only [lenE, markR_len]; omega)) only [runE, mapE, listE, initT_5, initT_6, initT_7, initT_8, resV, oneV, binA, unA, reduceCtorEq, Nat.reduceEqDiff, Nat.reduceAdd, Nat.reduceLT, Nat.reduceLeDiff, Nat.reduceMul, Nat.reduceSub, ↓reduceIte, decide_true, decide_false, Bool.true_eq_false, Bool.false_eq_true, Bool.not_true, Bool.not_false, if_true, if_false, and_true, true_and, memE, celE, w64, Nat.zero_add, Nat.add_zero, Nat.mul_one, putL, and_self, ldn, ext_2_0, ext_2_1, ext_4_0, ext_4_1, ext_4_2, ext_4_3, beq_self_eq_true, bne_self_eq_false, List.append_nil, X0.ld4, Z0.ld4]
  refine callH_rc (toIntS_rc _ _ l2 (A2.ints _) (by omega)) ?_
  rintro r new ⟨rfl, rfl⟩
  obtain ⟨M15, hM15⟩ : ∃ M', M' = M14 ++ [rowB l2] := ⟨_, rfl⟩
  rw [← hM15]
  have LM15 : M15.length = M14.length + 1 := by rw [hM15, List.length_append]; rfl
  replace A00 : RowA M15 a00 k0.need := by rw [hM15]; exact A00.ext _
  replace A01 : RowA M15 a01 k0.setup := by rw [hM15]; exact A01.ext _
  replace A02 : RowA M15 a02 k0.unit := by rw [hM15]; exact A02.ext _
  replace A03 : RowA M15 a03 k0.hold := by rw [hM15]; exact A03.ext _
  replace A1 : RowA M15 a1 l1 := by rw [hM15]; exact A1.ext _
  replace A2 : RowA M15 a2 l2 := by rw [hM15]; exact A2.ext _
  replace X0 : BoxA M15 M0.length [.slice (some ⟨a00, 0, none⟩) k0.need.length 0, .slice (some ⟨a01, 0, none⟩) k0.setup.length 0, .slice (some ⟨a02, 0, none⟩) k0.unit.length 0, .slice (some ⟨a03, 0, none⟩) k0.hold.length 0] := by rw [hM15]; exact X0.ext _
  replace Y00 : OwnR M15 (M6.length + 3) k0.need := by rw [hM15]; exact Y00.ext _
  replace Y01 : OwnR M15 (M6.length + 4) k0.setup := by rw [hM15]; exact Y01.ext _
  replace Y02 : OwnR M15 (M6.length + 5) k0.unit := by rw [hM15]; exact Y02.ext _
  replace Y03 : OwnR M15 (M6.length + 6) k0.hold := by rw [hM15]; exact Y03.ext _
  replace Z0 : BoxA M15 M7.length [.slice (some ⟨M6.length + 3, 0, none⟩) k0.need.length 1, .slice (some ⟨M6.length + 4, 0, none⟩) k0.setup.length 1, .slice (some ⟨M6.length + 5, 0, none⟩) k0.unit.length 1, .slice (some ⟨M6.length + 6, 0, none⟩) k0.hold.length 1] := by rw [hM15]; exact Z0.ext _
  replace Y1 : OwnR M15 M8.length l1 := by rw [hM15]; exact Y1.ext _
  replace Y2 : OwnR M15 M9.length l2 := by rw [hM15]; exact Y2.ext _
  have T2 : OwnR M15 M14.length l2 := by rw [hM15]; exact OwnR.new (i := 0) (by rfl) rfl
  try simp (config := {implicitDefEqProofs := false, maxDischargeDepth := 20}) (disch := first | omega | (simp only [lenE]; done) | (simp only [lenE]; omega) | rfl | (simp only [lenE, markR_len]; done) | (simp only [lenE, markR_len]; omega)) only [runE, mapE, listE, initT_5, initT_6, initT_7, initT_8, resV, oneV, binA, unA, reduceCtorEq, Nat.reduceEqDiff, Nat.reduceAdd, Nat.reduceLT, Nat.reduceLeDiff, Nat.reduceMul, Nat.reduceSub, ↓reduceIte, decide_true, decide_false, Bool.true_eq_false, Bool.false_eq_true, Bool.not_true, Bool.not_false, if_true, if_false, and_true, true_and, memE, celE, w64, Nat.zero_add, Nat.add_zero, Nat.mul_one, putL, and_self, ldn, ext_2_0, ext_2_1, ext_4_0, ext_4_1, ext_4_2, ext_4_3, beq_self_eq_true, bne_self_eq_false, X0.ld4, Z0.ld4]
  refine callH_rc (eqIntS_rc _ _ _ l2 ((Y2.row (by omega)).ints _) ((T2.row (by omega)).ints _)) ?_
  rintro r new ⟨rfl, rfl⟩
  rw [List.append_nil]
  clear T2
  try simp (config := {implicitDefEqProofs := false, maxDischargeDepth := 20}) (disch := first | omega | (simp only [lenE]; done) | (simp only [lenE]; omega) | rfl | (simp only [lenE, markR_len]; done) | (simp only [lenE, markR_len]; omega)) only [runE, mapE, listE, initT_5, initT_6, initT_7, initT_8, resV, oneV, binA, unA, reduceCtorEq, Nat.reduceEqDiff, Nat.reduceAdd, Nat.reduceLT, Nat.reduceLeDiff, Nat.reduceMul, Nat.reduceSub, ↓reduceIte, decide_true, decide_false, Bool.true_eq_false, Bool.false_eq_true, Bool.not_true, Bool.not_false, if_true, if_false, and_true, true_and, memE, celE, w64, Nat.zero_add, Nat.add_zero, Nat.mul_one, putL, and_self, ldn, ext_2_0, ext_2_1, ext_4_0, ext_4_1, ext_4_2, ext_4_3, beq_self_eq_true, bne_self_eq_false, List.append_nil, X0.ld4, Z0.ld4]
end Go.Proofs.Ytonpeflncnccdaa.Ab
