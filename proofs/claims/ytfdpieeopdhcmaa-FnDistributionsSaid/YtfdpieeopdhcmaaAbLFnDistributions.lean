/- FnDistributions: its running over abstract memory. -/
import Derived.Test.YtfdpieeopdhcmaaAbChance4
import Derived.Test.YtfdpieeopdhcmaaAbChance5
import Derived.Test.YtfdpieeopdhcmaaAbDraw5c
import Derived.Test.YtfdpieeopdhcmaaChMath4
import Derived.Test.YtfdpieeopdhcmaaCodLFnDistributions
namespace Go.Proofs.Ytfdpieeopdhcmaa.Ab
open Go Go.RowKit
set_option linter.unusedVariables false
set_option linter.unusedSimpArgs false
set_option maxRecDepth 100000

set_option maxHeartbeats 16000000 in
theorem law_FnDistributions (l : List Int) (hb : ∀ x ∈ l, 0 ≤ x ∧ x ≤ 255) :
    AC Try.prog 4 [.slice (some ⟨0, 0, none⟩) l.length 0] [⟨.ro, 5, l.map (Value.int .u8)⟩] fun r _ => r = .bool true := by
  refine ac_of_run mixed ok_laws_FnDistributions (by simp) (go_start _ _ _ ?_)
  simp (config := {implicitDefEqProofs := false, maxDischargeDepth := 20}) (disch := first | omega | (simp only [lenE]; done) | (simp only [lenE]; omega) | rfl | (simp only [lenE, markR_len]; done) | (simp only [lenE, markR_len]; omega)) only [runE, mapE, listE, initT_5, initT_6, initT_7, initT_8, resV, oneV, binA, unA, reduceCtorEq, Nat.reduceEqDiff, Nat.reduceAdd, Nat.reduceLT, Nat.reduceLeDiff, Nat.reduceMul, Nat.reduceSub, ↓reduceIte, decide_true, decide_false, Bool.true_eq_false, Bool.false_eq_true, Bool.not_true, Bool.not_false, if_true, if_false, and_true, true_and, memE, celE, w64, Nat.zero_add, Nat.add_zero, Nat.mul_one, putL, and_self, ldn, c_laws_FnDistributions, r_laws_FnDistributions]
  refine callH_rc (vBig_rc _ 0 0 l.length) ?_
  rintro r new ⟨rfl, rfl⟩
  by_cases hbig : 65536 < l.length
  · simp (config := {implicitDefEqProofs := false, maxDischargeDepth := 20}) (disch := first | omega | (simp only [lenE]; done) | (simp only [lenE]; omega) | rfl | (simp only [lenE, markR_len]; done) | (simp only [lenE, markR_len]; omega)) only [runE, mapE, listE, initT_5, initT_6, initT_7, initT_8, resV, oneV, binA, unA, reduceCtorEq, Nat.reduceEqDiff, Nat.reduceAdd, Nat.reduceLT, Nat.reduceLeDiff, Nat.reduceMul, Nat.reduceSub, ↓reduceIte, decide_true, decide_false, Bool.true_eq_false, Bool.false_eq_true, Bool.not_true, Bool.not_false, if_true, if_false, and_true, true_and, memE, celE, w64, Nat.zero_add, Nat.add_zero, Nat.mul_one, putL, and_self, ldn, decide_eq_true hbig]
  have hB : BytesA [⟨.ro, 5, l.map (Value.int .u8)⟩] 0 l := ⟨⟨.ro, by simp, rfl⟩, hb, by omega⟩
  obtain ⟨M0, hM0⟩ : ∃ M : Mem, M = [⟨.ro, 5, l.map (Value.int .u8)⟩] := ⟨_, rfl⟩
  rw [← hM0] at hB
  rw [List.append_nil, ← hM0]
  clear hM0
  simp (config := {implicitDefEqProofs := false, maxDischargeDepth := 20}) (disch := first | omega | (simp only [lenE]; done) | (simp only [lenE]; omega) | rfl | (simp only [lenE, markR_len]; done) | (simp only [lenE, markR_len]; omega)) only [runE, mapE, listE, initT_5, initT_6, initT_7, initT_8, resV, oneV, binA, unA, reduceCtorEq, Nat.reduceEqDiff, Nat.reduceAdd, Nat.reduceLT, Nat.reduceLeDiff, Nat.reduceMul, Nat.reduceSub, ↓reduceIte, decide_true, decide_false, Bool.true_eq_false, Bool.false_eq_true, Bool.not_true, Bool.not_false, if_true, if_false, and_true, true_and, memE, celE, w64, Nat.zero_add, Nat.add_zero, Nat.mul_one, putL, and_self, ldn, decide_eq_false hbig]
  have B0 := hB
  clear hB
  refine callH_rc (DrawIsMore_rc _ _ 0 l B0) ?_
  rintro r new ⟨nr, Pi, Qi, Pf, Qf, a, b, rfl, hr1, hr2, hla, hlb⟩
  obtain ⟨M1, hM1⟩ : ∃ M, M = M0 ++ new := ⟨_, rfl⟩
  have B1 : BytesA M1 0 l := by rw [hM1]; exact B0.ext _
  have P1 : OwnR M1 (M0.length + Pi) a := by rw [hM1]; exact OwnR.new hr1 rfl
  have Q1 : OwnR M1 (M0.length + Qi) b := by rw [hM1]; exact OwnR.new hr2 rfl
  rw [← hM1]
  clear B0
  clear hM1
  clear hr1 hr2 nr
  generalize M0.length + Pi = Pd at *
  generalize M0.length + Qi = Qd at *
  have IP : ∀ {M}, OwnR M Pd a → IntsA M (.slice (some ⟨Pd, 0, none⟩) a.length Pf) a := fun h => h.ints (by omega) _
  have IQ : ∀ {M}, OwnR M Qd b → IntsA M (.slice (some ⟨Qd, 0, none⟩) b.length Qf) b := fun h => h.ints (by omega) _
  obtain ⟨mo, hmo⟩ : ∃ t, t = moreB a b := ⟨_, rfl⟩
  obtain ⟨ok1, hok1⟩ : ∃ t, t = (distB a && distB b) := ⟨_, rfl⟩
  have A1 : ∀ M, OwnR M Pd a → OwnR M Qd b → RC Try.prog 47 [.slice (some ⟨Pd, 0, none⟩) a.length Pf, .slice (some ⟨Qd, 0, none⟩) b.length Qf] M (AnsV (.tuple #[.bool mo, .bool ok1])) := fun M h h' => by rw [hmo, hok1]; exact implIsMore_rc _ _ _ a b (IP h) (IQ h')
  have A2 : ∀ M, OwnR M Pd a → OwnR M Qd b → RC Try.prog 48 [.slice (some ⟨Pd, 0, none⟩) a.length Pf, .slice (some ⟨Qd, 0, none⟩) b.length Qf] M (AnsV (.tuple #[.bool mo, .bool ok1])) := fun M h h' => by rw [hmo, hok1]; exact specIsMore_rc _ _ _ a b (IP h) (IQ h')
  simp (config := {implicitDefEqProofs := false, maxDischargeDepth := 20}) (disch := first | omega | (simp only [lenE]; done) | (simp only [lenE]; omega) | rfl | (simp only [lenE, markR_len]; done) | (simp only [lenE, markR_len]; omega)) only [runE, mapE, listE, initT_5, initT_6, initT_7, initT_8, resV, oneV, binA, unA, reduceCtorEq, Nat.reduceEqDiff, Nat.reduceAdd, Nat.reduceLT, Nat.reduceLeDiff, Nat.reduceMul, Nat.reduceSub, ↓reduceIte, decide_true, decide_false, Bool.true_eq_false, Bool.false_eq_true, Bool.not_true, Bool.not_false, if_true, if_false, and_true, true_and, memE, celE, w64, Nat.zero_add, Nat.add_zero, Nat.mul_one, putL, and_self, ldn, ext_2_0, ext_2_1]
  refine callH_rc (A1 _ P1 Q1) ?_
  rintro r new ⟨rfl, nr⟩
  obtain ⟨M2, hM2⟩ : ∃ M, M = M1 ++ new := ⟨_, rfl⟩
  have B2 : BytesA M2 0 l := by rw [hM2]; exact B1.ext _
  have P2 : OwnR M2 Pd a := by rw [hM2]; exact P1.ext _
  have Q2 : OwnR M2 Qd b := by rw [hM2]; exact Q1.ext _
  rw [← hM2]
  clear B1 P1 Q1
  clear hM2
  clear nr
  simp (config := {implicitDefEqProofs := false, maxDischargeDepth := 20}) (disch := first | omega | (simp only [lenE]; done) | (simp only [lenE]; omega) | rfl | (simp only [lenE, markR_len]; done) | (simp only [lenE, markR_len]; omega)) only [runE, mapE, listE, initT_5, initT_6, initT_7, initT_8, resV, oneV, binA, unA, reduceCtorEq, Nat.reduceEqDiff, Nat.reduceAdd, Nat.reduceLT, Nat.reduceLeDiff, Nat.reduceMul, Nat.reduceSub, ↓reduceIte, decide_true, decide_false, Bool.true_eq_false, Bool.false_eq_true, Bool.not_true, Bool.not_false, if_true, if_false, and_true, true_and, memE, celE, w64, Nat.zero_add, Nat.add_zero, Nat.mul_one, putL, and_self, ldn, ext_2_0, ext_2_1]
  refine callH_rc (A2 _ P2 Q2) ?_
  rintro r new ⟨rfl, nr⟩
  obtain ⟨M3, hM3⟩ : ∃ M, M = M2 ++ new := ⟨_, rfl⟩
  have B3 : BytesA M3 0 l := by rw [hM3]; exact B2.ext _
  have P3 : OwnR M3 Pd a := by rw [hM3]; exact P2.ext _
  have Q3 : OwnR M3 Qd b := by rw [hM3]; exact Q2.ext _
  rw [← hM3]
  clear B2 P2 Q2
  clear hM3
  clear nr
  simp (config := {implicitDefEqProofs := false, maxDischargeDepth := 20}) (disch := first | omega | (simp only [lenE]; done) | (simp only [lenE]; omega) | rfl | (simp only [lenE, markR_len]; done) | (simp only [lenE, markR_len]; omega)) only [runE, mapE, listE, initT_5, initT_6, initT_7, initT_8, resV, oneV, binA, unA, reduceCtorEq, Nat.reduceEqDiff, Nat.reduceAdd, Nat.reduceLT, Nat.reduceLeDiff, Nat.reduceMul, Nat.reduceSub, ↓reduceIte, decide_true, decide_false, Bool.true_eq_false, Bool.false_eq_true, Bool.not_true, Bool.not_false, if_true, if_false, and_true, true_and, memE, celE, w64, Nat.zero_add, Nat.add_zero, Nat.mul_one, putL, and_self, ldn, ext_2_0, ext_2_1]
  refine callH_rc (vCut_rc _ 0 0 1 l B3 (by omega) (by omega)) ?_
  rintro r new ⟨nr, ci1, lb1, rfl, hrow, hb1, hl1⟩
  obtain ⟨M4, hM4⟩ : ∃ M, M = M3 ++ new := ⟨_, rfl⟩
  have B4 : BytesA M4 0 l := by rw [hM4]; exact B3.ext _
  have P4 : OwnR M4 Pd a := by rw [hM4]; exact P3.ext _
  have Q4 : OwnR M4 Qd b := by rw [hM4]; exact Q3.ext _
  have C14 : BytesA M4 (M3.length + ci1) lb1 := ⟨⟨.own, by simp, by rw [hM4, List.getElem?_append_right (by omega), Nat.add_sub_cancel_left]; exact hrow⟩, hb1, hl1⟩
  rw [← hM4]
  clear B3 P3 Q3
  clear hM4
  clear hrow nr
  simp (config := {implicitDefEqProofs := false, maxDischargeDepth := 20}) (disch := first | omega | (simp only [lenE]; done) | (simp only [lenE]; omega) | rfl | (simp only [lenE, markR_len]; done) | (simp only [lenE, markR_len]; omega)) only [runE, mapE, listE, initT_5, initT_6, initT_7, initT_8, resV, oneV, binA, unA, reduceCtorEq, Nat.reduceEqDiff, Nat.reduceAdd, Nat.reduceLT, Nat.reduceLeDiff, Nat.reduceMul, Nat.reduceSub, ↓reduceIte, decide_true, decide_false, Bool.true_eq_false, Bool.false_eq_true, Bool.not_true, Bool.not_false, if_true, if_false, and_true, true_and, memE, celE, w64, Nat.zero_add, Nat.add_zero, Nat.mul_one, putL, and_self, ldn]
  refine callH_rc (DrawIsWider_rc _ _ 1 lb1 C14) ?_
  rintro r new ⟨nr, Ei, Fi, Ef, Ff, c, d, rfl, hr1, hr2, hlc, hld⟩
  obtain ⟨M5, hM5⟩ : ∃ M, M = M4 ++ new := ⟨_, rfl⟩
  have B5 : BytesA M5 0 l := by rw [hM5]; exact B4.ext _
  have P5 : OwnR M5 Pd a := by rw [hM5]; exact P4.ext _
  have Q5 : OwnR M5 Qd b := by rw [hM5]; exact Q4.ext _
  have E5 : OwnR M5 (M4.length + Ei) c := by rw [hM5]; exact OwnR.new hr1 rfl
  have F5 : OwnR M5 (M4.length + Fi) d := by rw [hM5]; exact OwnR.new hr2 rfl
  rw [← hM5]
  clear B4 P4 Q4
  clear hM5
  clear hr1 hr2 nr C14
  generalize M4.length + Ei = Ed at *
  generalize M4.length + Fi = Fd at *
  have IE : ∀ {M}, OwnR M Ed c → IntsA M (.slice (some ⟨Ed, 0, none⟩) c.length Ef) c := fun h => h.ints (by omega) _
  have IF : ∀ {M}, OwnR M Fd d → IntsA M (.slice (some ⟨Fd, 0, none⟩) d.length Ff) d := fun h => h.ints (by omega) _
  obtain ⟨wi, hwi⟩ : ∃ t, t = widerB c d := ⟨_, rfl⟩
  obtain ⟨ok2, hok2⟩ : ∃ t, t = (distB c && distB d) := ⟨_, rfl⟩
  have A3 : ∀ M, OwnR M Ed c → OwnR M Fd d → RC Try.prog 50 [.slice (some ⟨Ed, 0, none⟩) c.length Ef, .slice (some ⟨Fd, 0, none⟩) d.length Ff] M (AnsV (.tuple #[.bool wi, .bool ok2])) := fun M h h' => by rw [hwi, hok2]; exact implIsWider_rc _ _ _ c d (IE h) (IF h')
  have A4 : ∀ M, OwnR M Ed c → OwnR M Fd d → RC Try.prog 51 [.slice (some ⟨Ed, 0, none⟩) c.length Ef, .slice (some ⟨Fd, 0, none⟩) d.length Ff] M (AnsV (.tuple #[.bool wi, .bool ok2])) := fun M h h' => by rw [hwi, hok2]; exact specIsWider_rc _ _ _ c d (IE h) (IF h')
  simp (config := {implicitDefEqProofs := false, maxDischargeDepth := 20}) (disch := first | omega | (simp only [lenE]; done) | (simp only [lenE]; omega) | rfl | (simp only [lenE, markR_len]; done) | (simp only [lenE, markR_len]; omega)) only [runE, mapE, listE, initT_5, initT_6, initT_7, initT_8, resV, oneV, binA, unA, reduceCtorEq, Nat.reduceEqDiff, Nat.reduceAdd, Nat.reduceLT, Nat.reduceLeDiff, Nat.reduceMul, Nat.reduceSub, ↓reduceIte, decide_true, decide_false, Bool.true_eq_false, Bool.false_eq_true, Bool.not_true, Bool.not_false, if_true, if_false, and_true, true_and, memE, celE, w64, Nat.zero_add, Nat.add_zero, Nat.mul_one, putL, and_self, ldn, ext_2_0, ext_2_1]
  refine callH_rc (A3 _ E5 F5) ?_
  rintro r new ⟨rfl, nr⟩
  obtain ⟨M6, hM6⟩ : ∃ M, M = M5 ++ new := ⟨_, rfl⟩
  have B6 : BytesA M6 0 l := by rw [hM6]; exact B5.ext _
  have P6 : OwnR M6 Pd a := by rw [hM6]; exact P5.ext _
  have Q6 : OwnR M6 Qd b := by rw [hM6]; exact Q5.ext _
  have E6 : OwnR M6 Ed c := by rw [hM6]; exact E5.ext _
  have F6 : OwnR M6 Fd d := by rw [hM6]; exact F5.ext _
  rw [← hM6]
  clear B5 P5 Q5 E5 F5
  clear hM6
  clear nr
  simp (config := {implicitDefEqProofs := false, maxDischargeDepth := 20}) (disch := first | omega | (simp only [lenE]; done) | (simp only [lenE]; omega) | rfl | (simp only [lenE, markR_len]; done) | (simp only [lenE, markR_len]; omega)) only [runE, mapE, listE, initT_5, initT_6, initT_7, initT_8, resV, oneV, binA, unA, reduceCtorEq, Nat.reduceEqDiff, Nat.reduceAdd, Nat.reduceLT, Nat.reduceLeDiff, Nat.reduceMul, Nat.reduceSub, ↓reduceIte, decide_true, decide_false, Bool.true_eq_false, Bool.false_eq_true, Bool.not_true, Bool.not_false, if_true, if_false, and_true, true_and, memE, celE, w64, Nat.zero_add, Nat.add_zero, Nat.mul_one, putL, and_self, ldn, ext_2_0, ext_2_1]
  refine callH_rc (A4 _ E6 F6) ?_
  rintro r new ⟨rfl, nr⟩
  obtain ⟨M7, hM7⟩ : ∃ M, M = M6 ++ new := ⟨_, rfl⟩
  have B7 : BytesA M7 0 l := by rw [hM7]; exact B6.ext _
  have P7 : OwnR M7 Pd a := by rw [hM7]; exact P6.ext _
  have Q7 : OwnR M7 Qd b := by rw [hM7]; exact Q6.ext _
  have E7 : OwnR M7 Ed c := by rw [hM7]; exact E6.ext _
  have F7 : OwnR M7 Fd d := by rw [hM7]; exact F6.ext _
  rw [← hM7]
  clear B6 P6 Q6 E6 F6
  clear hM7
  clear nr
  simp (config := {implicitDefEqProofs := false, maxDischargeDepth := 20}) (disch := first | omega | (simp only [lenE]; done) | (simp only [lenE]; omega) | rfl | (simp only [lenE, markR_len]; done) | (simp only [lenE, markR_len]; omega)) only [runE, mapE, listE, initT_5, initT_6, initT_7, initT_8, resV, oneV, binA, unA, reduceCtorEq, Nat.reduceEqDiff, Nat.reduceAdd, Nat.reduceLT, Nat.reduceLeDiff, Nat.reduceMul, Nat.reduceSub, ↓reduceIte, decide_true, decide_false, Bool.true_eq_false, Bool.false_eq_true, Bool.not_true, Bool.not_false, if_true, if_false, and_true, true_and, memE, celE, w64, Nat.zero_add, Nat.add_zero, Nat.mul_one, putL, and_self, ldn, ext_2_0, ext_2_1]
  refine callH_rc (vCut_rc _ 0 0 2 l B7 (by omega) (by omega)) ?_
  rintro r new ⟨nr, ci2, lb2, rfl, hrow, hb2, hl2⟩
  obtain ⟨M8, hM8⟩ : ∃ M, M = M7 ++ new := ⟨_, rfl⟩
  have B8 : BytesA M8 0 l := by rw [hM8]; exact B7.ext _
  have P8 : OwnR M8 Pd a := by rw [hM8]; exact P7.ext _
  have Q8 : OwnR M8 Qd b := by rw [hM8]; exact Q7.ext _
  have E8 : OwnR M8 Ed c := by rw [hM8]; exact E7.ext _
  have F8 : OwnR M8 Fd d := by rw [hM8]; exact F7.ext _
  have C28 : BytesA M8 (M7.length + ci2) lb2 := ⟨⟨.own, by simp, by rw [hM8, List.getElem?_append_right (by omega), Nat.add_sub_cancel_left]; exact hrow⟩, hb2, hl2⟩
  rw [← hM8]
  clear B7 P7 Q7 E7 F7
  clear hM8
  clear hrow nr
  simp (config := {implicitDefEqProofs := false, maxDischargeDepth := 20}) (disch := first | omega | (simp only [lenE]; done) | (simp only [lenE]; omega) | rfl | (simp only [lenE, markR_len]; done) | (simp only [lenE, markR_len]; omega)) only [runE, mapE, listE, initT_5, initT_6, initT_7, initT_8, resV, oneV, binA, unA, reduceCtorEq, Nat.reduceEqDiff, Nat.reduceAdd, Nat.reduceLT, Nat.reduceLeDiff, Nat.reduceMul, Nat.reduceSub, ↓reduceIte, decide_true, decide_false, Bool.true_eq_false, Bool.false_eq_true, Bool.not_true, Bool.not_false, if_true, if_false, and_true, true_and, memE, celE, w64, Nat.zero_add, Nat.add_zero, Nat.mul_one, putL, and_self, ldn]
  refine callH_rc (DrawSumOf_rc _ _ 1 lb2 C28) ?_
  rintro r new ⟨nr, Xi, Yi, Xf, Yf, x, y, rfl, hr1, hr2, hlx, hly⟩
  obtain ⟨M9, hM9⟩ : ∃ M, M = M8 ++ new := ⟨_, rfl⟩
  have B9 : BytesA M9 0 l := by rw [hM9]; exact B8.ext _
  have P9 : OwnR M9 Pd a := by rw [hM9]; exact P8.ext _
  have Q9 : OwnR M9 Qd b := by rw [hM9]; exact Q8.ext _
  have E9 : OwnR M9 Ed c := by rw [hM9]; exact E8.ext _
  have F9 : OwnR M9 Fd d := by rw [hM9]; exact F8.ext _
  have X9 : OwnR M9 (M8.length + Xi) x := by rw [hM9]; exact OwnR.new hr1 rfl
  have Y9 : OwnR M9 (M8.length + Yi) y := by rw [hM9]; exact OwnR.new hr2 rfl
  rw [← hM9]
  clear B8 P8 Q8 E8 F8
  clear hM9
  clear hr1 hr2 nr C28
  generalize M8.length + Xi = Xd at *
  generalize M8.length + Yi = Yd at *
  have IX : ∀ {M}, OwnR M Xd x → IntsA M (.slice (some ⟨Xd, 0, none⟩) x.length Xf) x := fun h => h.ints (by omega) _
  have IY : ∀ {M}, OwnR M Yd y → IntsA M (.slice (some ⟨Yd, 0, none⟩) y.length Yf) y := fun h => h.ints (by omega) _
  obtain ⟨sm, hsm⟩ : ∃ t, t = sumA x y := ⟨_, rfl⟩
  obtain ⟨th, hth⟩ : ∃ t, t = sumB x y := ⟨_, rfl⟩
  have A5 : ∀ M, OwnR M Xd x → OwnR M Yd y → RC Try.prog 53 [.slice (some ⟨Xd, 0, none⟩) x.length Xf, .slice (some ⟨Yd, 0, none⟩) y.length Yf] M (AnsL M sm th) := fun M h h' => by rw [hsm, hth]; exact implSumOf_rc _ _ _ x y (IX h) (IY h')
  have A6 : ∀ M, OwnR M Xd x → OwnR M Yd y → RC Try.prog 54 [.slice (some ⟨Xd, 0, none⟩) x.length Xf, .slice (some ⟨Yd, 0, none⟩) y.length Yf] M (AnsL M sm th) := fun M h h' => by rw [hsm, hth]; exact specSumOf_rc _ _ _ x y (IX h) (IY h')
  simp (config := {implicitDefEqProofs := false, maxDischargeDepth := 20}) (disch := first | omega | (simp only [lenE]; done) | (simp only [lenE]; omega) | rfl | (simp only [lenE, markR_len]; done) | (simp only [lenE, markR_len]; omega)) only [runE, mapE, listE, initT_5, initT_6, initT_7, initT_8, resV, oneV, binA, unA, reduceCtorEq, Nat.reduceEqDiff, Nat.reduceAdd, Nat.reduceLT, Nat.reduceLeDiff, Nat.reduceMul, Nat.reduceSub, ↓reduceIte, decide_true, decide_false, Bool.true_eq_false, Bool.false_eq_true, Bool.not_true, Bool.not_false, if_true, if_false, and_true, true_and, memE, celE, w64, Nat.zero_add, Nat.add_zero, Nat.mul_one, putL, and_self, ldn, ext_2_0, ext_2_1]
  refine callH_rc (A5 _ X9 Y9) ?_
  intro r new hA
  obtain ⟨Sd, Sf, rfl, hgeS, hS, hleS, nr⟩ := hA.row
  clear hA hgeS
  obtain ⟨M10, hM10⟩ : ∃ M, M = M9 ++ new := ⟨_, rfl⟩
  have B10 : BytesA M10 0 l := by rw [hM10]; exact B9.ext _
  have P10 : OwnR M10 Pd a := by rw [hM10]; exact P9.ext _
  have Q10 : OwnR M10 Qd b := by rw [hM10]; exact Q9.ext _
  have E10 : OwnR M10 Ed c := by rw [hM10]; exact E9.ext _
  have F10 : OwnR M10 Fd d := by rw [hM10]; exact F9.ext _
  have X10 : OwnR M10 Xd x := by rw [hM10]; exact X9.ext _
  have Y10 : OwnR M10 Yd y := by rw [hM10]; exact Y9.ext _
  rw [← hM10] at hS
  rw [← hM10]
  clear B9 P9 Q9 E9 F9 X9 Y9
  clear hM10
  have S10 := hS
  clear hS nr
  simp (config := {implicitDefEqProofs := false, maxDischargeDepth := 20}) (disch := first | omega | (simp only [lenE]; done) | (simp only [lenE]; omega) | rfl | (simp only [lenE, markR_len]; done) | (simp only [lenE, markR_len]; omega)) only [runE, mapE, listE, initT_5, initT_6, initT_7, initT_8, resV, oneV, binA, unA, reduceCtorEq, Nat.reduceEqDiff, Nat.reduceAdd, Nat.reduceLT, Nat.reduceLeDiff, Nat.reduceMul, Nat.reduceSub, ↓reduceIte, decide_true, decide_false, Bool.true_eq_false, Bool.false_eq_true, Bool.not_true, Bool.not_false, if_true, if_false, and_true, true_and, memE, celE, w64, Nat.zero_add, Nat.add_zero, Nat.mul_one, putL, and_self, ldn, ext_2_0, ext_2_1, bne_self_eq_false, beq_self_eq_true]
  refine callH_rc (A6 _ X10 Y10) ?_
  intro r new hA
  obtain ⟨Td, Tf, rfl, hgeT, hT, hleT, nr⟩ := hA.row
  clear hA hgeT
  obtain ⟨M11, hM11⟩ : ∃ M, M = M10 ++ new := ⟨_, rfl⟩
  have B11 : BytesA M11 0 l := by rw [hM11]; exact B10.ext _
  have P11 : OwnR M11 Pd a := by rw [hM11]; exact P10.ext _
  have Q11 : OwnR M11 Qd b := by rw [hM11]; exact Q10.ext _
  have E11 : OwnR M11 Ed c := by rw [hM11]; exact E10.ext _
  have F11 : OwnR M11 Fd d := by rw [hM11]; exact F10.ext _
  have X11 : OwnR M11 Xd x := by rw [hM11]; exact X10.ext _
  have Y11 : OwnR M11 Yd y := by rw [hM11]; exact Y10.ext _
  have S11 : OwnR M11 Sd sm := by rw [hM11]; exact S10.ext _
  rw [← hM11] at hT
  rw [← hM11]
  clear B10 P10 Q10 E10 F10 X10 Y10 S10
  clear hM11
  have T11 := hT
  clear hT nr
  simp (config := {implicitDefEqProofs := false, maxDischargeDepth := 20}) (disch := first | omega | (simp only [lenE]; done) | (simp only [lenE]; omega) | rfl | (simp only [lenE, markR_len]; done) | (simp only [lenE, markR_len]; omega)) only [runE, mapE, listE, initT_5, initT_6, initT_7, initT_8, resV, oneV, binA, unA, reduceCtorEq, Nat.reduceEqDiff, Nat.reduceAdd, Nat.reduceLT, Nat.reduceLeDiff, Nat.reduceMul, Nat.reduceSub, ↓reduceIte, decide_true, decide_false, Bool.true_eq_false, Bool.false_eq_true, Bool.not_true, Bool.not_false, if_true, if_false, and_true, true_and, memE, celE, w64, Nat.zero_add, Nat.add_zero, Nat.mul_one, putL, and_self, ldn, ext_2_0, ext_2_1, bne_self_eq_false, beq_self_eq_true]
  have IS : ∀ {M : Mem} {i f : Nat}, OwnR M i sm → IntsA M (.slice (some ⟨i, 0, none⟩) sm.length f) sm := fun h => h.ints (by omega) _
  refine callH_rc (vInts_rc _ _ _ sm (IS S11) (IS T11)) ?_
  rintro r new ⟨rfl, rfl⟩
  rw [List.append_nil]
  clear T11 A1 A2 A3 A4 A5 A6
  -- what is known where a flag is true
  have KM : mo = true → Dist a ∧ Dist b ∧ ∀ q, q < 16 → upF a q * tot b ≤ upF b q * tot a := fun hm => by
    rw [hmo] at hm
    unfold moreB at hm
    rw [Bool.and_eq_true, Bool.and_eq_true, dist_iff, dist_iff] at hm
    exact ⟨hm.1.1, hm.1.2, never_all hm.2⟩
  have KW : wi = true → Dist c ∧ Dist d ∧ shortS c 0 * tot d = shortS d 0 * tot c ∧ ∀ q, q < 16 → shortS d q * tot c ≤ shortS c q * tot d := fun hm => by
    rw [hwi] at hm
    unfold widerB at hm
    rw [Bool.and_eq_true, Bool.and_eq_true, Bool.and_eq_true, dist_iff, dist_iff, decide_eq_true_eq] at hm
    exact ⟨hm.1.1, hm.1.2, hm.2.1, never_all hm.2.2⟩
  have KS : th = true → Dist x ∧ Dist y ∧ Dist sm ∧ sm = convTo x y x.length := fun hm => by
    rw [hth] at hm
    have e : sm = convL x y := by rw [hsm, sumA_yes hm]
    unfold sumB at hm
    rw [Bool.and_eq_true, Bool.and_eq_true, dist_iff, dist_iff, dist_iff] at hm
    exact ⟨hm.1.1, hm.1.2, by rw [e]; exact hm.2, e⟩
  clear hmo hwi hth hsm hok1 hok2
  obtain ⟨K, hK⟩ : ∃ K : Mem → Prop, K = fun M => OwnR M Pd a ∧ OwnR M Qd b ∧ OwnR M Ed c ∧ OwnR M Fd d ∧ OwnR M Xd x ∧ OwnR M Yd y ∧ OwnR M Sd sm ∧ BytesA M 0 l := ⟨_, rfl⟩
  have Kx : ∀ {M : Mem} (new : Mem), K M → K (M ++ new) := fun {M} new h => by
    rw [hK] at h ⊢
    obtain ⟨h1, h2, h3, h4, h5, h6, h7, h8⟩ := h
    exact ⟨h1.ext _, h2.ext _, h3.ext _, h4.ext _, h5.ext _, h6.ext _, h7.ext _, h8.ext _⟩
  have K0 : K M11 := by rw [hK]; exact ⟨P11, Q11, E11, F11, X11, Y11, S11, B11⟩
  have kP : ∀ {M}, K M → IntsA M (.slice (some ⟨Pd, 0, none⟩) a.length Pf) a := fun h => by rw [hK] at h; exact IP h.1
  have kQ : ∀ {M}, K M → IntsA M (.slice (some ⟨Qd, 0, none⟩) b.length Qf) b := fun h => by rw [hK] at h; exact IQ h.2.1
  have kE : ∀ {M}, K M → IntsA M (.slice (some ⟨Ed, 0, none⟩) c.length Ef) c := fun h => by rw [hK] at h; exact IE h.2.2.1
  have kF : ∀ {M}, K M → IntsA M (.slice (some ⟨Fd, 0, none⟩) d.length Ff) d := fun h => by rw [hK] at h; exact IF h.2.2.2.1
  have kX : ∀ {M}, K M → IntsA M (.slice (some ⟨Xd, 0, none⟩) x.length Xf) x := fun h => by rw [hK] at h; exact IX h.2.2.2.2.1
  have kY : ∀ {M}, K M → IntsA M (.slice (some ⟨Yd, 0, none⟩) y.length Yf) y := fun h => by rw [hK] at h; exact IY h.2.2.2.2.2.1
  have kS : ∀ {M}, K M → IntsA M (.slice (some ⟨Sd, 0, none⟩) sm.length Sf) sm := fun h => by rw [hK] at h; exact IS h.2.2.2.2.2.2.1
  have kB : ∀ {M}, K M → BytesA M 0 l := fun h => by rw [hK] at h; exact h.2.2.2.2.2.2.2
  have crit : ∀ {M : Mem} {v : Value} {w : List Int} (o u : Nat), IntsA M v w → Dist w → o ≤ 20 → u ≤ 20 → RC Try.prog 25 [v, .int .i64 o, .int .i64 u] M (AnsV (.tuple #[.int .i64 (critF w o u), .bool true])) := fun {M v w} o u h hd ho hu => by
    have := implCriticalOrder_rc M v w o u h
    have hc : (distB w && chB (o : Int) (u : Int)) = true := by
      rw [dist_iff.2 hd, Bool.true_and]; unfold chB; rw [Bool.and_eq_true, inB_iff, inB_iff]; omega
    rw [hc] at this
    exact this
  have mean : ∀ {M : Mem} {v : Value} {w : List Int}, IntsA M v w → Dist w → RC Try.prog 37 [v] M (AnsV (.tuple #[.int .i64 (shortS w 0), .bool true])) := fun {M v w} h hd => by
    have := implMeanSum_rc M v w h
    rw [dist_iff.2 hd] at this
    exact this
  have cb : ∀ {w v : List Int} (o u : Nat), Dist w → Dist v → o ≤ 20 → u ≤ 20 → 0 ≤ costF w o u (critF w o u) * tot v ∧ costF w o u (critF w o u) * tot v ≤ 163840000000 := fun {w v} o u hd hv ho hu => by
    have h1 := crit_le (w := w) (o := (o : Int)) (u := (u : Int)) hd (by omega)
    have h2 := cost_in (w := w) (o := (o : Int)) (u := (u : Int)) hd (by omega) (by omega) (q := critF w o u) (by omega)
    have h3 := tot_in hv
    exact mul_in (A := 10240000) (B := 16000) h2 ⟨by omega, h3.2⟩
  clear hK P11 Q11 E11 F11 X11 Y11 S11 B11
  generalize M11 = M at *
  simp (config := {implicitDefEqProofs := false, maxDischargeDepth := 20}) (disch := first | omega | (simp only [lenE]; done) | (simp only [lenE]; omega) | rfl | (simp only [lenE, markR_len]; done) | (simp only [lenE, markR_len]; omega)) only [runE, mapE, listE, initT_5, initT_6, initT_7, initT_8, resV, oneV, binA, unA, reduceCtorEq, Nat.reduceEqDiff, Nat.reduceAdd, Nat.reduceLT, Nat.reduceLeDiff, Nat.reduceMul, Nat.reduceSub, ↓reduceIte, decide_true, decide_false, Bool.true_eq_false, Bool.false_eq_true, Bool.not_true, Bool.not_false, if_true, if_false, and_true, true_and, memE, celE, w64, Nat.zero_add, Nat.add_zero, Nat.mul_one, putL, and_self, ldn, bne_self_eq_false, beq_self_eq_true]
  refine loop_inv mixed (fun s => ∃ (j : Nat) (M : Mem), j ≤ 7 ∧ s.m = M ∧ K M ∧ s.t 0 = .slice (some ⟨0, 0, none⟩) l.length 0 ∧ s.t 3 = .slice (some ⟨Pd, 0, none⟩) a.length Pf ∧ s.t 4 = .slice (some ⟨Qd, 0, none⟩) b.length Qf ∧ s.t 5 = .bool mo ∧ s.t 9 = .slice (some ⟨Ed, 0, none⟩) c.length Ef ∧ s.t 10 = .slice (some ⟨Fd, 0, none⟩) d.length Ff ∧ s.t 11 = .bool wi ∧ s.t 15 = .slice (some ⟨Xd, 0, none⟩) x.length Xf ∧ s.t 16 = .slice (some ⟨Yd, 0, none⟩) y.length Yf ∧ s.t 17 = .slice (some ⟨Sd, 0, none⟩) sm.length Sf ∧ s.t 18 = .bool th ∧ s.t 21 = .int .i64 j) (fun s => 20 - (intOf (s.t 21)).toNat)
    ⟨0, M, by omega, rfl, K0, rfl, rfl, rfl, rfl, rfl, rfl, rfl, rfl, rfl, rfl, rfl, rfl⟩ ?_
  clear K0
  rintro s ⟨j, M, hj, tm, K0, t0, t3, t4, t5, t9, t10, t11, t15, t16, t17, t18, t21⟩
  by_cases hlt : j ≤ 6
  · have hlt' : (j : Int) ≤ 6 := by omega
    simp (config := {implicitDefEqProofs := false, maxDischargeDepth := 20}) (disch := first | omega | (simp only [lenE]; done) | (simp only [lenE]; omega) | rfl | (simp only [lenE, markR_len]; done) | (simp only [lenE, markR_len]; omega)) only [runE, mapE, listE, initT_5, initT_6, initT_7, initT_8, resV, oneV, binA, unA, reduceCtorEq, Nat.reduceEqDiff, Nat.reduceAdd, Nat.reduceLT, Nat.reduceLeDiff, Nat.reduceMul, Nat.reduceSub, ↓reduceIte, decide_true, decide_false, Bool.true_eq_false, Bool.false_eq_true, Bool.not_true, Bool.not_false, if_true, if_false, and_true, true_and, memE, celE, w64, Nat.zero_add, Nat.add_zero, Nat.mul_one, putL, and_self, ldn, tm, t0, t3, t4, t5, t9, t10, t11, t15, t16, t17, t18, t21, hlt']
    refine callH_rc (vAt_rc _ 0 0 j l (kB K0) (by omega)) ?_
    rintro r new ⟨rfl, z, rfl, hz⟩
    rw [List.append_nil]
    have d7 : ¬ ((7 : Int) = 0) := by decide
    obtain ⟨ov, hov, hov6⟩ : ∃ ov : Nat, (z : Int).tmod 7 = (ov : Int) ∧ ov ≤ 6 := ⟨z % 7, by rw [Int.tmod_eq_emod_of_nonneg (by omega)]; omega, by omega⟩
    cases hm : mo with
    | false =>
      rw [hm] at t5
      simp (config := {implicitDefEqProofs := false, maxDischargeDepth := 20}) (disch := first | omega | (simp only [lenE]; done) | (simp only [lenE]; omega) | rfl | (simp only [lenE, markR_len]; done) | (simp only [lenE, markR_len]; omega)) only [runE, mapE, listE, initT_5, initT_6, initT_7, initT_8, resV, oneV, binA, unA, reduceCtorEq, Nat.reduceEqDiff, Nat.reduceAdd, Nat.reduceLT, Nat.reduceLeDiff, Nat.reduceMul, Nat.reduceSub, ↓reduceIte, decide_true, decide_false, Bool.true_eq_false, Bool.false_eq_true, Bool.not_true, Bool.not_false, if_true, if_false, and_true, true_and, memE, celE, w64, Nat.zero_add, Nat.add_zero, Nat.mul_one, putL, and_self, ldn, tm, t0, t3, t4, t5, t9, t10, t11, t15, t16, t17, t18, t21, hov, d7]
      cases hw : wi with
      | false =>
        rw [hw] at t11
        simp (config := {implicitDefEqProofs := false, maxDischargeDepth := 20}) (disch := first | omega | (simp only [lenE]; done) | (simp only [lenE]; omega) | rfl | (simp only [lenE, markR_len]; done) | (simp only [lenE, markR_len]; omega)) only [runE, mapE, listE, initT_5, initT_6, initT_7, initT_8, resV, oneV, binA, unA, reduceCtorEq, Nat.reduceEqDiff, Nat.reduceAdd, Nat.reduceLT, Nat.reduceLeDiff, Nat.reduceMul, Nat.reduceSub, ↓reduceIte, decide_true, decide_false, Bool.true_eq_false, Bool.false_eq_true, Bool.not_true, Bool.not_false, if_true, if_false, and_true, true_and, memE, celE, w64, Nat.zero_add, Nat.add_zero, Nat.mul_one, putL, and_self, ldn, tm, t0, t3, t4, t5, t9, t10, t11, t15, t16, t17, t18, t21, goG_undef]
        cases ht : th with
        | false =>
          rw [ht] at t18
          simp (config := {implicitDefEqProofs := false, maxDischargeDepth := 20}) (disch := first | omega | (simp only [lenE]; done) | (simp only [lenE]; omega) | rfl | (simp only [lenE, markR_len]; done) | (simp only [lenE, markR_len]; omega)) only [runE, mapE, listE, initT_5, initT_6, initT_7, initT_8, resV, oneV, binA, unA, reduceCtorEq, Nat.reduceEqDiff, Nat.reduceAdd, Nat.reduceLT, Nat.reduceLeDiff, Nat.reduceMul, Nat.reduceSub, ↓reduceIte, decide_true, decide_false, Bool.true_eq_false, Bool.false_eq_true, Bool.not_true, Bool.not_false, if_true, if_false, and_true, true_and, memE, celE, w64, Nat.zero_add, Nat.add_zero, Nat.mul_one, putL, and_self, ldn, tm, t0, t3, t4, t5, t9, t10, t11, t15, t16, t17, t18, t21, goG_undef]
          exact ⟨⟨j + 1, _, by omega, rfl, K0, by simp⟩, by simp [intOf]; omega⟩
        | true =>
          rw [ht] at t18
          obtain ⟨dx, dy, ds, hse⟩ := KS ht
          have hxy := conv_cost (o := (ov : Int)) (u := (j : Int)) dx dy (by rw [← hse]; exact ds) (by omega) (by omega)
          rw [← hse] at hxy
          have b3 := cb (w := x) (v := y) ov j dx dy (by omega) (by omega)
          have b4 := cb (w := y) (v := x) ov j dy dx (by omega) (by omega)
          have hxy2 : ¬ (costF x ov j (critF x ov j) * tot y + costF y ov j (critF y ov j) * tot x < costF sm ov j (critF sm ov j)) := by omega
          simp (config := {implicitDefEqProofs := false, maxDischargeDepth := 20}) (disch := first | omega | (simp only [lenE]; done) | (simp only [lenE]; omega) | rfl | (simp only [lenE, markR_len]; done) | (simp only [lenE, markR_len]; omega)) only [runE, mapE, listE, initT_5, initT_6, initT_7, initT_8, resV, oneV, binA, unA, reduceCtorEq, Nat.reduceEqDiff, Nat.reduceAdd, Nat.reduceLT, Nat.reduceLeDiff, Nat.reduceMul, Nat.reduceSub, ↓reduceIte, decide_true, decide_false, Bool.true_eq_false, Bool.false_eq_true, Bool.not_true, Bool.not_false, if_true, if_false, and_true, true_and, memE, celE, w64, Nat.zero_add, Nat.add_zero, Nat.mul_one, putL, and_self, ldn, tm, t0, t3, t4, t5, t9, t10, t11, t15, t16, t17, t18, t21, gt_iff_lt]
          refine callH_rc (vBestSum_rc _ _ _ ov j (kS K0) ds (by omega) (by omega)) ?_
          rintro r new ⟨rfl, nr⟩
          have Z1 := Kx new K0
          obtain ⟨O1, hO1⟩ : ∃ N, N = M ++ new := ⟨_, rfl⟩
          rw [← hO1] at Z1 ⊢
          simp (config := {implicitDefEqProofs := false, maxDischargeDepth := 20}) (disch := first | omega | (simp only [lenE]; done) | (simp only [lenE]; omega) | rfl | (simp only [lenE, markR_len]; done) | (simp only [lenE, markR_len]; omega)) only [runE, mapE, listE, initT_5, initT_6, initT_7, initT_8, resV, oneV, binA, unA, reduceCtorEq, Nat.reduceEqDiff, Nat.reduceAdd, Nat.reduceLT, Nat.reduceLeDiff, Nat.reduceMul, Nat.reduceSub, ↓reduceIte, decide_true, decide_false, Bool.true_eq_false, Bool.false_eq_true, Bool.not_true, Bool.not_false, if_true, if_false, and_true, true_and, memE, celE, w64, Nat.zero_add, Nat.add_zero, Nat.mul_one, putL, and_self, ldn, tm, t0, t3, t4, t5, t9, t10, t11, t15, t16, t17, t18, t21, hxy2, gt_iff_lt]
          refine callH_rc (vBestSum_rc _ _ _ ov j (kX Z1) dx (by omega) (by omega)) ?_
          rintro r new ⟨rfl, nr⟩
          have Z2 := Kx new Z1
          obtain ⟨O2, hO2⟩ : ∃ N, N = O1 ++ new := ⟨_, rfl⟩
          rw [← hO2] at Z2 ⊢
          simp (config := {implicitDefEqProofs := false, maxDischargeDepth := 20}) (disch := first | omega | (simp only [lenE]; done) | (simp only [lenE]; omega) | rfl | (simp only [lenE, markR_len]; done) | (simp only [lenE, markR_len]; omega)) only [runE, mapE, listE, initT_5, initT_6, initT_7, initT_8, resV, oneV, binA, unA, reduceCtorEq, Nat.reduceEqDiff, Nat.reduceAdd, Nat.reduceLT, Nat.reduceLeDiff, Nat.reduceMul, Nat.reduceSub, ↓reduceIte, decide_true, decide_false, Bool.true_eq_false, Bool.false_eq_true, Bool.not_true, Bool.not_false, if_true, if_false, and_true, true_and, memE, celE, w64, Nat.zero_add, Nat.add_zero, Nat.mul_one, putL, and_self, ldn, tm, t0, t3, t4, t5, t9, t10, t11, t15, t16, t17, t18, t21, hxy2, gt_iff_lt]
          refine callH_rc (vAdd_rc _ _ _ (kY Z2) dy) ?_
          rintro r new ⟨rfl, rfl⟩
          rw [List.append_nil]
          simp (config := {implicitDefEqProofs := false, maxDischargeDepth := 20}) (disch := first | omega | (simp only [lenE]; done) | (simp only [lenE]; omega) | rfl | (simp only [lenE, markR_len]; done) | (simp only [lenE, markR_len]; omega)) only [runE, mapE, listE, initT_5, initT_6, initT_7, initT_8, resV, oneV, binA, unA, reduceCtorEq, Nat.reduceEqDiff, Nat.reduceAdd, Nat.reduceLT, Nat.reduceLeDiff, Nat.reduceMul, Nat.reduceSub, ↓reduceIte, decide_true, decide_false, Bool.true_eq_false, Bool.false_eq_true, Bool.not_true, Bool.not_false, if_true, if_false, and_true, true_and, memE, celE, w64, Nat.zero_add, Nat.add_zero, Nat.mul_one, putL, and_self, ldn, tm, t0, t3, t4, t5, t9, t10, t11, t15, t16, t17, t18, t21, hxy2, gt_iff_lt]
          refine callH_rc (vBestSum_rc _ _ _ ov j (kY Z2) dy (by omega) (by omega)) ?_
          rintro r new ⟨rfl, nr⟩
          have Z3 := Kx new Z2
          obtain ⟨O3, hO3⟩ : ∃ N, N = O2 ++ new := ⟨_, rfl⟩
          rw [← hO3] at Z3 ⊢
          simp (config := {implicitDefEqProofs := false, maxDischargeDepth := 20}) (disch := first | omega | (simp only [lenE]; done) | (simp only [lenE]; omega) | rfl | (simp only [lenE, markR_len]; done) | (simp only [lenE, markR_len]; omega)) only [runE, mapE, listE, initT_5, initT_6, initT_7, initT_8, resV, oneV, binA, unA, reduceCtorEq, Nat.reduceEqDiff, Nat.reduceAdd, Nat.reduceLT, Nat.reduceLeDiff, Nat.reduceMul, Nat.reduceSub, ↓reduceIte, decide_true, decide_false, Bool.true_eq_false, Bool.false_eq_true, Bool.not_true, Bool.not_false, if_true, if_false, and_true, true_and, memE, celE, w64, Nat.zero_add, Nat.add_zero, Nat.mul_one, putL, and_self, ldn, tm, t0, t3, t4, t5, t9, t10, t11, t15, t16, t17, t18, t21, hxy2, gt_iff_lt]
          refine callH_rc (vAdd_rc _ _ _ (kX Z3) dx) ?_
          rintro r new ⟨rfl, rfl⟩
          rw [List.append_nil]
          simp (config := {implicitDefEqProofs := false, maxDischargeDepth := 20}) (disch := first | omega | (simp only [lenE]; done) | (simp only [lenE]; omega) | rfl | (simp only [lenE, markR_len]; done) | (simp only [lenE, markR_len]; omega)) only [runE, mapE, listE, initT_5, initT_6, initT_7, initT_8, resV, oneV, binA, unA, reduceCtorEq, Nat.reduceEqDiff, Nat.reduceAdd, Nat.reduceLT, Nat.reduceLeDiff, Nat.reduceMul, Nat.reduceSub, ↓reduceIte, decide_true, decide_false, Bool.true_eq_false, Bool.false_eq_true, Bool.not_true, Bool.not_false, if_true, if_false, and_true, true_and, memE, celE, w64, Nat.zero_add, Nat.add_zero, Nat.mul_one, putL, and_self, ldn, tm, t0, t3, t4, t5, t9, t10, t11, t15, t16, t17, t18, t21, hxy2, gt_iff_lt]
          exact ⟨⟨j + 1, _, by omega, rfl, Z3, by simp⟩, by simp [intOf]; omega⟩
      | true =>
        rw [hw] at t11
        obtain ⟨dc, dd, hme, hwq⟩ := KW hw
        have hcd := wider_cost (o := (ov : Int)) (u := (j : Int)) dc dd (by omega) (by omega) hme hwq
        have b1 := cb (w := c) (v := d) ov j dc dd (by omega) (by omega)
        have b2 := cb (w := d) (v := c) ov j dd dc (by omega) (by omega)
        have hcd2 : ¬ (costF c ov j (critF c ov j) * tot d < costF d ov j (critF d ov j) * tot c) := by omega
        simp (config := {implicitDefEqProofs := false, maxDischargeDepth := 20}) (disch := first | omega | (simp only [lenE]; done) | (simp only [lenE]; omega) | rfl | (simp only [lenE, markR_len]; done) | (simp only [lenE, markR_len]; omega)) only [runE, mapE, listE, initT_5, initT_6, initT_7, initT_8, resV, oneV, binA, unA, reduceCtorEq, Nat.reduceEqDiff, Nat.reduceAdd, Nat.reduceLT, Nat.reduceLeDiff, Nat.reduceMul, Nat.reduceSub, ↓reduceIte, decide_true, decide_false, Bool.true_eq_false, Bool.false_eq_true, Bool.not_true, Bool.not_false, if_true, if_false, and_true, true_and, memE, celE, w64, Nat.zero_add, Nat.add_zero, Nat.mul_one, putL, and_self, ldn, tm, t0, t3, t4, t5, t9, t10, t11, t15, t16, t17, t18, t21]
        refine callH_rc (vBestSum_rc _ _ _ ov j (kE K0) dc (by omega) (by omega)) ?_
        rintro r new ⟨rfl, nr⟩
        have W1 := Kx new K0
        obtain ⟨N1, hN1⟩ : ∃ N, N = M ++ new := ⟨_, rfl⟩
        rw [← hN1] at W1 ⊢
        simp (config := {implicitDefEqProofs := false, maxDischargeDepth := 20}) (disch := first | omega | (simp only [lenE]; done) | (simp only [lenE]; omega) | rfl | (simp only [lenE, markR_len]; done) | (simp only [lenE, markR_len]; omega)) only [runE, mapE, listE, initT_5, initT_6, initT_7, initT_8, resV, oneV, binA, unA, reduceCtorEq, Nat.reduceEqDiff, Nat.reduceAdd, Nat.reduceLT, Nat.reduceLeDiff, Nat.reduceMul, Nat.reduceSub, ↓reduceIte, decide_true, decide_false, Bool.true_eq_false, Bool.false_eq_true, Bool.not_true, Bool.not_false, if_true, if_false, and_true, true_and, memE, celE, w64, Nat.zero_add, Nat.add_zero, Nat.mul_one, putL, and_self, ldn, tm, t0, t3, t4, t5, t9, t10, t11, t15, t16, t17, t18, t21, hcd2]
        refine callH_rc (vAdd_rc _ _ _ (kF W1) dd) ?_
        rintro r new ⟨rfl, rfl⟩
        rw [List.append_nil]
        simp (config := {implicitDefEqProofs := false, maxDischargeDepth := 20}) (disch := first | omega | (simp only [lenE]; done) | (simp only [lenE]; omega) | rfl | (simp only [lenE, markR_len]; done) | (simp only [lenE, markR_len]; omega)) only [runE, mapE, listE, initT_5, initT_6, initT_7, initT_8, resV, oneV, binA, unA, reduceCtorEq, Nat.reduceEqDiff, Nat.reduceAdd, Nat.reduceLT, Nat.reduceLeDiff, Nat.reduceMul, Nat.reduceSub, ↓reduceIte, decide_true, decide_false, Bool.true_eq_false, Bool.false_eq_true, Bool.not_true, Bool.not_false, if_true, if_false, and_true, true_and, memE, celE, w64, Nat.zero_add, Nat.add_zero, Nat.mul_one, putL, and_self, ldn, tm, t0, t3, t4, t5, t9, t10, t11, t15, t16, t17, t18, t21, hcd2]
        refine callH_rc (vBestSum_rc _ _ _ ov j (kF W1) dd (by omega) (by omega)) ?_
        rintro r new ⟨rfl, nr⟩
        have W2 := Kx new W1
        obtain ⟨N2, hN2⟩ : ∃ N, N = N1 ++ new := ⟨_, rfl⟩
        rw [← hN2] at W2 ⊢
        simp (config := {implicitDefEqProofs := false, maxDischargeDepth := 20}) (disch := first | omega | (simp only [lenE]; done) | (simp only [lenE]; omega) | rfl | (simp only [lenE, markR_len]; done) | (simp only [lenE, markR_len]; omega)) only [runE, mapE, listE, initT_5, initT_6, initT_7, initT_8, resV, oneV, binA, unA, reduceCtorEq, Nat.reduceEqDiff, Nat.reduceAdd, Nat.reduceLT, Nat.reduceLeDiff, Nat.reduceMul, Nat.reduceSub, ↓reduceIte, decide_true, decide_false, Bool.true_eq_false, Bool.false_eq_true, Bool.not_true, Bool.not_false, if_true, if_false, and_true, true_and, memE, celE, w64, Nat.zero_add, Nat.add_zero, Nat.mul_one, putL, and_self, ldn, tm, t0, t3, t4, t5, t9, t10, t11, t15, t16, t17, t18, t21, hcd2]
        refine callH_rc (vAdd_rc _ _ _ (kE W2) dc) ?_
        rintro r new ⟨rfl, rfl⟩
        rw [List.append_nil]
        simp (config := {implicitDefEqProofs := false, maxDischargeDepth := 20}) (disch := first | omega | (simp only [lenE]; done) | (simp only [lenE]; omega) | rfl | (simp only [lenE, markR_len]; done) | (simp only [lenE, markR_len]; omega)) only [runE, mapE, listE, initT_5, initT_6, initT_7, initT_8, resV, oneV, binA, unA, reduceCtorEq, Nat.reduceEqDiff, Nat.reduceAdd, Nat.reduceLT, Nat.reduceLeDiff, Nat.reduceMul, Nat.reduceSub, ↓reduceIte, decide_true, decide_false, Bool.true_eq_false, Bool.false_eq_true, Bool.not_true, Bool.not_false, if_true, if_false, and_true, true_and, memE, celE, w64, Nat.zero_add, Nat.add_zero, Nat.mul_one, putL, and_self, ldn, tm, t0, t3, t4, t5, t9, t10, t11, t15, t16, t17, t18, t21, hcd2]
        cases ht : th with
        | false =>
          rw [ht] at t18
          simp (config := {implicitDefEqProofs := false, maxDischargeDepth := 20}) (disch := first | omega | (simp only [lenE]; done) | (simp only [lenE]; omega) | rfl | (simp only [lenE, markR_len]; done) | (simp only [lenE, markR_len]; omega)) only [runE, mapE, listE, initT_5, initT_6, initT_7, initT_8, resV, oneV, binA, unA, reduceCtorEq, Nat.reduceEqDiff, Nat.reduceAdd, Nat.reduceLT, Nat.reduceLeDiff, Nat.reduceMul, Nat.reduceSub, ↓reduceIte, decide_true, decide_false, Bool.true_eq_false, Bool.false_eq_true, Bool.not_true, Bool.not_false, if_true, if_false, and_true, true_and, memE, celE, w64, Nat.zero_add, Nat.add_zero, Nat.mul_one, putL, and_self, ldn, tm, t0, t3, t4, t5, t9, t10, t11, t15, t16, t17, t18, t21, goG_undef]
          exact ⟨⟨j + 1, _, by omega, rfl, W2, by simp⟩, by simp [intOf]; omega⟩
        | true =>
          rw [ht] at t18
          obtain ⟨dx, dy, ds, hse⟩ := KS ht
          have hxy := conv_cost (o := (ov : Int)) (u := (j : Int)) dx dy (by rw [← hse]; exact ds) (by omega) (by omega)
          rw [← hse] at hxy
          have b3 := cb (w := x) (v := y) ov j dx dy (by omega) (by omega)
          have b4 := cb (w := y) (v := x) ov j dy dx (by omega) (by omega)
          have hxy2 : ¬ (costF x ov j (critF x ov j) * tot y + costF y ov j (critF y ov j) * tot x < costF sm ov j (critF sm ov j)) := by omega
          simp (config := {implicitDefEqProofs := false, maxDischargeDepth := 20}) (disch := first | omega | (simp only [lenE]; done) | (simp only [lenE]; omega) | rfl | (simp only [lenE, markR_len]; done) | (simp only [lenE, markR_len]; omega)) only [runE, mapE, listE, initT_5, initT_6, initT_7, initT_8, resV, oneV, binA, unA, reduceCtorEq, Nat.reduceEqDiff, Nat.reduceAdd, Nat.reduceLT, Nat.reduceLeDiff, Nat.reduceMul, Nat.reduceSub, ↓reduceIte, decide_true, decide_false, Bool.true_eq_false, Bool.false_eq_true, Bool.not_true, Bool.not_false, if_true, if_false, and_true, true_and, memE, celE, w64, Nat.zero_add, Nat.add_zero, Nat.mul_one, putL, and_self, ldn, tm, t0, t3, t4, t5, t9, t10, t11, t15, t16, t17, t18, t21, gt_iff_lt]
          refine callH_rc (vBestSum_rc _ _ _ ov j (kS W2) ds (by omega) (by omega)) ?_
          rintro r new ⟨rfl, nr⟩
          have Z1 := Kx new W2
          obtain ⟨O1, hO1⟩ : ∃ N, N = N2 ++ new := ⟨_, rfl⟩
          rw [← hO1] at Z1 ⊢
          simp (config := {implicitDefEqProofs := false, maxDischargeDepth := 20}) (disch := first | omega | (simp only [lenE]; done) | (simp only [lenE]; omega) | rfl | (simp only [lenE, markR_len]; done) | (simp only [lenE, markR_len]; omega)) only [runE, mapE, listE, initT_5, initT_6, initT_7, initT_8, resV, oneV, binA, unA, reduceCtorEq, Nat.reduceEqDiff, Nat.reduceAdd, Nat.reduceLT, Nat.reduceLeDiff, Nat.reduceMul, Nat.reduceSub, ↓reduceIte, decide_true, decide_false, Bool.true_eq_false, Bool.false_eq_true, Bool.not_true, Bool.not_false, if_true, if_false, and_true, true_and, memE, celE, w64, Nat.zero_add, Nat.add_zero, Nat.mul_one, putL, and_self, ldn, tm, t0, t3, t4, t5, t9, t10, t11, t15, t16, t17, t18, t21, hxy2, gt_iff_lt]
          refine callH_rc (vBestSum_rc _ _ _ ov j (kX Z1) dx (by omega) (by omega)) ?_
          rintro r new ⟨rfl, nr⟩
          have Z2 := Kx new Z1
          obtain ⟨O2, hO2⟩ : ∃ N, N = O1 ++ new := ⟨_, rfl⟩
          rw [← hO2] at Z2 ⊢
          simp (config := {implicitDefEqProofs := false, maxDischargeDepth := 20}) (disch := first | omega | (simp only [lenE]; done) | (simp only [lenE]; omega) | rfl | (simp only [lenE, markR_len]; done) | (simp only [lenE, markR_len]; omega)) only [runE, mapE, listE, initT_5, initT_6, initT_7, initT_8, resV, oneV, binA, unA, reduceCtorEq, Nat.reduceEqDiff, Nat.reduceAdd, Nat.reduceLT, Nat.reduceLeDiff, Nat.reduceMul, Nat.reduceSub, ↓reduceIte, decide_true, decide_false, Bool.true_eq_false, Bool.false_eq_true, Bool.not_true, Bool.not_false, if_true, if_false, and_true, true_and, memE, celE, w64, Nat.zero_add, Nat.add_zero, Nat.mul_one, putL, and_self, ldn, tm, t0, t3, t4, t5, t9, t10, t11, t15, t16, t17, t18, t21, hxy2, gt_iff_lt]
          refine callH_rc (vAdd_rc _ _ _ (kY Z2) dy) ?_
          rintro r new ⟨rfl, rfl⟩
          rw [List.append_nil]
          simp (config := {implicitDefEqProofs := false, maxDischargeDepth := 20}) (disch := first | omega | (simp only [lenE]; done) | (simp only [lenE]; omega) | rfl | (simp only [lenE, markR_len]; done) | (simp only [lenE, markR_len]; omega)) only [runE, mapE, listE, initT_5, initT_6, initT_7, initT_8, resV, oneV, binA, unA, reduceCtorEq, Nat.reduceEqDiff, Nat.reduceAdd, Nat.reduceLT, Nat.reduceLeDiff, Nat.reduceMul, Nat.reduceSub, ↓reduceIte, decide_true, decide_false, Bool.true_eq_false, Bool.false_eq_true, Bool.not_true, Bool.not_false, if_true, if_false, and_true, true_and, memE, celE, w64, Nat.zero_add, Nat.add_zero, Nat.mul_one, putL, and_self, ldn, tm, t0, t3, t4, t5, t9, t10, t11, t15, t16, t17, t18, t21, hxy2, gt_iff_lt]
          refine callH_rc (vBestSum_rc _ _ _ ov j (kY Z2) dy (by omega) (by omega)) ?_
          rintro r new ⟨rfl, nr⟩
          have Z3 := Kx new Z2
          obtain ⟨O3, hO3⟩ : ∃ N, N = O2 ++ new := ⟨_, rfl⟩
          rw [← hO3] at Z3 ⊢
          simp (config := {implicitDefEqProofs := false, maxDischargeDepth := 20}) (disch := first | omega | (simp only [lenE]; done) | (simp only [lenE]; omega) | rfl | (simp only [lenE, markR_len]; done) | (simp only [lenE, markR_len]; omega)) only [runE, mapE, listE, initT_5, initT_6, initT_7, initT_8, resV, oneV, binA, unA, reduceCtorEq, Nat.reduceEqDiff, Nat.reduceAdd, Nat.reduceLT, Nat.reduceLeDiff, Nat.reduceMul, Nat.reduceSub, ↓reduceIte, decide_true, decide_false, Bool.true_eq_false, Bool.false_eq_true, Bool.not_true, Bool.not_false, if_true, if_false, and_true, true_and, memE, celE, w64, Nat.zero_add, Nat.add_zero, Nat.mul_one, putL, and_self, ldn, tm, t0, t3, t4, t5, t9, t10, t11, t15, t16, t17, t18, t21, hxy2, gt_iff_lt]
          refine callH_rc (vAdd_rc _ _ _ (kX Z3) dx) ?_
          rintro r new ⟨rfl, rfl⟩
          rw [List.append_nil]
          simp (config := {implicitDefEqProofs := false, maxDischargeDepth := 20}) (disch := first | omega | (simp only [lenE]; done) | (simp only [lenE]; omega) | rfl | (simp only [lenE, markR_len]; done) | (simp only [lenE, markR_len]; omega)) only [runE, mapE, listE, initT_5, initT_6, initT_7, initT_8, resV, oneV, binA, unA, reduceCtorEq, Nat.reduceEqDiff, Nat.reduceAdd, Nat.reduceLT, Nat.reduceLeDiff, Nat.reduceMul, Nat.reduceSub, ↓reduceIte, decide_true, decide_false, Bool.true_eq_false, Bool.false_eq_true, Bool.not_true, Bool.not_false, if_true, if_false, and_true, true_and, memE, celE, w64, Nat.zero_add, Nat.add_zero, Nat.mul_one, putL, and_self, ldn, tm, t0, t3, t4, t5, t9, t10, t11, t15, t16, t17, t18, t21, hxy2, gt_iff_lt]
          exact ⟨⟨j + 1, _, by omega, rfl, Z3, by simp⟩, by simp [intOf]; omega⟩
    | true =>
      rw [hm] at t5
      obtain ⟨da, db, hmq⟩ := KM hm
      have hpq := more_crit (o := (ov : Int)) (u := (j : Int)) da db (by omega) (by omega) hmq
      have hpq2 : ¬ ((critF a ov j : Int) < (critF b ov j : Int)) := by omega
      simp (config := {implicitDefEqProofs := false, maxDischargeDepth := 20}) (disch := first | omega | (simp only [lenE]; done) | (simp only [lenE]; omega) | rfl | (simp only [lenE, markR_len]; done) | (simp only [lenE, markR_len]; omega)) only [runE, mapE, listE, initT_5, initT_6, initT_7, initT_8, resV, oneV, binA, unA, reduceCtorEq, Nat.reduceEqDiff, Nat.reduceAdd, Nat.reduceLT, Nat.reduceLeDiff, Nat.reduceMul, Nat.reduceSub, ↓reduceIte, decide_true, decide_false, Bool.true_eq_false, Bool.false_eq_true, Bool.not_true, Bool.not_false, if_true, if_false, and_true, true_and, memE, celE, w64, Nat.zero_add, Nat.add_zero, Nat.mul_one, putL, and_self, ldn, tm, t0, t3, t4, t5, t9, t10, t11, t15, t16, t17, t18, t21, hov, d7]
      refine callH_rc (crit ov j (kP K0) da (by omega) (by omega)) ?_
      rintro r new ⟨rfl, nr⟩
      have K1 := Kx new K0
      obtain ⟨M1, hM1⟩ : ∃ M1, M1 = M ++ new := ⟨_, rfl⟩
      rw [← hM1] at K1 ⊢
      simp (config := {implicitDefEqProofs := false, maxDischargeDepth := 20}) (disch := first | omega | (simp only [lenE]; done) | (simp only [lenE]; omega) | rfl | (simp only [lenE, markR_len]; done) | (simp only [lenE, markR_len]; omega)) only [runE, mapE, listE, initT_5, initT_6, initT_7, initT_8, resV, oneV, binA, unA, reduceCtorEq, Nat.reduceEqDiff, Nat.reduceAdd, Nat.reduceLT, Nat.reduceLeDiff, Nat.reduceMul, Nat.reduceSub, ↓reduceIte, decide_true, decide_false, Bool.true_eq_false, Bool.false_eq_true, Bool.not_true, Bool.not_false, if_true, if_false, and_true, true_and, memE, celE, w64, Nat.zero_add, Nat.add_zero, Nat.mul_one, putL, and_self, ldn, tm, t0, t3, t4, t5, t9, t10, t11, t15, t16, t17, t18, t21, ext_2_0, ext_2_1]
      refine callH_rc (crit ov j (kQ K1) db (by omega) (by omega)) ?_
      rintro r new ⟨rfl, nr⟩
      have K2 := Kx new K1
      obtain ⟨M2, hM2⟩ : ∃ M2, M2 = M1 ++ new := ⟨_, rfl⟩
      rw [← hM2] at K2 ⊢
      simp (config := {implicitDefEqProofs := false, maxDischargeDepth := 20}) (disch := first | omega | (simp only [lenE]; done) | (simp only [lenE]; omega) | rfl | (simp only [lenE, markR_len]; done) | (simp only [lenE, markR_len]; omega)) only [runE, mapE, listE, initT_5, initT_6, initT_7, initT_8, resV, oneV, binA, unA, reduceCtorEq, Nat.reduceEqDiff, Nat.reduceAdd, Nat.reduceLT, Nat.reduceLeDiff, Nat.reduceMul, Nat.reduceSub, ↓reduceIte, decide_true, decide_false, Bool.true_eq_false, Bool.false_eq_true, Bool.not_true, Bool.not_false, if_true, if_false, and_true, true_and, memE, celE, w64, Nat.zero_add, Nat.add_zero, Nat.mul_one, putL, and_self, ldn, tm, t0, t3, t4, t5, t9, t10, t11, t15, t16, t17, t18, t21, ext_2_0, ext_2_1, hpq2]
      cases hw : wi with
      | false =>
        rw [hw] at t11
        simp (config := {implicitDefEqProofs := false, maxDischargeDepth := 20}) (disch := first | omega | (simp only [lenE]; done) | (simp only [lenE]; omega) | rfl | (simp only [lenE, markR_len]; done) | (simp only [lenE, markR_len]; omega)) only [runE, mapE, listE, initT_5, initT_6, initT_7, initT_8, resV, oneV, binA, unA, reduceCtorEq, Nat.reduceEqDiff, Nat.reduceAdd, Nat.reduceLT, Nat.reduceLeDiff, Nat.reduceMul, Nat.reduceSub, ↓reduceIte, decide_true, decide_false, Bool.true_eq_false, Bool.false_eq_true, Bool.not_true, Bool.not_false, if_true, if_false, and_true, true_and, memE, celE, w64, Nat.zero_add, Nat.add_zero, Nat.mul_one, putL, and_self, ldn, tm, t0, t3, t4, t5, t9, t10, t11, t15, t16, t17, t18, t21, goG_undef]
        cases ht : th with
        | false =>
          rw [ht] at t18
          simp (config := {implicitDefEqProofs := false, maxDischargeDepth := 20}) (disch := first | omega | (simp only [lenE]; done) | (simp only [lenE]; omega) | rfl | (simp only [lenE, markR_len]; done) | (simp only [lenE, markR_len]; omega)) only [runE, mapE, listE, initT_5, initT_6, initT_7, initT_8, resV, oneV, binA, unA, reduceCtorEq, Nat.reduceEqDiff, Nat.reduceAdd, Nat.reduceLT, Nat.reduceLeDiff, Nat.reduceMul, Nat.reduceSub, ↓reduceIte, decide_true, decide_false, Bool.true_eq_false, Bool.false_eq_true, Bool.not_true, Bool.not_false, if_true, if_false, and_true, true_and, memE, celE, w64, Nat.zero_add, Nat.add_zero, Nat.mul_one, putL, and_self, ldn, tm, t0, t3, t4, t5, t9, t10, t11, t15, t16, t17, t18, t21, goG_undef]
          exact ⟨⟨j + 1, _, by omega, rfl, K2, by simp⟩, by simp [intOf]; omega⟩
        | true =>
          rw [ht] at t18
          obtain ⟨dx, dy, ds, hse⟩ := KS ht
          have hxy := conv_cost (o := (ov : Int)) (u := (j : Int)) dx dy (by rw [← hse]; exact ds) (by omega) (by omega)
          rw [← hse] at hxy
          have b3 := cb (w := x) (v := y) ov j dx dy (by omega) (by omega)
          have b4 := cb (w := y) (v := x) ov j dy dx (by omega) (by omega)
          have hxy2 : ¬ (costF x ov j (critF x ov j) * tot y + costF y ov j (critF y ov j) * tot x < costF sm ov j (critF sm ov j)) := by omega
          simp (config := {implicitDefEqProofs := false, maxDischargeDepth := 20}) (disch := first | omega | (simp only [lenE]; done) | (simp only [lenE]; omega) | rfl | (simp only [lenE, markR_len]; done) | (simp only [lenE, markR_len]; omega)) only [runE, mapE, listE, initT_5, initT_6, initT_7, initT_8, resV, oneV, binA, unA, reduceCtorEq, Nat.reduceEqDiff, Nat.reduceAdd, Nat.reduceLT, Nat.reduceLeDiff, Nat.reduceMul, Nat.reduceSub, ↓reduceIte, decide_true, decide_false, Bool.true_eq_false, Bool.false_eq_true, Bool.not_true, Bool.not_false, if_true, if_false, and_true, true_and, memE, celE, w64, Nat.zero_add, Nat.add_zero, Nat.mul_one, putL, and_self, ldn, tm, t0, t3, t4, t5, t9, t10, t11, t15, t16, t17, t18, t21, gt_iff_lt]
          refine callH_rc (vBestSum_rc _ _ _ ov j (kS K2) ds (by omega) (by omega)) ?_
          rintro r new ⟨rfl, nr⟩
          have Z1 := Kx new K2
          obtain ⟨O1, hO1⟩ : ∃ N, N = M2 ++ new := ⟨_, rfl⟩
          rw [← hO1] at Z1 ⊢
          simp (config := {implicitDefEqProofs := false, maxDischargeDepth := 20}) (disch := first | omega | (simp only [lenE]; done) | (simp only [lenE]; omega) | rfl | (simp only [lenE, markR_len]; done) | (simp only [lenE, markR_len]; omega)) only [runE, mapE, listE, initT_5, initT_6, initT_7, initT_8, resV, oneV, binA, unA, reduceCtorEq, Nat.reduceEqDiff, Nat.reduceAdd, Nat.reduceLT, Nat.reduceLeDiff, Nat.reduceMul, Nat.reduceSub, ↓reduceIte, decide_true, decide_false, Bool.true_eq_false, Bool.false_eq_true, Bool.not_true, Bool.not_false, if_true, if_false, and_true, true_and, memE, celE, w64, Nat.zero_add, Nat.add_zero, Nat.mul_one, putL, and_self, ldn, tm, t0, t3, t4, t5, t9, t10, t11, t15, t16, t17, t18, t21, hxy2, gt_iff_lt]
          refine callH_rc (vBestSum_rc _ _ _ ov j (kX Z1) dx (by omega) (by omega)) ?_
          rintro r new ⟨rfl, nr⟩
          have Z2 := Kx new Z1
          obtain ⟨O2, hO2⟩ : ∃ N, N = O1 ++ new := ⟨_, rfl⟩
          rw [← hO2] at Z2 ⊢
          simp (config := {implicitDefEqProofs := false, maxDischargeDepth := 20}) (disch := first | omega | (simp only [lenE]; done) | (simp only [lenE]; omega) | rfl | (simp only [lenE, markR_len]; done) | (simp only [lenE, markR_len]; omega)) only [runE, mapE, listE, initT_5, initT_6, initT_7, initT_8, resV, oneV, binA, unA, reduceCtorEq, Nat.reduceEqDiff, Nat.reduceAdd, Nat.reduceLT, Nat.reduceLeDiff, Nat.reduceMul, Nat.reduceSub, ↓reduceIte, decide_true, decide_false, Bool.true_eq_false, Bool.false_eq_true, Bool.not_true, Bool.not_false, if_true, if_false, and_true, true_and, memE, celE, w64, Nat.zero_add, Nat.add_zero, Nat.mul_one, putL, and_self, ldn, tm, t0, t3, t4, t5, t9, t10, t11, t15, t16, t17, t18, t21, hxy2, gt_iff_lt]
          refine callH_rc (vAdd_rc _ _ _ (kY Z2) dy) ?_
          rintro r new ⟨rfl, rfl⟩
          rw [List.append_nil]
          simp (config := {implicitDefEqProofs := false, maxDischargeDepth := 20}) (disch := first | omega | (simp only [lenE]; done) | (simp only [lenE]; omega) | rfl | (simp only [lenE, markR_len]; done) | (simp only [lenE, markR_len]; omega)) only [runE, mapE, listE, initT_5, initT_6, initT_7, initT_8, resV, oneV, binA, unA, reduceCtorEq, Nat.reduceEqDiff, Nat.reduceAdd, Nat.reduceLT, Nat.reduceLeDiff, Nat.reduceMul, Nat.reduceSub, ↓reduceIte, decide_true, decide_false, Bool.true_eq_false, Bool.false_eq_true, Bool.not_true, Bool.not_false, if_true, if_false, and_true, true_and, memE, celE, w64, Nat.zero_add, Nat.add_zero, Nat.mul_one, putL, and_self, ldn, tm, t0, t3, t4, t5, t9, t10, t11, t15, t16, t17, t18, t21, hxy2, gt_iff_lt]
          refine callH_rc (vBestSum_rc _ _ _ ov j (kY Z2) dy (by omega) (by omega)) ?_
          rintro r new ⟨rfl, nr⟩
          have Z3 := Kx new Z2
          obtain ⟨O3, hO3⟩ : ∃ N, N = O2 ++ new := ⟨_, rfl⟩
          rw [← hO3] at Z3 ⊢
          simp (config := {implicitDefEqProofs := false, maxDischargeDepth := 20}) (disch := first | omega | (simp only [lenE]; done) | (simp only [lenE]; omega) | rfl | (simp only [lenE, markR_len]; done) | (simp only [lenE, markR_len]; omega)) only [runE, mapE, listE, initT_5, initT_6, initT_7, initT_8, resV, oneV, binA, unA, reduceCtorEq, Nat.reduceEqDiff, Nat.reduceAdd, Nat.reduceLT, Nat.reduceLeDiff, Nat.reduceMul, Nat.reduceSub, ↓reduceIte, decide_true, decide_false, Bool.true_eq_false, Bool.false_eq_true, Bool.not_true, Bool.not_false, if_true, if_false, and_true, true_and, memE, celE, w64, Nat.zero_add, Nat.add_zero, Nat.mul_one, putL, and_self, ldn, tm, t0, t3, t4, t5, t9, t10, t11, t15, t16, t17, t18, t21, hxy2, gt_iff_lt]
          refine callH_rc (vAdd_rc _ _ _ (kX Z3) dx) ?_
          rintro r new ⟨rfl, rfl⟩
          rw [List.append_nil]
          simp (config := {implicitDefEqProofs := false, maxDischargeDepth := 20}) (disch := first | omega | (simp only [lenE]; done) | (simp only [lenE]; omega) | rfl | (simp only [lenE, markR_len]; done) | (simp only [lenE, markR_len]; omega)) only [runE, mapE, listE, initT_5, initT_6, initT_7, initT_8, resV, oneV, binA, unA, reduceCtorEq, Nat.reduceEqDiff, Nat.reduceAdd, Nat.reduceLT, Nat.reduceLeDiff, Nat.reduceMul, Nat.reduceSub, ↓reduceIte, decide_true, decide_false, Bool.true_eq_false, Bool.false_eq_true, Bool.not_true, Bool.not_false, if_true, if_false, and_true, true_and, memE, celE, w64, Nat.zero_add, Nat.add_zero, Nat.mul_one, putL, and_self, ldn, tm, t0, t3, t4, t5, t9, t10, t11, t15, t16, t17, t18, t21, hxy2, gt_iff_lt]
          exact ⟨⟨j + 1, _, by omega, rfl, Z3, by simp⟩, by simp [intOf]; omega⟩
      | true =>
        rw [hw] at t11
        obtain ⟨dc, dd, hme, hwq⟩ := KW hw
        have hcd := wider_cost (o := (ov : Int)) (u := (j : Int)) dc dd (by omega) (by omega) hme hwq
        have b1 := cb (w := c) (v := d) ov j dc dd (by omega) (by omega)
        have b2 := cb (w := d) (v := c) ov j dd dc (by omega) (by omega)
        have hcd2 : ¬ (costF c ov j (critF c ov j) * tot d < costF d ov j (critF d ov j) * tot c) := by omega
        simp (config := {implicitDefEqProofs := false, maxDischargeDepth := 20}) (disch := first | omega | (simp only [lenE]; done) | (simp only [lenE]; omega) | rfl | (simp only [lenE, markR_len]; done) | (simp only [lenE, markR_len]; omega)) only [runE, mapE, listE, initT_5, initT_6, initT_7, initT_8, resV, oneV, binA, unA, reduceCtorEq, Nat.reduceEqDiff, Nat.reduceAdd, Nat.reduceLT, Nat.reduceLeDiff, Nat.reduceMul, Nat.reduceSub, ↓reduceIte, decide_true, decide_false, Bool.true_eq_false, Bool.false_eq_true, Bool.not_true, Bool.not_false, if_true, if_false, and_true, true_and, memE, celE, w64, Nat.zero_add, Nat.add_zero, Nat.mul_one, putL, and_self, ldn, tm, t0, t3, t4, t5, t9, t10, t11, t15, t16, t17, t18, t21]
        refine callH_rc (vBestSum_rc _ _ _ ov j (kE K2) dc (by omega) (by omega)) ?_
        rintro r new ⟨rfl, nr⟩
        have W1 := Kx new K2
        obtain ⟨N1, hN1⟩ : ∃ N, N = M2 ++ new := ⟨_, rfl⟩
        rw [← hN1] at W1 ⊢
        simp (config := {implicitDefEqProofs := false, maxDischargeDepth := 20}) (disch := first | omega | (simp only [lenE]; done) | (simp only [lenE]; omega) | rfl | (simp only [lenE, markR_len]; done) | (simp only [lenE, markR_len]; omega)) only [runE, mapE, listE, initT_5, initT_6, initT_7, initT_8, resV, oneV, binA, unA, reduceCtorEq, Nat.reduceEqDiff, Nat.reduceAdd, Nat.reduceLT, Nat.reduceLeDiff, Nat.reduceMul, Nat.reduceSub, ↓reduceIte, decide_true, decide_false, Bool.true_eq_false, Bool.false_eq_true, Bool.not_true, Bool.not_false, if_true, if_false, and_true, true_and, memE, celE, w64, Nat.zero_add, Nat.add_zero, Nat.mul_one, putL, and_self, ldn, tm, t0, t3, t4, t5, t9, t10, t11, t15, t16, t17, t18, t21, hcd2]
        refine callH_rc (vAdd_rc _ _ _ (kF W1) dd) ?_
        rintro r new ⟨rfl, rfl⟩
        rw [List.append_nil]
        simp (config := {implicitDefEqProofs := false, maxDischargeDepth := 20}) (disch := first | omega | (simp only [lenE]; done) | (simp only [lenE]; omega) | rfl | (simp only [lenE, markR_len]; done) | (simp only [lenE, markR_len]; omega)) only [runE, mapE, listE, initT_5, initT_6, initT_7, initT_8, resV, oneV, binA, unA, reduceCtorEq, Nat.reduceEqDiff, Nat.reduceAdd, Nat.reduceLT, Nat.reduceLeDiff, Nat.reduceMul, Nat.reduceSub, ↓reduceIte, decide_true, decide_false, Bool.true_eq_false, Bool.false_eq_true, Bool.not_true, Bool.not_false, if_true, if_false, and_true, true_and, memE, celE, w64, Nat.zero_add, Nat.add_zero, Nat.mul_one, putL, and_self, ldn, tm, t0, t3, t4, t5, t9, t10, t11, t15, t16, t17, t18, t21, hcd2]
        refine callH_rc (vBestSum_rc _ _ _ ov j (kF W1) dd (by omega) (by omega)) ?_
        rintro r new ⟨rfl, nr⟩
        have W2 := Kx new W1
        obtain ⟨N2, hN2⟩ : ∃ N, N = N1 ++ new := ⟨_, rfl⟩
        rw [← hN2] at W2 ⊢
        simp (config := {implicitDefEqProofs := false, maxDischargeDepth := 20}) (disch := first | omega | (simp only [lenE]; done) | (simp only [lenE]; omega) | rfl | (simp only [lenE, markR_len]; done) | (simp only [lenE, markR_len]; omega)) only [runE, mapE, listE, initT_5, initT_6, initT_7, initT_8, resV, oneV, binA, unA, reduceCtorEq, Nat.reduceEqDiff, Nat.reduceAdd, Nat.reduceLT, Nat.reduceLeDiff, Nat.reduceMul, Nat.reduceSub, ↓reduceIte, decide_true, decide_false, Bool.true_eq_false, Bool.false_eq_true, Bool.not_true, Bool.not_false, if_true, if_false, and_true, true_and, memE, celE, w64, Nat.zero_add, Nat.add_zero, Nat.mul_one, putL, and_self, ldn, tm, t0, t3, t4, t5, t9, t10, t11, t15, t16, t17, t18, t21, hcd2]
        refine callH_rc (vAdd_rc _ _ _ (kE W2) dc) ?_
        rintro r new ⟨rfl, rfl⟩
        rw [List.append_nil]
        simp (config := {implicitDefEqProofs := false, maxDischargeDepth := 20}) (disch := first | omega | (simp only [lenE]; done) | (simp only [lenE]; omega) | rfl | (simp only [lenE, markR_len]; done) | (simp only [lenE, markR_len]; omega)) only [runE, mapE, listE, initT_5, initT_6, initT_7, initT_8, resV, oneV, binA, unA, reduceCtorEq, Nat.reduceEqDiff, Nat.reduceAdd, Nat.reduceLT, Nat.reduceLeDiff, Nat.reduceMul, Nat.reduceSub, ↓reduceIte, decide_true, decide_false, Bool.true_eq_false, Bool.false_eq_true, Bool.not_true, Bool.not_false, if_true, if_false, and_true, true_and, memE, celE, w64, Nat.zero_add, Nat.add_zero, Nat.mul_one, putL, and_self, ldn, tm, t0, t3, t4, t5, t9, t10, t11, t15, t16, t17, t18, t21, hcd2]
        cases ht : th with
        | false =>
          rw [ht] at t18
          simp (config := {implicitDefEqProofs := false, maxDischargeDepth := 20}) (disch := first | omega | (simp only [lenE]; done) | (simp only [lenE]; omega) | rfl | (simp only [lenE, markR_len]; done) | (simp only [lenE, markR_len]; omega)) only [runE, mapE, listE, initT_5, initT_6, initT_7, initT_8, resV, oneV, binA, unA, reduceCtorEq, Nat.reduceEqDiff, Nat.reduceAdd, Nat.reduceLT, Nat.reduceLeDiff, Nat.reduceMul, Nat.reduceSub, ↓reduceIte, decide_true, decide_false, Bool.true_eq_false, Bool.false_eq_true, Bool.not_true, Bool.not_false, if_true, if_false, and_true, true_and, memE, celE, w64, Nat.zero_add, Nat.add_zero, Nat.mul_one, putL, and_self, ldn, tm, t0, t3, t4, t5, t9, t10, t11, t15, t16, t17, t18, t21, goG_undef]
          exact ⟨⟨j + 1, _, by omega, rfl, W2, by simp⟩, by simp [intOf]; omega⟩
        | true =>
          rw [ht] at t18
          obtain ⟨dx, dy, ds, hse⟩ := KS ht
          have hxy := conv_cost (o := (ov : Int)) (u := (j : Int)) dx dy (by rw [← hse]; exact ds) (by omega) (by omega)
          rw [← hse] at hxy
          have b3 := cb (w := x) (v := y) ov j dx dy (by omega) (by omega)
          have b4 := cb (w := y) (v := x) ov j dy dx (by omega) (by omega)
          have hxy2 : ¬ (costF x ov j (critF x ov j) * tot y + costF y ov j (critF y ov j) * tot x < costF sm ov j (critF sm ov j)) := by omega
          simp (config := {implicitDefEqProofs := false, maxDischargeDepth := 20}) (disch := first | omega | (simp only [lenE]; done) | (simp only [lenE]; omega) | rfl | (simp only [lenE, markR_len]; done) | (simp only [lenE, markR_len]; omega)) only [runE, mapE, listE, initT_5, initT_6, initT_7, initT_8, resV, oneV, binA, unA, reduceCtorEq, Nat.reduceEqDiff, Nat.reduceAdd, Nat.reduceLT, Nat.reduceLeDiff, Nat.reduceMul, Nat.reduceSub, ↓reduceIte, decide_true, decide_false, Bool.true_eq_false, Bool.false_eq_true, Bool.not_true, Bool.not_false, if_true, if_false, and_true, true_and, memE, celE, w64, Nat.zero_add, Nat.add_zero, Nat.mul_one, putL, and_self, ldn, tm, t0, t3, t4, t5, t9, t10, t11, t15, t16, t17, t18, t21, gt_iff_lt]
          refine callH_rc (vBestSum_rc _ _ _ ov j (kS W2) ds (by omega) (by omega)) ?_
          rintro r new ⟨rfl, nr⟩
          have Z1 := Kx new W2
          obtain ⟨O1, hO1⟩ : ∃ N, N = N2 ++ new := ⟨_, rfl⟩
          rw [← hO1] at Z1 ⊢
          simp (config := {implicitDefEqProofs := false, maxDischargeDepth := 20}) (disch := first | omega | (simp only [lenE]; done) | (simp only [lenE]; omega) | rfl | (simp only [lenE, markR_len]; done) | (simp only [lenE, markR_len]; omega)) only [runE, mapE, listE, initT_5, initT_6, initT_7, initT_8, resV, oneV, binA, unA, reduceCtorEq, Nat.reduceEqDiff, Nat.reduceAdd, Nat.reduceLT, Nat.reduceLeDiff, Nat.reduceMul, Nat.reduceSub, ↓reduceIte, decide_true, decide_false, Bool.true_eq_false, Bool.false_eq_true, Bool.not_true, Bool.not_false, if_true, if_false, and_true, true_and, memE, celE, w64, Nat.zero_add, Nat.add_zero, Nat.mul_one, putL, and_self, ldn, tm, t0, t3, t4, t5, t9, t10, t11, t15, t16, t17, t18, t21, hxy2, gt_iff_lt]
          refine callH_rc (vBestSum_rc _ _ _ ov j (kX Z1) dx (by omega) (by omega)) ?_
          rintro r new ⟨rfl, nr⟩
          have Z2 := Kx new Z1
          obtain ⟨O2, hO2⟩ : ∃ N, N = O1 ++ new := ⟨_, rfl⟩
          rw [← hO2] at Z2 ⊢
          simp (config := {implicitDefEqProofs := false, maxDischargeDepth := 20}) (disch := first | omega | (simp only [lenE]; done) | (simp only [lenE]; omega) | rfl | (simp only [lenE, markR_len]; done) | (simp only [lenE, markR_len]; omega)) only [runE, mapE, listE, initT_5, initT_6, initT_7, initT_8, resV, oneV, binA, unA, reduceCtorEq, Nat.reduceEqDiff, Nat.reduceAdd, Nat.reduceLT, Nat.reduceLeDiff, Nat.reduceMul, Nat.reduceSub, ↓reduceIte, decide_true, decide_false, Bool.true_eq_false, Bool.false_eq_true, Bool.not_true, Bool.not_false, if_true, if_false, and_true, true_and, memE, celE, w64, Nat.zero_add, Nat.add_zero, Nat.mul_one, putL, and_self, ldn, tm, t0, t3, t4, t5, t9, t10, t11, t15, t16, t17, t18, t21, hxy2, gt_iff_lt]
          refine callH_rc (vAdd_rc _ _ _ (kY Z2) dy) ?_
          rintro r new ⟨rfl, rfl⟩
          rw [List.append_nil]
          simp (config := {implicitDefEqProofs := false, maxDischargeDepth := 20}) (disch := first | omega | (simp only [lenE]; done) | (simp only [lenE]; omega) | rfl | (simp only [lenE, markR_len]; done) | (simp only [lenE, markR_len]; omega)) only [runE, mapE, listE, initT_5, initT_6, initT_7, initT_8, resV, oneV, binA, unA, reduceCtorEq, Nat.reduceEqDiff, Nat.reduceAdd, Nat.reduceLT, Nat.reduceLeDiff, Nat.reduceMul, Nat.reduceSub, ↓reduceIte, decide_true, decide_false, Bool.true_eq_false, Bool.false_eq_true, Bool.not_true, Bool.not_false, if_true, if_false, and_true, true_and, memE, celE, w64, Nat.zero_add, Nat.add_zero, Nat.mul_one, putL, and_self, ldn, tm, t0, t3, t4, t5, t9, t10, t11, t15, t16, t17, t18, t21, hxy2, gt_iff_lt]
          refine callH_rc (vBestSum_rc _ _ _ ov j (kY Z2) dy (by omega) (by omega)) ?_
          rintro r new ⟨rfl, nr⟩
          have Z3 := Kx new Z2
          obtain ⟨O3, hO3⟩ : ∃ N, N = O2 ++ new := ⟨_, rfl⟩
          rw [← hO3] at Z3 ⊢
          simp (config := {implicitDefEqProofs := false, maxDischargeDepth := 20}) (disch := first | omega | (simp only [lenE]; done) | (simp only [lenE]; omega) | rfl | (simp only [lenE, markR_len]; done) | (simp only [lenE, markR_len]; omega)) only [runE, mapE, listE, initT_5, initT_6, initT_7, initT_8, resV, oneV, binA, unA, reduceCtorEq, Nat.reduceEqDiff, Nat.reduceAdd, Nat.reduceLT, Nat.reduceLeDiff, Nat.reduceMul, Nat.reduceSub, ↓reduceIte, decide_true, decide_false, Bool.true_eq_false, Bool.false_eq_true, Bool.not_true, Bool.not_false, if_true, if_false, and_true, true_and, memE, celE, w64, Nat.zero_add, Nat.add_zero, Nat.mul_one, putL, and_self, ldn, tm, t0, t3, t4, t5, t9, t10, t11, t15, t16, t17, t18, t21, hxy2, gt_iff_lt]
          refine callH_rc (vAdd_rc _ _ _ (kX Z3) dx) ?_
          rintro r new ⟨rfl, rfl⟩
          rw [List.append_nil]
          simp (config := {implicitDefEqProofs := false, maxDischargeDepth := 20}) (disch := first | omega | (simp only [lenE]; done) | (simp only [lenE]; omega) | rfl | (simp only [lenE, markR_len]; done) | (simp only [lenE, markR_len]; omega)) only [runE, mapE, listE, initT_5, initT_6, initT_7, initT_8, resV, oneV, binA, unA, reduceCtorEq, Nat.reduceEqDiff, Nat.reduceAdd, Nat.reduceLT, Nat.reduceLeDiff, Nat.reduceMul, Nat.reduceSub, ↓reduceIte, decide_true, decide_false, Bool.true_eq_false, Bool.false_eq_true, Bool.not_true, Bool.not_false, if_true, if_false, and_true, true_and, memE, celE, w64, Nat.zero_add, Nat.add_zero, Nat.mul_one, putL, and_self, ldn, tm, t0, t3, t4, t5, t9, t10, t11, t15, t16, t17, t18, t21, hxy2, gt_iff_lt]
          exact ⟨⟨j + 1, _, by omega, rfl, Z3, by simp⟩, by simp [intOf]; omega⟩
  · have hlt' : ¬ ((j : Int) ≤ 6) := by omega
    cases ht : th with
    | false =>
      rw [ht] at t18
      simp (config := {implicitDefEqProofs := false, maxDischargeDepth := 20}) (disch := first | omega | (simp only [lenE]; done) | (simp only [lenE]; omega) | rfl | (simp only [lenE, markR_len]; done) | (simp only [lenE, markR_len]; omega)) only [runE, mapE, listE, initT_5, initT_6, initT_7, initT_8, resV, oneV, binA, unA, reduceCtorEq, Nat.reduceEqDiff, Nat.reduceAdd, Nat.reduceLT, Nat.reduceLeDiff, Nat.reduceMul, Nat.reduceSub, ↓reduceIte, decide_true, decide_false, Bool.true_eq_false, Bool.false_eq_true, Bool.not_true, Bool.not_false, if_true, if_false, and_true, true_and, memE, celE, w64, Nat.zero_add, Nat.add_zero, Nat.mul_one, putL, and_self, ldn, tm, t0, t3, t4, t5, t9, t10, t11, t15, t16, t17, t18, t21, hlt']
    | true =>
      rw [ht] at t18
      obtain ⟨dx, dy, ds, hse⟩ := KS ht
      have e1 := conv_mean dx dy
      have e2 := conv_tot dx dy
      rw [← hse] at e1 e2
      have b1 := shortS_in dx 0
      have b2 := shortS_in dy 0
      have b3 := cross_in dx dy b1
      have b4 := cross_in dy dx b2
      have tx := tot_in dx
      have ty := tot_in dy
      have b5 := mul_in (a := tot x) (x := tot y) (A := 16000) (B := 16000) ⟨by omega, tx.2⟩ ⟨by omega, ty.2⟩
      have f1 : (shortS sm 0 == shortS x 0 * tot y + shortS y 0 * tot x) = true := by rw [e1]; simp
      have f2 : (tot sm == tot x * tot y) = true := by rw [e2]; simp
      simp (config := {implicitDefEqProofs := false, maxDischargeDepth := 20}) (disch := first | omega | (simp only [lenE]; done) | (simp only [lenE]; omega) | rfl | (simp only [lenE, markR_len]; done) | (simp only [lenE, markR_len]; omega)) only [runE, mapE, listE, initT_5, initT_6, initT_7, initT_8, resV, oneV, binA, unA, reduceCtorEq, Nat.reduceEqDiff, Nat.reduceAdd, Nat.reduceLT, Nat.reduceLeDiff, Nat.reduceMul, Nat.reduceSub, ↓reduceIte, decide_true, decide_false, Bool.true_eq_false, Bool.false_eq_true, Bool.not_true, Bool.not_false, if_true, if_false, and_true, true_and, memE, celE, w64, Nat.zero_add, Nat.add_zero, Nat.mul_one, putL, and_self, ldn, tm, t0, t3, t4, t5, t9, t10, t11, t15, t16, t17, t18, t21, hlt']
      refine callH_rc (mean (kS K0) ds) ?_
      rintro r new ⟨rfl, nr⟩
      have K1 := Kx new K0
      simp (config := {implicitDefEqProofs := false, maxDischargeDepth := 20}) (disch := first | omega | (simp only [lenE]; done) | (simp only [lenE]; omega) | rfl | (simp only [lenE, markR_len]; done) | (simp only [lenE, markR_len]; omega)) only [runE, mapE, listE, initT_5, initT_6, initT_7, initT_8, resV, oneV, binA, unA, reduceCtorEq, Nat.reduceEqDiff, Nat.reduceAdd, Nat.reduceLT, Nat.reduceLeDiff, Nat.reduceMul, Nat.reduceSub, ↓reduceIte, decide_true, decide_false, Bool.true_eq_false, Bool.false_eq_true, Bool.not_true, Bool.not_false, if_true, if_false, and_true, true_and, memE, celE, w64, Nat.zero_add, Nat.add_zero, Nat.mul_one, putL, and_self, ldn, tm, t0, t3, t4, t5, t9, t10, t11, t15, t16, t17, t18, t21, ext_2_0, ext_2_1]
      refine callH_rc (mean (kX K1) dx) ?_
      rintro r new ⟨rfl, nr⟩
      have K2 := Kx new K1
      simp (config := {implicitDefEqProofs := false, maxDischargeDepth := 20}) (disch := first | omega | (simp only [lenE]; done) | (simp only [lenE]; omega) | rfl | (simp only [lenE, markR_len]; done) | (simp only [lenE, markR_len]; omega)) only [runE, mapE, listE, initT_5, initT_6, initT_7, initT_8, resV, oneV, binA, unA, reduceCtorEq, Nat.reduceEqDiff, Nat.reduceAdd, Nat.reduceLT, Nat.reduceLeDiff, Nat.reduceMul, Nat.reduceSub, ↓reduceIte, decide_true, decide_false, Bool.true_eq_false, Bool.false_eq_true, Bool.not_true, Bool.not_false, if_true, if_false, and_true, true_and, memE, celE, w64, Nat.zero_add, Nat.add_zero, Nat.mul_one, putL, and_self, ldn, tm, t0, t3, t4, t5, t9, t10, t11, t15, t16, t17, t18, t21, ext_2_0, ext_2_1]
      refine callH_rc (mean (kY K2) dy) ?_
      rintro r new ⟨rfl, nr⟩
      have K3 := Kx new K2
      simp (config := {implicitDefEqProofs := false, maxDischargeDepth := 20}) (disch := first | omega | (simp only [lenE]; done) | (simp only [lenE]; omega) | rfl | (simp only [lenE, markR_len]; done) | (simp only [lenE, markR_len]; omega)) only [runE, mapE, listE, initT_5, initT_6, initT_7, initT_8, resV, oneV, binA, unA, reduceCtorEq, Nat.reduceEqDiff, Nat.reduceAdd, Nat.reduceLT, Nat.reduceLeDiff, Nat.reduceMul, Nat.reduceSub, ↓reduceIte, decide_true, decide_false, Bool.true_eq_false, Bool.false_eq_true, Bool.not_true, Bool.not_false, if_true, if_false, and_true, true_and, memE, celE, w64, Nat.zero_add, Nat.add_zero, Nat.mul_one, putL, and_self, ldn, tm, t0, t3, t4, t5, t9, t10, t11, t15, t16, t17, t18, t21, ext_2_0, ext_2_1]
      refine callH_rc (vAdd_rc _ _ _ (kY K3) dy) ?_
      rintro r new ⟨rfl, rfl⟩
      rw [List.append_nil]
      simp (config := {implicitDefEqProofs := false, maxDischargeDepth := 20}) (disch := first | omega | (simp only [lenE]; done) | (simp only [lenE]; omega) | rfl | (simp only [lenE, markR_len]; done) | (simp only [lenE, markR_len]; omega)) only [runE, mapE, listE, initT_5, initT_6, initT_7, initT_8, resV, oneV, binA, unA, reduceCtorEq, Nat.reduceEqDiff, Nat.reduceAdd, Nat.reduceLT, Nat.reduceLeDiff, Nat.reduceMul, Nat.reduceSub, ↓reduceIte, decide_true, decide_false, Bool.true_eq_false, Bool.false_eq_true, Bool.not_true, Bool.not_false, if_true, if_false, and_true, true_and, memE, celE, w64, Nat.zero_add, Nat.add_zero, Nat.mul_one, putL, and_self, ldn, tm, t0, t3, t4, t5, t9, t10, t11, t15, t16, t17, t18, t21, f1]
      refine callH_rc (vAdd_rc _ _ _ (kX K3) dx) ?_
      rintro r new ⟨rfl, rfl⟩
      rw [List.append_nil]
      simp (config := {implicitDefEqProofs := false, maxDischargeDepth := 20}) (disch := first | omega | (simp only [lenE]; done) | (simp only [lenE]; omega) | rfl | (simp only [lenE, markR_len]; done) | (simp only [lenE, markR_len]; omega)) only [runE, mapE, listE, initT_5, initT_6, initT_7, initT_8, resV, oneV, binA, unA, reduceCtorEq, Nat.reduceEqDiff, Nat.reduceAdd, Nat.reduceLT, Nat.reduceLeDiff, Nat.reduceMul, Nat.reduceSub, ↓reduceIte, decide_true, decide_false, Bool.true_eq_false, Bool.false_eq_true, Bool.not_true, Bool.not_false, if_true, if_false, and_true, true_and, memE, celE, w64, Nat.zero_add, Nat.add_zero, Nat.mul_one, putL, and_self, ldn, tm, t0, t3, t4, t5, t9, t10, t11, t15, t16, t17, t18, t21, f1]
      refine callH_rc (vAdd_rc _ _ _ (kS K3) ds) ?_
      rintro r new ⟨rfl, rfl⟩
      rw [List.append_nil]
      simp (config := {implicitDefEqProofs := false, maxDischargeDepth := 20}) (disch := first | omega | (simp only [lenE]; done) | (simp only [lenE]; omega) | rfl | (simp only [lenE, markR_len]; done) | (simp only [lenE, markR_len]; omega)) only [runE, mapE, listE, initT_5, initT_6, initT_7, initT_8, resV, oneV, binA, unA, reduceCtorEq, Nat.reduceEqDiff, Nat.reduceAdd, Nat.reduceLT, Nat.reduceLeDiff, Nat.reduceMul, Nat.reduceSub, ↓reduceIte, decide_true, decide_false, Bool.true_eq_false, Bool.false_eq_true, Bool.not_true, Bool.not_false, if_true, if_false, and_true, true_and, memE, celE, w64, Nat.zero_add, Nat.add_zero, Nat.mul_one, putL, and_self, ldn, tm, t0, t3, t4, t5, t9, t10, t11, t15, t16, t17, t18, t21, f1, f2]
      refine callH_rc (vAdd_rc _ _ _ (kX K3) dx) ?_
      rintro r new ⟨rfl, rfl⟩
      rw [List.append_nil]
      simp (config := {implicitDefEqProofs := false, maxDischargeDepth := 20}) (disch := first | omega | (simp only [lenE]; done) | (simp only [lenE]; omega) | rfl | (simp only [lenE, markR_len]; done) | (simp only [lenE, markR_len]; omega)) only [runE, mapE, listE, initT_5, initT_6, initT_7, initT_8, resV, oneV, binA, unA, reduceCtorEq, Nat.reduceEqDiff, Nat.reduceAdd, Nat.reduceLT, Nat.reduceLeDiff, Nat.reduceMul, Nat.reduceSub, ↓reduceIte, decide_true, decide_false, Bool.true_eq_false, Bool.false_eq_true, Bool.not_true, Bool.not_false, if_true, if_false, and_true, true_and, memE, celE, w64, Nat.zero_add, Nat.add_zero, Nat.mul_one, putL, and_self, ldn, tm, t0, t3, t4, t5, t9, t10, t11, t15, t16, t17, t18, t21, f1, f2]
      refine callH_rc (vAdd_rc _ _ _ (kY K3) dy) ?_
      rintro r new ⟨rfl, rfl⟩
      rw [List.append_nil]
      simp (config := {implicitDefEqProofs := false, maxDischargeDepth := 20}) (disch := first | omega | (simp only [lenE]; done) | (simp only [lenE]; omega) | rfl | (simp only [lenE, markR_len]; done) | (simp only [lenE, markR_len]; omega)) only [runE, mapE, listE, initT_5, initT_6, initT_7, initT_8, resV, oneV, binA, unA, reduceCtorEq, Nat.reduceEqDiff, Nat.reduceAdd, Nat.reduceLT, Nat.reduceLeDiff, Nat.reduceMul, Nat.reduceSub, ↓reduceIte, decide_true, decide_false, Bool.true_eq_false, Bool.false_eq_true, Bool.not_true, Bool.not_false, if_true, if_false, and_true, true_and, memE, celE, w64, Nat.zero_add, Nat.add_zero, Nat.mul_one, putL, and_self, ldn, tm, t0, t3, t4, t5, t9, t10, t11, t15, t16, t17, t18, t21, f1, f2]
end Go.Proofs.Ytfdpieeopdhcmaa.Ab
