/- What is drawn for the laws of chapter 5. -/
import Derived.Test.YtfdpieeopdhcmaaAbDraw5
import Derived.Test.YtfdpieeopdhcmaaAbNamed
namespace Go.Proofs.Ytfdpieeopdhcmaa.Ab
open Go Go.RowKit
set_option linter.unusedVariables false
set_option linter.unusedSimpArgs false

theorem draw_row {m M' : Mem} {r : Nat} {L : List Int} (hx : Ext m M') (ho : OwnR M' r L) (hge : m.length ≤ r) : ∃ n0 i, M' = roM m ++ n0 ∧ NoRo n0 ∧ r = m.length + i ∧ n0[i]? = some (rowB L) := by
  obtain ⟨n0, rfl, h0⟩ := hx
  refine ⟨n0, r - m.length, rfl, h0, by omega, ?_⟩
  unfold OwnR at ho
  rwa [List.getElem?_append_right (by rw [roM_len]; exact hge), roM_len] at ho

theorem bF (m : Mem) : bslA m 3 1 5 [.int .i64 0, .int .i64 0, .int .i64 0, .int .i64 0, .int .i64 0] [(0, 1, .int .i64 0), (1, 1, .int .i64 1), (2, 1, .int .i64 2), (3, 1, .int .i64 20), (4, 1, .int .i64 21)] = some (.slice (some ⟨m.length, 0, none⟩) 5 1, m ++ [rowB [0, 1, 2, 20, 21]]) := rfl
theorem bG (m : Mem) : bslA m 3 1 5 [.int .i64 0, .int .i64 0, .int .i64 0, .int .i64 0, .int .i64 0] [(0, 1, .int .i64 0), (1, 1, .int .i64 2), (2, 1, .int .i64 5), (3, 1, .int .i64 30), (4, 1, .int .i64 31)] = some (.slice (some ⟨m.length, 0, none⟩) 5 1, m ++ [rowB [0, 2, 5, 30, 31]]) := rfl
theorem DrawCriticalOrder_rc (m : Mem) (cb fl : Nat) (l : List Int) (h : BytesA m cb l) :
    RC Try.prog 24 [.slice (some ⟨cb, 0, none⟩) l.length fl] m fun r new => NoRo new ∧ ∃ (i : Nat) (w : List Int) (x0 x1 : Int), r = .tuple #[.slice (some ⟨m.length + i, 0, none⟩) w.length 1, .int .i64 x0, .int .i64 x1] ∧ new[i]? = some (rowB w) ∧ w.length ≤ 20 := by
  refine rc_of_run mixed ok_spec_DrawCriticalOrder (by simp) (go_start _ _ _ ?_)
  simp (config := {implicitDefEqProofs := false, maxDischargeDepth := 20}) (disch := first | omega | (simp only [lenE]; done) | (simp only [lenE]; omega) | rfl | (simp only [lenE, markR_len]; done) | (simp only [lenE, markR_len]; omega)) only [runE, mapE, listE, initT_5, initT_6, initT_7, initT_8, resV, oneV, binA, unA, reduceCtorEq, Nat.reduceEqDiff, Nat.reduceAdd, Nat.reduceLT, Nat.reduceLeDiff, Nat.reduceMul, Nat.reduceSub, ↓reduceIte, decide_true, decide_false, Bool.true_eq_false, Bool.false_eq_true, Bool.not_true, Bool.not_false, if_true, if_false, and_true, true_and, memE, celE, w64, Nat.zero_add, Nat.add_zero, Nat.mul_one, putL, and_self, ldn, c_spec_DrawCriticalOrder, r_spec_DrawCriticalOrder, bldCur]
  have k0 := CurA.start (fl := fl) h rfl
  have hl0 : (roM m ++ [(⟨.own, 75, [.slice (some ⟨cb, 0, none⟩) l.length fl, .int .i64 0, .int .u64 0]⟩ : Blk)]).length = m.length + 1 := by simp [roM_len]
  refine callH_ac (chances_ac _ cb _ 0 l k0 (by omega)) ?_
  rintro v M1 ⟨r, L, a1, rfl, hL, ha1, d1⟩
  simp (config := {implicitDefEqProofs := false, maxDischargeDepth := 20}) (disch := first | omega | (simp only [lenE]; done) | (simp only [lenE]; omega) | rfl | (simp only [lenE, markR_len]; done) | (simp only [lenE, markR_len]; omega)) only [runE, mapE, listE, initT_5, initT_6, initT_7, initT_8, resV, oneV, binA, unA, reduceCtorEq, Nat.reduceEqDiff, Nat.reduceAdd, Nat.reduceLT, Nat.reduceLeDiff, Nat.reduceMul, Nat.reduceSub, ↓reduceIte, decide_true, decide_false, Bool.true_eq_false, Bool.false_eq_true, Bool.not_true, Bool.not_false, if_true, if_false, and_true, true_and, memE, celE, w64, Nat.zero_add, Nat.add_zero, Nat.mul_one, putL, and_self, ldn]
  refine callH_ac (charge_ac M1 cb _ a1 l d1.cur (by omega)) ?_
  rintro v M2 ⟨x0, a2, rfl, ha2, w2, k2⟩
  have d2 := d1.draw w2 k2
  simp (config := {implicitDefEqProofs := false, maxDischargeDepth := 20}) (disch := first | omega | (simp only [lenE]; done) | (simp only [lenE]; omega) | rfl | (simp only [lenE, markR_len]; done) | (simp only [lenE, markR_len]; omega)) only [runE, mapE, listE, initT_5, initT_6, initT_7, initT_8, resV, oneV, binA, unA, reduceCtorEq, Nat.reduceEqDiff, Nat.reduceAdd, Nat.reduceLT, Nat.reduceLeDiff, Nat.reduceMul, Nat.reduceSub, ↓reduceIte, decide_true, decide_false, Bool.true_eq_false, Bool.false_eq_true, Bool.not_true, Bool.not_false, if_true, if_false, and_true, true_and, memE, celE, w64, Nat.zero_add, Nat.add_zero, Nat.mul_one, putL, and_self, ldn]
  refine callH_ac (charge_ac M2 cb _ a2 l d2.cur (by omega)) ?_
  rintro v M3 ⟨x1, a3, rfl, ha3, w3, k3⟩
  have d3 := d2.draw w3 k3
  simp (config := {implicitDefEqProofs := false, maxDischargeDepth := 20}) (disch := first | omega | (simp only [lenE]; done) | (simp only [lenE]; omega) | rfl | (simp only [lenE, markR_len]; done) | (simp only [lenE, markR_len]; omega)) only [runE, mapE, listE, initT_5, initT_6, initT_7, initT_8, resV, oneV, binA, unA, reduceCtorEq, Nat.reduceEqDiff, Nat.reduceAdd, Nat.reduceLT, Nat.reduceLeDiff, Nat.reduceMul, Nat.reduceSub, ↓reduceIte, decide_true, decide_false, Bool.true_eq_false, Bool.false_eq_true, Bool.not_true, Bool.not_false, if_true, if_false, and_true, true_and, memE, celE, w64, Nat.zero_add, Nat.add_zero, Nat.mul_one, putL, and_self, ldn]
  have hge := d3.ge
  rw [hl0] at hge
  obtain ⟨n0, i, hM, h0, rfl, hrow⟩ := draw_row (d3.cw.toExt d3.cur) d3.own (by omega)
  exact ⟨n0, hM, h0, h0, i, L, x0, x1, rfl, hrow, hL⟩

theorem DrawCostSum_rc (m : Mem) (cb fl : Nat) (l : List Int) (h : BytesA m cb l) :
    RC Try.prog 29 [.slice (some ⟨cb, 0, none⟩) l.length fl] m fun r new => NoRo new ∧ ∃ (i : Nat) (w : List Int) (x0 x1 x2 : Int), r = .tuple #[.slice (some ⟨m.length + i, 0, none⟩) w.length 1, .int .i64 x0, .int .i64 x1, .int .i64 x2] ∧ new[i]? = some (rowB w) ∧ w.length ≤ 20 := by
  refine rc_of_run mixed ok_spec_DrawCostSum (by simp) (go_start _ _ _ ?_)
  simp (config := {implicitDefEqProofs := false, maxDischargeDepth := 20}) (disch := first | omega | (simp only [lenE]; done) | (simp only [lenE]; omega) | rfl | (simp only [lenE, markR_len]; done) | (simp only [lenE, markR_len]; omega)) only [runE, mapE, listE, initT_5, initT_6, initT_7, initT_8, resV, oneV, binA, unA, reduceCtorEq, Nat.reduceEqDiff, Nat.reduceAdd, Nat.reduceLT, Nat.reduceLeDiff, Nat.reduceMul, Nat.reduceSub, ↓reduceIte, decide_true, decide_false, Bool.true_eq_false, Bool.false_eq_true, Bool.not_true, Bool.not_false, if_true, if_false, and_true, true_and, memE, celE, w64, Nat.zero_add, Nat.add_zero, Nat.mul_one, putL, and_self, ldn, c_spec_DrawCostSum, r_spec_DrawCostSum, bldCur]
  have k0 := CurA.start (fl := fl) h rfl
  have hl0 : (roM m ++ [(⟨.own, 75, [.slice (some ⟨cb, 0, none⟩) l.length fl, .int .i64 0, .int .u64 0]⟩ : Blk)]).length = m.length + 1 := by simp [roM_len]
  refine callH_ac (chances_ac _ cb _ 0 l k0 (by omega)) ?_
  rintro v M1 ⟨r, L, a1, rfl, hL, ha1, d1⟩
  simp (config := {implicitDefEqProofs := false, maxDischargeDepth := 20}) (disch := first | omega | (simp only [lenE]; done) | (simp only [lenE]; omega) | rfl | (simp only [lenE, markR_len]; done) | (simp only [lenE, markR_len]; omega)) only [runE, mapE, listE, initT_5, initT_6, initT_7, initT_8, resV, oneV, binA, unA, reduceCtorEq, Nat.reduceEqDiff, Nat.reduceAdd, Nat.reduceLT, Nat.reduceLeDiff, Nat.reduceMul, Nat.reduceSub, ↓reduceIte, decide_true, decide_false, Bool.true_eq_false, Bool.false_eq_true, Bool.not_true, Bool.not_false, if_true, if_false, and_true, true_and, memE, celE, w64, Nat.zero_add, Nat.add_zero, Nat.mul_one, putL, and_self, ldn]
  refine callH_ac (charge_ac M1 cb _ a1 l d1.cur (by omega)) ?_
  rintro v M2 ⟨x0, a2, rfl, ha2, w2, k2⟩
  have d2 := d1.draw w2 k2
  simp (config := {implicitDefEqProofs := false, maxDischargeDepth := 20}) (disch := first | omega | (simp only [lenE]; done) | (simp only [lenE]; omega) | rfl | (simp only [lenE, markR_len]; done) | (simp only [lenE, markR_len]; omega)) only [runE, mapE, listE, initT_5, initT_6, initT_7, initT_8, resV, oneV, binA, unA, reduceCtorEq, Nat.reduceEqDiff, Nat.reduceAdd, Nat.reduceLT, Nat.reduceLeDiff, Nat.reduceMul, Nat.reduceSub, ↓reduceIte, decide_true, decide_false, Bool.true_eq_false, Bool.false_eq_true, Bool.not_true, Bool.not_false, if_true, if_false, and_true, true_and, memE, celE, w64, Nat.zero_add, Nat.add_zero, Nat.mul_one, putL, and_self, ldn]
  refine callH_ac (charge_ac M2 cb _ a2 l d2.cur (by omega)) ?_
  rintro v M3 ⟨x1, a3, rfl, ha3, w3, k3⟩
  have d3 := d2.draw w3 k3
  simp (config := {implicitDefEqProofs := false, maxDischargeDepth := 20}) (disch := first | omega | (simp only [lenE]; done) | (simp only [lenE]; omega) | rfl | (simp only [lenE, markR_len]; done) | (simp only [lenE, markR_len]; omega)) only [runE, mapE, listE, initT_5, initT_6, initT_7, initT_8, resV, oneV, binA, unA, reduceCtorEq, Nat.reduceEqDiff, Nat.reduceAdd, Nat.reduceLT, Nat.reduceLeDiff, Nat.reduceMul, Nat.reduceSub, ↓reduceIte, decide_true, decide_false, Bool.true_eq_false, Bool.false_eq_true, Bool.not_true, Bool.not_false, if_true, if_false, and_true, true_and, memE, celE, w64, Nat.zero_add, Nat.add_zero, Nat.mul_one, putL, and_self, ldn]
  refine callH_ac (order5_ac M3 cb _ a3 l d3.cur (by omega)) ?_
  rintro v M4 ⟨x2, a4, rfl, ha4, w4, k4⟩
  have d4 := d3.draw w4 k4
  simp (config := {implicitDefEqProofs := false, maxDischargeDepth := 20}) (disch := first | omega | (simp only [lenE]; done) | (simp only [lenE]; omega) | rfl | (simp only [lenE, markR_len]; done) | (simp only [lenE, markR_len]; omega)) only [runE, mapE, listE, initT_5, initT_6, initT_7, initT_8, resV, oneV, binA, unA, reduceCtorEq, Nat.reduceEqDiff, Nat.reduceAdd, Nat.reduceLT, Nat.reduceLeDiff, Nat.reduceMul, Nat.reduceSub, ↓reduceIte, decide_true, decide_false, Bool.true_eq_false, Bool.false_eq_true, Bool.not_true, Bool.not_false, if_true, if_false, and_true, true_and, memE, celE, w64, Nat.zero_add, Nat.add_zero, Nat.mul_one, putL, and_self, ldn]
  have hge := d4.ge
  rw [hl0] at hge
  obtain ⟨n0, i, hM, h0, rfl, hrow⟩ := draw_row (d4.cw.toExt d4.cur) d4.own (by omega)
  exact ⟨n0, hM, h0, h0, i, L, x0, x1, x2, rfl, hrow, hL⟩

theorem DrawOrderUpTo_rc (m : Mem) (cb fl : Nat) (l : List Int) (h : BytesA m cb l) :
    RC Try.prog 64 [.slice (some ⟨cb, 0, none⟩) l.length fl] m fun r new => NoRo new ∧ ∃ (i : Nat) (w : List Int) (x0 x1 x2 x3 x4 : Int), r = .tuple #[.slice (some ⟨m.length + i, 0, none⟩) w.length 1, .int .i64 x0, .int .i64 x1, .int .i64 x2, .int .i64 x3, .int .i64 x4] ∧ new[i]? = some (rowB w) ∧ w.length ≤ 20 := by
  refine rc_of_run mixed ok_spec_DrawOrderUpTo (by simp) (go_start _ _ _ ?_)
  simp (config := {implicitDefEqProofs := false, maxDischargeDepth := 20}) (disch := first | omega | (simp only [lenE]; done) | (simp only [lenE]; omega) | rfl | (simp only [lenE, markR_len]; done) | (simp only [lenE, markR_len]; omega)) only [runE, mapE, listE, initT_5, initT_6, initT_7, initT_8, resV, oneV, binA, unA, reduceCtorEq, Nat.reduceEqDiff, Nat.reduceAdd, Nat.reduceLT, Nat.reduceLeDiff, Nat.reduceMul, Nat.reduceSub, ↓reduceIte, decide_true, decide_false, Bool.true_eq_false, Bool.false_eq_true, Bool.not_true, Bool.not_false, if_true, if_false, and_true, true_and, memE, celE, w64, Nat.zero_add, Nat.add_zero, Nat.mul_one, putL, and_self, ldn, c_spec_DrawOrderUpTo, r_spec_DrawOrderUpTo, bldCur]
  have k0 := CurA.start (fl := fl) h rfl
  have hl0 : (roM m ++ [(⟨.own, 75, [.slice (some ⟨cb, 0, none⟩) l.length fl, .int .i64 0, .int .u64 0]⟩ : Blk)]).length = m.length + 1 := by simp [roM_len]
  refine callH_ac (chances_ac _ cb _ 0 l k0 (by omega)) ?_
  rintro v M1 ⟨r, L, a1, rfl, hL, ha1, d1⟩
  simp (config := {implicitDefEqProofs := false, maxDischargeDepth := 20}) (disch := first | omega | (simp only [lenE]; done) | (simp only [lenE]; omega) | rfl | (simp only [lenE, markR_len]; done) | (simp only [lenE, markR_len]; omega)) only [runE, mapE, listE, initT_5, initT_6, initT_7, initT_8, resV, oneV, binA, unA, reduceCtorEq, Nat.reduceEqDiff, Nat.reduceAdd, Nat.reduceLT, Nat.reduceLeDiff, Nat.reduceMul, Nat.reduceSub, ↓reduceIte, decide_true, decide_false, Bool.true_eq_false, Bool.false_eq_true, Bool.not_true, Bool.not_false, if_true, if_false, and_true, true_and, memE, celE, w64, Nat.zero_add, Nat.add_zero, Nat.mul_one, putL, and_self, ldn]
  refine callH_ac (charge_ac M1 cb _ a1 l d1.cur (by omega)) ?_
  rintro v M2 ⟨x0, a2, rfl, ha2, w2, k2⟩
  have d2 := d1.draw w2 k2
  simp (config := {implicitDefEqProofs := false, maxDischargeDepth := 20}) (disch := first | omega | (simp only [lenE]; done) | (simp only [lenE]; omega) | rfl | (simp only [lenE, markR_len]; done) | (simp only [lenE, markR_len]; omega)) only [runE, mapE, listE, initT_5, initT_6, initT_7, initT_8, resV, oneV, binA, unA, reduceCtorEq, Nat.reduceEqDiff, Nat.reduceAdd, Nat.reduceLT, Nat.reduceLeDiff, Nat.reduceMul, Nat.reduceSub, ↓reduceIte, decide_true, decide_false, Bool.true_eq_false, Bool.false_eq_true, Bool.not_true, Bool.not_false, if_true, if_false, and_true, true_and, memE, celE, w64, Nat.zero_add, Nat.add_zero, Nat.mul_one, putL, and_self, ldn]
  refine callH_ac (charge_ac M2 cb _ a2 l d2.cur (by omega)) ?_
  rintro v M3 ⟨x1, a3, rfl, ha3, w3, k3⟩
  have d3 := d2.draw w3 k3
  simp (config := {implicitDefEqProofs := false, maxDischargeDepth := 20}) (disch := first | omega | (simp only [lenE]; done) | (simp only [lenE]; omega) | rfl | (simp only [lenE, markR_len]; done) | (simp only [lenE, markR_len]; omega)) only [runE, mapE, listE, initT_5, initT_6, initT_7, initT_8, resV, oneV, binA, unA, reduceCtorEq, Nat.reduceEqDiff, Nat.reduceAdd, Nat.reduceLT, Nat.reduceLeDiff, Nat.reduceMul, Nat.reduceSub, ↓reduceIte, decide_true, decide_false, Bool.true_eq_false, Bool.false_eq_true, Bool.not_true, Bool.not_false, if_true, if_false, and_true, true_and, memE, celE, w64, Nat.zero_add, Nat.add_zero, Nat.mul_one, putL, and_self, ldn, bF]
  refine callH_ac (among_new M3 cb _ a3 l [0, 1, 2, 20, 21] d3.cur (by omega) rfl rfl (by simp) (by simp)) ?_
  rintro v M4 ⟨x2, hx2, rfl, w4, a4, ha4, k4⟩
  have d4 := d3.draw w4 k4
  simp (config := {implicitDefEqProofs := false, maxDischargeDepth := 20}) (disch := first | omega | (simp only [lenE]; done) | (simp only [lenE]; omega) | rfl | (simp only [lenE, markR_len]; done) | (simp only [lenE, markR_len]; omega)) only [runE, mapE, listE, initT_5, initT_6, initT_7, initT_8, resV, oneV, binA, unA, reduceCtorEq, Nat.reduceEqDiff, Nat.reduceAdd, Nat.reduceLT, Nat.reduceLeDiff, Nat.reduceMul, Nat.reduceSub, ↓reduceIte, decide_true, decide_false, Bool.true_eq_false, Bool.false_eq_true, Bool.not_true, Bool.not_false, if_true, if_false, and_true, true_and, memE, celE, w64, Nat.zero_add, Nat.add_zero, Nat.mul_one, putL, and_self, ldn, bG]
  refine callH_ac (among_new M4 cb _ a4 l [0, 2, 5, 30, 31] d4.cur (by omega) rfl rfl (by simp) (by simp)) ?_
  rintro v M5 ⟨x3, hx3, rfl, w5, a5, ha5, k5⟩
  have d5 := d4.draw w5 k5
  simp (config := {implicitDefEqProofs := false, maxDischargeDepth := 20}) (disch := first | omega | (simp only [lenE]; done) | (simp only [lenE]; omega) | rfl | (simp only [lenE, markR_len]; done) | (simp only [lenE, markR_len]; omega)) only [runE, mapE, listE, initT_5, initT_6, initT_7, initT_8, resV, oneV, binA, unA, reduceCtorEq, Nat.reduceEqDiff, Nat.reduceAdd, Nat.reduceLT, Nat.reduceLeDiff, Nat.reduceMul, Nat.reduceSub, ↓reduceIte, decide_true, decide_false, Bool.true_eq_false, Bool.false_eq_true, Bool.not_true, Bool.not_false, if_true, if_false, and_true, true_and, memE, celE, w64, Nat.zero_add, Nat.add_zero, Nat.mul_one, putL, and_self, ldn]
  refine callH_ac (order5_ac M5 cb _ a5 l d5.cur (by omega)) ?_
  rintro v M6 ⟨x4, a6, rfl, ha6, w6, k6⟩
  have d6 := d5.draw w6 k6
  simp (config := {implicitDefEqProofs := false, maxDischargeDepth := 20}) (disch := first | omega | (simp only [lenE]; done) | (simp only [lenE]; omega) | rfl | (simp only [lenE, markR_len]; done) | (simp only [lenE, markR_len]; omega)) only [runE, mapE, listE, initT_5, initT_6, initT_7, initT_8, resV, oneV, binA, unA, reduceCtorEq, Nat.reduceEqDiff, Nat.reduceAdd, Nat.reduceLT, Nat.reduceLeDiff, Nat.reduceMul, Nat.reduceSub, ↓reduceIte, decide_true, decide_false, Bool.true_eq_false, Bool.false_eq_true, Bool.not_true, Bool.not_false, if_true, if_false, and_true, true_and, memE, celE, w64, Nat.zero_add, Nat.add_zero, Nat.mul_one, putL, and_self, ldn]
  have hge := d6.ge
  rw [hl0] at hge
  obtain ⟨n0, i, hM, h0, rfl, hrow⟩ := draw_row (d6.cw.toExt d6.cur) d6.own (by omega)
  exact ⟨n0, hM, h0, h0, i, L, x0, x1, x2, x3, x4, rfl, hrow, hL⟩

theorem DrawTriggerLevel_rc (m : Mem) (cb fl : Nat) (l : List Int) (h : BytesA m cb l) :
    RC Try.prog 67 [.slice (some ⟨cb, 0, none⟩) l.length fl] m fun r new => NoRo new ∧ ∃ (i : Nat) (w : List Int) (x0 x1 x2 x3 : Int), r = .tuple #[.slice (some ⟨m.length + i, 0, none⟩) w.length 1, .int .i64 x0, .int .i64 x1, .int .i64 x2, .int .i64 x3] ∧ new[i]? = some (rowB w) ∧ w.length ≤ 20 := by
  refine rc_of_run mixed ok_spec_DrawTriggerLevel (by simp) (go_start _ _ _ ?_)
  simp (config := {implicitDefEqProofs := false, maxDischargeDepth := 20}) (disch := first | omega | (simp only [lenE]; done) | (simp only [lenE]; omega) | rfl | (simp only [lenE, markR_len]; done) | (simp only [lenE, markR_len]; omega)) only [runE, mapE, listE, initT_5, initT_6, initT_7, initT_8, resV, oneV, binA, unA, reduceCtorEq, Nat.reduceEqDiff, Nat.reduceAdd, Nat.reduceLT, Nat.reduceLeDiff, Nat.reduceMul, Nat.reduceSub, ↓reduceIte, decide_true, decide_false, Bool.true_eq_false, Bool.false_eq_true, Bool.not_true, Bool.not_false, if_true, if_false, and_true, true_and, memE, celE, w64, Nat.zero_add, Nat.add_zero, Nat.mul_one, putL, and_self, ldn, c_spec_DrawTriggerLevel, r_spec_DrawTriggerLevel, bldCur]
  have k0 := CurA.start (fl := fl) h rfl
  have hl0 : (roM m ++ [(⟨.own, 75, [.slice (some ⟨cb, 0, none⟩) l.length fl, .int .i64 0, .int .u64 0]⟩ : Blk)]).length = m.length + 1 := by simp [roM_len]
  refine callH_ac (chances_ac _ cb _ 0 l k0 (by omega)) ?_
  rintro v M1 ⟨r, L, a1, rfl, hL, ha1, d1⟩
  simp (config := {implicitDefEqProofs := false, maxDischargeDepth := 20}) (disch := first | omega | (simp only [lenE]; done) | (simp only [lenE]; omega) | rfl | (simp only [lenE, markR_len]; done) | (simp only [lenE, markR_len]; omega)) only [runE, mapE, listE, initT_5, initT_6, initT_7, initT_8, resV, oneV, binA, unA, reduceCtorEq, Nat.reduceEqDiff, Nat.reduceAdd, Nat.reduceLT, Nat.reduceLeDiff, Nat.reduceMul, Nat.reduceSub, ↓reduceIte, decide_true, decide_false, Bool.true_eq_false, Bool.false_eq_true, Bool.not_true, Bool.not_false, if_true, if_false, and_true, true_and, memE, celE, w64, Nat.zero_add, Nat.add_zero, Nat.mul_one, putL, and_self, ldn]
  refine callH_ac (charge_ac M1 cb _ a1 l d1.cur (by omega)) ?_
  rintro v M2 ⟨x0, a2, rfl, ha2, w2, k2⟩
  have d2 := d1.draw w2 k2
  simp (config := {implicitDefEqProofs := false, maxDischargeDepth := 20}) (disch := first | omega | (simp only [lenE]; done) | (simp only [lenE]; omega) | rfl | (simp only [lenE, markR_len]; done) | (simp only [lenE, markR_len]; omega)) only [runE, mapE, listE, initT_5, initT_6, initT_7, initT_8, resV, oneV, binA, unA, reduceCtorEq, Nat.reduceEqDiff, Nat.reduceAdd, Nat.reduceLT, Nat.reduceLeDiff, Nat.reduceMul, Nat.reduceSub, ↓reduceIte, decide_true, decide_false, Bool.true_eq_false, Bool.false_eq_true, Bool.not_true, Bool.not_false, if_true, if_false, and_true, true_and, memE, celE, w64, Nat.zero_add, Nat.add_zero, Nat.mul_one, putL, and_self, ldn]
  refine callH_ac (charge_ac M2 cb _ a2 l d2.cur (by omega)) ?_
  rintro v M3 ⟨x1, a3, rfl, ha3, w3, k3⟩
  have d3 := d2.draw w3 k3
  simp (config := {implicitDefEqProofs := false, maxDischargeDepth := 20}) (disch := first | omega | (simp only [lenE]; done) | (simp only [lenE]; omega) | rfl | (simp only [lenE, markR_len]; done) | (simp only [lenE, markR_len]; omega)) only [runE, mapE, listE, initT_5, initT_6, initT_7, initT_8, resV, oneV, binA, unA, reduceCtorEq, Nat.reduceEqDiff, Nat.reduceAdd, Nat.reduceLT, Nat.reduceLeDiff, Nat.reduceMul, Nat.reduceSub, ↓reduceIte, decide_true, decide_false, Bool.true_eq_false, Bool.false_eq_true, Bool.not_true, Bool.not_false, if_true, if_false, and_true, true_and, memE, celE, w64, Nat.zero_add, Nat.add_zero, Nat.mul_one, putL, and_self, ldn, bF]
  refine callH_ac (among_new M3 cb _ a3 l [0, 1, 2, 20, 21] d3.cur (by omega) rfl rfl (by simp) (by simp)) ?_
  rintro v M4 ⟨x2, hx2, rfl, w4, a4, ha4, k4⟩
  have d4 := d3.draw w4 k4
  simp (config := {implicitDefEqProofs := false, maxDischargeDepth := 20}) (disch := first | omega | (simp only [lenE]; done) | (simp only [lenE]; omega) | rfl | (simp only [lenE, markR_len]; done) | (simp only [lenE, markR_len]; omega)) only [runE, mapE, listE, initT_5, initT_6, initT_7, initT_8, resV, oneV, binA, unA, reduceCtorEq, Nat.reduceEqDiff, Nat.reduceAdd, Nat.reduceLT, Nat.reduceLeDiff, Nat.reduceMul, Nat.reduceSub, ↓reduceIte, decide_true, decide_false, Bool.true_eq_false, Bool.false_eq_true, Bool.not_true, Bool.not_false, if_true, if_false, and_true, true_and, memE, celE, w64, Nat.zero_add, Nat.add_zero, Nat.mul_one, putL, and_self, ldn, bG]
  refine callH_ac (among_new M4 cb _ a4 l [0, 2, 5, 30, 31] d4.cur (by omega) rfl rfl (by simp) (by simp)) ?_
  rintro v M5 ⟨x3, hx3, rfl, w5, a5, ha5, k5⟩
  have d5 := d4.draw w5 k5
  simp (config := {implicitDefEqProofs := false, maxDischargeDepth := 20}) (disch := first | omega | (simp only [lenE]; done) | (simp only [lenE]; omega) | rfl | (simp only [lenE, markR_len]; done) | (simp only [lenE, markR_len]; omega)) only [runE, mapE, listE, initT_5, initT_6, initT_7, initT_8, resV, oneV, binA, unA, reduceCtorEq, Nat.reduceEqDiff, Nat.reduceAdd, Nat.reduceLT, Nat.reduceLeDiff, Nat.reduceMul, Nat.reduceSub, ↓reduceIte, decide_true, decide_false, Bool.true_eq_false, Bool.false_eq_true, Bool.not_true, Bool.not_false, if_true, if_false, and_true, true_and, memE, celE, w64, Nat.zero_add, Nat.add_zero, Nat.mul_one, putL, and_self, ldn]
  have hge := d5.ge
  rw [hl0] at hge
  obtain ⟨n0, i, hM, h0, rfl, hrow⟩ := draw_row (d5.cw.toExt d5.cur) d5.own (by omega)
  exact ⟨n0, hM, h0, h0, i, L, x0, x1, x2, x3, rfl, hrow, hL⟩

end Go.Proofs.Ytfdpieeopdhcmaa.Ab
