/- Processes in memory: the laws' helpers szProcess, toProcess, eqProcess, markProcess. -/
import Derived.Test.YtddnedngjijpoaaAbPairs
import Derived.Test.YtddnedngjijpoaaPolMath
namespace Go.Proofs.Ytddnedngjijpoaa.Ab
open Go Go.RowKit
set_option linter.unusedVariables false
set_option linter.unusedSimpArgs false

abbrev procV (p : Pr) (u : Value) : Value := .agg #[.int .i64 p.turns, u, .int .i64 p.setup, .int .i64 p.unit, .int .i64 p.hold, .int .i64 p.back]
def ProcA (m : Mem) (v : Value) (p : Pr) : Prop := ∃ u, v = procV p u ∧ IntsA m u p.w
theorem ProcA.ext {m : Mem} {v : Value} {p : Pr} (h : ProcA m v p) (new : Mem) : ProcA (m ++ new) v p := by
  obtain ⟨u, rfl, hu⟩ := h
  exact ⟨u, rfl, hu.ext new⟩
theorem ProcA.ro {m : Mem} {v : Value} {p : Pr} (h : ProcA m v p) : ProcA (roM m) v p := by
  obtain ⟨u, rfl, hu⟩ := h
  exact ⟨u, rfl, hu.ro⟩
def ProcO (p : Pr) (lo hi : Nat) (M : Mem) (v : Value) : Prop := ∃ u, v = procV p u ∧ IntsO p.w lo hi M u
theorem ProcO.in {p : Pr} {lo hi : Nat} {M : Mem} {v : Value} (h : ProcO p lo hi M v) : ProcA M v p := by
  obtain ⟨u, rfl, hu⟩ := h
  exact ⟨u, rfl, hu.in⟩
theorem szProcess_rc (m : Mem) (v : Value) (p : Pr) (left : Int) (h : ProcA m v p) (h0 : 0 ≤ left) (h1 : left ≤ 1048576) :
    RC Try.prog 44 [v, .int .i64 left] m fun r new => NoRo new ∧ ((r = .int .i64 (-1)) ∨ ∃ z : Int, 0 ≤ z ∧ z ≤ left ∧ r = .int .i64 z ∧ p.w.length ≤ 1048576) := by
  refine rc_of_run mixed ok_laws_szProcess (by simp) (go_start _ _ _ ?_)
  obtain ⟨u, rfl, hu⟩ := h.ro
  simp (config := {implicitDefEqProofs := false, maxDischargeDepth := 20}) (disch := first | omega | (simp only [lenE]; done) | (simp only [lenE]; omega) | rfl | (simp only [lenE, markR_len]; done) | (simp only [lenE, markR_len]; omega)) only [runE, mapE, listE, initT_5, initT_6, initT_7, initT_8, resV, oneV, binA, unA, reduceCtorEq, Nat.reduceEqDiff, Nat.reduceAdd, Nat.reduceLT, Nat.reduceLeDiff, Nat.reduceMul, Nat.reduceSub, ↓reduceIte, decide_true, decide_false, Bool.true_eq_false, Bool.false_eq_true, Bool.not_true, Bool.not_false, if_true, if_false, and_true, true_and, memE, celE, w64, Nat.zero_add, Nat.add_zero, Nat.mul_one, putL, and_self, ldn, c_laws_szProcess, r_laws_szProcess]
  refine callH_rc (szIntsO_rc _ u p.w left (hu.ext _) h0 h1) ?_
  rintro r new ⟨hn, rfl | ⟨z, z0, z1, rfl, hl⟩⟩
  · simp (config := {implicitDefEqProofs := false, maxDischargeDepth := 20}) (disch := first | omega | (simp only [lenE]; done) | (simp only [lenE]; omega) | rfl | (simp only [lenE, markR_len]; done) | (simp only [lenE, markR_len]; omega)) only [runE, mapE, listE, initT_5, initT_6, initT_7, initT_8, resV, oneV, binA, unA, reduceCtorEq, Nat.reduceEqDiff, Nat.reduceAdd, Nat.reduceLT, Nat.reduceLeDiff, Nat.reduceMul, Nat.reduceSub, ↓reduceIte, decide_true, decide_false, Bool.true_eq_false, Bool.false_eq_true, Bool.not_true, Bool.not_false, if_true, if_false, and_true, true_and, memE, celE, w64, Nat.zero_add, Nat.add_zero, Nat.mul_one, putL, and_self, ldn, show ((-1 : Int) < 0) = True by simp]
    try simp only [List.append_assoc, List.cons_append, List.nil_append, List.append_nil]
    exact ⟨_, rfl, by (repeat (first | exact noRo_nil | assumption | apply noRo_own | apply noRo_dead | apply noRo_app)), by (repeat (first | exact noRo_nil | assumption | apply noRo_own | apply noRo_dead | apply noRo_app)), .inl rfl⟩
  · have hz : ¬ (z < 0) := by omega
    simp (config := {implicitDefEqProofs := false, maxDischargeDepth := 20}) (disch := first | omega | (simp only [lenE]; done) | (simp only [lenE]; omega) | rfl | (simp only [lenE, markR_len]; done) | (simp only [lenE, markR_len]; omega)) only [runE, mapE, listE, initT_5, initT_6, initT_7, initT_8, resV, oneV, binA, unA, reduceCtorEq, Nat.reduceEqDiff, Nat.reduceAdd, Nat.reduceLT, Nat.reduceLeDiff, Nat.reduceMul, Nat.reduceSub, ↓reduceIte, decide_true, decide_false, Bool.true_eq_false, Bool.false_eq_true, Bool.not_true, Bool.not_false, if_true, if_false, and_true, true_and, memE, celE, w64, Nat.zero_add, Nat.add_zero, Nat.mul_one, putL, and_self, ldn, hz]
    try simp only [List.append_assoc, List.cons_append, List.nil_append, List.append_nil]
    exact ⟨_, rfl, by (repeat (first | exact noRo_nil | assumption | apply noRo_own | apply noRo_dead | apply noRo_app)), by (repeat (first | exact noRo_nil | assumption | apply noRo_own | apply noRo_dead | apply noRo_app)), .inr ⟨z, z0, z1, rfl, hl⟩⟩
theorem toProcess_rc (m : Mem) (v : Value) (p : Pr) (h : ProcA m v p) (hl : p.w.length ≤ 1048576) :
    RC Try.prog 46 [v] m (AnsO m (ProcO p) id) := by
  refine rc_of_run mixed ok_laws_toProcess (by simp) (go_start _ _ _ ?_)
  obtain ⟨u, rfl, hu⟩ := h.ro
  simp (config := {implicitDefEqProofs := false, maxDischargeDepth := 20}) (disch := first | omega | (simp only [lenE]; done) | (simp only [lenE]; omega) | rfl | (simp only [lenE, markR_len]; done) | (simp only [lenE, markR_len]; omega)) only [runE, mapE, listE, initT_5, initT_6, initT_7, initT_8, resV, oneV, binA, unA, reduceCtorEq, Nat.reduceEqDiff, Nat.reduceAdd, Nat.reduceLT, Nat.reduceLeDiff, Nat.reduceMul, Nat.reduceSub, ↓reduceIte, decide_true, decide_false, Bool.true_eq_false, Bool.false_eq_true, Bool.not_true, Bool.not_false, if_true, if_false, and_true, true_and, memE, celE, w64, Nat.zero_add, Nat.add_zero, Nat.mul_one, putL, and_self, ldn, c_laws_toProcess, r_laws_toProcess]
  refine callH_rc (toIntS_rc _ u p.w (((hu.ext _).ext _).ext _) hl) ?_
  rintro r new ⟨rfl, rfl⟩
  simp (config := {implicitDefEqProofs := false, maxDischargeDepth := 20}) (disch := first | omega | (simp only [lenE]; done) | (simp only [lenE]; omega) | rfl | (simp only [lenE, markR_len]; done) | (simp only [lenE, markR_len]; omega)) only [runE, mapE, listE, initT_5, initT_6, initT_7, initT_8, resV, oneV, binA, unA, reduceCtorEq, Nat.reduceEqDiff, Nat.reduceAdd, Nat.reduceLT, Nat.reduceLeDiff, Nat.reduceMul, Nat.reduceSub, ↓reduceIte, decide_true, decide_false, Bool.true_eq_false, Bool.false_eq_true, Bool.not_true, Bool.not_false, if_true, if_false, and_true, true_and, memE, celE, w64, Nat.zero_add, Nat.add_zero, Nat.mul_one, putL, and_self, ldn]
  refine ext_ansO (f := _root_.id) ((((((Ext.refl m).one _ _).one _ _).one _ _).one _ _)) fun M' hM => ⟨_, rfl, hl, _, 1, rfl, by omega, ?_, ?_⟩
  · simp [roM_len]
  · refine OwnR.at_ (OwnR.here _ _ _ ?_) (hM _ (by omega) (by simp [roM_len]))
    simp [roM_len]
theorem eqProcess_rc (m : Mem) (v u : Value) (p : Pr) (h : ProcA m v p) (h' : ProcA m u p) : RC Try.prog 47 [v, u] m (AnsV (.bool true)) := by
  refine rc_of_run mixed ok_laws_eqProcess (by simp) (go_start _ _ _ ?_)
  obtain ⟨x, rfl, hx⟩ := h.ro
  obtain ⟨y, rfl, hy⟩ := h'.ro
  simp (config := {implicitDefEqProofs := false, maxDischargeDepth := 20}) (disch := first | omega | (simp only [lenE]; done) | (simp only [lenE]; omega) | rfl | (simp only [lenE, markR_len]; done) | (simp only [lenE, markR_len]; omega)) only [runE, mapE, listE, initT_5, initT_6, initT_7, initT_8, resV, oneV, binA, unA, reduceCtorEq, Nat.reduceEqDiff, Nat.reduceAdd, Nat.reduceLT, Nat.reduceLeDiff, Nat.reduceMul, Nat.reduceSub, ↓reduceIte, decide_true, decide_false, Bool.true_eq_false, Bool.false_eq_true, Bool.not_true, Bool.not_false, if_true, if_false, and_true, true_and, memE, celE, w64, Nat.zero_add, Nat.add_zero, Nat.mul_one, putL, and_self, ldn, c_laws_eqProcess, r_laws_eqProcess, bne_self_eq_false]
  refine callH_rc (eqIntS_rc _ x y p.w ((hx.ext _).ext _) ((hy.ext _).ext _)) ?_
  rintro r new ⟨rfl, rfl⟩
  simp (config := {implicitDefEqProofs := false, maxDischargeDepth := 20}) (disch := first | omega | (simp only [lenE]; done) | (simp only [lenE]; omega) | rfl | (simp only [lenE, markR_len]; done) | (simp only [lenE, markR_len]; omega)) only [runE, mapE, listE, initT_5, initT_6, initT_7, initT_8, resV, oneV, binA, unA, reduceCtorEq, Nat.reduceEqDiff, Nat.reduceAdd, Nat.reduceLT, Nat.reduceLeDiff, Nat.reduceMul, Nat.reduceSub, ↓reduceIte, decide_true, decide_false, Bool.true_eq_false, Bool.false_eq_true, Bool.not_true, Bool.not_false, if_true, if_false, and_true, true_and, memE, celE, w64, Nat.zero_add, Nat.add_zero, Nat.mul_one, putL, and_self, ldn, bne_self_eq_false]
  try simp only [List.append_assoc, List.cons_append, List.nil_append, List.append_nil]
  exact ⟨_, rfl, by (repeat (first | exact noRo_nil | assumption | apply noRo_own | apply noRo_dead | apply noRo_app)), rfl, by (repeat (first | exact noRo_nil | assumption | apply noRo_own | apply noRo_dead | apply noRo_app))⟩
theorem markProcess_ac (m : Mem) (lo hi : Nat) (v : Value) (p : Pr) (k0 : Int) (h : Lv lo hi m fun M => ProcO p lo hi M v) (h0 : 0 ≤ k0) (h1 : k0 ≤ 68719476736) :
    AC Try.prog 49 [v, .int .i64 k0] m fun r m' => r = .int .i64 (k0 + p.w.length) ∧ But lo hi m m' := by
  refine ac_of_run mixed ok_laws_markProcess (by simp) (go_start _ _ _ ?_)
  obtain ⟨u, rfl, hu⟩ := h.now
  simp (config := {implicitDefEqProofs := false, maxDischargeDepth := 20}) (disch := first | omega | (simp only [lenE]; done) | (simp only [lenE]; omega) | rfl | (simp only [lenE, markR_len]; done) | (simp only [lenE, markR_len]; omega)) only [runE, mapE, listE, initT_5, initT_6, initT_7, initT_8, resV, oneV, binA, unA, reduceCtorEq, Nat.reduceEqDiff, Nat.reduceAdd, Nat.reduceLT, Nat.reduceLeDiff, Nat.reduceMul, Nat.reduceSub, ↓reduceIte, decide_true, decide_false, Bool.true_eq_false, Bool.false_eq_true, Bool.not_true, Bool.not_false, if_true, if_false, and_true, true_and, memE, celE, w64, Nat.zero_add, Nat.add_zero, Nat.mul_one, putL, and_self, ldn, c_laws_markProcess, r_laws_markProcess]
  refine callH_ac (markIntsO_ac _ lo hi u p.w k0 ((hu.lv h.2.1).ext _) h0 h1) ?_
  rintro r m' ⟨rfl, hb, _⟩
  simp (config := {implicitDefEqProofs := false, maxDischargeDepth := 20}) (disch := first | omega | (simp only [lenE]; done) | (simp only [lenE]; omega) | rfl | (simp only [lenE, markR_len]; done) | (simp only [lenE, markR_len]; omega)) only [runE, mapE, listE, initT_5, initT_6, initT_7, initT_8, resV, oneV, binA, unA, reduceCtorEq, Nat.reduceEqDiff, Nat.reduceAdd, Nat.reduceLT, Nat.reduceLeDiff, Nat.reduceMul, Nat.reduceSub, ↓reduceIte, decide_true, decide_false, Bool.true_eq_false, Bool.false_eq_true, Bool.not_true, Bool.not_false, if_true, if_false, and_true, true_and, memE, celE, w64, Nat.zero_add, Nat.add_zero, Nat.mul_one, putL, and_self, ldn]
  exact hb.base
end Go.Proofs.Ytddnedngjijpoaa.Ab
