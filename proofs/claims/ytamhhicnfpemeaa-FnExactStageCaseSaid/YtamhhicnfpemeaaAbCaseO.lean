/- Cases as objects: four rows of one's own, or none. -/
import Derived.Test.YtamhhicnfpemeaaAbObj2
import Derived.Test.YtamhhicnfpemeaaAbEarly
namespace Go.Proofs.Ytamhhicnfpemeaa.Ab
open Go Go.RowKit
set_option linter.unusedVariables false
set_option linter.unusedSimpArgs false

def CaseO (k : Cs) (lo hi : Nat) (M : Mem) (v : Value) : Prop :=
  k.small ∧ ((k = ⟨[], [], [], []⟩ ∧ v = .agg #[.slice none 0 0, .slice none 0 0, .slice none 0 0, .slice none 0 0]) ∨
    ∃ i1 i2 i3 i4 f1 f2 f3 f4, v = .agg #[.slice (some ⟨i1, 0, none⟩) k.need.length f1, .slice (some ⟨i2, 0, none⟩) k.setup.length f2, .slice (some ⟨i3, 0, none⟩) k.unit.length f3, .slice (some ⟨i4, 0, none⟩) k.hold.length f4] ∧
      (lo ≤ i1 ∧ i1 < hi) ∧ (lo ≤ i2 ∧ i2 < hi) ∧ (lo ≤ i3 ∧ i3 < hi) ∧ (lo ≤ i4 ∧ i4 < hi) ∧ (i1 ≠ i2 ∧ i1 ≠ i3 ∧ i1 ≠ i4 ∧ i2 ≠ i3 ∧ i2 ≠ i4 ∧ i3 ≠ i4) ∧ OwnR M i1 k.need ∧ OwnR M i2 k.setup ∧ OwnR M i3 k.unit ∧ OwnR M i4 k.hold)
theorem CaseO.in {k : Cs} {lo hi : Nat} {M : Mem} {v : Value} (h : CaseO k lo hi M v) : CaseA M v k := by
  obtain ⟨hs, ⟨rfl, rfl⟩ | ⟨i1, i2, i3, i4, f1, f2, f3, f4, rfl, _, _, _, _, _, o1, o2, o3, o4⟩⟩ := h
  · exact ⟨_, _, _, _, rfl, IntsA.nil M, IntsA.nil M, IntsA.nil M, IntsA.nil M⟩
  · obtain ⟨s1, s2, s3, s4⟩ := hs
    exact ⟨_, _, _, _, rfl, o1.ints (by omega) _, o2.ints (by omega) _, o3.ints (by omega) _, o4.ints (by omega) _⟩
theorem CaseO.lv {k : Cs} {lo hi : Nat} {m : Mem} {v : Value} (h : CaseO k lo hi m v) (h0 : lo ≤ hi) (h1 : hi ≤ m.length) : Lv lo hi m fun M => CaseO k lo hi M v := by
  refine ⟨h0, h1, fun m' h' => ?_⟩
  obtain ⟨hs, hn | ⟨i1, i2, i3, i4, f1, f2, f3, f4, rfl, a1, a2, a3, a4, d, o1, o2, o3, o4⟩⟩ := h
  · exact ⟨hs, .inl hn⟩
  · exact ⟨hs, .inr ⟨i1, i2, i3, i4, f1, f2, f3, f4, rfl, a1, a2, a3, a4, d, o1.at_ (h' _ a1.1 a1.2), o2.at_ (h' _ a2.1 a2.2), o3.at_ (h' _ a3.1 a3.2), o4.at_ (h' _ a4.1 a4.2)⟩⟩
theorem CaseO.wide (k : Cs) : Wide (CaseO k) := fun lo hi lo' hi' M v h1 h2 h => by
  obtain ⟨hs, hn | ⟨i1, i2, i3, i4, f1, f2, f3, f4, rfl, a1, a2, a3, a4, d, o1, o2, o3, o4⟩⟩ := h
  · exact ⟨hs, .inl hn⟩
  · exact ⟨hs, .inr ⟨i1, i2, i3, i4, f1, f2, f3, f4, rfl, by omega, by omega, by omega, by omega, d, o1, o2, o3, o4⟩⟩
theorem CaseO.none (lo hi : Nat) (M : Mem) : CaseO ⟨[], [], [], []⟩ lo hi M (.agg #[.slice none 0 0, .slice none 0 0, .slice none 0 0, .slice none 0 0]) := ⟨by simp [Cs.small], .inl ⟨rfl, rfl⟩⟩
theorem ext_noCase {m A : Mem} {f : Value → Value} (hX : Ext m A) : newQ m (AnsO m (CaseO ⟨[], [], [], []⟩) f) (f (.agg #[.slice none 0 0, .slice none 0 0, .slice none 0 0, .slice none 0 0])) A :=
  ext_ansO hX fun M' hM => CaseO.none _ _ _
/-- How many numbers a Case has. -/
def csz (k : Cs) : Int := (k.need.length : Int) + k.setup.length + k.unit.length + k.hold.length
def cmarks (k0 : Int) (k : Cs) : Cs := ⟨imarks k0 k.need.length, imarks (k0 + k.need.length) k.setup.length, imarks (k0 + k.need.length + k.setup.length) k.unit.length, imarks (k0 + k.need.length + k.setup.length + k.unit.length) k.hold.length⟩
theorem eqCaseO_rc (m : Mem) (v u : Value) (k : Cs) (h : CaseA m v k) (h' : CaseA m u k) : RC Try.prog 60 [v, u] m (AnsV (.bool true)) := eqCase_rc m v u k h h'
theorem heldCaseO_rc (m : Mem) (v : Value) (k : Cs) (k0 : Int) (h : CaseA m v (cmarks k0 k)) (hs : k.small) (g0 : 0 ≤ k0) (g1 : k0 ≤ 68719476736) :
    RC Try.prog 62 [v, .int .i64 k0] m fun r new => r = .int .i64 (k0 + csz k) ∧ NoRo new := by
  refine (heldCase_rc m v _ _ _ _ k0 h g0 g1 hs.1 hs.2.1 hs.2.2.1 hs.2.2.2).mono ?_
  rintro r new ⟨rfl, h⟩
  exact ⟨by unfold csz; congr 1; omega, h⟩
theorem markNil_ac (m : Mem) (k0 : Int) : AC Try.prog 49 [.slice none 0 0, .int .i64 k0] m fun r m' => r = .int .i64 k0 ∧ m' = m := by
  refine ac_of_run mixed ok_laws_markIntS (by simp) (go_start _ _ _ ?_)
  have e0 : lenA (.slice none 0 0) = some (.int .i64 0) := rfl
  simp (config := {implicitDefEqProofs := false, maxDischargeDepth := 20}) (disch := first | omega | (simp only [lenE]; done) | (simp only [lenE]; omega) | rfl | (simp only [lenE, markR_len]; done) | (simp only [lenE, markR_len]; omega)) only [runE, mapE, listE, initT_5, initT_6, initT_7, initT_8, resV, oneV, binA, unA, reduceCtorEq, Nat.reduceEqDiff, Nat.reduceAdd, Nat.reduceLT, Nat.reduceLeDiff, Nat.reduceMul, Nat.reduceSub, ↓reduceIte, decide_true, decide_false, Bool.true_eq_false, Bool.false_eq_true, Bool.not_true, Bool.not_false, if_true, if_false, and_true, true_and, memE, celE, w64, Nat.zero_add, Nat.add_zero, Nat.mul_one, putL, and_self, ldn, c_laws_markIntS, r_laws_markIntS, e0]
  refine loop_inv mixed (fun s => s.m = m ∧ s.t 0 = .slice none 0 0 ∧ s.t 1 = .int .i64 k0 ∧ s.t 5 = .int .i64 0) (fun s => 0) ⟨rfl, rfl, rfl, rfl⟩ ?_
  rintro s ⟨tm, t0, t1, t5⟩
  simp (config := {implicitDefEqProofs := false, maxDischargeDepth := 20}) (disch := first | omega | (simp only [lenE]; done) | (simp only [lenE]; omega) | rfl | (simp only [lenE, markR_len]; done) | (simp only [lenE, markR_len]; omega)) only [runE, mapE, listE, initT_5, initT_6, initT_7, initT_8, resV, oneV, binA, unA, reduceCtorEq, Nat.reduceEqDiff, Nat.reduceAdd, Nat.reduceLT, Nat.reduceLeDiff, Nat.reduceMul, Nat.reduceSub, ↓reduceIte, decide_true, decide_false, Bool.true_eq_false, Bool.false_eq_true, Bool.not_true, Bool.not_false, if_true, if_false, and_true, true_and, memE, celE, w64, Nat.zero_add, Nat.add_zero, Nat.mul_one, putL, and_self, ldn, tm, t0, t1, t5, e0, show ¬ ((0 : Int) < 0) by decide]
  try exact ⟨rfl, rfl⟩
theorem markCaseO_ac (m : Mem) (lo hi : Nat) (v : Value) (k : Cs) (k0 : Int) (h : Lv lo hi m fun M => CaseO k lo hi M v) (h0 : 0 ≤ k0) (h1 : k0 ≤ 68000000000) :
    AC Try.prog 61 [v, .int .i64 k0] m fun r m' => r = .int .i64 (k0 + csz k) ∧ But lo hi m m' ∧ Lv lo hi m' fun M => CaseO (cmarks k0 k) lo hi M v := by
  obtain ⟨hs, hn⟩ := h.now
  have hm := h.2.1
  rcases hn with ⟨rfl, rfl⟩ | ⟨i1, i2, i3, i4, f1, f2, f3, f4, rfl, a1, a2, a3, a4, d, o1, o2, o3, o4⟩
  · refine ac_of_run mixed ok_laws_markCase (by simp) (go_start _ _ _ ?_)
    simp (config := {implicitDefEqProofs := false, maxDischargeDepth := 20}) (disch := first | omega | (simp only [lenE]; done) | (simp only [lenE]; omega) | rfl | (simp only [lenE, markR_len]; done) | (simp only [lenE, markR_len]; omega)) only [runE, mapE, listE, initT_5, initT_6, initT_7, initT_8, resV, oneV, binA, unA, reduceCtorEq, Nat.reduceEqDiff, Nat.reduceAdd, Nat.reduceLT, Nat.reduceLeDiff, Nat.reduceMul, Nat.reduceSub, ↓reduceIte, decide_true, decide_false, Bool.true_eq_false, Bool.false_eq_true, Bool.not_true, Bool.not_false, if_true, if_false, and_true, true_and, memE, celE, w64, Nat.zero_add, Nat.add_zero, Nat.mul_one, putL, and_self, ldn, c_laws_markCase, r_laws_markCase]
    refine callH_ac (markNil_ac _ _) ?_
    rintro r m' ⟨rfl, rfl⟩
    simp (config := {implicitDefEqProofs := false, maxDischargeDepth := 20}) (disch := first | omega | (simp only [lenE]; done) | (simp only [lenE]; omega) | rfl | (simp only [lenE, markR_len]; done) | (simp only [lenE, markR_len]; omega)) only [runE, mapE, listE, initT_5, initT_6, initT_7, initT_8, resV, oneV, binA, unA, reduceCtorEq, Nat.reduceEqDiff, Nat.reduceAdd, Nat.reduceLT, Nat.reduceLeDiff, Nat.reduceMul, Nat.reduceSub, ↓reduceIte, decide_true, decide_false, Bool.true_eq_false, Bool.false_eq_true, Bool.not_true, Bool.not_false, if_true, if_false, and_true, true_and, memE, celE, w64, Nat.zero_add, Nat.add_zero, Nat.mul_one, putL, and_self, ldn]
    refine callH_ac (markNil_ac _ _) ?_
    rintro r m' ⟨rfl, rfl⟩
    simp (config := {implicitDefEqProofs := false, maxDischargeDepth := 20}) (disch := first | omega | (simp only [lenE]; done) | (simp only [lenE]; omega) | rfl | (simp only [lenE, markR_len]; done) | (simp only [lenE, markR_len]; omega)) only [runE, mapE, listE, initT_5, initT_6, initT_7, initT_8, resV, oneV, binA, unA, reduceCtorEq, Nat.reduceEqDiff, Nat.reduceAdd, Nat.reduceLT, Nat.reduceLeDiff, Nat.reduceMul, Nat.reduceSub, ↓reduceIte, decide_true, decide_false, Bool.true_eq_false, Bool.false_eq_true, Bool.not_true, Bool.not_false, if_true, if_false, and_true, true_and, memE, celE, w64, Nat.zero_add, Nat.add_zero, Nat.mul_one, putL, and_self, ldn]
    refine callH_ac (markNil_ac _ _) ?_
    rintro r m' ⟨rfl, rfl⟩
    simp (config := {implicitDefEqProofs := false, maxDischargeDepth := 20}) (disch := first | omega | (simp only [lenE]; done) | (simp only [lenE]; omega) | rfl | (simp only [lenE, markR_len]; done) | (simp only [lenE, markR_len]; omega)) only [runE, mapE, listE, initT_5, initT_6, initT_7, initT_8, resV, oneV, binA, unA, reduceCtorEq, Nat.reduceEqDiff, Nat.reduceAdd, Nat.reduceLT, Nat.reduceLeDiff, Nat.reduceMul, Nat.reduceSub, ↓reduceIte, decide_true, decide_false, Bool.true_eq_false, Bool.false_eq_true, Bool.not_true, Bool.not_false, if_true, if_false, and_true, true_and, memE, celE, w64, Nat.zero_add, Nat.add_zero, Nat.mul_one, putL, and_self, ldn]
    refine callH_ac (markNil_ac _ _) ?_
    rintro r m' ⟨rfl, rfl⟩
    simp (config := {implicitDefEqProofs := false, maxDischargeDepth := 20}) (disch := first | omega | (simp only [lenE]; done) | (simp only [lenE]; omega) | rfl | (simp only [lenE, markR_len]; done) | (simp only [lenE, markR_len]; omega)) only [runE, mapE, listE, initT_5, initT_6, initT_7, initT_8, resV, oneV, binA, unA, reduceCtorEq, Nat.reduceEqDiff, Nat.reduceAdd, Nat.reduceLT, Nat.reduceLeDiff, Nat.reduceMul, Nat.reduceSub, ↓reduceIte, decide_true, decide_false, Bool.true_eq_false, Bool.false_eq_true, Bool.not_true, Bool.not_false, if_true, if_false, and_true, true_and, memE, celE, w64, Nat.zero_add, Nat.add_zero, Nat.mul_one, putL, and_self, ldn]
    refine ⟨by simp [csz], (But.refl _ _ _).ext _, CaseO.lv ?_ h.1 (by simp; omega)⟩
    exact CaseO.none _ _ _
  · refine (markCase_ac m i1 i2 i3 i4 f1 f2 f3 f4 k k0 o1 o2 o3 o4 d.1 d.2.1 d.2.2.1 d.2.2.2.1 d.2.2.2.2.1 d.2.2.2.2.2 h0 (by omega) hs).mono ?_
    rintro r m' ⟨rfl, b, rfl⟩
    refine ⟨by unfold Cs.tot csz; rfl, ?_, ?_⟩
    · exact (((((But.refl _ _ _).set a1.1 a1.2 _).set a2.1 a2.2 _).set a3.1 a3.2 _).set a4.1 a4.2 _).ext _
    · have l1 := o1.lt
      have l2 := o2.lt
      have l3 := o3.lt
      have l4 := o4.lt
      refine CaseO.lv ⟨?_, .inr ⟨i1, i2, i3, i4, f1, f2, f3, f4, by simp [cmarks, imarks_len], a1, a2, a3, a4, d, ?_, ?_, ?_, ?_⟩⟩ h.1 (by simp [markR_len]; omega)
      · simpa [cmarks, Cs.small, imarks_len] using hs
      · exact ((((OwnR.marked _ _ l1).other _ _ (Ne.symm d.1)).other _ _ (Ne.symm d.2.1)).other _ _ (Ne.symm d.2.2.1)).ext _
      · exact (((OwnR.marked _ _ (by simp [markR_len]; exact l2)).other _ _ (Ne.symm d.2.2.2.1)).other _ _ (Ne.symm d.2.2.2.2.1)).ext _
      · exact ((OwnR.marked _ _ (by simp [markR_len]; exact l3)).other _ _ (Ne.symm d.2.2.2.2.2)).ext _
      · exact (OwnR.marked _ _ (by simp [markR_len]; exact l4)).ext _
end Go.Proofs.Ytamhhicnfpemeaa.Ab
