/- Late plans: IsLatePlan, LateCost, OwedPeriods. -/
import Derived.Test.YtiggehfopfpkbaaAbGrow
import Derived.Test.YtiggehfopfpkbaaWayMath
namespace Go.Proofs.Ytiggehfopfpkbaa.Ab
open Go Go.RowKit
set_option linter.unusedVariables false
set_option linter.unusedSimpArgs false

def sumB (k : Cs) (plan : List Int) : Bool := Go.Proofs.Ytiggehfopfpkbaa.rowB plan k.need.length 160 && decide (nowK plan k.need plan.length = 0)
theorem l4Late_rc (m : Mem) (v u : Value) (k : Cs) (plan : List Int) (h : CaseA m v k) (h' : IntsA m u plan) (hg : Good k) :
    RC Try.prog 90 [v, u] m (AnsV (.bool (sumB k plan))) := by
  refine rc_of_run mixed ok_spec_l4Late (by simp) (go_start _ _ _ ?_)
  obtain ⟨v1, v2, v3, v4, rfl, h1, h2, h3, h4⟩ := h.ro.ok
  have hu := h'.ro
  have h8 := hg.n8
  have i1 := h1.ext [⟨.own, 28, [v1, v2, v3, v4]⟩]
  simp (config := {implicitDefEqProofs := false, maxDischargeDepth := 20}) (disch := first | omega | (simp only [lenE]; done) | (simp only [lenE]; omega) | rfl | (simp only [lenE, markR_len]; done) | (simp only [lenE, markR_len]; omega)) only [runE, mapE, listE, resV, oneV, binA, unA, reduceCtorEq, Nat.reduceEqDiff, Nat.reduceAdd, Nat.reduceLT, Nat.reduceLeDiff, Nat.reduceMul, Nat.reduceSub, ↓reduceIte, decide_true, decide_false, Bool.true_eq_false, Bool.false_eq_true, Bool.not_true, Bool.not_false, if_true, if_false, and_true, true_and, memE, celE, w64, Nat.zero_add, Nat.add_zero, Nat.mul_one, putL, and_self, ldn, c_spec_l4Late, r_spec_l4Late, i1.len]
  refine rcallH_rc (l2Row_rc _ u plan k.need.length 160 (hu.ext _)) ?_
  rintro r new ⟨rfl, rfl⟩
  cases hr : Go.Proofs.Ytiggehfopfpkbaa.rowB plan k.need.length 160 with
  | false =>
    simp (config := {implicitDefEqProofs := false, maxDischargeDepth := 20}) (disch := first | omega | (simp only [lenE]; done) | (simp only [lenE]; omega) | rfl | (simp only [lenE, markR_len]; done) | (simp only [lenE, markR_len]; omega)) only [runE, mapE, listE, resV, oneV, binA, unA, reduceCtorEq, Nat.reduceEqDiff, Nat.reduceAdd, Nat.reduceLT, Nat.reduceLeDiff, Nat.reduceMul, Nat.reduceSub, ↓reduceIte, decide_true, decide_false, Bool.true_eq_false, Bool.false_eq_true, Bool.not_true, Bool.not_false, if_true, if_false, and_true, true_and, memE, celE, w64, Nat.zero_add, Nat.add_zero, Nat.mul_one, putL, and_self, ldn]
    exact ext_ansV ((Ext.refl m).one _ _) (by simp [sumB, hr])
  | true =>
    obtain ⟨hp, hl⟩ := rowB_iff.1 hr
    have b1 := sumTo_in hp
    have b2 := sumTo_in hg.need
    simp (config := {implicitDefEqProofs := false, maxDischargeDepth := 20}) (disch := first | omega | (simp only [lenE]; done) | (simp only [lenE]; omega) | rfl | (simp only [lenE, markR_len]; done) | (simp only [lenE, markR_len]; omega)) only [runE, mapE, listE, resV, oneV, binA, unA, reduceCtorEq, Nat.reduceEqDiff, Nat.reduceAdd, Nat.reduceLT, Nat.reduceLeDiff, Nat.reduceMul, Nat.reduceSub, ↓reduceIte, decide_true, decide_false, Bool.true_eq_false, Bool.false_eq_true, Bool.not_true, Bool.not_false, if_true, if_false, and_true, true_and, memE, celE, w64, Nat.zero_add, Nat.add_zero, Nat.mul_one, putL, and_self, ldn]
    refine rcallH_rc (l2Sum_rc _ u plan (hu.ext _) fun j hj => by have := b1 j hj; omega) ?_
    rintro r new ⟨rfl, rfl⟩
    simp (config := {implicitDefEqProofs := false, maxDischargeDepth := 20}) (disch := first | omega | (simp only [lenE]; done) | (simp only [lenE]; omega) | rfl | (simp only [lenE, markR_len]; done) | (simp only [lenE, markR_len]; omega)) only [runE, mapE, listE, resV, oneV, binA, unA, reduceCtorEq, Nat.reduceEqDiff, Nat.reduceAdd, Nat.reduceLT, Nat.reduceLeDiff, Nat.reduceMul, Nat.reduceSub, ↓reduceIte, decide_true, decide_false, Bool.true_eq_false, Bool.false_eq_true, Bool.not_true, Bool.not_false, if_true, if_false, and_true, true_and, memE, celE, w64, Nat.zero_add, Nat.add_zero, Nat.mul_one, putL, and_self, ldn]
    refine rcallH_rc (l2Sum_rc _ v1 k.need i1 fun j hj => by have := b2 j hj; omega) ?_
    rintro r new ⟨rfl, rfl⟩
    simp (config := {implicitDefEqProofs := false, maxDischargeDepth := 20}) (disch := first | omega | (simp only [lenE]; done) | (simp only [lenE]; omega) | rfl | (simp only [lenE, markR_len]; done) | (simp only [lenE, markR_len]; omega)) only [runE, mapE, listE, resV, oneV, binA, unA, reduceCtorEq, Nat.reduceEqDiff, Nat.reduceAdd, Nat.reduceLT, Nat.reduceLeDiff, Nat.reduceMul, Nat.reduceSub, ↓reduceIte, decide_true, decide_false, Bool.true_eq_false, Bool.false_eq_true, Bool.not_true, Bool.not_false, if_true, if_false, and_true, true_and, memE, celE, w64, Nat.zero_add, Nat.add_zero, Nat.mul_one, putL, and_self, ldn]
    refine ext_ansV ((Ext.refl m).one _ _) ?_
    congr 1
    unfold sumB nowK
    rw [hr, Bool.true_and, ← hl]
    by_cases he : sumTo plan plan.length = sumTo k.need plan.length
    · simp [he]
    · have : ¬ (sumTo plan plan.length - sumTo k.need plan.length = 0) := by omega
      simp [he, this]
theorem lateB_eq (k : Cs) (plan : List Int) : lateB k plan = (k.good && sumB k plan) := rfl

theorem specIsLate_rc (m : Mem) (v u : Value) (k : Cs) (plan : List Int) (h : CaseA m v k) (h' : IntsA m u plan) :
    RC Try.prog 48 [v, u] m (AnsV (.tuple #[.bool (lateB k plan), .bool k.good])) := by
  refine rc_of_run mixed ok_spec_IsLatePlan (by simp) (go_start _ _ _ ?_)
  obtain ⟨v1, v2, v3, v4, rfl, h1, h2, h3, h4⟩ := h.ro.ok
  have hu := h'.ro
  simp (config := {implicitDefEqProofs := false, maxDischargeDepth := 20}) (disch := first | omega | (simp only [lenE]; done) | (simp only [lenE]; omega) | rfl | (simp only [lenE, markR_len]; done) | (simp only [lenE, markR_len]; omega)) only [runE, mapE, listE, resV, oneV, binA, unA, reduceCtorEq, Nat.reduceEqDiff, Nat.reduceAdd, Nat.reduceLT, Nat.reduceLeDiff, Nat.reduceMul, Nat.reduceSub, ↓reduceIte, decide_true, decide_false, Bool.true_eq_false, Bool.false_eq_true, Bool.not_true, Bool.not_false, if_true, if_false, and_true, true_and, memE, celE, w64, Nat.zero_add, Nat.add_zero, Nat.mul_one, putL, and_self, ldn, c_spec_IsLatePlan, r_spec_IsLatePlan]
  refine callH_rc (l2Good_rc _ _ k ⟨_, _, _, _, rfl, h1.ext _, h2.ext _, h3.ext _, h4.ext _⟩) ?_
  rintro r new ⟨rfl, nr1⟩
  cases hg : k.good with
  | false =>
    simp (config := {implicitDefEqProofs := false, maxDischargeDepth := 20}) (disch := first | omega | (simp only [lenE]; done) | (simp only [lenE]; omega) | rfl | (simp only [lenE, markR_len]; done) | (simp only [lenE, markR_len]; omega)) only [runE, mapE, listE, resV, oneV, binA, unA, reduceCtorEq, Nat.reduceEqDiff, Nat.reduceAdd, Nat.reduceLT, Nat.reduceLeDiff, Nat.reduceMul, Nat.reduceSub, ↓reduceIte, decide_true, decide_false, Bool.true_eq_false, Bool.false_eq_true, Bool.not_true, Bool.not_false, if_true, if_false, and_true, true_and, memE, celE, w64, Nat.zero_add, Nat.add_zero, Nat.mul_one, putL, and_self, ldn]
    exact ext_ansV (((Ext.refl m).one _ _).app nr1) (by simp [lateB_eq, hg])
  | true =>
    simp (config := {implicitDefEqProofs := false, maxDischargeDepth := 20}) (disch := first | omega | (simp only [lenE]; done) | (simp only [lenE]; omega) | rfl | (simp only [lenE, markR_len]; done) | (simp only [lenE, markR_len]; omega)) only [runE, mapE, listE, resV, oneV, binA, unA, reduceCtorEq, Nat.reduceEqDiff, Nat.reduceAdd, Nat.reduceLT, Nat.reduceLeDiff, Nat.reduceMul, Nat.reduceSub, ↓reduceIte, decide_true, decide_false, Bool.true_eq_false, Bool.false_eq_true, Bool.not_true, Bool.not_false, if_true, if_false, and_true, true_and, memE, celE, w64, Nat.zero_add, Nat.add_zero, Nat.mul_one, putL, and_self, ldn]
    refine callH_rc (l4Late_rc _ _ u k plan ⟨_, _, _, _, rfl, (h1.ext _).ext _, (h2.ext _).ext _, (h3.ext _).ext _, (h4.ext _).ext _⟩ ((hu.ext _).ext _) (good_iff.1 hg)) ?_
    rintro r new2 ⟨rfl, nr2⟩
    simp (config := {implicitDefEqProofs := false, maxDischargeDepth := 20}) (disch := first | omega | (simp only [lenE]; done) | (simp only [lenE]; omega) | rfl | (simp only [lenE, markR_len]; done) | (simp only [lenE, markR_len]; omega)) only [runE, mapE, listE, resV, oneV, binA, unA, reduceCtorEq, Nat.reduceEqDiff, Nat.reduceAdd, Nat.reduceLT, Nat.reduceLeDiff, Nat.reduceMul, Nat.reduceSub, ↓reduceIte, decide_true, decide_false, Bool.true_eq_false, Bool.false_eq_true, Bool.not_true, Bool.not_false, if_true, if_false, and_true, true_and, memE, celE, w64, Nat.zero_add, Nat.add_zero, Nat.mul_one, putL, and_self, ldn]
    exact ext_ansV ((((Ext.refl m).one _ _).app nr1).app nr2) (by simp [lateB_eq, hg])

theorem implIsLate_rc (m : Mem) (v u : Value) (k : Cs) (plan : List Int) (h : CaseA m v k) (h' : IntsA m u plan) :
    RC Try.prog 49 [v, u] m (AnsV (.tuple #[.bool (lateB k plan), .bool k.good])) := by
  refine rc_of_run mixed ok_impl_IsLatePlan (by simp) (go_start _ _ _ ?_)
  obtain ⟨v1, v2, v3, v4, rfl, h1, h2, h3, h4⟩ := h.ro.ok
  have hu := h'.ro
  simp (config := {implicitDefEqProofs := false, maxDischargeDepth := 20}) (disch := first | omega | (simp only [lenE]; done) | (simp only [lenE]; omega) | rfl | (simp only [lenE, markR_len]; done) | (simp only [lenE, markR_len]; omega)) only [runE, mapE, listE, resV, oneV, binA, unA, reduceCtorEq, Nat.reduceEqDiff, Nat.reduceAdd, Nat.reduceLT, Nat.reduceLeDiff, Nat.reduceMul, Nat.reduceSub, ↓reduceIte, decide_true, decide_false, Bool.true_eq_false, Bool.false_eq_true, Bool.not_true, Bool.not_false, if_true, if_false, and_true, true_and, memE, celE, w64, Nat.zero_add, Nat.add_zero, Nat.mul_one, putL, and_self, ldn, c_impl_IsLatePlan, r_impl_IsLatePlan]
  refine callH_rc (implIsCase_rc _ _ k ⟨_, _, _, _, rfl, h1.ext _, h2.ext _, h3.ext _, h4.ext _⟩) ?_
  rintro r new ⟨rfl, nr1⟩
  cases hg : k.good with
  | false =>
    simp (config := {implicitDefEqProofs := false, maxDischargeDepth := 20}) (disch := first | omega | (simp only [lenE]; done) | (simp only [lenE]; omega) | rfl | (simp only [lenE, markR_len]; done) | (simp only [lenE, markR_len]; omega)) only [runE, mapE, listE, resV, oneV, binA, unA, reduceCtorEq, Nat.reduceEqDiff, Nat.reduceAdd, Nat.reduceLT, Nat.reduceLeDiff, Nat.reduceMul, Nat.reduceSub, ↓reduceIte, decide_true, decide_false, Bool.true_eq_false, Bool.false_eq_true, Bool.not_true, Bool.not_false, if_true, if_false, and_true, true_and, memE, celE, w64, Nat.zero_add, Nat.add_zero, Nat.mul_one, putL, and_self, ldn]
    exact ext_ansV (((Ext.refl m).one _ _).app nr1) (by simp [lateB_eq, hg])
  | true =>
    simp (config := {implicitDefEqProofs := false, maxDischargeDepth := 20}) (disch := first | omega | (simp only [lenE]; done) | (simp only [lenE]; omega) | rfl | (simp only [lenE, markR_len]; done) | (simp only [lenE, markR_len]; omega)) only [runE, mapE, listE, resV, oneV, binA, unA, reduceCtorEq, Nat.reduceEqDiff, Nat.reduceAdd, Nat.reduceLT, Nat.reduceLeDiff, Nat.reduceMul, Nat.reduceSub, ↓reduceIte, decide_true, decide_false, Bool.true_eq_false, Bool.false_eq_true, Bool.not_true, Bool.not_false, if_true, if_false, and_true, true_and, memE, celE, w64, Nat.zero_add, Nat.add_zero, Nat.mul_one, putL, and_self, ldn]
    refine callH_rc (implBal_rc _ _ u k plan ⟨_, _, _, _, rfl, (h1.ext _).ext _, (h2.ext _).ext _, (h3.ext _).ext _, (h4.ext _).ext _⟩ ((hu.ext _).ext _)) ?_
    intro r new2 hA
    obtain ⟨id, fl, rfl, hge, hown, hle, nr2⟩ := hA.row
    simp (config := {implicitDefEqProofs := false, maxDischargeDepth := 20}) (disch := first | omega | (simp only [lenE]; done) | (simp only [lenE]; omega) | rfl | (simp only [lenE, markR_len]; done) | (simp only [lenE, markR_len]; omega)) only [runE, mapE, listE, resV, oneV, binA, unA, reduceCtorEq, Nat.reduceEqDiff, Nat.reduceAdd, Nat.reduceLT, Nat.reduceLeDiff, Nat.reduceMul, Nat.reduceSub, ↓reduceIte, decide_true, decide_false, Bool.true_eq_false, Bool.false_eq_true, Bool.not_true, Bool.not_false, if_true, if_false, and_true, true_and, memE, celE, w64, Nat.zero_add, Nat.add_zero, Nat.mul_one, putL, and_self, ldn, ext_2_0, ext_2_1]
    exact ext_ansV ((((Ext.refl m).one _ _).app nr1).app nr2) rfl

def owedA (k : Cs) (plan : List Int) : List Int := if lateB k plan then picks (fun x => decide (x < 0)) (stocksL plan k.need) (stocksL plan k.need).length else []
theorem owedA_no {k : Cs} {plan : List Int} (h : lateB k plan = false) : owedA k plan = [] := by unfold owedA; rw [h]; rfl
theorem owedA_yes {k : Cs} {plan : List Int} (h : lateB k plan = true) : owedA k plan = picks (fun x => decide (x < 0)) (stocksL plan k.need) (stocksL plan k.need).length := by unfold owedA; rw [h]; rfl
theorem balA_yes {k : Cs} {plan : List Int} (h : lateB k plan = true) : balA k plan = stocksL plan k.need := by unfold balA; rw [h]; rfl

theorem implOwed_rc (m : Mem) (v u : Value) (k : Cs) (plan : List Int) (h : CaseA m v k) (h' : IntsA m u plan) :
    RC Try.prog 57 [v, u] m (AnsL m (owedA k plan) (lateB k plan)) := by
  refine rc_of_run mixed ok_impl_OwedPeriods (by simp) (go_start _ _ _ ?_)
  obtain ⟨v1, v2, v3, v4, rfl, h1, h2, h3, h4⟩ := h.ro.ok
  have hu := h'.ro
  simp (config := {implicitDefEqProofs := false, maxDischargeDepth := 20}) (disch := first | omega | (simp only [lenE]; done) | (simp only [lenE]; omega) | rfl | (simp only [lenE, markR_len]; done) | (simp only [lenE, markR_len]; omega)) only [runE, mapE, listE, resV, oneV, binA, unA, reduceCtorEq, Nat.reduceEqDiff, Nat.reduceAdd, Nat.reduceLT, Nat.reduceLeDiff, Nat.reduceMul, Nat.reduceSub, ↓reduceIte, decide_true, decide_false, Bool.true_eq_false, Bool.false_eq_true, Bool.not_true, Bool.not_false, if_true, if_false, and_true, true_and, memE, celE, w64, Nat.zero_add, Nat.add_zero, Nat.mul_one, putL, and_self, ldn, c_impl_OwedPeriods, r_impl_OwedPeriods]
  refine callH_rc (implBal_rc _ _ u k plan ⟨_, _, _, _, rfl, h1.ext _, h2.ext _, h3.ext _, h4.ext _⟩ (hu.ext _)) ?_
  intro r new hA
  obtain ⟨id, fl, rfl, hge, hown, hle, nr⟩ := hA.row
  cases hg : lateB k plan with
  | false =>
    simp (config := {implicitDefEqProofs := false, maxDischargeDepth := 20}) (disch := first | omega | (simp only [lenE]; done) | (simp only [lenE]; omega) | rfl | (simp only [lenE, markR_len]; done) | (simp only [lenE, markR_len]; omega)) only [runE, mapE, listE, resV, oneV, binA, unA, reduceCtorEq, Nat.reduceEqDiff, Nat.reduceAdd, Nat.reduceLT, Nat.reduceLeDiff, Nat.reduceMul, Nat.reduceSub, ↓reduceIte, decide_true, decide_false, Bool.true_eq_false, Bool.false_eq_true, Bool.not_true, Bool.not_false, if_true, if_false, and_true, true_and, memE, celE, w64, Nat.zero_add, Nat.add_zero, Nat.mul_one, putL, and_self, ldn, ext_2_0, ext_2_1, bsl_none]
    rw [owedA_no hg]
    refine ext_ansL ((((Ext.refl m).one _ _).app nr).one _ _) (OwnR.end' (l := []) ?_) (by omega) rfl (by simp)
    simp only [List.length_append, List.length_cons, List.length_nil, roM_len]
  | true =>
    rw [balA_yes hg] at *
    rw [owedA_yes hg]
    have hll := stocksL_len plan k.need
    obtain ⟨b1, b2, b3, b4⟩ := late_iff.1 hg
    have h8 := b1.n8
    simp (config := {implicitDefEqProofs := false, maxDischargeDepth := 20}) (disch := first | omega | (simp only [lenE]; done) | (simp only [lenE]; omega) | rfl | (simp only [lenE, markR_len]; done) | (simp only [lenE, markR_len]; omega)) only [runE, mapE, listE, resV, oneV, binA, unA, reduceCtorEq, Nat.reduceEqDiff, Nat.reduceAdd, Nat.reduceLT, Nat.reduceLeDiff, Nat.reduceMul, Nat.reduceSub, ↓reduceIte, decide_true, decide_false, Bool.true_eq_false, Bool.false_eq_true, Bool.not_true, Bool.not_false, if_true, if_false, and_true, true_and, memE, celE, w64, Nat.zero_add, Nat.add_zero, Nat.mul_one, putL, and_self, ldn, ext_2_0, ext_2_1]
    refine callH_rc (periodsWith_rc _ _ _ _ (fun x => decide (x < 0)) (hown.ints (by omega) fl) test_owed (by omega)) ?_
    intro r new2 hB
    obtain ⟨id2, fl2, rfl, hge2, hown2, hle2, nr2⟩ := hB.row
    simp (config := {implicitDefEqProofs := false, maxDischargeDepth := 20}) (disch := first | omega | (simp only [lenE]; done) | (simp only [lenE]; omega) | rfl | (simp only [lenE, markR_len]; done) | (simp only [lenE, markR_len]; omega)) only [runE, mapE, listE, resV, oneV, binA, unA, reduceCtorEq, Nat.reduceEqDiff, Nat.reduceAdd, Nat.reduceLT, Nat.reduceLeDiff, Nat.reduceMul, Nat.reduceSub, ↓reduceIte, decide_true, decide_false, Bool.true_eq_false, Bool.false_eq_true, Bool.not_true, Bool.not_false, if_true, if_false, and_true, true_and, memE, celE, w64, Nat.zero_add, Nat.add_zero, Nat.mul_one, putL, and_self, ldn]
    exact ext_ansL ((((Ext.refl m).one _ _).app nr).app nr2) hown2 (by rw [List.length_append, List.length_append, roM_len] at hge2; omega) rfl hle2

theorem specOwed_rc (m : Mem) (v u : Value) (k : Cs) (plan : List Int) (h : CaseA m v k) (h' : IntsA m u plan) :
    RC Try.prog 56 [v, u] m (AnsL m (owedA k plan) (lateB k plan)) := by
  refine rc_of_run mixed ok_spec_OwedPeriods (by simp) (go_start _ _ _ ?_)
  obtain ⟨v1, v2, v3, v4, rfl, h1, h2, h3, h4⟩ := h.ro.ok
  have hu := h'.ro
  have hro := OwnR.at_end (roM m ++ [⟨.own, 28, [v1, v2, v3, v4]⟩]) []
  rw [List.length_append, roM_len] at hro
  simp (config := {implicitDefEqProofs := false, maxDischargeDepth := 20}) (disch := first | omega | (simp only [lenE]; done) | (simp only [lenE]; omega) | rfl | (simp only [lenE, markR_len]; done) | (simp only [lenE, markR_len]; omega)) only [runE, mapE, listE, resV, oneV, binA, unA, reduceCtorEq, Nat.reduceEqDiff, Nat.reduceAdd, Nat.reduceLT, Nat.reduceLeDiff, Nat.reduceMul, Nat.reduceSub, ↓reduceIte, decide_true, decide_false, Bool.true_eq_false, Bool.false_eq_true, Bool.not_true, Bool.not_false, if_true, if_false, and_true, true_and, memE, celE, w64, Nat.zero_add, Nat.add_zero, Nat.mul_one, putL, and_self, ldn, c_spec_OwedPeriods, r_spec_OwedPeriods, bsl_none]
  refine callH_rc (l2Good_rc _ _ k ⟨_, _, _, _, rfl, (h1.ext _).ext _, (h2.ext _).ext _, (h3.ext _).ext _, (h4.ext _).ext _⟩) ?_
  rintro r new ⟨rfl, nr1⟩
  have no : ∀ M : Mem, lateB k plan = false → Ext m M → OwnR M (m.length + 1) [] → newQ m (AnsL m (owedA k plan) (lateB k plan)) (.tuple #[.slice (some ⟨m.length + 1, 0, none⟩) 0 1, .bool false]) M := by
    intro M hg hx ho
    rw [owedA_no hg, hg]
    exact ext_ansL hx ho (by omega) rfl (by simp)
  cases hg : k.good with
  | false =>
    simp (config := {implicitDefEqProofs := false, maxDischargeDepth := 20}) (disch := first | omega | (simp only [lenE]; done) | (simp only [lenE]; omega) | rfl | (simp only [lenE, markR_len]; done) | (simp only [lenE, markR_len]; omega)) only [runE, mapE, listE, resV, oneV, binA, unA, reduceCtorEq, Nat.reduceEqDiff, Nat.reduceAdd, Nat.reduceLT, Nat.reduceLeDiff, Nat.reduceMul, Nat.reduceSub, ↓reduceIte, decide_true, decide_false, Bool.true_eq_false, Bool.false_eq_true, Bool.not_true, Bool.not_false, if_true, if_false, and_true, true_and, memE, celE, w64, Nat.zero_add, Nat.add_zero, Nat.mul_one, putL, and_self, ldn]
    exact no _ (by simp [lateB_eq, hg]) ((((Ext.refl m).one _ _).one _ _).app nr1) (hro.ext _)
  | true =>
    have gd := good_iff.1 hg
    simp (config := {implicitDefEqProofs := false, maxDischargeDepth := 20}) (disch := first | omega | (simp only [lenE]; done) | (simp only [lenE]; omega) | rfl | (simp only [lenE, markR_len]; done) | (simp only [lenE, markR_len]; omega)) only [runE, mapE, listE, resV, oneV, binA, unA, reduceCtorEq, Nat.reduceEqDiff, Nat.reduceAdd, Nat.reduceLT, Nat.reduceLeDiff, Nat.reduceMul, Nat.reduceSub, ↓reduceIte, decide_true, decide_false, Bool.true_eq_false, Bool.false_eq_true, Bool.not_true, Bool.not_false, if_true, if_false, and_true, true_and, memE, celE, w64, Nat.zero_add, Nat.add_zero, Nat.mul_one, putL, and_self, ldn]
    refine callH_rc (l4Late_rc _ _ u k plan ⟨_, _, _, _, rfl, ((h1.ext _).ext _).ext _, ((h2.ext _).ext _).ext _, ((h3.ext _).ext _).ext _, ((h4.ext _).ext _).ext _⟩ (((hu.ext _).ext _).ext _) gd) ?_
    rintro r new2 ⟨rfl, nr2⟩
    cases hs : sumB k plan with
    | false =>
      simp (config := {implicitDefEqProofs := false, maxDischargeDepth := 20}) (disch := first | omega | (simp only [lenE]; done) | (simp only [lenE]; omega) | rfl | (simp only [lenE, markR_len]; done) | (simp only [lenE, markR_len]; omega)) only [runE, mapE, listE, resV, oneV, binA, unA, reduceCtorEq, Nat.reduceEqDiff, Nat.reduceAdd, Nat.reduceLT, Nat.reduceLeDiff, Nat.reduceMul, Nat.reduceSub, ↓reduceIte, decide_true, decide_false, Bool.true_eq_false, Bool.false_eq_true, Bool.not_true, Bool.not_false, if_true, if_false, and_true, true_and, memE, celE, w64, Nat.zero_add, Nat.add_zero, Nat.mul_one, putL, and_self, ldn]
      exact no _ (by simp [lateB_eq, hg, hs]) (((((Ext.refl m).one _ _).one _ _).app nr1).app nr2) ((hro.ext _).ext _)
    | true =>
      have hb : lateB k plan = true := by rw [lateB_eq, hg, hs]; rfl
      obtain ⟨b1, b2, b3, b4⟩ := late_iff.1 hb
      have h8 := b1.n8
      simp (config := {implicitDefEqProofs := false, maxDischargeDepth := 20}) (disch := first | omega | (simp only [lenE]; done) | (simp only [lenE]; omega) | rfl | (simp only [lenE, markR_len]; done) | (simp only [lenE, markR_len]; omega)) only [runE, mapE, listE, resV, oneV, binA, unA, reduceCtorEq, Nat.reduceEqDiff, Nat.reduceAdd, Nat.reduceLT, Nat.reduceLeDiff, Nat.reduceMul, Nat.reduceSub, ↓reduceIte, decide_true, decide_false, Bool.true_eq_false, Bool.false_eq_true, Bool.not_true, Bool.not_false, if_true, if_false, and_true, true_and, memE, celE, w64, Nat.zero_add, Nat.add_zero, Nat.mul_one, putL, and_self, ldn]
      refine callH_rc (l2Stocks_rc _ _ u k plan ⟨_, _, _, _, rfl, (((h1.ext _).ext _).ext _).ext _, (((h2.ext _).ext _).ext _).ext _, (((h3.ext _).ext _).ext _).ext _, (((h4.ext _).ext _).ext _).ext _⟩ ((((hu.ext _).ext _).ext _).ext _) b1 b2 b3) ?_
      intro r new3 hA
      obtain ⟨sid, fl, rfl, hge, hown, hle, nr3⟩ := hA.row
      have hll := stocksL_len plan k.need
      rw [owedA_yes hb, hb]
      generalize stocksL plan k.need = L at *
      have hpl := fun k => picks_len (fun x => decide (x < 0)) L k
      have hge' : m.length + 2 ≤ sid := by simp only [List.length_append, roM_len, List.length_cons, List.length_nil] at hge; omega
      simp (config := {implicitDefEqProofs := false, maxDischargeDepth := 20}) (disch := first | omega | (simp only [lenE]; done) | (simp only [lenE]; omega) | rfl | (simp only [lenE, markR_len]; done) | (simp only [lenE, markR_len]; omega)) only [runE, mapE, listE, resV, oneV, binA, unA, reduceCtorEq, Nat.reduceEqDiff, Nat.reduceAdd, Nat.reduceLT, Nat.reduceLeDiff, Nat.reduceMul, Nat.reduceSub, ↓reduceIte, decide_true, decide_false, Bool.true_eq_false, Bool.false_eq_true, Bool.not_true, Bool.not_false, if_true, if_false, and_true, true_and, memE, celE, w64, Nat.zero_add, Nat.add_zero, Nat.mul_one, putL, and_self, ldn]
      refine loop_inv mixed (fun s => ∃ (t : Nat) (M : Mem) (id : Nat), t ≤ L.length ∧ s.m = M ∧ Ext m M ∧ OwnR M id (picks (fun x => decide (x < 0)) L t) ∧ m.length ≤ id ∧ id ≠ sid ∧ OwnR M sid L ∧ s.t 6 = .slice (some ⟨id, 0, none⟩) (picks (fun x => decide (x < 0)) L t).length 1 ∧ s.t 7 = .slice (some ⟨sid, 0, none⟩) L.length fl ∧ s.t 8 = .int .i64 t) (fun s => L.length - (intOf (s.t 8)).toNat)
        ⟨0, _, m.length + 1, by omega, rfl, (((((Ext.refl m).one _ _).one _ _).app nr1).app nr2).app nr3, ((hro.ext _).ext _).ext _, by omega, by omega, hown, rfl, rfl, rfl⟩ ?_
      rintro s ⟨t, M, id, hk, tm, hx, ho, hid, hne, hst, t6, t7, t8⟩
      obtain ⟨e1, e2, e3, e4, -⟩ := hst.ints (by omega) fl
      by_cases hlt : t < L.length
      · have hlt' : (t : Int) < L.length := by omega
        by_cases hb : L.getD t 0 < 0
        · simp (config := {implicitDefEqProofs := false, maxDischargeDepth := 20}) (disch := first | omega | (simp only [lenE]; done) | (simp only [lenE]; omega) | rfl | (simp only [lenE, markR_len]; done) | (simp only [lenE, markR_len]; omega)) only [runE, mapE, listE, resV, oneV, binA, unA, reduceCtorEq, Nat.reduceEqDiff, Nat.reduceAdd, Nat.reduceLT, Nat.reduceLeDiff, Nat.reduceMul, Nat.reduceSub, ↓reduceIte, decide_true, decide_false, Bool.true_eq_false, Bool.false_eq_true, Bool.not_true, Bool.not_false, if_true, if_false, and_true, true_and, memE, celE, w64, Nat.zero_add, Nat.add_zero, Nat.mul_one, putL, and_self, ldn, tm, t6, t7, t8, e1, e3 t hlt, e4 t hlt, hlt', hb, bsl_one, app_gen ho (by have := hpl t; omega)]
          have hlM := hst.lt
          refine ⟨⟨t + 1, _, M.length + 1, by omega, rfl, ((hx.dead hid).one _ _).one _ _, ?_, by have := hx.len; omega, by omega, ((hst.dead hne).ext _).ext _, by rw [picks, if_pos (decide_eq_true hb)]; simp, by simp⟩, ?_⟩
          · rw [picks, if_pos (decide_eq_true hb)]
            have := OwnR.at_end (M.set id deadB ++ [⟨.own, 3, [.int .i64 (t : Int)]⟩]) (picks (fun x => decide (x < 0)) L t ++ [(t : Int)])
            simpa using this
          · simp [intOf]; omega
        · have hb' : ¬ (decide (L.getD t 0 < 0) = true) := by rw [decide_eq_true_eq]; exact hb
          simp (config := {implicitDefEqProofs := false, maxDischargeDepth := 20}) (disch := first | omega | (simp only [lenE]; done) | (simp only [lenE]; omega) | rfl | (simp only [lenE, markR_len]; done) | (simp only [lenE, markR_len]; omega)) only [runE, mapE, listE, resV, oneV, binA, unA, reduceCtorEq, Nat.reduceEqDiff, Nat.reduceAdd, Nat.reduceLT, Nat.reduceLeDiff, Nat.reduceMul, Nat.reduceSub, ↓reduceIte, decide_true, decide_false, Bool.true_eq_false, Bool.false_eq_true, Bool.not_true, Bool.not_false, if_true, if_false, and_true, true_and, memE, celE, w64, Nat.zero_add, Nat.add_zero, Nat.mul_one, putL, and_self, ldn, tm, t6, t7, t8, e1, e3 t hlt, e4 t hlt, hlt', hb]
          refine ⟨⟨t + 1, M, id, by omega, rfl, hx, by rw [picks, if_neg hb']; exact ho, hid, hne, hst, by rw [picks, if_neg hb'], by simp⟩, ?_⟩
          simp [intOf]; omega
      · have hlt' : ¬ ((t : Int) < L.length) := by omega
        have e : t = L.length := by omega
        subst e
        simp (config := {implicitDefEqProofs := false, maxDischargeDepth := 20}) (disch := first | omega | (simp only [lenE]; done) | (simp only [lenE]; omega) | rfl | (simp only [lenE, markR_len]; done) | (simp only [lenE, markR_len]; omega)) only [runE, mapE, listE, resV, oneV, binA, unA, reduceCtorEq, Nat.reduceEqDiff, Nat.reduceAdd, Nat.reduceLT, Nat.reduceLeDiff, Nat.reduceMul, Nat.reduceSub, ↓reduceIte, decide_true, decide_false, Bool.true_eq_false, Bool.false_eq_true, Bool.not_true, Bool.not_false, if_true, if_false, and_true, true_and, memE, celE, w64, Nat.zero_add, Nat.add_zero, Nat.mul_one, putL, and_self, ldn, tm, t6, t7, t8, e1, hlt']
        exact ext_ansL hx ho hid rfl (by have := hpl L.length; omega)

theorem most_rc (m : Mem) (a b : Int) : RC Try.prog 83 [.int .i64 a, .int .i64 b] m fun r new => r = .int .i64 (max a b) ∧ new = [] := by
  refine rc_of_run mixed ok_spec_l1Most (by simp) (go_start _ _ _ ?_)
  by_cases h : a > b
  · simp (config := {implicitDefEqProofs := false, maxDischargeDepth := 20}) (disch := first | omega | (simp only [lenE]; done) | (simp only [lenE]; omega) | rfl | (simp only [lenE, markR_len]; done) | (simp only [lenE, markR_len]; omega)) only [runE, mapE, listE, resV, oneV, binA, unA, reduceCtorEq, Nat.reduceEqDiff, Nat.reduceAdd, Nat.reduceLT, Nat.reduceLeDiff, Nat.reduceMul, Nat.reduceSub, ↓reduceIte, decide_true, decide_false, Bool.true_eq_false, Bool.false_eq_true, Bool.not_true, Bool.not_false, if_true, if_false, and_true, true_and, memE, celE, w64, Nat.zero_add, Nat.add_zero, Nat.mul_one, putL, and_self, ldn, c_spec_l1Most, r_spec_l1Most, gt_iff_lt, show b < a from h]
    exact newQ_nil ⟨by congr 1; omega, rfl⟩
  · simp (config := {implicitDefEqProofs := false, maxDischargeDepth := 20}) (disch := first | omega | (simp only [lenE]; done) | (simp only [lenE]; omega) | rfl | (simp only [lenE, markR_len]; done) | (simp only [lenE, markR_len]; omega)) only [runE, mapE, listE, resV, oneV, binA, unA, reduceCtorEq, Nat.reduceEqDiff, Nat.reduceAdd, Nat.reduceLT, Nat.reduceLeDiff, Nat.reduceMul, Nat.reduceSub, ↓reduceIte, decide_true, decide_false, Bool.true_eq_false, Bool.false_eq_true, Bool.not_true, Bool.not_false, if_true, if_false, and_true, true_and, memE, celE, w64, Nat.zero_add, Nat.add_zero, Nat.mul_one, putL, and_self, ldn, c_spec_l1Most, r_spec_l1Most, gt_iff_lt, show ¬ (b < a) from h]
    exact newQ_nil ⟨by congr 1; omega, rfl⟩
/-- What keeps the cost of a step small. -/
theorem step_in {k : Cs} (hg : Good k) (t : Nat) {x b : Int} (h0 : 0 ≤ x) (h1 : x ≤ 2000) (hb : 0 ≤ b) (hb2 : b ≤ 2000) : (0 ≤ k.unit.getD t 0 * x ∧ k.unit.getD t 0 * x ≤ 18000) ∧ (0 ≤ k.hold.getD t 0 * b ∧ k.hold.getD t 0 * b ≤ 18000) ∧ 0 ≤ k.setup.getD t 0 ∧ k.setup.getD t 0 ≤ 99 := by
  have u := getD_bound (m := 9) (by omega) hg.unit t
  have s := getD_bound (m := 99) (by omega) hg.setup t
  have o := getD_bound (m := 9) (by omega) hg.hold t
  exact ⟨mul_bound u.1 u.2 h0 h1, mul_bound o.1 o.2 hb hb2, s⟩
theorem l4Step_rc (m : Mem) (v : Value) (k : Cs) (t : Nat) (x b : Int) (h : CaseA m v k) (hg : Good k) (ht : t < k.need.length) (h0 : 0 ≤ x) (hx1 : x ≤ 2000) (hb : 0 ≤ b) (hb2 : b ≤ 2000) (rates : List Int) :
    RC Try.prog 85 [v, .int .i64 t, .int .i64 x, .int .i64 b] m (AnsV (.int .i64 (stepF k rates t x b))) := by
  refine rc_of_run mixed ok_spec_l4Step (by simp) (go_start _ _ _ ?_)
  obtain ⟨v1, v2, v3, v4, rfl, h1, h2, h3, h4⟩ := h.ro.ok
  obtain ⟨p1, p2, p3⟩ := step_in hg t h0 hx1 hb hb2
  have g0 := hg.ls
  have g1 := hg.lu
  have g2 := hg.lh
  have i2 := h2.ext [⟨.own, 28, [v1, v2, v3, v4]⟩]
  have i3 := h3.ext [⟨.own, 28, [v1, v2, v3, v4]⟩]
  have i4 := h4.ext [⟨.own, 28, [v1, v2, v3, v4]⟩]
  by_cases hz : 0 < x
  · simp (config := {implicitDefEqProofs := false, maxDischargeDepth := 20}) (disch := first | omega | (simp only [lenE]; done) | (simp only [lenE]; omega) | rfl | (simp only [lenE, markR_len]; done) | (simp only [lenE, markR_len]; omega)) only [runE, mapE, listE, resV, oneV, binA, unA, reduceCtorEq, Nat.reduceEqDiff, Nat.reduceAdd, Nat.reduceLT, Nat.reduceLeDiff, Nat.reduceMul, Nat.reduceSub, ↓reduceIte, decide_true, decide_false, Bool.true_eq_false, Bool.false_eq_true, Bool.not_true, Bool.not_false, if_true, if_false, and_true, true_and, memE, celE, w64, Nat.zero_add, Nat.add_zero, Nat.mul_one, putL, and_self, ldn, c_spec_l4Step, r_spec_l4Step, i2.at_ t (by omega), i2.ld t (by omega), i3.at_ t (by omega), i3.ld t (by omega), i4.at_ t (by omega), i4.ld t (by omega), gt_iff_lt, hz]
    exact ext_ansV ((Ext.refl m).one _ _) (by congr 1; unfold stepF; rw [if_pos hz, if_neg (by omega)]; omega)
  · simp (config := {implicitDefEqProofs := false, maxDischargeDepth := 20}) (disch := first | omega | (simp only [lenE]; done) | (simp only [lenE]; omega) | rfl | (simp only [lenE, markR_len]; done) | (simp only [lenE, markR_len]; omega)) only [runE, mapE, listE, resV, oneV, binA, unA, reduceCtorEq, Nat.reduceEqDiff, Nat.reduceAdd, Nat.reduceLT, Nat.reduceLeDiff, Nat.reduceMul, Nat.reduceSub, ↓reduceIte, decide_true, decide_false, Bool.true_eq_false, Bool.false_eq_true, Bool.not_true, Bool.not_false, if_true, if_false, and_true, true_and, memE, celE, w64, Nat.zero_add, Nat.add_zero, Nat.mul_one, putL, and_self, ldn, c_spec_l4Step, r_spec_l4Step, i2.at_ t (by omega), i2.ld t (by omega), i3.at_ t (by omega), i3.ld t (by omega), i4.at_ t (by omega), i4.ld t (by omega), gt_iff_lt, hz]
    exact ext_ansV ((Ext.refl m).one _ _) (by congr 1; unfold stepF; rw [if_neg hz, if_neg (by omega)]; omega)
end Go.Proofs.Ytiggehfopfpkbaa.Ab
