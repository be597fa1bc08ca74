/- The cost of a late plan: LateCost. -/
import Derived.Test.YtiggehfopfpkbaaAbLimit
namespace Go.Proofs.Ytiggehfopfpkbaa.Ab
open Go Go.RowKit
set_option linter.unusedVariables false
set_option linter.unusedSimpArgs false

/-- What keeps the cost of what is owed small. -/
theorem owe_in {l : List Int} (hl : ∀ x ∈ l, 0 ≤ x ∧ x ≤ 9) (t : Nat) {b : Int} (hb : -2000 ≤ b) (hb2 : b ≤ 0) : 0 ≤ l.getD t 0 * (-b) ∧ l.getD t 0 * (-b) ≤ 18000 ∧ l.getD t 0 * b = -(l.getD t 0 * (-b)) := by
  have u := getD_bound (m := 9) (by omega) hl t
  have := mul_bound u.1 u.2 (b := -b) (n := 2000) (by omega) (by omega)
  rw [Int.mul_neg] at this ⊢
  omega
theorem stepF_bd {k : Cs} {rates : List Int} (hg : Good k) (hr : ∀ x ∈ rates, 0 ≤ x ∧ x ≤ 9) (t : Nat) {x b : Int} (h0 : 0 ≤ x) (h1 : x ≤ 2000) (hb : -2000 ≤ b) (hb2 : b ≤ 2000) : 0 ≤ stepF k rates t x b ∧ stepF k rates t x b ≤ 40000 := by
  unfold stepF
  by_cases hn : b < 0
  · obtain ⟨p1, p2, p3⟩ := step_in hg t h0 h1 (b := 0) (by omega) (by omega)
    have := owe_in hr t hb (by omega)
    rw [if_pos hn]
    split <;> omega
  · obtain ⟨p1, p2, p3⟩ := step_in hg t h0 h1 (b := b) (by omega) (by omega)
    rw [if_neg hn]
    split <;> omega
theorem l4Owe_rc (m : Mem) (v u : Value) (k : Cs) (rates : List Int) (t : Nat) (x b : Int) (h : CaseA m v k) (h' : IntsA m u rates) (hg : Good k) (hl : rates.length = k.need.length) (hr : ∀ x ∈ rates, 0 ≤ x ∧ x ≤ 9) (ht : t < k.need.length) (h0 : 0 ≤ x) (hx1 : x ≤ 2000) (hb : -2000 ≤ b) (hb2 : b ≤ 2000) :
    RC Try.prog 95 [v, u, .int .i64 t, .int .i64 x, .int .i64 b] m (AnsV (.int .i64 (stepF k rates t x b))) := by
  refine rc_of_run mixed ok_spec_l4Owe (by simp) (go_start _ _ _ ?_)
  obtain ⟨v1, v2, v3, v4, rfl, h1, h2, h3, h4⟩ := h.ro.ok
  have hu := h'.ro
  have iu := hu.ext [⟨.own, 28, [v1, v2, v3, v4]⟩]
  simp (config := {implicitDefEqProofs := false, maxDischargeDepth := 20}) (disch := first | omega | (simp only [lenE]; done) | (simp only [lenE]; omega) | rfl | (simp only [lenE, markR_len]; done) | (simp only [lenE, markR_len]; omega)) only [runE, mapE, listE, resV, oneV, binA, unA, reduceCtorEq, Nat.reduceEqDiff, Nat.reduceAdd, Nat.reduceLT, Nat.reduceLeDiff, Nat.reduceMul, Nat.reduceSub, ↓reduceIte, decide_true, decide_false, Bool.true_eq_false, Bool.false_eq_true, Bool.not_true, Bool.not_false, if_true, if_false, and_true, true_and, memE, celE, w64, Nat.zero_add, Nat.add_zero, Nat.mul_one, putL, and_self, ldn, c_spec_l4Owe, r_spec_l4Owe, iu.at_ t (by omega), iu.ld t (by omega)]
  refine rcallH_rc (most_rc _ _ _) ?_
  rintro r new ⟨rfl, rfl⟩
  simp (config := {implicitDefEqProofs := false, maxDischargeDepth := 20}) (disch := first | omega | (simp only [lenE]; done) | (simp only [lenE]; omega) | rfl | (simp only [lenE, markR_len]; done) | (simp only [lenE, markR_len]; omega)) only [runE, mapE, listE, resV, oneV, binA, unA, reduceCtorEq, Nat.reduceEqDiff, Nat.reduceAdd, Nat.reduceLT, Nat.reduceLeDiff, Nat.reduceMul, Nat.reduceSub, ↓reduceIte, decide_true, decide_false, Bool.true_eq_false, Bool.false_eq_true, Bool.not_true, Bool.not_false, if_true, if_false, and_true, true_and, memE, celE, w64, Nat.zero_add, Nat.add_zero, Nat.mul_one, putL, and_self, ldn]
  refine rcallH_rc (l4Step_rc _ _ k t x (max b 0) ⟨_, _, _, _, rfl, h1.ext _, h2.ext _, h3.ext _, h4.ext _⟩ hg ht h0 hx1 (by omega) (by omega) rates) ?_
  rintro r new ⟨rfl, nr⟩
  simp (config := {implicitDefEqProofs := false, maxDischargeDepth := 20}) (disch := first | omega | (simp only [lenE]; done) | (simp only [lenE]; omega) | rfl | (simp only [lenE, markR_len]; done) | (simp only [lenE, markR_len]; omega)) only [runE, mapE, listE, resV, oneV, binA, unA, reduceCtorEq, Nat.reduceEqDiff, Nat.reduceAdd, Nat.reduceLT, Nat.reduceLeDiff, Nat.reduceMul, Nat.reduceSub, ↓reduceIte, decide_true, decide_false, Bool.true_eq_false, Bool.false_eq_true, Bool.not_true, Bool.not_false, if_true, if_false, and_true, true_and, memE, celE, w64, Nat.zero_add, Nat.add_zero, Nat.mul_one, putL, and_self, ldn, iu.at_ t (by omega), iu.ld t (by omega)]
  refine rcallH_rc (most_rc _ _ _) ?_
  rintro r new2 ⟨rfl, rfl⟩
  have hsb := stepF_bd hg hr t h0 hx1 (b := max b 0) (by omega) (by omega)
  have iu2 := iu.ext new
  by_cases hn : b < 0
  · have e1 : max (0 - b) 0 = -b := by omega
    have e2 : max (-b) 0 = -b := by omega
    have ob := owe_in hr t hb (by omega)
    have eq : stepF k rates t x b = stepF k rates t x (max b 0) + rates.getD t 0 * (-b) := by
      unfold stepF
      rw [if_pos hn, show max b 0 = 0 by omega, if_neg (show ¬ ((0 : Int) < 0) by omega), Int.mul_zero]; omega
    try rw [e1]
    try rw [e2]
    simp (config := {implicitDefEqProofs := false, maxDischargeDepth := 20}) (disch := first | omega | (simp only [lenE]; done) | (simp only [lenE]; omega) | rfl | (simp only [lenE, markR_len]; done) | (simp only [lenE, markR_len]; omega)) only [runE, mapE, listE, resV, oneV, binA, unA, reduceCtorEq, Nat.reduceEqDiff, Nat.reduceAdd, Nat.reduceLT, Nat.reduceLeDiff, Nat.reduceMul, Nat.reduceSub, ↓reduceIte, decide_true, decide_false, Bool.true_eq_false, Bool.false_eq_true, Bool.not_true, Bool.not_false, if_true, if_false, and_true, true_and, memE, celE, w64, Nat.zero_add, Nat.add_zero, Nat.mul_one, putL, and_self, ldn, iu2.at_ t (by omega), iu2.ld t (by omega)]
    exact ext_ansV (((Ext.refl m).one _ _).app nr) (by rw [eq])
  · have e1 : max (0 - b) 0 = 0 := by omega
    have e2 : max (-b) 0 = 0 := by omega
    have eq : stepF k rates t x b = stepF k rates t x (max b 0) + rates.getD t 0 * 0 := by
      rw [show max b 0 = b by omega, Int.mul_zero]; omega
    have z : rates.getD t 0 * 0 = 0 := Int.mul_zero _
    try rw [e1]
    try rw [e2]
    simp (config := {implicitDefEqProofs := false, maxDischargeDepth := 20}) (disch := first | omega | (simp only [lenE]; done) | (simp only [lenE]; omega) | rfl | (simp only [lenE, markR_len]; done) | (simp only [lenE, markR_len]; omega)) only [runE, mapE, listE, resV, oneV, binA, unA, reduceCtorEq, Nat.reduceEqDiff, Nat.reduceAdd, Nat.reduceLT, Nat.reduceLeDiff, Nat.reduceMul, Nat.reduceSub, ↓reduceIte, decide_true, decide_false, Bool.true_eq_false, Bool.false_eq_true, Bool.not_true, Bool.not_false, if_true, if_false, and_true, true_and, memE, celE, w64, Nat.zero_add, Nat.add_zero, Nat.mul_one, putL, and_self, ldn, iu2.at_ t (by omega), iu2.ld t (by omega)]
    exact ext_ansV (((Ext.refl m).one _ _).app nr) (by rw [eq])

theorem isOwed_rc (m : Mem) (x : Int) : RC Try.prog 102 [.int .i64 x] m fun r new => r = .bool (decide (x < 0)) ∧ new = [] := by
  refine rc_of_run mixed ok_impl_isOwed (by simp) (go_start _ _ _ ?_)
  simp (config := {implicitDefEqProofs := false, maxDischargeDepth := 20}) (disch := first | omega | (simp only [lenE]; done) | (simp only [lenE]; omega) | rfl | (simp only [lenE, markR_len]; done) | (simp only [lenE, markR_len]; omega)) only [runE, mapE, listE, resV, oneV, binA, unA, reduceCtorEq, Nat.reduceEqDiff, Nat.reduceAdd, Nat.reduceLT, Nat.reduceLeDiff, Nat.reduceMul, Nat.reduceSub, ↓reduceIte, decide_true, decide_false, Bool.true_eq_false, Bool.false_eq_true, Bool.not_true, Bool.not_false, if_true, if_false, and_true, true_and, memE, celE, w64, Nat.zero_add, Nat.add_zero, Nat.mul_one, putL, and_self, ldn, c_impl_isOwed, r_impl_isOwed]
  exact newQ_nil ⟨rfl, rfl⟩
theorem periodCost_rc (m : Mem) (v u : Value) (k : Cs) (rates : List Int) (t : Nat) (x b : Int) (h : CaseA m v k) (h' : IntsA m u rates) (hg : Good k) (hl : b < 0 → rates.length = k.need.length) (hr : ∀ x ∈ rates, 0 ≤ x ∧ x ≤ 9) (ht : t < k.need.length) (h0 : 0 ≤ x) (hx1 : x ≤ 2000) (hb : -2000 ≤ b) (hb2 : b ≤ 2000) :
    RC Try.prog 97 [v, u, .int .i64 t, .int .i64 x, .int .i64 b] m (AnsV (.int .i64 (stepF k rates t x b))) := by
  refine rc_of_run mixed ok_impl_periodCost (by simp) (go_start _ _ _ ?_)
  obtain ⟨v1, v2, v3, v4, rfl, h1, h2, h3, h4⟩ := h.ro.ok
  have hu := h'.ro
  have g0 := hg.ls
  have g1 := hg.lu
  have g2 := hg.lh
  have iu := hu.ext [⟨.own, 28, [v1, v2, v3, v4]⟩]
  have i2 := h2.ext [⟨.own, 28, [v1, v2, v3, v4]⟩]
  have i3 := h3.ext [⟨.own, 28, [v1, v2, v3, v4]⟩]
  have i4 := h4.ext [⟨.own, 28, [v1, v2, v3, v4]⟩]
  obtain ⟨p1, -, p3⟩ := step_in hg t h0 hx1 (b := 0) (by omega) (by omega)
  by_cases hz : 0 < x
  · simp (config := {implicitDefEqProofs := false, maxDischargeDepth := 20}) (disch := first | omega | (simp only [lenE]; done) | (simp only [lenE]; omega) | rfl | (simp only [lenE, markR_len]; done) | (simp only [lenE, markR_len]; omega)) only [runE, mapE, listE, resV, oneV, binA, unA, reduceCtorEq, Nat.reduceEqDiff, Nat.reduceAdd, Nat.reduceLT, Nat.reduceLeDiff, Nat.reduceMul, Nat.reduceSub, ↓reduceIte, decide_true, decide_false, Bool.true_eq_false, Bool.false_eq_true, Bool.not_true, Bool.not_false, if_true, if_false, and_true, true_and, memE, celE, w64, Nat.zero_add, Nat.add_zero, Nat.mul_one, putL, and_self, ldn, c_impl_periodCost, r_impl_periodCost, i2.at_ t (by omega), i2.ld t (by omega), i3.at_ t (by omega), i3.ld t (by omega), gt_iff_lt, hz]
    refine callH_rc (isOwed_rc _ _) ?_
    rintro r new ⟨rfl, rfl⟩
    rw [List.append_nil]
    by_cases hn : b < 0
    · have ob := owe_in hr t hb (by omega)
      simp (config := {implicitDefEqProofs := false, maxDischargeDepth := 20}) (disch := first | omega | (simp only [lenE]; done) | (simp only [lenE]; omega) | rfl | (simp only [lenE, markR_len]; done) | (simp only [lenE, markR_len]; omega)) only [runE, mapE, listE, resV, oneV, binA, unA, reduceCtorEq, Nat.reduceEqDiff, Nat.reduceAdd, Nat.reduceLT, Nat.reduceLeDiff, Nat.reduceMul, Nat.reduceSub, ↓reduceIte, decide_true, decide_false, Bool.true_eq_false, Bool.false_eq_true, Bool.not_true, Bool.not_false, if_true, if_false, and_true, true_and, memE, celE, w64, Nat.zero_add, Nat.add_zero, Nat.mul_one, putL, and_self, ldn, hn, iu.at_ t (by omega), iu.ld t (by omega)]
      exact ext_ansV ((Ext.refl m).one _ _) (by congr 1; unfold stepF; rw [if_pos hz, if_pos hn]; omega)
    · obtain ⟨-, p2, -⟩ := step_in hg t h0 hx1 (b := b) (by omega) (by omega)
      simp (config := {implicitDefEqProofs := false, maxDischargeDepth := 20}) (disch := first | omega | (simp only [lenE]; done) | (simp only [lenE]; omega) | rfl | (simp only [lenE, markR_len]; done) | (simp only [lenE, markR_len]; omega)) only [runE, mapE, listE, resV, oneV, binA, unA, reduceCtorEq, Nat.reduceEqDiff, Nat.reduceAdd, Nat.reduceLT, Nat.reduceLeDiff, Nat.reduceMul, Nat.reduceSub, ↓reduceIte, decide_true, decide_false, Bool.true_eq_false, Bool.false_eq_true, Bool.not_true, Bool.not_false, if_true, if_false, and_true, true_and, memE, celE, w64, Nat.zero_add, Nat.add_zero, Nat.mul_one, putL, and_self, ldn, hn, i4.at_ t (by omega), i4.ld t (by omega)]
      exact ext_ansV ((Ext.refl m).one _ _) (by congr 1; unfold stepF; rw [if_pos hz, if_neg hn])
  · simp (config := {implicitDefEqProofs := false, maxDischargeDepth := 20}) (disch := first | omega | (simp only [lenE]; done) | (simp only [lenE]; omega) | rfl | (simp only [lenE, markR_len]; done) | (simp only [lenE, markR_len]; omega)) only [runE, mapE, listE, resV, oneV, binA, unA, reduceCtorEq, Nat.reduceEqDiff, Nat.reduceAdd, Nat.reduceLT, Nat.reduceLeDiff, Nat.reduceMul, Nat.reduceSub, ↓reduceIte, decide_true, decide_false, Bool.true_eq_false, Bool.false_eq_true, Bool.not_true, Bool.not_false, if_true, if_false, and_true, true_and, memE, celE, w64, Nat.zero_add, Nat.add_zero, Nat.mul_one, putL, and_self, ldn, c_impl_periodCost, r_impl_periodCost, i3.at_ t (by omega), i3.ld t (by omega), gt_iff_lt, hz]
    refine callH_rc (isOwed_rc _ _) ?_
    rintro r new ⟨rfl, rfl⟩
    rw [List.append_nil]
    by_cases hn : b < 0
    · have ob := owe_in hr t hb (by omega)
      simp (config := {implicitDefEqProofs := false, maxDischargeDepth := 20}) (disch := first | omega | (simp only [lenE]; done) | (simp only [lenE]; omega) | rfl | (simp only [lenE, markR_len]; done) | (simp only [lenE, markR_len]; omega)) only [runE, mapE, listE, resV, oneV, binA, unA, reduceCtorEq, Nat.reduceEqDiff, Nat.reduceAdd, Nat.reduceLT, Nat.reduceLeDiff, Nat.reduceMul, Nat.reduceSub, ↓reduceIte, decide_true, decide_false, Bool.true_eq_false, Bool.false_eq_true, Bool.not_true, Bool.not_false, if_true, if_false, and_true, true_and, memE, celE, w64, Nat.zero_add, Nat.add_zero, Nat.mul_one, putL, and_self, ldn, hn, iu.at_ t (by omega), iu.ld t (by omega)]
      exact ext_ansV ((Ext.refl m).one _ _) (by congr 1; unfold stepF; rw [if_neg hz, if_pos hn]; omega)
    · obtain ⟨-, p2, -⟩ := step_in hg t h0 hx1 (b := b) (by omega) (by omega)
      simp (config := {implicitDefEqProofs := false, maxDischargeDepth := 20}) (disch := first | omega | (simp only [lenE]; done) | (simp only [lenE]; omega) | rfl | (simp only [lenE, markR_len]; done) | (simp only [lenE, markR_len]; omega)) only [runE, mapE, listE, resV, oneV, binA, unA, reduceCtorEq, Nat.reduceEqDiff, Nat.reduceAdd, Nat.reduceLT, Nat.reduceLeDiff, Nat.reduceMul, Nat.reduceSub, ↓reduceIte, decide_true, decide_false, Bool.true_eq_false, Bool.false_eq_true, Bool.not_true, Bool.not_false, if_true, if_false, and_true, true_and, memE, celE, w64, Nat.zero_add, Nat.add_zero, Nat.mul_one, putL, and_self, ldn, hn, i4.at_ t (by omega), i4.ld t (by omega)]
      exact ext_ansV ((Ext.refl m).one _ _) (by congr 1; unfold stepF; rw [if_neg hz, if_neg hn]; omega)

/-- The cost of the first periods of a late plan. -/
def lateC (k : Cs) (rates plan : List Int) : Nat → Int
  | 0 => 0
  | t + 1 => lateC k rates plan t + stepF k rates t (plan.getD t 0) (stk plan k.need t)
def lateCostA (k : Cs) (rates plan : List Int) : Int := if rowsB k rates 9 && lateB k plan then lateC k rates plan plan.length else 0
theorem lateC_in {k : Cs} {rates plan : List Int} (hg : Good k) (hr : ∀ x ∈ rates, 0 ≤ x ∧ x ≤ 9) (hp : ∀ x ∈ plan, 0 ≤ x ∧ x ≤ 160) (t : Nat) (ht : t ≤ 8) : 0 ≤ lateC k rates plan t ∧ lateC k rates plan t ≤ 40000 * t := by
  induction t with
  | zero => simp [lateC]
  | succ t ih =>
    have := ih (by omega)
    have b1 := getD_bound (m := 160) (by omega) hp t
    have b2 := stk_bound hg hp t (by omega)
    have := stepF_bd hg hr t (x := plan.getD t 0) (b := stk plan k.need t) (by omega) (by omega) (by omega) (by omega)
    rw [lateC]; omega
theorem lateCostA_no {k : Cs} {rates plan : List Int} (h : rowsB k rates 9 = false ∨ lateB k plan = false) : lateCostA k rates plan = 0 := by
  unfold lateCostA
  rcases h with h | h <;> simp [h]
theorem lateCostA_yes {k : Cs} {rates plan : List Int} (h : rowsB k rates 9 = true) (h' : lateB k plan = true) : lateCostA k rates plan = lateC k rates plan plan.length := by
  unfold lateCostA; rw [h, h']; rfl

theorem specLateCost_rc (m : Mem) (v u u2 : Value) (k : Cs) (rates plan : List Int) (h : CaseA m v k) (h' : IntsA m u rates) (h'' : IntsA m u2 plan) :
    RC Try.prog 50 [v, u, u2] m (AnsV (.tuple #[.int .i64 (lateCostA k rates plan), .bool (rowsB k rates 9 && lateB k plan)])) := by
  refine rc_of_run mixed ok_spec_LateCost (by simp) (go_start _ _ _ ?_)
  obtain ⟨v1, v2, v3, v4, rfl, h1, h2, h3, h4⟩ := h.ro.ok
  have hu := h'.ro
  have hp := h''.ro
  simp (config := {implicitDefEqProofs := false, maxDischargeDepth := 20}) (disch := first | omega | (simp only [lenE]; done) | (simp only [lenE]; omega) | rfl | (simp only [lenE, markR_len]; done) | (simp only [lenE, markR_len]; omega)) only [runE, mapE, listE, resV, oneV, binA, unA, reduceCtorEq, Nat.reduceEqDiff, Nat.reduceAdd, Nat.reduceLT, Nat.reduceLeDiff, Nat.reduceMul, Nat.reduceSub, ↓reduceIte, decide_true, decide_false, Bool.true_eq_false, Bool.false_eq_true, Bool.not_true, Bool.not_false, if_true, if_false, and_true, true_and, memE, celE, w64, Nat.zero_add, Nat.add_zero, Nat.mul_one, putL, and_self, ldn, c_spec_LateCost, r_spec_LateCost]
  refine callH_rc (l4Rates_rc _ _ u k rates ⟨_, _, _, _, rfl, h1.ext _, h2.ext _, h3.ext _, h4.ext _⟩ (hu.ext _)) ?_
  rintro r new ⟨rfl, nr1⟩
  cases hg : rowsB k rates 9 with
  | false =>
    simp (config := {implicitDefEqProofs := false, maxDischargeDepth := 20}) (disch := first | omega | (simp only [lenE]; done) | (simp only [lenE]; omega) | rfl | (simp only [lenE, markR_len]; done) | (simp only [lenE, markR_len]; omega)) only [runE, mapE, listE, resV, oneV, binA, unA, reduceCtorEq, Nat.reduceEqDiff, Nat.reduceAdd, Nat.reduceLT, Nat.reduceLeDiff, Nat.reduceMul, Nat.reduceSub, ↓reduceIte, decide_true, decide_false, Bool.true_eq_false, Bool.false_eq_true, Bool.not_true, Bool.not_false, if_true, if_false, and_true, true_and, memE, celE, w64, Nat.zero_add, Nat.add_zero, Nat.mul_one, putL, and_self, ldn]
    exact ext_ansV (((Ext.refl m).one _ _).app nr1) (by rw [lateCostA_no (.inl hg)]; simp)
  | true =>
    obtain ⟨g1, g2, g3⟩ := rowsB_iff.1 hg
    simp (config := {implicitDefEqProofs := false, maxDischargeDepth := 20}) (disch := first | omega | (simp only [lenE]; done) | (simp only [lenE]; omega) | rfl | (simp only [lenE, markR_len]; done) | (simp only [lenE, markR_len]; omega)) only [runE, mapE, listE, resV, oneV, binA, unA, reduceCtorEq, Nat.reduceEqDiff, Nat.reduceAdd, Nat.reduceLT, Nat.reduceLeDiff, Nat.reduceMul, Nat.reduceSub, ↓reduceIte, decide_true, decide_false, Bool.true_eq_false, Bool.false_eq_true, Bool.not_true, Bool.not_false, if_true, if_false, and_true, true_and, memE, celE, w64, Nat.zero_add, Nat.add_zero, Nat.mul_one, putL, and_self, ldn]
    refine callH_rc (l4Late_rc _ _ u2 k plan ⟨_, _, _, _, rfl, (h1.ext _).ext _, (h2.ext _).ext _, (h3.ext _).ext _, (h4.ext _).ext _⟩ ((hp.ext _).ext _) g1) ?_
    rintro r new2 ⟨rfl, nr2⟩
    cases hs : sumB k plan with
    | false =>
      have hb : lateB k plan = false := by rw [lateB_eq, hs]; simp
      simp (config := {implicitDefEqProofs := false, maxDischargeDepth := 20}) (disch := first | omega | (simp only [lenE]; done) | (simp only [lenE]; omega) | rfl | (simp only [lenE, markR_len]; done) | (simp only [lenE, markR_len]; omega)) only [runE, mapE, listE, resV, oneV, binA, unA, reduceCtorEq, Nat.reduceEqDiff, Nat.reduceAdd, Nat.reduceLT, Nat.reduceLeDiff, Nat.reduceMul, Nat.reduceSub, ↓reduceIte, decide_true, decide_false, Bool.true_eq_false, Bool.false_eq_true, Bool.not_true, Bool.not_false, if_true, if_false, and_true, true_and, memE, celE, w64, Nat.zero_add, Nat.add_zero, Nat.mul_one, putL, and_self, ldn]
      exact ext_ansV ((((Ext.refl m).one _ _).app nr1).app nr2) (by rw [lateCostA_no (.inr hb), hb]; simp)
    | true =>
      have hb : lateB k plan = true := by rw [lateB_eq, good_iff.2 g1, hs]; rfl
      obtain ⟨b1, b2, b3, b4⟩ := late_iff.1 hb
      have h8 := b1.n8
      have hlc := lateC_in (plan := plan) g1 g2 b3
      simp (config := {implicitDefEqProofs := false, maxDischargeDepth := 20}) (disch := first | omega | (simp only [lenE]; done) | (simp only [lenE]; omega) | rfl | (simp only [lenE, markR_len]; done) | (simp only [lenE, markR_len]; omega)) only [runE, mapE, listE, resV, oneV, binA, unA, reduceCtorEq, Nat.reduceEqDiff, Nat.reduceAdd, Nat.reduceLT, Nat.reduceLeDiff, Nat.reduceMul, Nat.reduceSub, ↓reduceIte, decide_true, decide_false, Bool.true_eq_false, Bool.false_eq_true, Bool.not_true, Bool.not_false, if_true, if_false, and_true, true_and, memE, celE, w64, Nat.zero_add, Nat.add_zero, Nat.mul_one, putL, and_self, ldn]
      refine callH_rc (l2Stocks_rc _ _ u2 k plan ⟨_, _, _, _, rfl, ((h1.ext _).ext _).ext _, ((h2.ext _).ext _).ext _, ((h3.ext _).ext _).ext _, ((h4.ext _).ext _).ext _⟩ (((hp.ext _).ext _).ext _) b1 b2 b3) ?_
      intro r new3 hA
      obtain ⟨sid, fl, rfl, hge, hown, hle, nr3⟩ := hA.row
      have hll := stocksL_len plan k.need
      have hat : ∀ t, t < plan.length → (stocksL plan k.need).getD t 0 = stk plan k.need t := fun t ht => stocksL_at ht
      rw [lateCostA_yes hg hb, hb]
      generalize stocksL plan k.need = L at *
      simp (config := {implicitDefEqProofs := false, maxDischargeDepth := 20}) (disch := first | omega | (simp only [lenE]; done) | (simp only [lenE]; omega) | rfl | (simp only [lenE, markR_len]; done) | (simp only [lenE, markR_len]; omega)) only [runE, mapE, listE, resV, oneV, binA, unA, reduceCtorEq, Nat.reduceEqDiff, Nat.reduceAdd, Nat.reduceLT, Nat.reduceLeDiff, Nat.reduceMul, Nat.reduceSub, ↓reduceIte, decide_true, decide_false, Bool.true_eq_false, Bool.false_eq_true, Bool.not_true, Bool.not_false, if_true, if_false, and_true, true_and, memE, celE, w64, Nat.zero_add, Nat.add_zero, Nat.mul_one, putL, and_self, ldn]
      refine loop_inv mixed (fun s => ∃ (t : Nat) (M : Mem), t ≤ plan.length ∧ s.m = M ∧ Grow (roM m ++ [⟨.own, 28, [v1, v2, v3, v4]⟩]) M ∧ OwnR M sid L ∧ s.t 1 = u ∧ s.t 2 = u2 ∧ s.t 3 = .pointer (some ⟨m.length, 0, none⟩) ∧ s.t 8 = .int .i64 (lateC k rates plan t) ∧ s.t 9 = .slice (some ⟨sid, 0, none⟩) L.length fl ∧ s.t 10 = .int .i64 t) (fun s => plan.length - (intOf (s.t 10)).toNat)
        ⟨0, _, by omega, rfl, (((Grow.refl _).app nr1).app nr2).app nr3, hown, rfl, rfl, rfl, rfl, rfl, rfl⟩ ?_
      rintro s ⟨t, M, hk, tm, hx, hst, t1, t2, t3, t8, t9, t10⟩
      obtain ⟨c0, c1, c2, c3, hml⟩ := hx.box4
      have ip := hx.intsV hp
      have iu := hx.intsV hu
      by_cases hlt : t < plan.length
      · have hlt' : (t : Int) < plan.length := by omega
        obtain ⟨e1, e2, e3, e4, -⟩ := hst.ints (by omega) fl
        have l0 := hlc t (by omega)
        have q1 := getD_bound (m := 160) (by omega) b3 t
        have q2 := stk_bound g1 b3 t (by omega)
        have q3 := stepF_bd g1 g2 t (x := plan.getD t 0) (b := stk plan k.need t) (by omega) (by omega) (by omega) (by omega)
        have e3' := e3 t (by omega)
        have e4' := e4 t (by omega)
        rw [hat t hlt] at e4'
        simp (config := {implicitDefEqProofs := false, maxDischargeDepth := 20}) (disch := first | omega | (simp only [lenE]; done) | (simp only [lenE]; omega) | rfl | (simp only [lenE, markR_len]; done) | (simp only [lenE, markR_len]; omega)) only [runE, mapE, listE, resV, oneV, binA, unA, reduceCtorEq, Nat.reduceEqDiff, Nat.reduceAdd, Nat.reduceLT, Nat.reduceLeDiff, Nat.reduceMul, Nat.reduceSub, ↓reduceIte, decide_true, decide_false, Bool.true_eq_false, Bool.false_eq_true, Bool.not_true, Bool.not_false, if_true, if_false, and_true, true_and, memE, celE, w64, Nat.zero_add, Nat.add_zero, Nat.mul_one, putL, and_self, ldn, tm, t1, t2, t3, t8, t9, t10, ip.len, ip.at_ t hlt, ip.ld t hlt, e3', e4', c0, c1, c2, c3, hlt']
        refine rcallH_rc (l4Owe_rc _ _ u k rates t _ _ (hx.caseV ⟨_, _, _, _, rfl, h1, h2, h3, h4⟩) iu g1 g3 g2 (by omega) (by omega) (by omega) (by omega) (by omega)) ?_
        rintro r new4 ⟨rfl, nr4⟩
        simp (config := {implicitDefEqProofs := false, maxDischargeDepth := 20}) (disch := first | omega | (simp only [lenE]; done) | (simp only [lenE]; omega) | rfl | (simp only [lenE, markR_len]; done) | (simp only [lenE, markR_len]; omega)) only [runE, mapE, listE, resV, oneV, binA, unA, reduceCtorEq, Nat.reduceEqDiff, Nat.reduceAdd, Nat.reduceLT, Nat.reduceLeDiff, Nat.reduceMul, Nat.reduceSub, ↓reduceIte, decide_true, decide_false, Bool.true_eq_false, Bool.false_eq_true, Bool.not_true, Bool.not_false, if_true, if_false, and_true, true_and, memE, celE, w64, Nat.zero_add, Nat.add_zero, Nat.mul_one, putL, and_self, ldn, t1, t2, t3, t8, t9, t10]
        exact ⟨⟨t + 1, _, by omega, rfl, hx.app nr4, hst.ext _, by rw [lateC], by simp⟩, by simp [intOf]; omega⟩
      · have hlt' : ¬ ((t : Int) < plan.length) := by omega
        have e : t = plan.length := by omega
        subst e
        simp (config := {implicitDefEqProofs := false, maxDischargeDepth := 20}) (disch := first | omega | (simp only [lenE]; done) | (simp only [lenE]; omega) | rfl | (simp only [lenE, markR_len]; done) | (simp only [lenE, markR_len]; omega)) only [runE, mapE, listE, resV, oneV, binA, unA, reduceCtorEq, Nat.reduceEqDiff, Nat.reduceAdd, Nat.reduceLT, Nat.reduceLeDiff, Nat.reduceMul, Nat.reduceSub, ↓reduceIte, decide_true, decide_false, Bool.true_eq_false, Bool.false_eq_true, Bool.not_true, Bool.not_false, if_true, if_false, and_true, true_and, memE, celE, w64, Nat.zero_add, Nat.add_zero, Nat.mul_one, putL, and_self, ldn, tm, t1, t2, t3, t8, t9, t10, ip.len, hlt']
        exact ext_ansV hx.ext rfl

theorem implLateCost_rc (m : Mem) (v u u2 : Value) (k : Cs) (rates plan : List Int) (h : CaseA m v k) (h' : IntsA m u rates) (h'' : IntsA m u2 plan) :
    RC Try.prog 51 [v, u, u2] m (AnsV (.tuple #[.int .i64 (lateCostA k rates plan), .bool (rowsB k rates 9 && lateB k plan)])) := by
  refine rc_of_run mixed ok_impl_LateCost (by simp) (go_start _ _ _ ?_)
  obtain ⟨v1, v2, v3, v4, rfl, h1, h2, h3, h4⟩ := h.ro.ok
  have hu := h'.ro
  have hp := h''.ro
  simp (config := {implicitDefEqProofs := false, maxDischargeDepth := 20}) (disch := first | omega | (simp only [lenE]; done) | (simp only [lenE]; omega) | rfl | (simp only [lenE, markR_len]; done) | (simp only [lenE, markR_len]; omega)) only [runE, mapE, listE, resV, oneV, binA, unA, reduceCtorEq, Nat.reduceEqDiff, Nat.reduceAdd, Nat.reduceLT, Nat.reduceLeDiff, Nat.reduceMul, Nat.reduceSub, ↓reduceIte, decide_true, decide_false, Bool.true_eq_false, Bool.false_eq_true, Bool.not_true, Bool.not_false, if_true, if_false, and_true, true_and, memE, celE, w64, Nat.zero_add, Nat.add_zero, Nat.mul_one, putL, and_self, ldn, c_impl_LateCost, r_impl_LateCost]
  refine callH_rc (implBal_rc _ _ u2 k plan ⟨_, _, _, _, rfl, h1.ext _, h2.ext _, h3.ext _, h4.ext _⟩ (hp.ext _)) ?_
  intro r new hA
  obtain ⟨sid, fl, rfl, hge, hown, hle, nr1⟩ := hA.row
  cases hb : lateB k plan with
  | false =>
    simp (config := {implicitDefEqProofs := false, maxDischargeDepth := 20}) (disch := first | omega | (simp only [lenE]; done) | (simp only [lenE]; omega) | rfl | (simp only [lenE, markR_len]; done) | (simp only [lenE, markR_len]; omega)) only [runE, mapE, listE, resV, oneV, binA, unA, reduceCtorEq, Nat.reduceEqDiff, Nat.reduceAdd, Nat.reduceLT, Nat.reduceLeDiff, Nat.reduceMul, Nat.reduceSub, ↓reduceIte, decide_true, decide_false, Bool.true_eq_false, Bool.false_eq_true, Bool.not_true, Bool.not_false, if_true, if_false, and_true, true_and, memE, celE, w64, Nat.zero_add, Nat.add_zero, Nat.mul_one, putL, and_self, ldn, ext_2_0, ext_2_1]
    exact ext_ansV (((Ext.refl m).one _ _).app nr1) (by rw [lateCostA_no (.inr hb)]; simp)
  | true =>
    obtain ⟨b1, b2, b3, b4⟩ := late_iff.1 hb
    have h8 := b1.n8
    simp (config := {implicitDefEqProofs := false, maxDischargeDepth := 20}) (disch := first | omega | (simp only [lenE]; done) | (simp only [lenE]; omega) | rfl | (simp only [lenE, markR_len]; done) | (simp only [lenE, markR_len]; omega)) only [runE, mapE, listE, resV, oneV, binA, unA, reduceCtorEq, Nat.reduceEqDiff, Nat.reduceAdd, Nat.reduceLT, Nat.reduceLeDiff, Nat.reduceMul, Nat.reduceSub, ↓reduceIte, decide_true, decide_false, Bool.true_eq_false, Bool.false_eq_true, Bool.not_true, Bool.not_false, if_true, if_false, and_true, true_and, memE, celE, w64, Nat.zero_add, Nat.add_zero, Nat.mul_one, putL, and_self, ldn, ext_2_0, ext_2_1]
    refine callH_rc (areRates_rc _ _ u k rates ⟨_, _, _, _, rfl, (h1.ext _).ext _, (h2.ext _).ext _, (h3.ext _).ext _, (h4.ext _).ext _⟩ ((hu.ext _).ext _)) ?_
    rintro r new2 ⟨rfl, nr2⟩
    cases hg : rowsB k rates 9 with
    | false =>
      simp (config := {implicitDefEqProofs := false, maxDischargeDepth := 20}) (disch := first | omega | (simp only [lenE]; done) | (simp only [lenE]; omega) | rfl | (simp only [lenE, markR_len]; done) | (simp only [lenE, markR_len]; omega)) only [runE, mapE, listE, resV, oneV, binA, unA, reduceCtorEq, Nat.reduceEqDiff, Nat.reduceAdd, Nat.reduceLT, Nat.reduceLeDiff, Nat.reduceMul, Nat.reduceSub, ↓reduceIte, decide_true, decide_false, Bool.true_eq_false, Bool.false_eq_true, Bool.not_true, Bool.not_false, if_true, if_false, and_true, true_and, memE, celE, w64, Nat.zero_add, Nat.add_zero, Nat.mul_one, putL, and_self, ldn]
      exact ext_ansV ((((Ext.refl m).one _ _).app nr1).app nr2) (by rw [lateCostA_no (.inl hg)]; simp)
    | true =>
      obtain ⟨g1, g2, g3⟩ := rowsB_iff.1 hg
      have hlc := lateC_in (plan := plan) g1 g2 b3
      rw [balA_yes hb] at hown hle ⊢
      have hll := stocksL_len plan k.need
      have hat : ∀ t, t < plan.length → (stocksL plan k.need).getD t 0 = stk plan k.need t := fun t ht => stocksL_at ht
      rw [lateCostA_yes hg hb]
      generalize stocksL plan k.need = L at *
      simp (config := {implicitDefEqProofs := false, maxDischargeDepth := 20}) (disch := first | omega | (simp only [lenE]; done) | (simp only [lenE]; omega) | rfl | (simp only [lenE, markR_len]; done) | (simp only [lenE, markR_len]; omega)) only [runE, mapE, listE, resV, oneV, binA, unA, reduceCtorEq, Nat.reduceEqDiff, Nat.reduceAdd, Nat.reduceLT, Nat.reduceLeDiff, Nat.reduceMul, Nat.reduceSub, ↓reduceIte, decide_true, decide_false, Bool.true_eq_false, Bool.false_eq_true, Bool.not_true, Bool.not_false, if_true, if_false, and_true, true_and, memE, celE, w64, Nat.zero_add, Nat.add_zero, Nat.mul_one, putL, and_self, ldn, hp.len]
      refine loop_inv mixed (fun s => ∃ (t : Nat) (M : Mem), t ≤ plan.length ∧ s.m = M ∧ Grow (roM m ++ [⟨.own, 28, [v1, v2, v3, v4]⟩]) M ∧ OwnR M sid L ∧ s.t 1 = u ∧ s.t 3 = .pointer (some ⟨m.length, 0, none⟩) ∧ s.t 8 = .slice (some ⟨sid, 0, none⟩) L.length fl ∧ s.t 10 = .int .i64 (lateC k rates plan t) ∧ s.t 27 = u2 ∧ s.t 28 = .int .i64 plan.length ∧ s.t 29 = .int .i64 t) (fun s => plan.length - (intOf (s.t 29)).toNat)
        ⟨0, _, by omega, rfl, ((Grow.refl _).app nr1).app nr2, hown.ext _, rfl, rfl, rfl, rfl, rfl, rfl, rfl⟩ ?_
      rintro s ⟨t, M, hk, tm, hx, hst, t1, t3, t8, t10, t27, t28, t29⟩
      obtain ⟨c0, c1, c2, c3, hml⟩ := hx.box4
      have ip := hx.intsV hp
      have iu := hx.intsV hu
      by_cases hlt : t < plan.length
      · have hlt' : (t : Int) < plan.length := by omega
        obtain ⟨e1, e2, e3, e4, -⟩ := hst.ints (by omega) fl
        have l0 := hlc t (by omega)
        have q1 := getD_bound (m := 160) (by omega) b3 t
        have q2 := stk_bound g1 b3 t (by omega)
        have q3 := stepF_bd g1 g2 t (x := plan.getD t 0) (b := stk plan k.need t) (by omega) (by omega) (by omega) (by omega)
        have e3' := e3 t (by omega)
        have e4' := e4 t (by omega)
        rw [hat t hlt] at e4'
        simp (config := {implicitDefEqProofs := false, maxDischargeDepth := 20}) (disch := first | omega | (simp only [lenE]; done) | (simp only [lenE]; omega) | rfl | (simp only [lenE, markR_len]; done) | (simp only [lenE, markR_len]; omega)) only [runE, mapE, listE, resV, oneV, binA, unA, reduceCtorEq, Nat.reduceEqDiff, Nat.reduceAdd, Nat.reduceLT, Nat.reduceLeDiff, Nat.reduceMul, Nat.reduceSub, ↓reduceIte, decide_true, decide_false, Bool.true_eq_false, Bool.false_eq_true, Bool.not_true, Bool.not_false, if_true, if_false, and_true, true_and, memE, celE, w64, Nat.zero_add, Nat.add_zero, Nat.mul_one, putL, and_self, ldn, tm, t1, t3, t8, t10, t27, t28, t29, ip.at_ t hlt, ip.ld t hlt, e3', e4', c0, c1, c2, c3, hlt']
        refine rcallH_rc (periodCost_rc _ _ u k rates t _ _ (hx.caseV ⟨_, _, _, _, rfl, h1, h2, h3, h4⟩) iu g1 (fun _ => g3) g2 (by omega) (by omega) (by omega) (by omega) (by omega)) ?_
        rintro r new4 ⟨rfl, nr4⟩
        simp (config := {implicitDefEqProofs := false, maxDischargeDepth := 20}) (disch := first | omega | (simp only [lenE]; done) | (simp only [lenE]; omega) | rfl | (simp only [lenE, markR_len]; done) | (simp only [lenE, markR_len]; omega)) only [runE, mapE, listE, resV, oneV, binA, unA, reduceCtorEq, Nat.reduceEqDiff, Nat.reduceAdd, Nat.reduceLT, Nat.reduceLeDiff, Nat.reduceMul, Nat.reduceSub, ↓reduceIte, decide_true, decide_false, Bool.true_eq_false, Bool.false_eq_true, Bool.not_true, Bool.not_false, if_true, if_false, and_true, true_and, memE, celE, w64, Nat.zero_add, Nat.add_zero, Nat.mul_one, putL, and_self, ldn, t1, t3, t8, t10, t27, t28, t29]
        exact ⟨⟨t + 1, _, by omega, rfl, hx.app nr4, hst.ext _, by rw [lateC], by simp⟩, by simp [intOf]; omega⟩
      · have hlt' : ¬ ((t : Int) < plan.length) := by omega
        have e : t = plan.length := by omega
        subst e
        simp (config := {implicitDefEqProofs := false, maxDischargeDepth := 20}) (disch := first | omega | (simp only [lenE]; done) | (simp only [lenE]; omega) | rfl | (simp only [lenE, markR_len]; done) | (simp only [lenE, markR_len]; omega)) only [runE, mapE, listE, resV, oneV, binA, unA, reduceCtorEq, Nat.reduceEqDiff, Nat.reduceAdd, Nat.reduceLT, Nat.reduceLeDiff, Nat.reduceMul, Nat.reduceSub, ↓reduceIte, decide_true, decide_false, Bool.true_eq_false, Bool.false_eq_true, Bool.not_true, Bool.not_false, if_true, if_false, and_true, true_and, memE, celE, w64, Nat.zero_add, Nat.add_zero, Nat.mul_one, putL, and_self, ldn, tm, t1, t3, t8, t10, t27, t28, t29, hlt']
        exact ext_ansV hx.ext rfl
end Go.Proofs.Ytiggehfopfpkbaa.Ab
