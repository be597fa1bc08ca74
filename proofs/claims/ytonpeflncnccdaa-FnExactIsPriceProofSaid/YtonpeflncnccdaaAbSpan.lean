/- Spans: SpanCost. -/
import Derived.Test.YtonpeflncnccdaaAbRate
namespace Go.Proofs.Ytonpeflncnccdaa.Ab
open Go Go.RowKit
set_option linter.unusedVariables false
set_option linter.unusedSimpArgs false

theorem anyN_s {k : Cs} (hg : Good k) {i x : Nat} (h : i ≤ x) : decide (0 < sumR k.need i (x + 1)) = (decide (0 < sumR k.need i x) || decide (0 < k.need.getD x 0)) := by
  have h1 := sumR_nn (m := 20) (by omega) hg.need h
  have h2 := getD_bound (m := 20) (by omega) hg.need x
  rw [sumR_s]
  generalize k.need.getD x 0 = y at *
  generalize sumR k.need i x = z at *
  by_cases a : 0 < z <;> by_cases b : 0 < y <;> simp [a, b] <;> omega

theorem l3Span_rc (m : Mem) (v : Value) (k : Cs) (i j : Nat) (h : CaseA m v k) (hg : Good k) (hij : i < j) (hj : j ≤ k.need.length) :
    RC Try.prog 75 [v, .int .i64 i, .int .i64 j] m (AnsV (.int .i64 (spanF k i j))) := by
  refine rc_of_run mixed ok_spec_l3Span (by simp) (go_start _ _ _ ?_)
  obtain ⟨v1, v2, v3, v4, rfl, h1, h2, h3, h4⟩ := h.ro.ok
  have hc : CaseA (roM m) (.agg #[v1, v2, v3, v4]) k := ⟨_, _, _, _, rfl, h1, h2, h3, h4⟩
  have h8 := hg.n8
  have g0 := hg.ls
  have g1 := hg.lu
  have g2 := hg.lh
  simp (config := {implicitDefEqProofs := false, maxDischargeDepth := 20}) (disch := first | omega | (simp only [lenE]; done) | (simp only [lenE]; omega) | rfl | (simp only [lenE, markR_len]; done) | (simp only [lenE, markR_len]; omega)) only [runE, mapE, listE, initT_5, initT_6, initT_7, initT_8, resV, oneV, binA, unA, reduceCtorEq, Nat.reduceEqDiff, Nat.reduceAdd, Nat.reduceLT, Nat.reduceLeDiff, Nat.reduceMul, Nat.reduceSub, ↓reduceIte, decide_true, decide_false, Bool.true_eq_false, Bool.false_eq_true, Bool.not_true, Bool.not_false, if_true, if_false, and_true, true_and, memE, celE, w64, Nat.zero_add, Nat.add_zero, Nat.mul_one, putL, and_self, ldn, c_spec_l3Span, r_spec_l3Span]
  refine loop_inv mixed (fun s => ∃ (x : Nat) (M : Mem), i ≤ x ∧ x ≤ j ∧ s.t 1 = .int .i64 i ∧ s.t 2 = .int .i64 j ∧ s.t 3 = .pointer (some ⟨m.length, 0, none⟩) ∧ s.t 7 = .int .i64 (spanS k i x) ∧ s.t 8 = .bool (decide (0 < sumR k.need i x)) ∧ s.t 9 = .int .i64 x ∧ s.m = M ∧ Grow (roM m ++ [⟨.own, 28, [v1, v2, v3, v4]⟩]) M) (fun s => j - (intOf (s.t 9)).toNat)
    ⟨i, _, Nat.le_refl _, by omega, rfl, rfl, rfl, by rw [spanS_self]; rfl, by rw [sumR_self]; rfl, rfl, rfl, Grow.refl _⟩ ?_
  rintro s ⟨x, M, hix, hxj, t1, t2, t3, t7, t8, t9, tm, hx⟩
  obtain ⟨r0, r1, r2, r3, hlM⟩ := hx.box4
  by_cases hlt : x < j
  · have hlt' : (x : Int) < j := by omega
    have i1 := hx.intsV h1
    simp (config := {implicitDefEqProofs := false, maxDischargeDepth := 20}) (disch := first | omega | (simp only [lenE]; done) | (simp only [lenE]; omega) | rfl | (simp only [lenE, markR_len]; done) | (simp only [lenE, markR_len]; omega)) only [runE, mapE, listE, initT_5, initT_6, initT_7, initT_8, resV, oneV, binA, unA, reduceCtorEq, Nat.reduceEqDiff, Nat.reduceAdd, Nat.reduceLT, Nat.reduceLeDiff, Nat.reduceMul, Nat.reduceSub, ↓reduceIte, decide_true, decide_false, Bool.true_eq_false, Bool.false_eq_true, Bool.not_true, Bool.not_false, if_true, if_false, and_true, true_and, memE, celE, w64, Nat.zero_add, Nat.add_zero, Nat.mul_one, putL, and_self, ldn, t1, t2, t3, t7, t8, t9, tm, hlt', r0, r1, r2, r3, i1.at_ x (by omega), i1.ld x (by omega)]
    refine rcallH_rc (l3Rate_rc _ _ k i x (hx.caseV hc) hg (by omega) hix (by omega)) ?_
    rintro r new ⟨rfl, nr⟩
    have b1 := spanS_in' hg hix (by omega)
    have b2 := nr_in hg hix (by omega)
    have hx2 := hx.app nr
    have e1 := anyN_s hg hix
    have e2 := spanS_s k hix
    cases hb : decide (0 < sumR k.need i x) with
    | true =>
      rw [hb] at e1
      simp (config := {implicitDefEqProofs := false, maxDischargeDepth := 20}) (disch := first | omega | (simp only [lenE]; done) | (simp only [lenE]; omega) | rfl | (simp only [lenE, markR_len]; done) | (simp only [lenE, markR_len]; omega)) only [runE, mapE, listE, initT_5, initT_6, initT_7, initT_8, resV, oneV, binA, unA, reduceCtorEq, Nat.reduceEqDiff, Nat.reduceAdd, Nat.reduceLT, Nat.reduceLeDiff, Nat.reduceMul, Nat.reduceSub, ↓reduceIte, decide_true, decide_false, Bool.true_eq_false, Bool.false_eq_true, Bool.not_true, Bool.not_false, if_true, if_false, and_true, true_and, memE, celE, w64, Nat.zero_add, Nat.add_zero, Nat.mul_one, putL, and_self, ldn, t1, t2, t3, t7, t8, t9, tm, hb]
      exact ⟨⟨x + 1, _, by omega, by omega, by rw [e2], by rw [e1]; rfl, by simp, rfl, hx2⟩, by simp [intOf]; omega⟩
    | false =>
      rw [hb] at e1
      by_cases hn : 0 < k.need.getD x 0
      · rw [decide_eq_true hn] at e1
        simp (config := {implicitDefEqProofs := false, maxDischargeDepth := 20}) (disch := first | omega | (simp only [lenE]; done) | (simp only [lenE]; omega) | rfl | (simp only [lenE, markR_len]; done) | (simp only [lenE, markR_len]; omega)) only [runE, mapE, listE, initT_5, initT_6, initT_7, initT_8, resV, oneV, binA, unA, reduceCtorEq, Nat.reduceEqDiff, Nat.reduceAdd, Nat.reduceLT, Nat.reduceLeDiff, Nat.reduceMul, Nat.reduceSub, ↓reduceIte, decide_true, decide_false, Bool.true_eq_false, Bool.false_eq_true, Bool.not_true, Bool.not_false, if_true, if_false, and_true, true_and, memE, celE, w64, Nat.zero_add, Nat.add_zero, Nat.mul_one, putL, and_self, ldn, t1, t2, t3, t7, t8, t9, tm, hb, r0, i1.at_ x (by omega), (i1.ext _).ld x (by omega), gt_iff_lt, hn]
        exact ⟨⟨x + 1, _, by omega, by omega, by rw [e2], by rw [e1]; rfl, by simp, rfl, hx2⟩, by simp [intOf]; omega⟩
      · rw [decide_eq_false hn] at e1
        simp (config := {implicitDefEqProofs := false, maxDischargeDepth := 20}) (disch := first | omega | (simp only [lenE]; done) | (simp only [lenE]; omega) | rfl | (simp only [lenE, markR_len]; done) | (simp only [lenE, markR_len]; omega)) only [runE, mapE, listE, initT_5, initT_6, initT_7, initT_8, resV, oneV, binA, unA, reduceCtorEq, Nat.reduceEqDiff, Nat.reduceAdd, Nat.reduceLT, Nat.reduceLeDiff, Nat.reduceMul, Nat.reduceSub, ↓reduceIte, decide_true, decide_false, Bool.true_eq_false, Bool.false_eq_true, Bool.not_true, Bool.not_false, if_true, if_false, and_true, true_and, memE, celE, w64, Nat.zero_add, Nat.add_zero, Nat.mul_one, putL, and_self, ldn, t1, t2, t3, t7, t8, t9, tm, hb, r0, i1.at_ x (by omega), (i1.ext _).ld x (by omega), gt_iff_lt, hn]
        exact ⟨⟨x + 1, _, by omega, by omega, by rw [e2], by rw [e1]; rfl, by simp, rfl, hx2⟩, by simp [intOf]; omega⟩
  · have hlt' : ¬ ((x : Int) < j) := by omega
    have e : x = j := by omega
    subst e
    have b1 := spanS_in' hg hix (by omega)
    have b2 := getD_bound (m := 99) (by omega) hg.setup i
    have i2 := hx.intsV h2
    by_cases hb : 0 < sumR k.need i x
    · have e1 : spanF k i x = k.setup.getD i 0 + spanS k i x := by unfold spanF; rw [if_pos hb]
      rw [e1]
      simp (config := {implicitDefEqProofs := false, maxDischargeDepth := 20}) (disch := first | omega | (simp only [lenE]; done) | (simp only [lenE]; omega) | rfl | (simp only [lenE, markR_len]; done) | (simp only [lenE, markR_len]; omega)) only [runE, mapE, listE, initT_5, initT_6, initT_7, initT_8, resV, oneV, binA, unA, reduceCtorEq, Nat.reduceEqDiff, Nat.reduceAdd, Nat.reduceLT, Nat.reduceLeDiff, Nat.reduceMul, Nat.reduceSub, ↓reduceIte, decide_true, decide_false, Bool.true_eq_false, Bool.false_eq_true, Bool.not_true, Bool.not_false, if_true, if_false, and_true, true_and, memE, celE, w64, Nat.zero_add, Nat.add_zero, Nat.mul_one, putL, and_self, ldn, t1, t2, t3, t7, t8, t9, tm, hlt', hb, r1, i2.at_ i (by omega), i2.ld i (by omega)]
      exact ext_ansV hx.ext rfl
    · have e1 : spanF k i x = 0 := by unfold spanF; rw [if_neg hb]
      rw [e1]
      simp (config := {implicitDefEqProofs := false, maxDischargeDepth := 20}) (disch := first | omega | (simp only [lenE]; done) | (simp only [lenE]; omega) | rfl | (simp only [lenE, markR_len]; done) | (simp only [lenE, markR_len]; omega)) only [runE, mapE, listE, initT_5, initT_6, initT_7, initT_8, resV, oneV, binA, unA, reduceCtorEq, Nat.reduceEqDiff, Nat.reduceAdd, Nat.reduceLT, Nat.reduceLeDiff, Nat.reduceMul, Nat.reduceSub, ↓reduceIte, decide_true, decide_false, Bool.true_eq_false, Bool.false_eq_true, Bool.not_true, Bool.not_false, if_true, if_false, and_true, true_and, memE, celE, w64, Nat.zero_add, Nat.add_zero, Nat.mul_one, putL, and_self, ldn, t1, t2, t3, t7, t8, t9, tm, hlt', hb]
      exact ext_ansV hx.ext rfl

theorem orderCost_rc (m : Mem) (v : Value) (k : Cs) (i j : Nat) (h : CaseA m v k) (hg : Good k) (hij : i < j) (hj : j ≤ k.need.length) :
    RC Try.prog 70 [v, .int .i64 i, .int .i64 j] m (AnsV (.int .i64 (spanF k i j))) := by
  refine rc_of_run mixed ok_impl_orderCost (by simp) (go_start _ _ _ ?_)
  obtain ⟨v1, v2, v3, v4, rfl, h1, h2, h3, h4⟩ := h.ro.ok
  have h8 := hg.n8
  have g0 := hg.ls
  have g1 := hg.lu
  have g2 := hg.lh
  obtain ⟨c1, e1, d1⟩ := (h1.ext [⟨.own, 28, [v1, v2, v3, v4]⟩]).cut (Nat.le_of_lt hij) hj
  simp (config := {implicitDefEqProofs := false, maxDischargeDepth := 20}) (disch := first | omega | (simp only [lenE]; done) | (simp only [lenE]; omega) | rfl | (simp only [lenE, markR_len]; done) | (simp only [lenE, markR_len]; omega)) only [runE, mapE, listE, initT_5, initT_6, initT_7, initT_8, resV, oneV, binA, unA, reduceCtorEq, Nat.reduceEqDiff, Nat.reduceAdd, Nat.reduceLT, Nat.reduceLeDiff, Nat.reduceMul, Nat.reduceSub, ↓reduceIte, decide_true, decide_false, Bool.true_eq_false, Bool.false_eq_true, Bool.not_true, Bool.not_false, if_true, if_false, and_true, true_and, memE, celE, w64, Nat.zero_add, Nat.add_zero, Nat.mul_one, putL, and_self, ldn, c_impl_orderCost, r_impl_orderCost, e1]
  refine callH_rc (sumOf_cut_rc _ _ k.need (b := 20) d1 (by omega) hj (by omega) (by omega) hg.need (by omega)) ?_
  rintro r new ⟨rfl, rfl⟩
  have s0 := sumR_nn (m := 20) (by omega) hg.need (i := i) (j := j) (by omega)
  have s1 := sumR_le8 (m := 20) (by omega) hg.need (i := i) (j := j) (by omega) (by omega)
  by_cases hz : sumR k.need i j = 0
  · have hz' : (sumR k.need i j == 0) = true := by simp [hz]
    simp (config := {implicitDefEqProofs := false, maxDischargeDepth := 20}) (disch := first | omega | (simp only [lenE]; done) | (simp only [lenE]; omega) | rfl | (simp only [lenE, markR_len]; done) | (simp only [lenE, markR_len]; omega)) only [runE, mapE, listE, initT_5, initT_6, initT_7, initT_8, resV, oneV, binA, unA, reduceCtorEq, Nat.reduceEqDiff, Nat.reduceAdd, Nat.reduceLT, Nat.reduceLeDiff, Nat.reduceMul, Nat.reduceSub, ↓reduceIte, decide_true, decide_false, Bool.true_eq_false, Bool.false_eq_true, Bool.not_true, Bool.not_false, if_true, if_false, and_true, true_and, memE, celE, w64, Nat.zero_add, Nat.add_zero, Nat.mul_one, putL, and_self, ldn, hz']
    exact ext_ansV ((Ext.refl m).one _ _) (by rw [spanF_zero k hz])
  · have hz' : (sumR k.need i j == 0) = false := by simp [hz]
    have u0 := getD_bound (m := 9) (by omega) hg.unit i
    have u1 := mul_bound u0.1 u0.2 s0 s1
    have u2 := getD_bound (m := 99) (by omega) hg.setup i
    have i2 := h2.ext [⟨.own, 28, [v1, v2, v3, v4]⟩]
    have i3 := h3.ext [⟨.own, 28, [v1, v2, v3, v4]⟩]
    have i1 := h1.ext [⟨.own, 28, [v1, v2, v3, v4]⟩]
    have i4 := h4.ext [⟨.own, 28, [v1, v2, v3, v4]⟩]
    have so := spanF_order k (Nat.le_of_lt hij) (by omega : 0 < sumR k.need i j)
    simp (config := {implicitDefEqProofs := false, maxDischargeDepth := 20}) (disch := first | omega | (simp only [lenE]; done) | (simp only [lenE]; omega) | rfl | (simp only [lenE, markR_len]; done) | (simp only [lenE, markR_len]; omega)) only [runE, mapE, listE, initT_5, initT_6, initT_7, initT_8, resV, oneV, binA, unA, reduceCtorEq, Nat.reduceEqDiff, Nat.reduceAdd, Nat.reduceLT, Nat.reduceLeDiff, Nat.reduceMul, Nat.reduceSub, ↓reduceIte, decide_true, decide_false, Bool.true_eq_false, Bool.false_eq_true, Bool.not_true, Bool.not_false, if_true, if_false, and_true, true_and, memE, celE, w64, Nat.zero_add, Nat.add_zero, Nat.mul_one, putL, and_self, ldn, hz', i2.at_ i (by omega), i2.ld i (by omega), i3.at_ i (by omega), i3.ld i (by omega)]
    refine loop_inv mixed (fun s => ∃ x : Nat, i ≤ x ∧ x ≤ j ∧ s.t 2 = .int .i64 j ∧ s.t 3 = .pointer (some ⟨m.length, 0, none⟩) ∧ s.t 7 = .int .i64 (sumR k.need x j) ∧ s.t 8 = .int .i64 (k.setup.getD i 0 + k.unit.getD i 0 * sumR k.need i j + holdS k i j x) ∧ s.t 9 = .int .i64 x ∧ s.m = roM m ++ [⟨.own, 28, [v1, v2, v3, v4]⟩]) (fun s => j - (intOf (s.t 9)).toNat)
      ⟨i, Nat.le_refl _, by omega, rfl, rfl, rfl, by rw [holdS_self, Int.add_zero]; rfl, rfl, rfl⟩ ?_
    rintro s ⟨x, hix, hxj, t2, t3, t7, t8, t9, tm⟩
    by_cases hlt : x < j
    · have hlt' : (x : Int) < j := by omega
      have w0 := sumR_h k.need x j
      have w1 := sumR_nn (m := 20) (by omega) hg.need (i := x + 1) (j := j) (by omega)
      have w2 := sumR_le8 (m := 20) (by omega) hg.need (i := x + 1) (j := j) (by omega) (by omega)
      have w3 := getD_bound (m := 9) (by omega) hg.hold x
      have w4 := mul_bound w3.1 w3.2 w1 w2
      have w5 := getD_bound (m := 20) (by omega) hg.need x
      have w6 := holdS_in' hg hix hxj (by omega)
      have w7 : sumR k.need x j - k.need.getD x 0 = sumR k.need (x + 1) j := by omega
      have w8 := holdS_s k (j := j) hix
      simp (config := {implicitDefEqProofs := false, maxDischargeDepth := 20}) (disch := first | omega | (simp only [lenE]; done) | (simp only [lenE]; omega) | rfl | (simp only [lenE, markR_len]; done) | (simp only [lenE, markR_len]; omega)) only [runE, mapE, listE, initT_5, initT_6, initT_7, initT_8, resV, oneV, binA, unA, reduceCtorEq, Nat.reduceEqDiff, Nat.reduceAdd, Nat.reduceLT, Nat.reduceLeDiff, Nat.reduceMul, Nat.reduceSub, ↓reduceIte, decide_true, decide_false, Bool.true_eq_false, Bool.false_eq_true, Bool.not_true, Bool.not_false, if_true, if_false, and_true, true_and, memE, celE, w64, Nat.zero_add, Nat.add_zero, Nat.mul_one, putL, and_self, ldn, t2, t3, t7, t8, t9, tm, hlt', i1.at_ x (by omega), i1.ld x (by omega), i4.at_ x (by omega), i4.ld x (by omega), w7]
      exact ⟨⟨x + 1, by omega, by omega, rfl, by rw [w8]; congr 1; omega, by simp⟩, by simp [intOf]; omega⟩
    · have hlt' : ¬ ((x : Int) < j) := by omega
      have e : x = j := by omega
      subst e
      simp (config := {implicitDefEqProofs := false, maxDischargeDepth := 20}) (disch := first | omega | (simp only [lenE]; done) | (simp only [lenE]; omega) | rfl | (simp only [lenE, markR_len]; done) | (simp only [lenE, markR_len]; omega)) only [runE, mapE, listE, initT_5, initT_6, initT_7, initT_8, resV, oneV, binA, unA, reduceCtorEq, Nat.reduceEqDiff, Nat.reduceAdd, Nat.reduceLT, Nat.reduceLeDiff, Nat.reduceMul, Nat.reduceSub, ↓reduceIte, decide_true, decide_false, Bool.true_eq_false, Bool.false_eq_true, Bool.not_true, Bool.not_false, if_true, if_false, and_true, true_and, memE, celE, w64, Nat.zero_add, Nat.add_zero, Nat.mul_one, putL, and_self, ldn, t2, t3, t7, t8, t9, tm, hlt']
      exact ext_ansV ((Ext.refl m).one _ _) (by rw [so])

def spanOk (k : Cs) (i j : Int) : Bool := k.good && (decide (0 ≤ i) && decide (i ≤ j - 1)) && (decide (1 ≤ j) && decide (j ≤ (k.need.length : Int)))
def spanA (k : Cs) (i j : Int) : Int := if spanOk k i j then spanF k i.toNat j.toNat else 0
theorem spanA_no {k : Cs} {i t : Int} (h : spanOk k i t = false) : spanA k i t = 0 := by unfold spanA; rw [h]; rfl
theorem spanA_yes {k : Cs} {i t : Int} (h : spanOk k i t = true) : spanA k i t = spanF k i.toNat t.toNat := by unfold spanA; rw [h]; rfl

end Go.Proofs.Ytonpeflncnccdaa.Ab
