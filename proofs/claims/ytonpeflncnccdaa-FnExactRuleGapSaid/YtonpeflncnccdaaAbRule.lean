/- Order periods by rules of thumb: RulePeriods. -/
import Derived.Test.YtonpeflncnccdaaAbApp
import Derived.Test.YtonpeflncnccdaaAbSpan
import Derived.Test.YtonpeflncnccdaaRuleMath
namespace Go.Proofs.Ytonpeflncnccdaa.Ab
open Go Go.RowKit
set_option linter.unusedVariables false
set_option linter.unusedSimpArgs false

theorem l2Sum_cut_rc (m : Mem) (v' : Value) (l : List Int) {lo hi : Nat} {b : Int} (h : IntsA m v' (cutL l lo hi)) (h1 : lo ≤ hi) (h2 : hi ≤ l.length) (hb0 : 0 ≤ b) (hb1 : b ≤ 1000000) (hb : ∀ x ∈ l, 0 ≤ x ∧ x ≤ b) (h8 : l.length ≤ 1000) :
    RC Try.prog 60 [v'] m fun r new => r = .int .i64 (sumR l lo hi) ∧ new = [] := by
  have hc := cutL_len h2 (lo := lo)
  have := l2Sum_rc m v' (cutL l lo hi) h fun k hk => by
    rw [hc] at hk
    rw [sumTo_cut h1 h2 k hk]
    have := sumR_in hb0 hb lo k
    have h3 : b * (k : Int) ≤ 1000000 * (k : Int) := Int.mul_le_mul_of_nonneg_right hb1 (by omega)
    omega
  rw [sumTo_cut' h1 h2] at this
  exact this
/-- What keeps the products of the rules small. -/
theorem rule_bounds {k : Cs} (hg : Good k) {i j : Nat} (hij : i < j) (hj : j < k.need.length) :
    (0 ≤ spanF k i j ∧ spanF k i j ≤ 13059) ∧ (0 ≤ spanF k i (j + 1) ∧ spanF k i (j + 1) ≤ 13059) ∧ (0 ≤ sumR k.need i j ∧ sumR k.need i j ≤ 160) ∧ (0 ≤ sumR k.need i (j + 1) ∧ sumR k.need i (j + 1) ≤ 160) ∧ (0 ≤ k.unit.getD i 0 ∧ k.unit.getD i 0 ≤ 9) ∧ (0 ≤ k.setup.getD i 0 ∧ k.setup.getD i 0 ≤ 99) := by
  have h8 := hg.n8
  have a := sumR_nn (m := 20) (by omega) hg.need (i := i) (j := j) (by omega)
  have b := sumR_le8 (m := 20) (by omega) hg.need (i := i) (j := j) (by omega) (by omega)
  have c := sumR_nn (m := 20) (by omega) hg.need (i := i) (j := j + 1) (by omega)
  have d := sumR_le8 (m := 20) (by omega) hg.need (i := i) (j := j + 1) (by omega) (by omega)
  exact ⟨spanF_in hg (by omega) (by omega), spanF_in hg (by omega) (by omega), ⟨a, by omega⟩, ⟨c, by omega⟩, getD_bound (by omega) hg.unit i, getD_bound (by omega) hg.setup i⟩

theorem l3Over_rc (m : Mem) (v : Value) (k : Cs) (rule : Int) (i j : Nat) (h : CaseA m v k) (hg : Good k) (hij : i < j) (hj : j < k.need.length) (hr : 1 ≤ rule ∧ rule ≤ 3) :
    RC Try.prog 68 [v, .int .i64 rule, .int .i64 i, .int .i64 j] m (AnsV (.bool (!goodR k rule i j))) := by
  refine rc_of_run mixed ok_spec_l3Over (by simp) (go_start _ _ _ ?_)
  obtain ⟨v1, v2, v3, v4, rfl, h1, h2, h3, h4⟩ := h.ro.ok
  have hc : CaseA (roM m) (.agg #[v1, v2, v3, v4]) k := ⟨_, _, _, _, rfl, h1, h2, h3, h4⟩
  have h8 := hg.n8
  have g0 := hg.ls
  have g1 := hg.lu
  obtain ⟨⟨b1, b2⟩, ⟨b3, b4⟩, ⟨b5, b6⟩, ⟨b7, b8⟩, ⟨b9, b10⟩, b11, b12⟩ := rule_bounds hg hij hj
  obtain ⟨j1, hj1⟩ : ∃ j1, j1 = j + 1 := ⟨_, rfl⟩
  have ej : (j : Int) + 1 = (j1 : Int) := by omega
  rw [← hj1] at b3 b4 b7 b8
  have eg : goodR k rule i j = (if rule = 1 then decide (spanF k i j1 * ((j : Int) - i) ≤ spanF k i j * ((j1 : Int) - i))
      else if rule = 2 then decide (spanF k i j1 * sumR k.need i j ≤ spanF k i j * sumR k.need i j1)
      else decide (spanF k i j1 - k.setup.getD i 0 - k.unit.getD i 0 * sumR k.need i j1 ≤ k.setup.getD i 0)) := by
    rw [hj1]; unfold goodR; simp
  rw [eg]
  clear eg
  simp (config := {implicitDefEqProofs := false, maxDischargeDepth := 20}) (disch := first | omega | (simp only [lenE]; done) | (simp only [lenE]; omega) | rfl | (simp only [lenE, markR_len]; done) | (simp only [lenE, markR_len]; omega)) only [runE, mapE, listE, initT_5, initT_6, initT_7, initT_8, resV, oneV, binA, unA, reduceCtorEq, Nat.reduceEqDiff, Nat.reduceAdd, Nat.reduceLT, Nat.reduceLeDiff, Nat.reduceMul, Nat.reduceSub, ↓reduceIte, decide_true, decide_false, Bool.true_eq_false, Bool.false_eq_true, Bool.not_true, Bool.not_false, if_true, if_false, and_true, true_and, memE, celE, w64, Nat.zero_add, Nat.add_zero, Nat.mul_one, putL, and_self, ldn, c_spec_l3Over, r_spec_l3Over, ej]
  refine rcallH_rc (l3Span_rc _ _ k i j (hc.ext _) hg hij (by omega)) ?_
  rintro r new ⟨rfl, nr⟩
  simp (config := {implicitDefEqProofs := false, maxDischargeDepth := 20}) (disch := first | omega | (simp only [lenE]; done) | (simp only [lenE]; omega) | rfl | (simp only [lenE, markR_len]; done) | (simp only [lenE, markR_len]; omega)) only [runE, mapE, listE, initT_5, initT_6, initT_7, initT_8, resV, oneV, binA, unA, reduceCtorEq, Nat.reduceEqDiff, Nat.reduceAdd, Nat.reduceLT, Nat.reduceLeDiff, Nat.reduceMul, Nat.reduceSub, ↓reduceIte, decide_true, decide_false, Bool.true_eq_false, Bool.false_eq_true, Bool.not_true, Bool.not_false, if_true, if_false, and_true, true_and, memE, celE, w64, Nat.zero_add, Nat.add_zero, Nat.mul_one, putL, and_self, ldn]
  refine rcallH_rc (l3Span_rc _ _ k i j1 ((hc.ext _).ext _) hg (by omega) (by omega)) ?_
  rintro r new2 ⟨rfl, nr2⟩
  obtain ⟨M0, hM0⟩ : ∃ M0, M0 = roM m ++ [⟨.own, 28, [v1, v2, v3, v4]⟩] ++ new ++ new2 := ⟨_, rfl⟩
  have hx : Grow (roM m ++ [⟨.own, 28, [v1, v2, v3, v4]⟩]) M0 := by rw [hM0]; exact ((Grow.refl _).app nr).app nr2
  obtain ⟨r0, r1, r2, r3, hlM⟩ := hx.box4
  have i1 := hx.intsV h1
  have i2 := hx.intsV h2
  have i3 := hx.intsV h3
  obtain ⟨c1, e1, d1⟩ := i1.cut (Nat.le_of_lt hij) (Nat.le_of_lt hj)
  obtain ⟨c2, e2, d2⟩ := i1.cut (lo := i) (hi := j1) (by omega) (by omega)
  generalize spanF k i j = X at *
  generalize spanF k i j1 = Y at *
  rw [← hM0]
  simp (config := {implicitDefEqProofs := false, maxDischargeDepth := 20}) (disch := first | omega | (simp only [lenE]; done) | (simp only [lenE]; omega) | rfl | (simp only [lenE, markR_len]; done) | (simp only [lenE, markR_len]; omega)) only [runE, mapE, listE, initT_5, initT_6, initT_7, initT_8, resV, oneV, binA, unA, reduceCtorEq, Nat.reduceEqDiff, Nat.reduceAdd, Nat.reduceLT, Nat.reduceLeDiff, Nat.reduceMul, Nat.reduceSub, ↓reduceIte, decide_true, decide_false, Bool.true_eq_false, Bool.false_eq_true, Bool.not_true, Bool.not_false, if_true, if_false, and_true, true_and, memE, celE, w64, Nat.zero_add, Nat.add_zero, Nat.mul_one, putL, and_self, ldn, ej, r0, e1, e2]
  refine rcallH_rc (l2Sum_cut_rc _ _ k.need (b := 20) d1 (by omega) (by omega) (by omega) (by omega) hg.need (by omega)) ?_
  rintro r n3 ⟨rfl, rfl⟩
  simp (config := {implicitDefEqProofs := false, maxDischargeDepth := 20}) (disch := first | omega | (simp only [lenE]; done) | (simp only [lenE]; omega) | rfl | (simp only [lenE, markR_len]; done) | (simp only [lenE, markR_len]; omega)) only [runE, mapE, listE, initT_5, initT_6, initT_7, initT_8, resV, oneV, binA, unA, reduceCtorEq, Nat.reduceEqDiff, Nat.reduceAdd, Nat.reduceLT, Nat.reduceLeDiff, Nat.reduceMul, Nat.reduceSub, ↓reduceIte, decide_true, decide_false, Bool.true_eq_false, Bool.false_eq_true, Bool.not_true, Bool.not_false, if_true, if_false, and_true, true_and, memE, celE, w64, Nat.zero_add, Nat.add_zero, Nat.mul_one, putL, and_self, ldn]
  refine rcallH_rc (l2Sum_cut_rc _ _ k.need (b := 20) d2 (by omega) (by omega) (by omega) (by omega) hg.need (by omega)) ?_
  rintro r n4 ⟨rfl, rfl⟩
  generalize sumR k.need i j = p at *
  generalize sumR k.need i j1 = q at *
  by_cases q1 : rule = 1
  · subst q1
    have m1 := mul_bound b3 b4 (b := (j : Int) - i) (n := 8) (by omega) (by omega)
    have m2 := mul_bound b1 b2 (b := (j1 : Int) - i) (n := 8) (by omega) (by omega)
    simp (config := {implicitDefEqProofs := false, maxDischargeDepth := 20}) (disch := first | omega | (simp only [lenE]; done) | (simp only [lenE]; omega) | rfl | (simp only [lenE, markR_len]; done) | (simp only [lenE, markR_len]; omega)) only [runE, mapE, listE, initT_5, initT_6, initT_7, initT_8, resV, oneV, binA, unA, reduceCtorEq, Nat.reduceEqDiff, Nat.reduceAdd, Nat.reduceLT, Nat.reduceLeDiff, Nat.reduceMul, Nat.reduceSub, ↓reduceIte, decide_true, decide_false, Bool.true_eq_false, Bool.false_eq_true, Bool.not_true, Bool.not_false, if_true, if_false, and_true, true_and, memE, celE, w64, Nat.zero_add, Nat.add_zero, Nat.mul_one, putL, and_self, ldn, ej, beq_self_eq_true, gt_iff_lt]
    refine ext_ansV hx.ext ?_
    by_cases hh : Y * ((j : Int) - i) ≤ X * ((j1 : Int) - i)
    · have : ¬ (X * ((j1 : Int) - i) < Y * ((j : Int) - i)) := by omega
      simp [hh, this]
    · have : (X * ((j1 : Int) - i) < Y * ((j : Int) - i)) := by omega
      simp [hh, this]
  · have q1' : (rule == 1) = false := by simp [q1]
    by_cases q2 : rule = 2
    · subst q2
      have m1 := mul_bound b3 b4 b5 b6
      have m2 := mul_bound b1 b2 b7 b8
      simp (config := {implicitDefEqProofs := false, maxDischargeDepth := 20}) (disch := first | omega | (simp only [lenE]; done) | (simp only [lenE]; omega) | rfl | (simp only [lenE, markR_len]; done) | (simp only [lenE, markR_len]; omega)) only [runE, mapE, listE, initT_5, initT_6, initT_7, initT_8, resV, oneV, binA, unA, reduceCtorEq, Nat.reduceEqDiff, Nat.reduceAdd, Nat.reduceLT, Nat.reduceLeDiff, Nat.reduceMul, Nat.reduceSub, ↓reduceIte, decide_true, decide_false, Bool.true_eq_false, Bool.false_eq_true, Bool.not_true, Bool.not_false, if_true, if_false, and_true, true_and, memE, celE, w64, Nat.zero_add, Nat.add_zero, Nat.mul_one, putL, and_self, ldn, q1', beq_self_eq_true, gt_iff_lt]
      refine ext_ansV hx.ext ?_
      by_cases hh : Y * p ≤ X * q
      · have : ¬ (X * q < Y * p) := by omega
        simp [hh, this]
      · have : X * q < Y * p := by omega
        simp [hh, this]
    · have q2' : (rule == 2) = false := by simp [q2]
      have m1 := mul_bound b9 b10 b7 b8
      rw [if_neg q1, if_neg q2]
      simp (config := {implicitDefEqProofs := false, maxDischargeDepth := 20}) (disch := first | omega | (simp only [lenE]; done) | (simp only [lenE]; omega) | rfl | (simp only [lenE, markR_len]; done) | (simp only [lenE, markR_len]; omega)) only [runE, mapE, listE, initT_5, initT_6, initT_7, initT_8, resV, oneV, binA, unA, reduceCtorEq, Nat.reduceEqDiff, Nat.reduceAdd, Nat.reduceLT, Nat.reduceLeDiff, Nat.reduceMul, Nat.reduceSub, ↓reduceIte, decide_true, decide_false, Bool.true_eq_false, Bool.false_eq_true, Bool.not_true, Bool.not_false, if_true, if_false, and_true, true_and, memE, celE, w64, Nat.zero_add, Nat.add_zero, Nat.mul_one, putL, and_self, ldn, q1', q2', gt_iff_lt, r1, r2, i2.at_ i (by omega), i2.ld i (by omega), i3.at_ i (by omega), i3.ld i (by omega)]
      refine ext_ansV hx.ext ?_
      generalize k.setup.getD i 0 = sU at *
      generalize k.unit.getD i 0 * q = uQ at *
      by_cases hh : Y - sU - uQ ≤ sU
      · have : ¬ (sU < Y - sU - uQ) := by omega
        simp [hh, this]
      · have : sU < Y - sU - uQ := by omega
        simp [hh, this]

theorem l3Rule_rc (m : Mem) (v : Value) (k : Cs) (rule : Int) (h : CaseA m v k) (hg : Good k) (hr : 1 ≤ rule ∧ rule ≤ 3) :
    RC Try.prog 48 [v, .int .i64 rule] m (AnsR m (ruleL k rule)) := by
  refine rc_of_run mixed ok_spec_l3Rule (by simp) (go_start _ _ _ ?_)
  obtain ⟨v1, v2, v3, v4, rfl, h1, h2, h3, h4⟩ := h.ro.ok
  have hc : CaseA (roM m) (.agg #[v1, v2, v3, v4]) k := ⟨_, _, _, _, rfl, h1, h2, h3, h4⟩
  have h8 := hg.n8
  have hlen := ruleP_len k rule k.need.length (needN k 0)
  simp (config := {implicitDefEqProofs := false, maxDischargeDepth := 20}) (disch := first | omega | (simp only [lenE]; done) | (simp only [lenE]; omega) | rfl | (simp only [lenE, markR_len]; done) | (simp only [lenE, markR_len]; omega)) only [runE, mapE, listE, initT_5, initT_6, initT_7, initT_8, resV, oneV, binA, unA, reduceCtorEq, Nat.reduceEqDiff, Nat.reduceAdd, Nat.reduceLT, Nat.reduceLeDiff, Nat.reduceMul, Nat.reduceSub, ↓reduceIte, decide_true, decide_false, Bool.true_eq_false, Bool.false_eq_true, Bool.not_true, Bool.not_false, if_true, if_false, and_true, true_and, memE, celE, w64, Nat.zero_add, Nat.add_zero, Nat.mul_one, putL, and_self, ldn, c_spec_l3Rule, r_spec_l3Rule, bsl_none, h1.len]
  refine loop_inv mixed (fun s => ∃ (i f : Nat) (M : Mem) (id : Nat) (acc : List Int), i ≤ k.need.length ∧ k.need.length ≤ i + f ∧ acc ++ ruleP k rule f (needN k i) = ruleL k rule ∧ s.t 1 = .int .i64 rule ∧ s.t 2 = .pointer (some ⟨m.length, 0, none⟩) ∧ s.t 5 = .slice (some ⟨id, 0, none⟩) acc.length 1 ∧ s.t 6 = .int .i64 k.need.length ∧ s.t 7 = .int .i64 i ∧ s.m = M ∧ Grow (roM m ++ [⟨.own, 28, [v1, v2, v3, v4]⟩]) M ∧ OwnR M id acc ∧ m.length < id) (fun s => k.need.length - (intOf (s.t 7)).toNat)
    ⟨0, k.need.length, _, m.length + 1, [], by omega, by omega, rfl, rfl, rfl, rfl, rfl, rfl, rfl, (Grow.refl _).one _ _, OwnR.end' (l := []) (by simp [roM_len]), by omega⟩ ?_
  rintro s ⟨i, f, M, id, acc, hin, hf, hacc, t1, t2, t5, t6, t7, tm, hx, oh, lid⟩
  obtain ⟨r0, r1, r2, r3, hlM⟩ := hx.box4
  have al : acc.length ≤ 8 := by
    have := congrArg List.length hacc
    rw [List.length_append] at this
    unfold ruleL at this
    omega
  by_cases hlt : i < k.need.length
  · have hlt' : (i : Int) < k.need.length := by omega
    have i1 := hx.intsV h1
    by_cases hz : k.need.getD i 0 = 0
    · have hz' : (k.need.getD i 0 == 0) = true := by rw [hz]; rfl
      simp (config := {implicitDefEqProofs := false, maxDischargeDepth := 20}) (disch := first | omega | (simp only [lenE]; done) | (simp only [lenE]; omega) | rfl | (simp only [lenE, markR_len]; done) | (simp only [lenE, markR_len]; omega)) only [runE, mapE, listE, initT_5, initT_6, initT_7, initT_8, resV, oneV, binA, unA, reduceCtorEq, Nat.reduceEqDiff, Nat.reduceAdd, Nat.reduceLT, Nat.reduceLeDiff, Nat.reduceMul, Nat.reduceSub, ↓reduceIte, decide_true, decide_false, Bool.true_eq_false, Bool.false_eq_true, Bool.not_true, Bool.not_false, if_true, if_false, and_true, true_and, memE, celE, w64, Nat.zero_add, Nat.add_zero, Nat.mul_one, putL, and_self, ldn, t1, t2, t5, t6, t7, tm, hlt', r0, i1.at_ i (by omega), i1.ld i (by omega), hz']
      exact ⟨⟨i + 1, f, M, id, acc, by omega, by omega, by rw [← needN_zero hlt hz]; exact hacc, rfl, by simp, rfl, hx, oh, lid⟩, by simp [intOf]; omega⟩
    · have hz' : (k.need.getD i 0 == 0) = false := by simp only [beq_eq_false_iff_ne]; exact hz
      rw [needN_some hz] at hacc
      obtain ⟨f', rfl⟩ : ∃ f', f = f' + 1 := ⟨f - 1, by omega⟩
      rw [ruleP_go hlt] at hacc
      simp (config := {implicitDefEqProofs := false, maxDischargeDepth := 20}) (disch := first | omega | (simp only [lenE]; done) | (simp only [lenE]; omega) | rfl | (simp only [lenE, markR_len]; done) | (simp only [lenE, markR_len]; omega)) only [runE, mapE, listE, initT_5, initT_6, initT_7, initT_8, resV, oneV, binA, unA, reduceCtorEq, Nat.reduceEqDiff, Nat.reduceAdd, Nat.reduceLT, Nat.reduceLeDiff, Nat.reduceMul, Nat.reduceSub, ↓reduceIte, decide_true, decide_false, Bool.true_eq_false, Bool.false_eq_true, Bool.not_true, Bool.not_false, if_true, if_false, and_true, true_and, memE, celE, w64, Nat.zero_add, Nat.add_zero, Nat.mul_one, putL, and_self, ldn, t1, t2, t5, t6, t7, tm, hlt', r0, i1.at_ i (by omega), i1.ld i (by omega), hz']
      refine loop_inv mixed (fun s => ∃ (j : Nat) (M' : Mem), i < j ∧ j ≤ k.need.length ∧ endN k rule i (i + 1) = endN k rule i j ∧ s.t 1 = .int .i64 rule ∧ s.t 2 = .pointer (some ⟨m.length, 0, none⟩) ∧ s.t 5 = .slice (some ⟨id, 0, none⟩) acc.length 1 ∧ s.t 6 = .int .i64 k.need.length ∧ s.t 7 = .int .i64 i ∧ s.t 8 = .int .i64 j ∧ s.m = M' ∧ Grow M M') (fun s => k.need.length - (intOf (s.t 8)).toNat)
        ⟨i + 1, M, by omega, by omega, rfl, by simp only [put_t, put_t', put_m, putT_t, putT_t', putT_m, init_t, init_m, initT_0, initT_1, initT_2, initT_3, initT_4, initT_5, initT_6, initT_7, initT_8, Nat.reduceEqDiff, ↓reduceIte, t1], by simp only [put_t, put_t', put_m, putT_t, putT_t', putT_m, init_t, init_m, initT_0, initT_1, initT_2, initT_3, initT_4, initT_5, initT_6, initT_7, initT_8, Nat.reduceEqDiff, ↓reduceIte, t2], by simp only [put_t, put_t', put_m, putT_t, putT_t', putT_m, init_t, init_m, initT_0, initT_1, initT_2, initT_3, initT_4, initT_5, initT_6, initT_7, initT_8, Nat.reduceEqDiff, ↓reduceIte, t5], by simp only [put_t, put_t', put_m, putT_t, putT_t', putT_m, init_t, init_m, initT_0, initT_1, initT_2, initT_3, initT_4, initT_5, initT_6, initT_7, initT_8, Nat.reduceEqDiff, ↓reduceIte, t6], by simp only [put_t, put_t', put_m, putT_t, putT_t', putT_m, init_t, init_m, initT_0, initT_1, initT_2, initT_3, initT_4, initT_5, initT_6, initT_7, initT_8, Nat.reduceEqDiff, ↓reduceIte, t7], by simp only [put_t, put_t', put_m, putT_t, putT_t', putT_m, init_t, init_m, initT_0, initT_1, initT_2, initT_3, initT_4, initT_5, initT_6, initT_7, initT_8, Nat.reduceEqDiff, ↓reduceIte]; simp, by simp only [put_t, put_t', put_m, putT_t, putT_t', putT_m, init_t, init_m, initT_0, initT_1, initT_2, initT_3, initT_4, initT_5, initT_6, initT_7, initT_8, Nat.reduceEqDiff, ↓reduceIte, tm], Grow.refl _⟩ ?_
      rintro s2 ⟨j, M', hij, hjn, hend, u1, u2, u5, u6, u7, u8, um, hx'⟩
      have hxx := hx.trans hx'
      obtain ⟨q0, q1, q2, q3, hlM'⟩ := hxx.box4
      have oh' := hx'.own oh
      have ohl := oh'.lt
      have fin : ∀ (M2 : Mem) (hx2 : Grow (roM m ++ [⟨.own, 28, [v1, v2, v3, v4]⟩]) M2) (o2 : OwnR M2 id acc), endN k rule i j = j → True := fun _ _ _ _ => trivial
      by_cases hlt2 : j < k.need.length
      · have hlt2' : (j : Int) < k.need.length := by omega
        simp (config := {implicitDefEqProofs := false, maxDischargeDepth := 20}) (disch := first | omega | (simp only [lenE]; done) | (simp only [lenE]; omega) | rfl | (simp only [lenE, markR_len]; done) | (simp only [lenE, markR_len]; omega)) only [runE, mapE, listE, initT_5, initT_6, initT_7, initT_8, resV, oneV, binA, unA, reduceCtorEq, Nat.reduceEqDiff, Nat.reduceAdd, Nat.reduceLT, Nat.reduceLeDiff, Nat.reduceMul, Nat.reduceSub, ↓reduceIte, decide_true, decide_false, Bool.true_eq_false, Bool.false_eq_true, Bool.not_true, Bool.not_false, if_true, if_false, and_true, true_and, memE, celE, w64, Nat.zero_add, Nat.add_zero, Nat.mul_one, putL, and_self, ldn, u1, u2, u5, u6, u7, u8, um, hlt2', q0, q1, q2, q3]
        refine callH_rc (l3Over_rc _ _ k rule i j (hxx.caseV hc) hg hij hlt2 hr) ?_
        rintro r new ⟨rfl, nr⟩
        cases hgd : goodR k rule i j with
        | true =>
          simp (config := {implicitDefEqProofs := false, maxDischargeDepth := 20}) (disch := first | omega | (simp only [lenE]; done) | (simp only [lenE]; omega) | rfl | (simp only [lenE, markR_len]; done) | (simp only [lenE, markR_len]; omega)) only [runE, mapE, listE, initT_5, initT_6, initT_7, initT_8, resV, oneV, binA, unA, reduceCtorEq, Nat.reduceEqDiff, Nat.reduceAdd, Nat.reduceLT, Nat.reduceLeDiff, Nat.reduceMul, Nat.reduceSub, ↓reduceIte, decide_true, decide_false, Bool.true_eq_false, Bool.false_eq_true, Bool.not_true, Bool.not_false, if_true, if_false, and_true, true_and, memE, celE, w64, Nat.zero_add, Nat.add_zero, Nat.mul_one, putL, and_self, ldn, u1, u2, u5, u6, u7, u8, um]
          exact ⟨⟨j + 1, _, by omega, by omega, by rw [hend, endN_good hlt2 hgd], by simp, rfl, hx'.app nr⟩, by simp [intOf]; omega⟩
        | false =>
          have he := endN_bad (k := k) (rule := rule) (i := i) (j := j) hgd
          rw [hend, he] at hacc
          have ap := fun id2 n => app_genH (M := M' ++ new) (x := (i : Int)) (id2 := id2) (n := n) (oh'.ext new) (by omega)
          simp (config := {implicitDefEqProofs := false, maxDischargeDepth := 20}) (disch := first | omega | (simp only [lenE]; done) | (simp only [lenE]; omega) | rfl | (simp only [lenE, markR_len]; done) | (simp only [lenE, markR_len]; omega)) only [runE, mapE, listE, initT_5, initT_6, initT_7, initT_8, resV, oneV, binA, unA, reduceCtorEq, Nat.reduceEqDiff, Nat.reduceAdd, Nat.reduceLT, Nat.reduceLeDiff, Nat.reduceMul, Nat.reduceSub, ↓reduceIte, decide_true, decide_false, Bool.true_eq_false, Bool.false_eq_true, Bool.not_true, Bool.not_false, if_true, if_false, and_true, true_and, memE, celE, w64, Nat.zero_add, Nat.add_zero, Nat.mul_one, putL, and_self, ldn, u1, u2, u5, u6, u7, u8, um, bsl_one, ap]
          refine ⟨⟨j, f', _, M'.length + new.length + 1, acc ++ [(i : Int)], by omega, by omega, by rw [List.append_assoc]; exact hacc, by rw [List.length_append]; rfl, rfl, rfl, (((hxx.app nr).dead ?_).one _ _).one _ _, ?_, ?_⟩, by simp [intOf]; omega⟩
          · simp [roM_len]; omega
          · exact OwnR.end' (l := acc ++ [(i : Int)]) (by simp)
          · omega
      · have hlt2' : ¬ ((j : Int) < k.need.length) := by omega
        have he := endN_end (k := k) (rule := rule) (i := i) (j := j) (by omega)
        rw [hend, he] at hacc
        have ap := fun id2 n => app_genH (M := M') (x := (i : Int)) (id2 := id2) (n := n) oh' (by omega)
        simp (config := {implicitDefEqProofs := false, maxDischargeDepth := 20}) (disch := first | omega | (simp only [lenE]; done) | (simp only [lenE]; omega) | rfl | (simp only [lenE, markR_len]; done) | (simp only [lenE, markR_len]; omega)) only [runE, mapE, listE, initT_5, initT_6, initT_7, initT_8, resV, oneV, binA, unA, reduceCtorEq, Nat.reduceEqDiff, Nat.reduceAdd, Nat.reduceLT, Nat.reduceLeDiff, Nat.reduceMul, Nat.reduceSub, ↓reduceIte, decide_true, decide_false, Bool.true_eq_false, Bool.false_eq_true, Bool.not_true, Bool.not_false, if_true, if_false, and_true, true_and, memE, celE, w64, Nat.zero_add, Nat.add_zero, Nat.mul_one, putL, and_self, ldn, u1, u2, u5, u6, u7, u8, um, hlt2', bsl_one, ap]
        refine ⟨⟨j, f', _, M'.length + 1, acc ++ [(i : Int)], by omega, by omega, by rw [List.append_assoc]; exact hacc, by rw [List.length_append]; rfl, rfl, rfl, ((hxx.dead ?_).one _ _).one _ _, ?_, ?_⟩, by simp [intOf]; omega⟩
        · simp [roM_len]; omega
        · exact OwnR.end' (l := acc ++ [(i : Int)]) (by simp)
        · omega
  · have hlt' : ¬ ((i : Int) < k.need.length) := by omega
    rw [needN_end (by omega), ruleP_end (by omega), List.append_nil] at hacc
    simp (config := {implicitDefEqProofs := false, maxDischargeDepth := 20}) (disch := first | omega | (simp only [lenE]; done) | (simp only [lenE]; omega) | rfl | (simp only [lenE, markR_len]; done) | (simp only [lenE, markR_len]; omega)) only [runE, mapE, listE, initT_5, initT_6, initT_7, initT_8, resV, oneV, binA, unA, reduceCtorEq, Nat.reduceEqDiff, Nat.reduceAdd, Nat.reduceLT, Nat.reduceLeDiff, Nat.reduceMul, Nat.reduceSub, ↓reduceIte, decide_true, decide_false, Bool.true_eq_false, Bool.false_eq_true, Bool.not_true, Bool.not_false, if_true, if_false, and_true, true_and, memE, celE, w64, Nat.zero_add, Nat.add_zero, Nat.mul_one, putL, and_self, ldn, t1, t2, t5, t6, t7, tm, hlt']
    exact ext_ansR hx.ext (by rw [← hacc]; exact oh) (by omega) (by rw [hacc]) (by rw [← hacc]; omega)

def ruleOk (k : Cs) (rule : Int) : Bool := k.good && (decide (1 ≤ rule) && decide (rule ≤ 3))
def ruleA (k : Cs) (rule : Int) : List Int := if ruleOk k rule then ruleL k rule else []
theorem ruleA_no {k : Cs} {rule : Int} (h : ruleOk k rule = false) : ruleA k rule = [] := by unfold ruleA; rw [h]; rfl
theorem ruleA_yes {k : Cs} {rule : Int} (h : ruleOk k rule = true) : ruleA k rule = ruleL k rule := by unfold ruleA; rw [h]; rfl
theorem specRule_rc (m : Mem) (v : Value) (k : Cs) (rule : Int) (h : CaseA m v k) : RC Try.prog 25 [v, .int .i64 rule] m (AnsL m (ruleA k rule) (ruleOk k rule)) := by
  refine rc_of_run mixed ok_spec_RulePeriods (by simp) (go_start _ _ _ ?_)
  obtain ⟨v1, v2, v3, v4, rfl, h1, h2, h3, h4⟩ := h.ro.ok
  have hc : CaseA (roM m) (.agg #[v1, v2, v3, v4]) k := ⟨_, _, _, _, rfl, h1, h2, h3, h4⟩
  simp (config := {implicitDefEqProofs := false, maxDischargeDepth := 20}) (disch := first | omega | (simp only [lenE]; done) | (simp only [lenE]; omega) | rfl | (simp only [lenE, markR_len]; done) | (simp only [lenE, markR_len]; omega)) only [runE, mapE, listE, initT_5, initT_6, initT_7, initT_8, resV, oneV, binA, unA, reduceCtorEq, Nat.reduceEqDiff, Nat.reduceAdd, Nat.reduceLT, Nat.reduceLeDiff, Nat.reduceMul, Nat.reduceSub, ↓reduceIte, decide_true, decide_false, Bool.true_eq_false, Bool.false_eq_true, Bool.not_true, Bool.not_false, if_true, if_false, and_true, true_and, memE, celE, w64, Nat.zero_add, Nat.add_zero, Nat.mul_one, putL, and_self, ldn, c_spec_RulePeriods, r_spec_RulePeriods]
  refine callH_rc (l2Good_rc _ _ k (hc.ext _)) ?_
  rintro r new ⟨rfl, nr1⟩
  have hx : Grow (roM m ++ [⟨.own, 28, [v1, v2, v3, v4]⟩]) (roM m ++ [⟨.own, 28, [v1, v2, v3, v4]⟩] ++ new) := (Grow.refl _).app nr1
  cases hg : k.good with
  | false =>
    have no : ruleOk k rule = false := by unfold ruleOk; rw [hg]; rfl
    simp (config := {implicitDefEqProofs := false, maxDischargeDepth := 20}) (disch := first | omega | (simp only [lenE]; done) | (simp only [lenE]; omega) | rfl | (simp only [lenE, markR_len]; done) | (simp only [lenE, markR_len]; omega)) only [runE, mapE, listE, initT_5, initT_6, initT_7, initT_8, resV, oneV, binA, unA, reduceCtorEq, Nat.reduceEqDiff, Nat.reduceAdd, Nat.reduceLT, Nat.reduceLeDiff, Nat.reduceMul, Nat.reduceSub, ↓reduceIte, decide_true, decide_false, Bool.true_eq_false, Bool.false_eq_true, Bool.not_true, Bool.not_false, if_true, if_false, and_true, true_and, memE, celE, w64, Nat.zero_add, Nat.add_zero, Nat.mul_one, putL, and_self, ldn, bsl_none]
    rw [no, ruleA_no no]
    refine ext_ansL (hx.ext.one _ _) (OwnR.end' (l := []) ?_) (by omega) rfl (by simp)
    simp only [List.length_append, List.length_cons, List.length_nil, roM_len]
  | true =>
    have gd := good_iff.1 hg
    simp (config := {implicitDefEqProofs := false, maxDischargeDepth := 20}) (disch := first | omega | (simp only [lenE]; done) | (simp only [lenE]; omega) | rfl | (simp only [lenE, markR_len]; done) | (simp only [lenE, markR_len]; omega)) only [runE, mapE, listE, initT_5, initT_6, initT_7, initT_8, resV, oneV, binA, unA, reduceCtorEq, Nat.reduceEqDiff, Nat.reduceAdd, Nat.reduceLT, Nat.reduceLeDiff, Nat.reduceMul, Nat.reduceSub, ↓reduceIte, decide_true, decide_false, Bool.true_eq_false, Bool.false_eq_true, Bool.not_true, Bool.not_false, if_true, if_false, and_true, true_and, memE, celE, w64, Nat.zero_add, Nat.add_zero, Nat.mul_one, putL, and_self, ldn]
    refine callH_rc (l1In_rc _ _ _ _) ?_
    rintro r n2 ⟨rfl, rfl⟩
    cases hd : (decide (1 ≤ rule) && decide (rule ≤ 3)) with
    | false =>
      have no : ruleOk k rule = false := by unfold ruleOk; rw [hd]; simp
      simp (config := {implicitDefEqProofs := false, maxDischargeDepth := 20}) (disch := first | omega | (simp only [lenE]; done) | (simp only [lenE]; omega) | rfl | (simp only [lenE, markR_len]; done) | (simp only [lenE, markR_len]; omega)) only [runE, mapE, listE, initT_5, initT_6, initT_7, initT_8, resV, oneV, binA, unA, reduceCtorEq, Nat.reduceEqDiff, Nat.reduceAdd, Nat.reduceLT, Nat.reduceLeDiff, Nat.reduceMul, Nat.reduceSub, ↓reduceIte, decide_true, decide_false, Bool.true_eq_false, Bool.false_eq_true, Bool.not_true, Bool.not_false, if_true, if_false, and_true, true_and, memE, celE, w64, Nat.zero_add, Nat.add_zero, Nat.mul_one, putL, and_self, ldn, bsl_none]
      rw [no, ruleA_no no]
      refine ext_ansL (hx.ext.one _ _) (OwnR.end' (l := []) ?_) (by omega) rfl (by simp)
      simp only [List.length_append, List.length_cons, List.length_nil, roM_len]
    | true =>
      have yes : ruleOk k rule = true := by unfold ruleOk; rw [hg, hd]; rfl
      rw [yes, ruleA_yes yes]
      simp only [Bool.and_eq_true, decide_eq_true_eq] at hd
      simp (config := {implicitDefEqProofs := false, maxDischargeDepth := 20}) (disch := first | omega | (simp only [lenE]; done) | (simp only [lenE]; omega) | rfl | (simp only [lenE, markR_len]; done) | (simp only [lenE, markR_len]; omega)) only [runE, mapE, listE, initT_5, initT_6, initT_7, initT_8, resV, oneV, binA, unA, reduceCtorEq, Nat.reduceEqDiff, Nat.reduceAdd, Nat.reduceLT, Nat.reduceLeDiff, Nat.reduceMul, Nat.reduceSub, ↓reduceIte, decide_true, decide_false, Bool.true_eq_false, Bool.false_eq_true, Bool.not_true, Bool.not_false, if_true, if_false, and_true, true_and, memE, celE, w64, Nat.zero_add, Nat.add_zero, Nat.mul_one, putL, and_self, ldn]
      refine callH_rc (l3Rule_rc _ _ k rule (hx.caseV hc) gd hd) ?_
      intro r new2 hA
      obtain ⟨id2, fl2, rfl, hge2, hown2, hle2, nr2⟩ := hA.row
      simp only [List.length_append, List.length_cons, List.length_nil, roM_len] at hge2
      simp (config := {implicitDefEqProofs := false, maxDischargeDepth := 20}) (disch := first | omega | (simp only [lenE]; done) | (simp only [lenE]; omega) | rfl | (simp only [lenE, markR_len]; done) | (simp only [lenE, markR_len]; omega)) only [runE, mapE, listE, initT_5, initT_6, initT_7, initT_8, resV, oneV, binA, unA, reduceCtorEq, Nat.reduceEqDiff, Nat.reduceAdd, Nat.reduceLT, Nat.reduceLeDiff, Nat.reduceMul, Nat.reduceSub, ↓reduceIte, decide_true, decide_false, Bool.true_eq_false, Bool.false_eq_true, Bool.not_true, Bool.not_false, if_true, if_false, and_true, true_and, memE, celE, w64, Nat.zero_add, Nat.add_zero, Nat.mul_one, putL, and_self, ldn]
      exact ext_ansL (hx.app nr2).ext hown2 (by omega) rfl (by omega)

theorem needFrom_rc (m : Mem) (v : Value) (k : Cs) (t : Nat) (h : CaseA m v k) (hg : Good k) (ht : t ≤ k.need.length) :
    RC Try.prog 50 [v, .int .i64 t] m (AnsV (.int .i64 (needN k t : Nat))) := by
  refine rc_of_run mixed ok_impl_needFrom (by simp) (go_start _ _ _ ?_)
  obtain ⟨v1, v2, v3, v4, rfl, h1, h2, h3, h4⟩ := h.ro.ok
  have h8 := hg.n8
  have i1 := h1.ext [⟨.own, 28, [v1, v2, v3, v4]⟩]
  simp (config := {implicitDefEqProofs := false, maxDischargeDepth := 20}) (disch := first | omega | (simp only [lenE]; done) | (simp only [lenE]; omega) | rfl | (simp only [lenE, markR_len]; done) | (simp only [lenE, markR_len]; omega)) only [runE, mapE, listE, initT_5, initT_6, initT_7, initT_8, resV, oneV, binA, unA, reduceCtorEq, Nat.reduceEqDiff, Nat.reduceAdd, Nat.reduceLT, Nat.reduceLeDiff, Nat.reduceMul, Nat.reduceSub, ↓reduceIte, decide_true, decide_false, Bool.true_eq_false, Bool.false_eq_true, Bool.not_true, Bool.not_false, if_true, if_false, and_true, true_and, memE, celE, w64, Nat.zero_add, Nat.add_zero, Nat.mul_one, putL, and_self, ldn, c_impl_needFrom, r_impl_needFrom]
  refine loop_inv mixed (fun s => ∃ (x : Nat), x ≤ k.need.length ∧ needN k x = needN k t ∧ s.t 1 = .int .i64 x ∧ s.t 2 = .pointer (some ⟨m.length, 0, none⟩) ∧ s.m = roM m ++ [⟨.own, 28, [v1, v2, v3, v4]⟩]) (fun s => k.need.length - (intOf (s.t 1)).toNat)
    ⟨t, ht, rfl, rfl, rfl, rfl⟩ ?_
  rintro s ⟨x, hx, hn, t1, t2, tm⟩
  by_cases hlt : x < k.need.length
  · have hlt' : (x : Int) < k.need.length := by omega
    by_cases hz : k.need.getD x 0 = 0
    · have hz' : (k.need.getD x 0 == 0) = true := by rw [hz]; rfl
      simp (config := {implicitDefEqProofs := false, maxDischargeDepth := 20}) (disch := first | omega | (simp only [lenE]; done) | (simp only [lenE]; omega) | rfl | (simp only [lenE, markR_len]; done) | (simp only [lenE, markR_len]; omega)) only [runE, mapE, listE, initT_5, initT_6, initT_7, initT_8, resV, oneV, binA, unA, reduceCtorEq, Nat.reduceEqDiff, Nat.reduceAdd, Nat.reduceLT, Nat.reduceLeDiff, Nat.reduceMul, Nat.reduceSub, ↓reduceIte, decide_true, decide_false, Bool.true_eq_false, Bool.false_eq_true, Bool.not_true, Bool.not_false, if_true, if_false, and_true, true_and, memE, celE, w64, Nat.zero_add, Nat.add_zero, Nat.mul_one, putL, and_self, ldn, t1, t2, tm, h1.len, hlt', i1.at_ x (by omega), i1.ld x (by omega), hz']
      exact ⟨⟨x + 1, by omega, by rw [← needN_zero hlt hz]; exact hn, by simp⟩, by simp [intOf]; omega⟩
    · have hz' : (k.need.getD x 0 == 0) = false := by simp only [beq_eq_false_iff_ne]; exact hz
      rw [needN_some hz] at hn
      simp (config := {implicitDefEqProofs := false, maxDischargeDepth := 20}) (disch := first | omega | (simp only [lenE]; done) | (simp only [lenE]; omega) | rfl | (simp only [lenE, markR_len]; done) | (simp only [lenE, markR_len]; omega)) only [runE, mapE, listE, initT_5, initT_6, initT_7, initT_8, resV, oneV, binA, unA, reduceCtorEq, Nat.reduceEqDiff, Nat.reduceAdd, Nat.reduceLT, Nat.reduceLeDiff, Nat.reduceMul, Nat.reduceSub, ↓reduceIte, decide_true, decide_false, Bool.true_eq_false, Bool.false_eq_true, Bool.not_true, Bool.not_false, if_true, if_false, and_true, true_and, memE, celE, w64, Nat.zero_add, Nat.add_zero, Nat.mul_one, putL, and_self, ldn, t1, t2, tm, h1.len, hlt', i1.at_ x (by omega), i1.ld x (by omega), hz']
      exact ext_ansV ((Ext.refl m).one _ _) (by rw [hn])
  · have hlt' : ¬ ((x : Int) < k.need.length) := by omega
    rw [needN_end (by omega)] at hn
    simp (config := {implicitDefEqProofs := false, maxDischargeDepth := 20}) (disch := first | omega | (simp only [lenE]; done) | (simp only [lenE]; omega) | rfl | (simp only [lenE, markR_len]; done) | (simp only [lenE, markR_len]; omega)) only [runE, mapE, listE, initT_5, initT_6, initT_7, initT_8, resV, oneV, binA, unA, reduceCtorEq, Nat.reduceEqDiff, Nat.reduceAdd, Nat.reduceLT, Nat.reduceLeDiff, Nat.reduceMul, Nat.reduceSub, ↓reduceIte, decide_true, decide_false, Bool.true_eq_false, Bool.false_eq_true, Bool.not_true, Bool.not_false, if_true, if_false, and_true, true_and, memE, celE, w64, Nat.zero_add, Nat.add_zero, Nat.mul_one, putL, and_self, ldn, t1, t2, tm, h1.len, hlt']
    exact ext_ansV ((Ext.refl m).one _ _) (by rw [hn])

/-- A box of a Case's fields, anywhere. -/
structure CBox (m : Mem) (cb : Nat) (v1 v2 v3 v4 : Value) (k : Cs) : Prop where
  r0 : rdc m cb 0 = some v1
  r1 : rdc m cb 1 = some v2
  r2 : rdc m cb 2 = some v3
  r3 : rdc m cb 3 = some v4
  h : CaseA m (.agg #[v1, v2, v3, v4]) k
theorem CBox.ro {m : Mem} {cb : Nat} {v1 v2 v3 v4 : Value} {k : Cs} (h : CBox m cb v1 v2 v3 v4 k) : CBox (roM m) cb v1 v2 v3 v4 k :=
  ⟨by rw [rdc_roM]; exact h.r0, by rw [rdc_roM]; exact h.r1, by rw [rdc_roM]; exact h.r2, by rw [rdc_roM]; exact h.r3, h.h.ro⟩
theorem CBox.ints {m : Mem} {cb : Nat} {v1 v2 v3 v4 : Value} {k : Cs} (h : CBox m cb v1 v2 v3 v4 k) : IntsA m v1 k.need ∧ IntsA m v2 k.setup ∧ IntsA m v3 k.unit ∧ IntsA m v4 k.hold := by
  obtain ⟨w1, w2, w3, w4, he, h1, h2, h3, h4⟩ := h.h.ok
  cases he
  exact ⟨h1, h2, h3, h4⟩

theorem noGreater_rc (m : Mem) (cb : Nat) (v1 v2 v3 v4 : Value) (k : Cs) (i j j1 : Nat) (d e : Int) (hb : CBox m cb v1 v2 v3 v4 k) (hg : Good k) (hij : i < j) (hj : j < k.need.length) (hj1 : j1 = j + 1) (d0 : 0 ≤ d) (d1 : d ≤ 200) (e0 : 0 ≤ e) (e1 : e ≤ 200) :
    RC Try.prog 69 [.int .i64 i, .int .i64 j, .int .i64 d, .int .i64 e, .pointer (some ⟨cb, 0, none⟩)] m (AnsV (.bool (decide (spanF k i j1 * d ≤ spanF k i j * e)))) := by
  refine rc_of_run mixed ok_impl_goodBy_1 (by simp) (go_start _ _ _ ?_)
  have hb := hb.ro
  have h8 := hg.n8
  obtain ⟨⟨b1, b2⟩, ⟨b3, b4⟩, -⟩ := rule_bounds hg hij hj
  have ej : (j : Int) + 1 = (j1 : Int) := by omega
  rw [← hj1] at b3 b4
  simp (config := {implicitDefEqProofs := false, maxDischargeDepth := 20}) (disch := first | omega | (simp only [lenE]; done) | (simp only [lenE]; omega) | rfl | (simp only [lenE, markR_len]; done) | (simp only [lenE, markR_len]; omega)) only [runE, mapE, listE, initT_5, initT_6, initT_7, initT_8, resV, oneV, binA, unA, reduceCtorEq, Nat.reduceEqDiff, Nat.reduceAdd, Nat.reduceLT, Nat.reduceLeDiff, Nat.reduceMul, Nat.reduceSub, ↓reduceIte, decide_true, decide_false, Bool.true_eq_false, Bool.false_eq_true, Bool.not_true, Bool.not_false, if_true, if_false, and_true, true_and, memE, celE, w64, Nat.zero_add, Nat.add_zero, Nat.mul_one, putL, and_self, ldn, c_impl_goodBy_1, r_impl_goodBy_1, ej, hb.r0, hb.r1, hb.r2, hb.r3]
  refine rcallH_rc (orderCost_rc _ _ k i j1 hb.h hg (by omega) (by omega)) ?_
  rintro r new ⟨rfl, nr⟩
  simp (config := {implicitDefEqProofs := false, maxDischargeDepth := 20}) (disch := first | omega | (simp only [lenE]; done) | (simp only [lenE]; omega) | rfl | (simp only [lenE, markR_len]; done) | (simp only [lenE, markR_len]; omega)) only [runE, mapE, listE, initT_5, initT_6, initT_7, initT_8, resV, oneV, binA, unA, reduceCtorEq, Nat.reduceEqDiff, Nat.reduceAdd, Nat.reduceLT, Nat.reduceLeDiff, Nat.reduceMul, Nat.reduceSub, ↓reduceIte, decide_true, decide_false, Bool.true_eq_false, Bool.false_eq_true, Bool.not_true, Bool.not_false, if_true, if_false, and_true, true_and, memE, celE, w64, Nat.zero_add, Nat.add_zero, Nat.mul_one, putL, and_self, ldn]
  refine rcallH_rc (orderCost_rc _ _ k i j (hb.h.ext _) hg hij (by omega)) ?_
  rintro r new2 ⟨rfl, nr2⟩
  have m1 := mul_bound b3 b4 d0 d1
  have m2 := mul_bound b1 b2 e0 e1
  simp (config := {implicitDefEqProofs := false, maxDischargeDepth := 20}) (disch := first | omega | (simp only [lenE]; done) | (simp only [lenE]; omega) | rfl | (simp only [lenE, markR_len]; done) | (simp only [lenE, markR_len]; omega)) only [runE, mapE, listE, initT_5, initT_6, initT_7, initT_8, resV, oneV, binA, unA, reduceCtorEq, Nat.reduceEqDiff, Nat.reduceAdd, Nat.reduceLT, Nat.reduceLeDiff, Nat.reduceMul, Nat.reduceSub, ↓reduceIte, decide_true, decide_false, Bool.true_eq_false, Bool.false_eq_true, Bool.not_true, Bool.not_false, if_true, if_false, and_true, true_and, memE, celE, w64, Nat.zero_add, Nat.add_zero, Nat.mul_one, putL, and_self, ldn]
  exact ext_ansV (((Ext.refl m).app nr).app nr2) rfl

/-- A function value that tells whether it is good by a rule to have a period in a span, anywhere behind a memory. -/
def GoodA (A : Mem) (g : FuncId) (cap : Array Value) (k : Cs) (v : Value) (rule : Int) : Prop :=
  ∀ M, (∀ id q w, rdc A id q = some w → rdc M id q = some w) → CaseA M v k → Good k → ∀ i j : Nat, i < j → j < k.need.length →
    RC Try.prog g (.int .i64 i :: .int .i64 j :: cap.toList) M (AnsV (.bool (goodR k rule i j)))
/-- What goodBy answers. -/
def AnsG (m : Mem) (k : Cs) (v : Value) (rule : Int) (r : Value) (new : Mem) : Prop :=
  NoRo new ∧ (((1 ≤ rule ∧ rule ≤ 3) ∧ ∃ g cap, r = .tuple #[.func (.func g) #[] cap, .bool true] ∧ GoodA (roM m ++ new) g cap k v rule) ∨ (¬ (1 ≤ rule ∧ rule ≤ 3) ∧ r = .tuple #[.nilFunc, .bool false]))
theorem ext_ansG {m M : Mem} {k : Cs} {v r : Value} {rule : Int} (h : Ext m M) (hr : (((1 ≤ rule ∧ rule ≤ 3) ∧ ∃ g cap, r = .tuple #[.func (.func g) #[] cap, .bool true] ∧ GoodA M g cap k v rule) ∨ (¬ (1 ≤ rule ∧ rule ≤ 3) ∧ r = .tuple #[.nilFunc, .bool false]))) :
    newQ m (AnsG m k v rule) r M := by
  obtain ⟨n0, rfl, h0⟩ := h
  exact ⟨n0, rfl, h0, h0, hr⟩

theorem goodBy_rc (m : Mem) (v : Value) (k : Cs) (rule : Int) (h : CaseA m v k) :
    RC Try.prog 49 [v, .int .i64 rule] m (AnsG m k v rule) := by
  refine rc_of_run mixed ok_impl_goodBy (by simp) (go_start _ _ _ ?_)
  obtain ⟨v1, v2, v3, v4, rfl, h1, h2, h3, h4⟩ := h.ro.ok
  obtain ⟨A, hA⟩ : ∃ A, A = roM m ++ [⟨.own, 28, [v1, v2, v3, v4]⟩] ++ [⟨.own, 75, [.func (.func 69) #[] #[.pointer (some ⟨m.length, 0, none⟩)]]⟩] := ⟨_, rfl⟩
  have c0 : rdc A m.length 0 = some v1 := by rw [hA]; exact rdc_ext (by rw [rdc_box (roM_len m).symm]; rfl)
  have c1 : rdc A m.length 1 = some v2 := by rw [hA]; exact rdc_ext (by rw [rdc_box (roM_len m).symm]; rfl)
  have c2 : rdc A m.length 2 = some v3 := by rw [hA]; exact rdc_ext (by rw [rdc_box (roM_len m).symm]; rfl)
  have c3 : rdc A m.length 3 = some v4 := by rw [hA]; exact rdc_ext (by rw [rdc_box (roM_len m).symm]; rfl)
  have cf : rdc A (m.length + 1) 0 = some (.func (.func 69) #[] #[.pointer (some ⟨m.length, 0, none⟩)]) := by rw [hA, rdc_box (by simp [roM_len])]; rfl
  have hx : Ext m A := by rw [hA]; exact ((Ext.refl m).one _ _).one _ _
  simp (config := {implicitDefEqProofs := false, maxDischargeDepth := 20}) (disch := first | omega | (simp only [lenE]; done) | (simp only [lenE]; omega) | rfl | (simp only [lenE, markR_len]; done) | (simp only [lenE, markR_len]; omega)) only [runE, mapE, listE, initT_5, initT_6, initT_7, initT_8, resV, oneV, binA, unA, reduceCtorEq, Nat.reduceEqDiff, Nat.reduceAdd, Nat.reduceLT, Nat.reduceLeDiff, Nat.reduceMul, Nat.reduceSub, ↓reduceIte, decide_true, decide_false, Bool.true_eq_false, Bool.false_eq_true, Bool.not_true, Bool.not_false, if_true, if_false, and_true, true_and, memE, celE, w64, Nat.zero_add, Nat.add_zero, Nat.mul_one, putL, and_self, ldn, c_impl_goodBy, r_impl_goodBy]
  rw [← hA]
  by_cases q1 : rule = 1
  · subst q1
    simp (config := {implicitDefEqProofs := false, maxDischargeDepth := 20}) (disch := first | omega | (simp only [lenE]; done) | (simp only [lenE]; omega) | rfl | (simp only [lenE, markR_len]; done) | (simp only [lenE, markR_len]; omega)) only [runE, mapE, listE, initT_5, initT_6, initT_7, initT_8, resV, oneV, binA, unA, reduceCtorEq, Nat.reduceEqDiff, Nat.reduceAdd, Nat.reduceLT, Nat.reduceLeDiff, Nat.reduceMul, Nat.reduceSub, ↓reduceIte, decide_true, decide_false, Bool.true_eq_false, Bool.false_eq_true, Bool.not_true, Bool.not_false, if_true, if_false, and_true, true_and, memE, celE, w64, Nat.zero_add, Nat.add_zero, Nat.mul_one, putL, and_self, ldn, beq_self_eq_true]
    refine ext_ansG hx (.inl ⟨by omega, _, _, rfl, ?_⟩)
    intro M hM hcM hg i j hij hj
    have hb : CBox (roM M) m.length v1 v2 v3 v4 k := CBox.ro ⟨hM _ _ _ c0, hM _ _ _ c1, hM _ _ _ c2, hM _ _ _ c3, hcM⟩
    have cfM := hM _ _ _ cf
    rw [← rdc_roM] at cfM
    have h8 := hg.n8
    refine rc_of_run mixed ok_impl_goodBy_2 (by simp) (go_start _ _ _ ?_)
    simp (config := {implicitDefEqProofs := false, maxDischargeDepth := 20}) (disch := first | omega | (simp only [lenE]; done) | (simp only [lenE]; omega) | rfl | (simp only [lenE, markR_len]; done) | (simp only [lenE, markR_len]; omega)) only [runE, mapE, listE, initT_5, initT_6, initT_7, initT_8, resV, oneV, binA, unA, reduceCtorEq, Nat.reduceEqDiff, Nat.reduceAdd, Nat.reduceLT, Nat.reduceLeDiff, Nat.reduceMul, Nat.reduceSub, ↓reduceIte, decide_true, decide_false, Bool.true_eq_false, Bool.false_eq_true, Bool.not_true, Bool.not_false, if_true, if_false, and_true, true_and, memE, celE, w64, Nat.zero_add, Nat.add_zero, Nat.mul_one, putL, and_self, ldn, c_impl_goodBy_2, r_impl_goodBy_2, cfM]
    refine callH_rc (noGreater_rc _ _ v1 v2 v3 v4 k i j (j + 1) _ _ hb hg hij hj rfl (by omega) (by omega) (by omega) (by omega)) ?_
    rintro r new ⟨rfl, nr⟩
    simp (config := {implicitDefEqProofs := false, maxDischargeDepth := 20}) (disch := first | omega | (simp only [lenE]; done) | (simp only [lenE]; omega) | rfl | (simp only [lenE, markR_len]; done) | (simp only [lenE, markR_len]; omega)) only [runE, mapE, listE, initT_5, initT_6, initT_7, initT_8, resV, oneV, binA, unA, reduceCtorEq, Nat.reduceEqDiff, Nat.reduceAdd, Nat.reduceLT, Nat.reduceLeDiff, Nat.reduceMul, Nat.reduceSub, ↓reduceIte, decide_true, decide_false, Bool.true_eq_false, Bool.false_eq_true, Bool.not_true, Bool.not_false, if_true, if_false, and_true, true_and, memE, celE, w64, Nat.zero_add, Nat.add_zero, Nat.mul_one, putL, and_self, ldn]
    refine ext_ansV ((Ext.refl M).app nr) ?_
    unfold goodR
    rw [if_pos rfl]
  · have q1' : (rule == 1) = false := by simp [q1]
    by_cases q2 : rule = 2
    · subst q2
      simp (config := {implicitDefEqProofs := false, maxDischargeDepth := 20}) (disch := first | omega | (simp only [lenE]; done) | (simp only [lenE]; omega) | rfl | (simp only [lenE, markR_len]; done) | (simp only [lenE, markR_len]; omega)) only [runE, mapE, listE, initT_5, initT_6, initT_7, initT_8, resV, oneV, binA, unA, reduceCtorEq, Nat.reduceEqDiff, Nat.reduceAdd, Nat.reduceLT, Nat.reduceLeDiff, Nat.reduceMul, Nat.reduceSub, ↓reduceIte, decide_true, decide_false, Bool.true_eq_false, Bool.false_eq_true, Bool.not_true, Bool.not_false, if_true, if_false, and_true, true_and, memE, celE, w64, Nat.zero_add, Nat.add_zero, Nat.mul_one, putL, and_self, ldn, q1', beq_self_eq_true]
      refine ext_ansG hx (.inl ⟨by omega, _, _, rfl, ?_⟩)
      intro M hM hcM hg i j hij hj
      have hb : CBox (roM M) m.length v1 v2 v3 v4 k := CBox.ro ⟨hM _ _ _ c0, hM _ _ _ c1, hM _ _ _ c2, hM _ _ _ c3, hcM⟩
      have cfM := hM _ _ _ cf
      rw [← rdc_roM] at cfM
      have h8 := hg.n8
      obtain ⟨⟨b1, b2⟩, ⟨b3, b4⟩, ⟨b5, b6⟩, ⟨b7, b8⟩, ⟨b9, b10⟩, b11, b12⟩ := rule_bounds hg hij hj
      obtain ⟨j1, hj1⟩ : ∃ j1, j1 = j + 1 := ⟨_, rfl⟩
      have ej : (j : Int) + 1 = (j1 : Int) := by omega
      rw [← hj1] at b7 b8
      obtain ⟨i1, -, -, -⟩ := hb.ints
      obtain ⟨p1, e1, d1⟩ := i1.cut (Nat.le_of_lt hij) (Nat.le_of_lt hj)
      obtain ⟨p2, e2, d2⟩ := i1.cut (lo := i) (hi := j1) (by omega) (by omega)
      refine rc_of_run mixed ok_impl_goodBy_3 (by simp) (go_start _ _ _ ?_)
      simp (config := {implicitDefEqProofs := false, maxDischargeDepth := 20}) (disch := first | omega | (simp only [lenE]; done) | (simp only [lenE]; omega) | rfl | (simp only [lenE, markR_len]; done) | (simp only [lenE, markR_len]; omega)) only [runE, mapE, listE, initT_5, initT_6, initT_7, initT_8, resV, oneV, binA, unA, reduceCtorEq, Nat.reduceEqDiff, Nat.reduceAdd, Nat.reduceLT, Nat.reduceLeDiff, Nat.reduceMul, Nat.reduceSub, ↓reduceIte, decide_true, decide_false, Bool.true_eq_false, Bool.false_eq_true, Bool.not_true, Bool.not_false, if_true, if_false, and_true, true_and, memE, celE, w64, Nat.zero_add, Nat.add_zero, Nat.mul_one, putL, and_self, ldn, c_impl_goodBy_3, r_impl_goodBy_3, cfM, ej, hb.r0, e1, e2]
      refine rcallH_rc (sumOf_cut_rc _ _ k.need (b := 20) d1 (by omega) (by omega) (by omega) (by omega) hg.need (by omega)) ?_
      rintro r n3 ⟨rfl, rfl⟩
      simp (config := {implicitDefEqProofs := false, maxDischargeDepth := 20}) (disch := first | omega | (simp only [lenE]; done) | (simp only [lenE]; omega) | rfl | (simp only [lenE, markR_len]; done) | (simp only [lenE, markR_len]; omega)) only [runE, mapE, listE, initT_5, initT_6, initT_7, initT_8, resV, oneV, binA, unA, reduceCtorEq, Nat.reduceEqDiff, Nat.reduceAdd, Nat.reduceLT, Nat.reduceLeDiff, Nat.reduceMul, Nat.reduceSub, ↓reduceIte, decide_true, decide_false, Bool.true_eq_false, Bool.false_eq_true, Bool.not_true, Bool.not_false, if_true, if_false, and_true, true_and, memE, celE, w64, Nat.zero_add, Nat.add_zero, Nat.mul_one, putL, and_self, ldn]
      refine rcallH_rc (sumOf_cut_rc _ _ k.need (b := 20) d2 (by omega) (by omega) (by omega) (by omega) hg.need (by omega)) ?_
      rintro r n4 ⟨rfl, rfl⟩
      simp (config := {implicitDefEqProofs := false, maxDischargeDepth := 20}) (disch := first | omega | (simp only [lenE]; done) | (simp only [lenE]; omega) | rfl | (simp only [lenE, markR_len]; done) | (simp only [lenE, markR_len]; omega)) only [runE, mapE, listE, initT_5, initT_6, initT_7, initT_8, resV, oneV, binA, unA, reduceCtorEq, Nat.reduceEqDiff, Nat.reduceAdd, Nat.reduceLT, Nat.reduceLeDiff, Nat.reduceMul, Nat.reduceSub, ↓reduceIte, decide_true, decide_false, Bool.true_eq_false, Bool.false_eq_true, Bool.not_true, Bool.not_false, if_true, if_false, and_true, true_and, memE, celE, w64, Nat.zero_add, Nat.add_zero, Nat.mul_one, putL, and_self, ldn]
      refine rcallH_rc (noGreater_rc _ _ v1 v2 v3 v4 k i j j1 _ _ hb hg hij hj hj1 (by omega) (by omega) (by omega) (by omega)) ?_
      rintro r new ⟨rfl, nr⟩
      simp (config := {implicitDefEqProofs := false, maxDischargeDepth := 20}) (disch := first | omega | (simp only [lenE]; done) | (simp only [lenE]; omega) | rfl | (simp only [lenE, markR_len]; done) | (simp only [lenE, markR_len]; omega)) only [runE, mapE, listE, initT_5, initT_6, initT_7, initT_8, resV, oneV, binA, unA, reduceCtorEq, Nat.reduceEqDiff, Nat.reduceAdd, Nat.reduceLT, Nat.reduceLeDiff, Nat.reduceMul, Nat.reduceSub, ↓reduceIte, decide_true, decide_false, Bool.true_eq_false, Bool.false_eq_true, Bool.not_true, Bool.not_false, if_true, if_false, and_true, true_and, memE, celE, w64, Nat.zero_add, Nat.add_zero, Nat.mul_one, putL, and_self, ldn]
      refine ext_ansV ((Ext.refl M).app nr) ?_
      unfold goodR
      rw [if_neg (by decide), if_pos rfl, hj1]
    · have q2' : (rule == 2) = false := by simp [q2]
      by_cases q3 : rule = 3
      · subst q3
        simp (config := {implicitDefEqProofs := false, maxDischargeDepth := 20}) (disch := first | omega | (simp only [lenE]; done) | (simp only [lenE]; omega) | rfl | (simp only [lenE, markR_len]; done) | (simp only [lenE, markR_len]; omega)) only [runE, mapE, listE, initT_5, initT_6, initT_7, initT_8, resV, oneV, binA, unA, reduceCtorEq, Nat.reduceEqDiff, Nat.reduceAdd, Nat.reduceLT, Nat.reduceLeDiff, Nat.reduceMul, Nat.reduceSub, ↓reduceIte, decide_true, decide_false, Bool.true_eq_false, Bool.false_eq_true, Bool.not_true, Bool.not_false, if_true, if_false, and_true, true_and, memE, celE, w64, Nat.zero_add, Nat.add_zero, Nat.mul_one, putL, and_self, ldn, q1', q2', beq_self_eq_true]
        refine ext_ansG hx (.inl ⟨by omega, _, _, rfl, ?_⟩)
        intro M hM hcM hg i j hij hj
        have hb : CBox (roM M) m.length v1 v2 v3 v4 k := CBox.ro ⟨hM _ _ _ c0, hM _ _ _ c1, hM _ _ _ c2, hM _ _ _ c3, hcM⟩
        have h8 := hg.n8
        have g0 := hg.ls
        have g1 := hg.lu
        obtain ⟨⟨b1, b2⟩, ⟨b3, b4⟩, ⟨b5, b6⟩, ⟨b7, b8⟩, ⟨b9, b10⟩, b11, b12⟩ := rule_bounds hg hij hj
        obtain ⟨j1, hj1⟩ : ∃ j1, j1 = j + 1 := ⟨_, rfl⟩
        have ej : (j : Int) + 1 = (j1 : Int) := by omega
        rw [← hj1] at b3 b4 b7 b8
        obtain ⟨i1, i2, i3, -⟩ := hb.ints
        obtain ⟨p2, e2, d2⟩ := i1.cut (lo := i) (hi := j1) (by omega) (by omega)
        have m1 := mul_bound b9 b10 b7 b8
        refine rc_of_run mixed ok_impl_goodBy_4 (by simp) (go_start _ _ _ ?_)
        simp (config := {implicitDefEqProofs := false, maxDischargeDepth := 20}) (disch := first | omega | (simp only [lenE]; done) | (simp only [lenE]; omega) | rfl | (simp only [lenE, markR_len]; done) | (simp only [lenE, markR_len]; omega)) only [runE, mapE, listE, initT_5, initT_6, initT_7, initT_8, resV, oneV, binA, unA, reduceCtorEq, Nat.reduceEqDiff, Nat.reduceAdd, Nat.reduceLT, Nat.reduceLeDiff, Nat.reduceMul, Nat.reduceSub, ↓reduceIte, decide_true, decide_false, Bool.true_eq_false, Bool.false_eq_true, Bool.not_true, Bool.not_false, if_true, if_false, and_true, true_and, memE, celE, w64, Nat.zero_add, Nat.add_zero, Nat.mul_one, putL, and_self, ldn, c_impl_goodBy_4, r_impl_goodBy_4, ej, hb.r0, hb.r1, hb.r2, e2, i3.at_ i (by omega), i3.ld i (by omega)]
        refine rcallH_rc (sumOf_cut_rc _ _ k.need (b := 20) d2 (by omega) (by omega) (by omega) (by omega) hg.need (by omega)) ?_
        rintro r n3 ⟨rfl, rfl⟩
        simp (config := {implicitDefEqProofs := false, maxDischargeDepth := 20}) (disch := first | omega | (simp only [lenE]; done) | (simp only [lenE]; omega) | rfl | (simp only [lenE, markR_len]; done) | (simp only [lenE, markR_len]; omega)) only [runE, mapE, listE, initT_5, initT_6, initT_7, initT_8, resV, oneV, binA, unA, reduceCtorEq, Nat.reduceEqDiff, Nat.reduceAdd, Nat.reduceLT, Nat.reduceLeDiff, Nat.reduceMul, Nat.reduceSub, ↓reduceIte, decide_true, decide_false, Bool.true_eq_false, Bool.false_eq_true, Bool.not_true, Bool.not_false, if_true, if_false, and_true, true_and, memE, celE, w64, Nat.zero_add, Nat.add_zero, Nat.mul_one, putL, and_self, ldn, ej, hb.r0, hb.r1, hb.r2, hb.r3, i2.at_ i (by omega), i2.ld i (by omega)]
        refine rcallH_rc (orderCost_rc _ _ k i j1 hb.h hg (by omega) (by omega)) ?_
        rintro r new ⟨rfl, nr⟩
        simp (config := {implicitDefEqProofs := false, maxDischargeDepth := 20}) (disch := first | omega | (simp only [lenE]; done) | (simp only [lenE]; omega) | rfl | (simp only [lenE, markR_len]; done) | (simp only [lenE, markR_len]; omega)) only [runE, mapE, listE, initT_5, initT_6, initT_7, initT_8, resV, oneV, binA, unA, reduceCtorEq, Nat.reduceEqDiff, Nat.reduceAdd, Nat.reduceLT, Nat.reduceLeDiff, Nat.reduceMul, Nat.reduceSub, ↓reduceIte, decide_true, decide_false, Bool.true_eq_false, Bool.false_eq_true, Bool.not_true, Bool.not_false, if_true, if_false, and_true, true_and, memE, celE, w64, Nat.zero_add, Nat.add_zero, Nat.mul_one, putL, and_self, ldn]
        refine ext_ansV ((Ext.refl M).app nr) ?_
        unfold goodR
        rw [if_neg (by decide), if_neg (by decide), hj1]
      · have q3' : (rule == 3) = false := by simp [q3]
        simp (config := {implicitDefEqProofs := false, maxDischargeDepth := 20}) (disch := first | omega | (simp only [lenE]; done) | (simp only [lenE]; omega) | rfl | (simp only [lenE, markR_len]; done) | (simp only [lenE, markR_len]; omega)) only [runE, mapE, listE, initT_5, initT_6, initT_7, initT_8, resV, oneV, binA, unA, reduceCtorEq, Nat.reduceEqDiff, Nat.reduceAdd, Nat.reduceLT, Nat.reduceLeDiff, Nat.reduceMul, Nat.reduceSub, ↓reduceIte, decide_true, decide_false, Bool.true_eq_false, Bool.false_eq_true, Bool.not_true, Bool.not_false, if_true, if_false, and_true, true_and, memE, celE, w64, Nat.zero_add, Nat.add_zero, Nat.mul_one, putL, and_self, ldn, q1', q2', q3']
        exact ext_ansG hx (.inr ⟨by omega, rfl⟩)

theorem rdc_roM_app {m new : Mem} {id k : Nat} {v : Value} (h : rdc (roM m ++ new) id k = some v) : rdc (m ++ new) id k = some v := by
  unfold rdc at *
  by_cases hi : id < m.length
  · rw [List.getElem?_append_left (by rw [roM_len]; exact hi)] at h
    rw [List.getElem?_append_left hi]
    have := rdc_roM m id k
    unfold rdc at this
    rw [← this]; exact h
  · rw [List.getElem?_append_right (by rw [roM_len]; omega), roM_len] at h
    rw [List.getElem?_append_right (by omega)]
    exact h

theorem implRule_rc (m : Mem) (v : Value) (k : Cs) (rule : Int) (h : CaseA m v k) : RC Try.prog 26 [v, .int .i64 rule] m (AnsL m (ruleA k rule) (ruleOk k rule)) := by
  refine rc_of_run mixed ok_impl_RulePeriods (by simp) (go_start _ _ _ ?_)
  obtain ⟨v1, v2, v3, v4, rfl, h1, h2, h3, h4⟩ := h.ro.ok
  have hc : CaseA (roM m) (.agg #[v1, v2, v3, v4]) k := ⟨_, _, _, _, rfl, h1, h2, h3, h4⟩
  simp (config := {implicitDefEqProofs := false, maxDischargeDepth := 20}) (disch := first | omega | (simp only [lenE]; done) | (simp only [lenE]; omega) | rfl | (simp only [lenE, markR_len]; done) | (simp only [lenE, markR_len]; omega)) only [runE, mapE, listE, initT_5, initT_6, initT_7, initT_8, resV, oneV, binA, unA, reduceCtorEq, Nat.reduceEqDiff, Nat.reduceAdd, Nat.reduceLT, Nat.reduceLeDiff, Nat.reduceMul, Nat.reduceSub, ↓reduceIte, decide_true, decide_false, Bool.true_eq_false, Bool.false_eq_true, Bool.not_true, Bool.not_false, if_true, if_false, and_true, true_and, memE, celE, w64, Nat.zero_add, Nat.add_zero, Nat.mul_one, putL, and_self, ldn, c_impl_RulePeriods, r_impl_RulePeriods]
  refine callH_rc (goodBy_rc _ _ k rule (hc.ext _)) ?_
  rintro r new ⟨nr0, hG⟩
  have hx0 : Grow (roM m ++ [⟨.own, 28, [v1, v2, v3, v4]⟩]) (roM m ++ [⟨.own, 28, [v1, v2, v3, v4]⟩] ++ new) := (Grow.refl _).app nr0
  obtain ⟨r0, r1, r2, r3, hlM⟩ := hx0.box4
  have bad : ruleOk k rule = false → ∀ (M : Mem), Grow (roM m ++ [⟨.own, 28, [v1, v2, v3, v4]⟩]) M → ∀ id, id = M.length → newQ m (AnsL m (ruleA k rule) (ruleOk k rule)) (.tuple #[.slice (some ⟨id, 0, none⟩) 0 1, .bool false]) (M ++ [⟨.own, 3, []⟩]) := by
    intro no M hM id hid
    have hl := hM.len
    simp only [List.length_append, List.length_cons, List.length_nil, roM_len] at hl
    rw [no, ruleA_no no]
    exact ext_ansL (hM.ext.one _ _) (OwnR.end' (l := []) hid) (by omega) rfl (by simp)
  rcases hG with ⟨hr, g, cap, rfl, hG⟩ | ⟨hr, rfl⟩
  · simp (config := {implicitDefEqProofs := false, maxDischargeDepth := 20}) (disch := first | omega | (simp only [lenE]; done) | (simp only [lenE]; omega) | rfl | (simp only [lenE, markR_len]; done) | (simp only [lenE, markR_len]; omega)) only [runE, mapE, listE, initT_5, initT_6, initT_7, initT_8, resV, oneV, binA, unA, reduceCtorEq, Nat.reduceEqDiff, Nat.reduceAdd, Nat.reduceLT, Nat.reduceLeDiff, Nat.reduceMul, Nat.reduceSub, ↓reduceIte, decide_true, decide_false, Bool.true_eq_false, Bool.false_eq_true, Bool.not_true, Bool.not_false, if_true, if_false, and_true, true_and, memE, celE, w64, Nat.zero_add, Nat.add_zero, Nat.mul_one, putL, and_self, ldn, ext_2_0, ext_2_1]
    refine callH_rc (implIsCase_rc _ _ k (hx0.caseV hc)) ?_
    rintro r new1 ⟨rfl, nr1⟩
    have hx := hx0.app nr1
    cases hgk : k.good with
    | false =>
      have no : ruleOk k rule = false := by unfold ruleOk; rw [hgk]; rfl
      simp (config := {implicitDefEqProofs := false, maxDischargeDepth := 20}) (disch := first | omega | (simp only [lenE]; done) | (simp only [lenE]; omega) | rfl | (simp only [lenE, markR_len]; done) | (simp only [lenE, markR_len]; omega)) only [runE, mapE, listE, initT_5, initT_6, initT_7, initT_8, resV, oneV, binA, unA, reduceCtorEq, Nat.reduceEqDiff, Nat.reduceAdd, Nat.reduceLT, Nat.reduceLeDiff, Nat.reduceMul, Nat.reduceSub, ↓reduceIte, decide_true, decide_false, Bool.true_eq_false, Bool.false_eq_true, Bool.not_true, Bool.not_false, if_true, if_false, and_true, true_and, memE, celE, w64, Nat.zero_add, Nat.add_zero, Nat.mul_one, putL, and_self, ldn, bsl_none]
      exact bad no _ hx _ (by simp [roM_len]; omega)
    | true =>
      have gd := good_iff.1 hgk
      have h8 := gd.n8
      have yes : ruleOk k rule = true := by unfold ruleOk; rw [hgk]; simp; omega
      rw [yes, ruleA_yes yes]
      have hlen := ruleP_len k rule k.need.length (needN k 0)
      simp (config := {implicitDefEqProofs := false, maxDischargeDepth := 20}) (disch := first | omega | (simp only [lenE]; done) | (simp only [lenE]; omega) | rfl | (simp only [lenE, markR_len]; done) | (simp only [lenE, markR_len]; omega)) only [runE, mapE, listE, initT_5, initT_6, initT_7, initT_8, resV, oneV, binA, unA, reduceCtorEq, Nat.reduceEqDiff, Nat.reduceAdd, Nat.reduceLT, Nat.reduceLeDiff, Nat.reduceMul, Nat.reduceSub, ↓reduceIte, decide_true, decide_false, Bool.true_eq_false, Bool.false_eq_true, Bool.not_true, Bool.not_false, if_true, if_false, and_true, true_and, memE, celE, w64, Nat.zero_add, Nat.add_zero, Nat.mul_one, putL, and_self, ldn, bsl_none]
      obtain ⟨M1, hM1⟩ : ∃ M1, M1 = roM m ++ [⟨.own, 28, [v1, v2, v3, v4]⟩] ++ new ++ new1 ++ [⟨.own, 3, []⟩] := ⟨_, rfl⟩
      have o1 : OwnR M1 (m.length + 1 + new.length + new1.length) [] := by rw [hM1]; exact OwnR.end' (l := []) (by simp [roM_len]; omega)
      have hx1 : Grow (roM m ++ [⟨.own, 28, [v1, v2, v3, v4]⟩]) M1 := by rw [hM1]; exact hx.one _ _
      have hy1 : Grow (roM m ++ [⟨.own, 28, [v1, v2, v3, v4]⟩] ++ new) M1 := by rw [hM1]; exact ((Grow.refl _).app nr1).one _ _
      rw [← hM1]
      obtain ⟨w0, w1, w2, w3, hlM1⟩ := hx1.box4
      refine callH_rc (needFrom_rc _ _ k 0 (hx1.caseV hc) gd (by omega)) ?_
      rintro r new2 ⟨rfl, nr2⟩
      simp (config := {implicitDefEqProofs := false, maxDischargeDepth := 20}) (disch := first | omega | (simp only [lenE]; done) | (simp only [lenE]; omega) | rfl | (simp only [lenE, markR_len]; done) | (simp only [lenE, markR_len]; omega)) only [runE, mapE, listE, initT_5, initT_6, initT_7, initT_8, resV, oneV, binA, unA, reduceCtorEq, Nat.reduceEqDiff, Nat.reduceAdd, Nat.reduceLT, Nat.reduceLeDiff, Nat.reduceMul, Nat.reduceSub, ↓reduceIte, decide_true, decide_false, Bool.true_eq_false, Bool.false_eq_true, Bool.not_true, Bool.not_false, if_true, if_false, and_true, true_and, memE, celE, w64, Nat.zero_add, Nat.add_zero, Nat.mul_one, putL, and_self, ldn]
      refine loop_inv mixed (fun s => ∃ (i f : Nat) (M : Mem) (id : Nat) (acc : List Int), i ≤ k.need.length ∧ k.need.length ≤ i + f ∧ acc ++ ruleP k rule f i = ruleL k rule ∧ s.t 2 = .pointer (some ⟨m.length, 0, none⟩) ∧ s.t 6 = .func (.func g) #[] cap ∧ s.t 8 = .slice (some ⟨id, 0, none⟩) acc.length 1 ∧ s.t 9 = .int .i64 i ∧ s.m = M ∧ Grow (roM m ++ [⟨.own, 28, [v1, v2, v3, v4]⟩] ++ new) M ∧ OwnR M id acc ∧ m.length + 1 + new.length ≤ id) (fun s => k.need.length - (intOf (s.t 9)).toNat)
        ⟨needN k 0, k.need.length, _, m.length + 1 + new.length + new1.length, [], needN_le (by omega), by omega, rfl, rfl, rfl, rfl, rfl, rfl, hy1.app nr2, o1.ext _, by omega⟩ ?_
      rintro s ⟨i, f, M, id, acc, hin, hf, hacc, t2, t6, t8, t9, tm, hy, oh, lid⟩
      have hxM := hx0.trans hy
      obtain ⟨q0, q1, q2, q3, hlM'⟩ := hxM.box4
      have al : acc.length ≤ 8 := by
        have := congrArg List.length hacc
        rw [List.length_append] at this
        unfold ruleL at this
        omega
      have ohl := oh.lt
      by_cases hlt : i < k.need.length
      · have hlt' : (i : Int) < k.need.length := by omega
        obtain ⟨f', rfl⟩ : ∃ f', f = f' + 1 := ⟨f - 1, by omega⟩
        rw [ruleP_go hlt] at hacc
        have ap := fun id2 n => app_genH (M := M) (x := (i : Int)) (id2 := id2) (n := n) oh (by omega)
        simp (config := {implicitDefEqProofs := false, maxDischargeDepth := 20}) (disch := first | omega | (simp only [lenE]; done) | (simp only [lenE]; omega) | rfl | (simp only [lenE, markR_len]; done) | (simp only [lenE, markR_len]; omega)) only [runE, mapE, listE, initT_5, initT_6, initT_7, initT_8, resV, oneV, binA, unA, reduceCtorEq, Nat.reduceEqDiff, Nat.reduceAdd, Nat.reduceLT, Nat.reduceLeDiff, Nat.reduceMul, Nat.reduceSub, ↓reduceIte, decide_true, decide_false, Bool.true_eq_false, Bool.false_eq_true, Bool.not_true, Bool.not_false, if_true, if_false, and_true, true_and, memE, celE, w64, Nat.zero_add, Nat.add_zero, Nat.mul_one, putL, and_self, ldn, t2, t6, t8, t9, tm, q0, (hxM.intsV h1).len, hlt', bsl_one, ap]
        obtain ⟨M2, hM2⟩ : ∃ M2, M2 = M.set id deadB ++ [⟨.own, 3, [.int .i64 i]⟩] ++ [⟨.own, 3, (acc ++ [(i : Int)]).map (Value.int .i64)⟩] := ⟨_, rfl⟩
        have hy2 : Grow (roM m ++ [⟨.own, 28, [v1, v2, v3, v4]⟩] ++ new) M2 := by
          rw [hM2]; exact ((hy.dead (by simp [roM_len]; omega)).one _ _).one _ _
        have o2 : OwnR M2 (M.length + 1) (acc ++ [(i : Int)]) := by rw [hM2]; exact OwnR.end' (l := acc ++ [(i : Int)]) (by simp)
        rw [← hM2]
        refine loop_inv mixed (fun s => ∃ (j : Nat) (M' : Mem), i < j ∧ j ≤ k.need.length ∧ endN k rule i (i + 1) = endN k rule i j ∧ s.t 2 = .pointer (some ⟨m.length, 0, none⟩) ∧ s.t 6 = .func (.func g) #[] cap ∧ s.t 8 = .slice (some ⟨M.length + 1, 0, none⟩) (acc.length + 1) 1 ∧ s.t 9 = .int .i64 i ∧ s.t 10 = .int .i64 j ∧ s.m = M' ∧ Grow M2 M') (fun s => k.need.length - (intOf (s.t 10)).toNat)
          ⟨i + 1, M2, by omega, by omega, rfl, by simp only [put_t, put_t', put_m, putT_t, putT_t', putT_m, init_t, init_m, initT_0, initT_1, initT_2, initT_3, initT_4, initT_5, initT_6, initT_7, initT_8, Nat.reduceEqDiff, ↓reduceIte, t2], by simp only [put_t, put_t', put_m, putT_t, putT_t', putT_m, init_t, init_m, initT_0, initT_1, initT_2, initT_3, initT_4, initT_5, initT_6, initT_7, initT_8, Nat.reduceEqDiff, ↓reduceIte, t6], by simp only [put_t, put_t', put_m, putT_t, putT_t', putT_m, init_t, init_m, initT_0, initT_1, initT_2, initT_3, initT_4, initT_5, initT_6, initT_7, initT_8, Nat.reduceEqDiff, ↓reduceIte], by simp only [put_t, put_t', put_m, putT_t, putT_t', putT_m, init_t, init_m, initT_0, initT_1, initT_2, initT_3, initT_4, initT_5, initT_6, initT_7, initT_8, Nat.reduceEqDiff, ↓reduceIte, t9], by simp only [put_t, put_t', put_m, putT_t, putT_t', putT_m, init_t, init_m, initT_0, initT_1, initT_2, initT_3, initT_4, initT_5, initT_6, initT_7, initT_8, Nat.reduceEqDiff, ↓reduceIte]; simp, by simp only [put_t, put_t', put_m, putT_t, putT_t', putT_m, init_t, init_m, initT_0, initT_1, initT_2, initT_3, initT_4, initT_5, initT_6, initT_7, initT_8, Nat.reduceEqDiff, ↓reduceIte], Grow.refl _⟩ ?_
        rintro s2 ⟨j, M', hij, hjn, hend, u2, u6, u8, u9, u10, um, hx'⟩
        have hy' := hy2.trans hx'
        have hxx := hx0.trans hy'
        obtain ⟨z0, z1, z2, z3, hlz⟩ := hxx.box4
        have oh' := hx'.own o2
        have fin : endN k rule i j = j → ∀ (M3 : Mem) (new3 : Mem), M3 = M' → True := fun _ _ _ _ => trivial
        by_cases hlt2 : j < k.need.length
        · have hlt2' : (j : Int) < k.need.length := by omega
          simp (config := {implicitDefEqProofs := false, maxDischargeDepth := 20}) (disch := first | omega | (simp only [lenE]; done) | (simp only [lenE]; omega) | rfl | (simp only [lenE, markR_len]; done) | (simp only [lenE, markR_len]; omega)) only [runE, mapE, listE, initT_5, initT_6, initT_7, initT_8, resV, oneV, binA, unA, reduceCtorEq, Nat.reduceEqDiff, Nat.reduceAdd, Nat.reduceLT, Nat.reduceLeDiff, Nat.reduceMul, Nat.reduceSub, ↓reduceIte, decide_true, decide_false, Bool.true_eq_false, Bool.false_eq_true, Bool.not_true, Bool.not_false, if_true, if_false, and_true, true_and, memE, celE, w64, Nat.zero_add, Nat.add_zero, Nat.mul_one, putL, and_self, ldn, u2, u6, u8, u9, u10, um, z0, (hxx.intsV h1).len, hlt2']
          refine callH_rc (hG M' (fun a b c hr => hy'.rd (rdc_roM_app hr)) (hxx.caseV hc) gd i j hij hlt2) ?_
          rintro r new4 ⟨rfl, nr4⟩
          cases hgd : goodR k rule i j with
          | true =>
            simp (config := {implicitDefEqProofs := false, maxDischargeDepth := 20}) (disch := first | omega | (simp only [lenE]; done) | (simp only [lenE]; omega) | rfl | (simp only [lenE, markR_len]; done) | (simp only [lenE, markR_len]; omega)) only [runE, mapE, listE, initT_5, initT_6, initT_7, initT_8, resV, oneV, binA, unA, reduceCtorEq, Nat.reduceEqDiff, Nat.reduceAdd, Nat.reduceLT, Nat.reduceLeDiff, Nat.reduceMul, Nat.reduceSub, ↓reduceIte, decide_true, decide_false, Bool.true_eq_false, Bool.false_eq_true, Bool.not_true, Bool.not_false, if_true, if_false, and_true, true_and, memE, celE, w64, Nat.zero_add, Nat.add_zero, Nat.mul_one, putL, and_self, ldn, u2, u6, u8, u9, u10, um]
            exact ⟨⟨j + 1, _, by omega, by omega, by rw [hend, endN_good hlt2 hgd], by simp, rfl, hx'.app nr4⟩, by simp [intOf]; omega⟩
          | false =>
            have he := endN_bad (k := k) (rule := rule) (i := i) (j := j) hgd
            rw [hend, he] at hacc
            simp (config := {implicitDefEqProofs := false, maxDischargeDepth := 20}) (disch := first | omega | (simp only [lenE]; done) | (simp only [lenE]; omega) | rfl | (simp only [lenE, markR_len]; done) | (simp only [lenE, markR_len]; omega)) only [runE, mapE, listE, initT_5, initT_6, initT_7, initT_8, resV, oneV, binA, unA, reduceCtorEq, Nat.reduceEqDiff, Nat.reduceAdd, Nat.reduceLT, Nat.reduceLeDiff, Nat.reduceMul, Nat.reduceSub, ↓reduceIte, decide_true, decide_false, Bool.true_eq_false, Bool.false_eq_true, Bool.not_true, Bool.not_false, if_true, if_false, and_true, true_and, memE, celE, w64, Nat.zero_add, Nat.add_zero, Nat.mul_one, putL, and_self, ldn, u2, u6, u8, u9, u10, um, z0, z1, z2, z3]
            refine callH_rc (needFrom_rc _ _ k j ((hxx.caseV hc).ext _) gd hjn) ?_
            rintro r new5 ⟨rfl, nr5⟩
            have ge := needN_ge k j
            simp (config := {implicitDefEqProofs := false, maxDischargeDepth := 20}) (disch := first | omega | (simp only [lenE]; done) | (simp only [lenE]; omega) | rfl | (simp only [lenE, markR_len]; done) | (simp only [lenE, markR_len]; omega)) only [runE, mapE, listE, initT_5, initT_6, initT_7, initT_8, resV, oneV, binA, unA, reduceCtorEq, Nat.reduceEqDiff, Nat.reduceAdd, Nat.reduceLT, Nat.reduceLeDiff, Nat.reduceMul, Nat.reduceSub, ↓reduceIte, decide_true, decide_false, Bool.true_eq_false, Bool.false_eq_true, Bool.not_true, Bool.not_false, if_true, if_false, and_true, true_and, memE, celE, w64, Nat.zero_add, Nat.add_zero, Nat.mul_one, putL, and_self, ldn, u2, u6, u8, u9, u10, um]
            exact ⟨⟨needN k j, f', _, M.length + 1, acc ++ [(i : Int)], needN_le hjn, by omega, by rw [List.append_assoc]; exact hacc, by rw [List.length_append]; rfl, rfl, rfl, (hy'.app nr4).app nr5, (oh'.ext _).ext _, by omega⟩, by simp [intOf]; omega⟩
        · have hlt2' : ¬ ((j : Int) < k.need.length) := by omega
          have he := endN_end (k := k) (rule := rule) (i := i) (j := j) (by omega)
          rw [hend, he] at hacc
          simp (config := {implicitDefEqProofs := false, maxDischargeDepth := 20}) (disch := first | omega | (simp only [lenE]; done) | (simp only [lenE]; omega) | rfl | (simp only [lenE, markR_len]; done) | (simp only [lenE, markR_len]; omega)) only [runE, mapE, listE, initT_5, initT_6, initT_7, initT_8, resV, oneV, binA, unA, reduceCtorEq, Nat.reduceEqDiff, Nat.reduceAdd, Nat.reduceLT, Nat.reduceLeDiff, Nat.reduceMul, Nat.reduceSub, ↓reduceIte, decide_true, decide_false, Bool.true_eq_false, Bool.false_eq_true, Bool.not_true, Bool.not_false, if_true, if_false, and_true, true_and, memE, celE, w64, Nat.zero_add, Nat.add_zero, Nat.mul_one, putL, and_self, ldn, u2, u6, u8, u9, u10, um, z0, z1, z2, z3, (hxx.intsV h1).len, hlt2']
          refine callH_rc (needFrom_rc _ _ k j (hxx.caseV hc) gd hjn) ?_
          rintro r new5 ⟨rfl, nr5⟩
          have ge := needN_ge k j
          simp (config := {implicitDefEqProofs := false, maxDischargeDepth := 20}) (disch := first | omega | (simp only [lenE]; done) | (simp only [lenE]; omega) | rfl | (simp only [lenE, markR_len]; done) | (simp only [lenE, markR_len]; omega)) only [runE, mapE, listE, initT_5, initT_6, initT_7, initT_8, resV, oneV, binA, unA, reduceCtorEq, Nat.reduceEqDiff, Nat.reduceAdd, Nat.reduceLT, Nat.reduceLeDiff, Nat.reduceMul, Nat.reduceSub, ↓reduceIte, decide_true, decide_false, Bool.true_eq_false, Bool.false_eq_true, Bool.not_true, Bool.not_false, if_true, if_false, and_true, true_and, memE, celE, w64, Nat.zero_add, Nat.add_zero, Nat.mul_one, putL, and_self, ldn, u2, u6, u8, u9, u10, um]
          exact ⟨⟨needN k j, f', _, M.length + 1, acc ++ [(i : Int)], needN_le hjn, by omega, by rw [List.append_assoc]; exact hacc, by rw [List.length_append]; rfl, rfl, rfl, hy'.app nr5, oh'.ext _, by omega⟩, by simp [intOf]; omega⟩
      · have hlt' : ¬ ((i : Int) < k.need.length) := by omega
        rw [ruleP_end (by omega), List.append_nil] at hacc
        simp (config := {implicitDefEqProofs := false, maxDischargeDepth := 20}) (disch := first | omega | (simp only [lenE]; done) | (simp only [lenE]; omega) | rfl | (simp only [lenE, markR_len]; done) | (simp only [lenE, markR_len]; omega)) only [runE, mapE, listE, initT_5, initT_6, initT_7, initT_8, resV, oneV, binA, unA, reduceCtorEq, Nat.reduceEqDiff, Nat.reduceAdd, Nat.reduceLT, Nat.reduceLeDiff, Nat.reduceMul, Nat.reduceSub, ↓reduceIte, decide_true, decide_false, Bool.true_eq_false, Bool.false_eq_true, Bool.not_true, Bool.not_false, if_true, if_false, and_true, true_and, memE, celE, w64, Nat.zero_add, Nat.add_zero, Nat.mul_one, putL, and_self, ldn, t2, t6, t8, t9, tm, q0, (hxM.intsV h1).len, hlt']
        exact ext_ansL hxM.ext (by rw [← hacc]; exact oh) (by omega) (by rw [hacc]) (by rw [← hacc]; omega)
  · have no : ruleOk k rule = false := by unfold ruleOk; simp; omega
    simp (config := {implicitDefEqProofs := false, maxDischargeDepth := 20}) (disch := first | omega | (simp only [lenE]; done) | (simp only [lenE]; omega) | rfl | (simp only [lenE, markR_len]; done) | (simp only [lenE, markR_len]; omega)) only [runE, mapE, listE, initT_5, initT_6, initT_7, initT_8, resV, oneV, binA, unA, reduceCtorEq, Nat.reduceEqDiff, Nat.reduceAdd, Nat.reduceLT, Nat.reduceLeDiff, Nat.reduceMul, Nat.reduceSub, ↓reduceIte, decide_true, decide_false, Bool.true_eq_false, Bool.false_eq_true, Bool.not_true, Bool.not_false, if_true, if_false, and_true, true_and, memE, celE, w64, Nat.zero_add, Nat.add_zero, Nat.mul_one, putL, and_self, ldn, ext_2_0, ext_2_1]
    refine callH_rc (implIsCase_rc _ _ k (hx0.caseV hc)) ?_
    rintro r new1 ⟨rfl, nr1⟩
    cases hgk : k.good with
    | false =>
      simp (config := {implicitDefEqProofs := false, maxDischargeDepth := 20}) (disch := first | omega | (simp only [lenE]; done) | (simp only [lenE]; omega) | rfl | (simp only [lenE, markR_len]; done) | (simp only [lenE, markR_len]; omega)) only [runE, mapE, listE, initT_5, initT_6, initT_7, initT_8, resV, oneV, binA, unA, reduceCtorEq, Nat.reduceEqDiff, Nat.reduceAdd, Nat.reduceLT, Nat.reduceLeDiff, Nat.reduceMul, Nat.reduceSub, ↓reduceIte, decide_true, decide_false, Bool.true_eq_false, Bool.false_eq_true, Bool.not_true, Bool.not_false, if_true, if_false, and_true, true_and, memE, celE, w64, Nat.zero_add, Nat.add_zero, Nat.mul_one, putL, and_self, ldn, bsl_none]
      exact bad no _ (hx0.app nr1) _ (by simp [roM_len]; omega)
    | true =>
      simp (config := {implicitDefEqProofs := false, maxDischargeDepth := 20}) (disch := first | omega | (simp only [lenE]; done) | (simp only [lenE]; omega) | rfl | (simp only [lenE, markR_len]; done) | (simp only [lenE, markR_len]; omega)) only [runE, mapE, listE, initT_5, initT_6, initT_7, initT_8, resV, oneV, binA, unA, reduceCtorEq, Nat.reduceEqDiff, Nat.reduceAdd, Nat.reduceLT, Nat.reduceLeDiff, Nat.reduceMul, Nat.reduceSub, ↓reduceIte, decide_true, decide_false, Bool.true_eq_false, Bool.false_eq_true, Bool.not_true, Bool.not_false, if_true, if_false, and_true, true_and, memE, celE, w64, Nat.zero_add, Nat.add_zero, Nat.mul_one, putL, and_self, ldn, bsl_none]
      exact bad no _ (hx0.app nr1) _ (by simp [roM_len]; omega)
end Go.Proofs.Ytonpeflncnccdaa.Ab
