/- Rates and spans: RateOf, SpanCost. -/
import Derived.Test.YtonpeflncnccdaaAbGrow
import Derived.Test.YtonpeflncnccdaaAbPcost
namespace Go.Proofs.Ytonpeflncnccdaa.Ab
open Go Go.RowKit
set_option linter.unusedVariables false
set_option linter.unusedSimpArgs false

theorem l3Rate_rc (m : Mem) (v : Value) (k : Cs) (i t : Nat) (h : CaseA m v k) (hg : Good k) (hi : i < k.need.length) (hit : i ≤ t) (ht : t ≤ k.need.length) :
    RC Try.prog 79 [v, .int .i64 i, .int .i64 t] m (AnsV (.int .i64 (rateF k i t))) := by
  refine rc_of_run mixed ok_spec_l3Rate (by simp) (go_start _ _ _ ?_)
  obtain ⟨v1, v2, v3, v4, rfl, h1, h2, h3, h4⟩ := h.ro.ok
  have h8 := hg.n8
  have g1 := hg.lu
  have g2 := hg.lh
  simp (config := {implicitDefEqProofs := false, maxDischargeDepth := 20}) (disch := first | omega | (simp only [lenE]; done) | (simp only [lenE]; omega) | rfl | (simp only [lenE, markR_len]; done) | (simp only [lenE, markR_len]; omega)) only [runE, mapE, listE, initT_5, initT_6, initT_7, initT_8, resV, oneV, binA, unA, reduceCtorEq, Nat.reduceEqDiff, Nat.reduceAdd, Nat.reduceLT, Nat.reduceLeDiff, Nat.reduceMul, Nat.reduceSub, ↓reduceIte, decide_true, decide_false, Bool.true_eq_false, Bool.false_eq_true, Bool.not_true, Bool.not_false, if_true, if_false, and_true, true_and, memE, celE, w64, Nat.zero_add, Nat.add_zero, Nat.mul_one, putL, and_self, ldn, c_spec_l3Rate, r_spec_l3Rate, h3.at_ i (by omega), (h3.ext _).ld i (by omega)]
  refine loop_inv mixed (fun s => ∃ x : Nat, i ≤ x ∧ x ≤ t ∧ s.t 2 = .int .i64 t ∧ s.t 3 = .pointer (some ⟨m.length, 0, none⟩) ∧ s.t 7 = .int .i64 (rateF k i x) ∧ s.t 8 = .int .i64 x ∧ s.m = roM m ++ [⟨.own, 28, [v1, v2, v3, v4]⟩]) (fun s => t - (intOf (s.t 8)).toNat)
    ⟨i, Nat.le_refl _, hit, rfl, rfl, by rw [rateF_self]; rfl, rfl, rfl⟩ ?_
  rintro s ⟨x, hix, hxt, t2, t3, t7, t8, tm⟩
  by_cases hlt : x < t
  · have hlt' : (x : Int) < t := by omega
    have b1 := rateF_in hg hix (by omega)
    have b2 := getD_bound (m := 9) (by omega) hg.hold x
    simp (config := {implicitDefEqProofs := false, maxDischargeDepth := 20}) (disch := first | omega | (simp only [lenE]; done) | (simp only [lenE]; omega) | rfl | (simp only [lenE, markR_len]; done) | (simp only [lenE, markR_len]; omega)) only [runE, mapE, listE, initT_5, initT_6, initT_7, initT_8, resV, oneV, binA, unA, reduceCtorEq, Nat.reduceEqDiff, Nat.reduceAdd, Nat.reduceLT, Nat.reduceLeDiff, Nat.reduceMul, Nat.reduceSub, ↓reduceIte, decide_true, decide_false, Bool.true_eq_false, Bool.false_eq_true, Bool.not_true, Bool.not_false, if_true, if_false, and_true, true_and, memE, celE, w64, Nat.zero_add, Nat.add_zero, Nat.mul_one, putL, and_self, ldn, t2, t3, t7, t8, tm, hlt', h4.at_ x (by omega), (h4.ext _).ld x (by omega)]
    exact ⟨⟨x + 1, by omega, by omega, by rw [rateF_s], by simp⟩, by simp [intOf]; omega⟩
  · have hlt' : ¬ ((x : Int) < t) := by omega
    have e : x = t := by omega
    subst e
    simp (config := {implicitDefEqProofs := false, maxDischargeDepth := 20}) (disch := first | omega | (simp only [lenE]; done) | (simp only [lenE]; omega) | rfl | (simp only [lenE, markR_len]; done) | (simp only [lenE, markR_len]; omega)) only [runE, mapE, listE, initT_5, initT_6, initT_7, initT_8, resV, oneV, binA, unA, reduceCtorEq, Nat.reduceEqDiff, Nat.reduceAdd, Nat.reduceLT, Nat.reduceLeDiff, Nat.reduceMul, Nat.reduceSub, ↓reduceIte, decide_true, decide_false, Bool.true_eq_false, Bool.false_eq_true, Bool.not_true, Bool.not_false, if_true, if_false, and_true, true_and, memE, celE, w64, Nat.zero_add, Nat.add_zero, Nat.mul_one, putL, and_self, ldn, t2, t3, t7, t8, tm, hlt']
    exact ext_ansV ((Ext.refl m).one _ _) rfl

theorem rateFrom_rc (m : Mem) (v : Value) (k : Cs) (i t : Nat) (h : CaseA m v k) (hg : Good k) (hi : i < k.need.length) (hit : i ≤ t) (ht : t ≤ k.need.length) :
    RC Try.prog 83 [v, .int .i64 i, .int .i64 t] m (AnsV (.int .i64 (rateF k i t))) := by
  refine rc_of_run mixed ok_impl_rateFrom (by simp) (go_start _ _ _ ?_)
  obtain ⟨v1, v2, v3, v4, rfl, h1, h2, h3, h4⟩ := h.ro.ok
  have h8 := hg.n8
  have g1 := hg.lu
  have g2 := hg.lh
  obtain ⟨c4, e4, d4⟩ := (h4.ext [⟨.own, 28, [v1, v2, v3, v4]⟩]).cut hit (by omega)
  simp (config := {implicitDefEqProofs := false, maxDischargeDepth := 20}) (disch := first | omega | (simp only [lenE]; done) | (simp only [lenE]; omega) | rfl | (simp only [lenE, markR_len]; done) | (simp only [lenE, markR_len]; omega)) only [runE, mapE, listE, initT_5, initT_6, initT_7, initT_8, resV, oneV, binA, unA, reduceCtorEq, Nat.reduceEqDiff, Nat.reduceAdd, Nat.reduceLT, Nat.reduceLeDiff, Nat.reduceMul, Nat.reduceSub, ↓reduceIte, decide_true, decide_false, Bool.true_eq_false, Bool.false_eq_true, Bool.not_true, Bool.not_false, if_true, if_false, and_true, true_and, memE, celE, w64, Nat.zero_add, Nat.add_zero, Nat.mul_one, putL, and_self, ldn, c_impl_rateFrom, r_impl_rateFrom, h3.at_ i (by omega), (h3.ext _).ld i (by omega), e4]
  refine rcallH_rc (sumOf_cut_rc _ _ k.hold (b := 9) d4 hit (by omega) (by omega) (by omega) hg.hold (by omega)) ?_
  rintro r new ⟨rfl, rfl⟩
  have b1 := rateF_in hg hit (by omega)
  unfold rateF at b1
  simp (config := {implicitDefEqProofs := false, maxDischargeDepth := 20}) (disch := first | omega | (simp only [lenE]; done) | (simp only [lenE]; omega) | rfl | (simp only [lenE, markR_len]; done) | (simp only [lenE, markR_len]; omega)) only [runE, mapE, listE, initT_5, initT_6, initT_7, initT_8, resV, oneV, binA, unA, reduceCtorEq, Nat.reduceEqDiff, Nat.reduceAdd, Nat.reduceLT, Nat.reduceLeDiff, Nat.reduceMul, Nat.reduceSub, ↓reduceIte, decide_true, decide_false, Bool.true_eq_false, Bool.false_eq_true, Bool.not_true, Bool.not_false, if_true, if_false, and_true, true_and, memE, celE, w64, Nat.zero_add, Nat.add_zero, Nat.mul_one, putL, and_self, ldn]
  exact ext_ansV ((Ext.refl m).one _ _) rfl

/-- Whether a rate is asked from and to fitting periods. -/
def rateOk (k : Cs) (i t : Int) : Bool := k.good && (decide (0 ≤ i) && decide (i ≤ t)) && (decide (0 ≤ t) && decide (t ≤ (k.need.length : Int) - 1))
def rateA (k : Cs) (i t : Int) : Int := if rateOk k i t then rateF k i.toNat t.toNat else 0
theorem rateA_no {k : Cs} {i t : Int} (h : rateOk k i t = false) : rateA k i t = 0 := by unfold rateA; rw [h]; rfl
theorem rateA_yes {k : Cs} {i t : Int} (h : rateOk k i t = true) : rateA k i t = rateF k i.toNat t.toNat := by unfold rateA; rw [h]; rfl

end Go.Proofs.Ytonpeflncnccdaa.Ab
