/- impl.PlanCost. -/
import Derived.Test.YtonpeflncnccdaaAbCost
namespace Go.Proofs.Ytonpeflncnccdaa.Ab
open Go Go.RowKit
set_option linter.unusedVariables false
set_option linter.unusedSimpArgs false

theorem parts_sum (k : Cs) (plan : List Int) : costA k plan = partA cSet k plan + partA cUnit k plan + partA cHold k plan := by
  cases hg : two k plan with
  | false => rw [partA_no _ hg, partA_no _ hg, partA_no _ hg, costA_no hg]; rfl
  | true => rw [partA_yes _ hg, partA_yes _ hg, partA_yes _ hg, costA_yes hg, costOf_def]
theorem parts_bound (k : Cs) (plan : List Int) : (0 ≤ partA cSet k plan ∧ partA cSet k plan ≤ 1000) ∧ (0 ≤ partA cUnit k plan ∧ partA cUnit k plan ≤ 20000) ∧ (-20000 ≤ partA cHold k plan ∧ partA cHold k plan ≤ 200000) := by
  cases hg : two k plan with
  | false => rw [partA_no _ hg, partA_no _ hg, partA_no _ hg]; omega
  | true =>
    obtain ⟨b1, b2, b3⟩ := two_bounds hg
    have h8 := b1.n8
    rw [partA_yes _ hg, partA_yes _ hg, partA_yes _ hg]
    exact cost_bounds b1 b3 plan.length (by omega)
theorem planCost_gen (m : Mem) (v u : Value) (k : Cs) (a b c : Int) (ok : Bool) (h : CaseA m v k)
    (hc : ∀ m' v' u', CaseA m' v' k → u' = u → (∃ x, m' = roM m ++ [x]) → RC Try.prog 77 [v', u'] m' (AnsV (.tuple #[.int .i64 a, .int .i64 b, .int .i64 c, .bool ok])))
    (ha : 0 ≤ a ∧ a ≤ 1000) (hb : 0 ≤ b ∧ b ≤ 20000) (hd : -20000 ≤ c ∧ c ≤ 200000) :
    RC Try.prog 53 [v, u] m (AnsV (.tuple #[.int .i64 (a + b + c), .bool ok])) := by
  refine rc_of_run mixed ok_impl_PlanCost (by simp) (go_start _ _ _ ?_)
  obtain ⟨v1, v2, v3, v4, rfl, h1, h2, h3, h4⟩ := h.ro.ok
  simp (config := {implicitDefEqProofs := false, maxDischargeDepth := 20}) (disch := first | omega | (simp only [lenE]; done) | (simp only [lenE]; omega) | rfl | (simp only [lenE, markR_len]; done) | (simp only [lenE, markR_len]; omega)) only [runE, mapE, listE, initT_5, initT_6, initT_7, initT_8, resV, oneV, binA, unA, reduceCtorEq, Nat.reduceEqDiff, Nat.reduceAdd, Nat.reduceLT, Nat.reduceLeDiff, Nat.reduceMul, Nat.reduceSub, ↓reduceIte, decide_true, decide_false, Bool.true_eq_false, Bool.false_eq_true, Bool.not_true, Bool.not_false, if_true, if_false, and_true, true_and, memE, celE, w64, Nat.zero_add, Nat.add_zero, Nat.mul_one, putL, and_self, ldn, c_impl_PlanCost, r_impl_PlanCost]
  refine callH_rc (hc _ _ u ⟨_, _, _, _, rfl, h1.ext _, h2.ext _, h3.ext _, h4.ext _⟩ rfl ⟨_, rfl⟩) ?_
  rintro r new ⟨rfl, nr1⟩
  simp (config := {implicitDefEqProofs := false, maxDischargeDepth := 20}) (disch := first | omega | (simp only [lenE]; done) | (simp only [lenE]; omega) | rfl | (simp only [lenE, markR_len]; done) | (simp only [lenE, markR_len]; omega)) only [runE, mapE, listE, initT_5, initT_6, initT_7, initT_8, resV, oneV, binA, unA, reduceCtorEq, Nat.reduceEqDiff, Nat.reduceAdd, Nat.reduceLT, Nat.reduceLeDiff, Nat.reduceMul, Nat.reduceSub, ↓reduceIte, decide_true, decide_false, Bool.true_eq_false, Bool.false_eq_true, Bool.not_true, Bool.not_false, if_true, if_false, and_true, true_and, memE, celE, w64, Nat.zero_add, Nat.add_zero, Nat.mul_one, putL, and_self, ldn, ext_4_0, ext_4_1, ext_4_2, ext_4_3]
  exact ext_ansV (((Ext.refl m).one _ _).app nr1) rfl
theorem implPlanCost_rc (m : Mem) (v u : Value) (k : Cs) (plan : List Int) (h : CaseA m v k) (h' : IntsA m u plan) :
    RC Try.prog 53 [v, u] m (AnsV (.tuple #[.int .i64 (costA k plan), .bool (two k plan)])) := by
  obtain ⟨ha, hb, hd⟩ := parts_bound k plan
  rw [parts_sum]
  exact planCost_gen m v u k _ _ _ _ h (fun m' v' u' hv hu hm => by
    obtain ⟨x, rfl⟩ := hm
    subst hu
    exact implCostParts_rc _ _ _ k plan hv (h'.ro.ext _)) ha hb hd
end Go.Proofs.Ytonpeflncnccdaa.Ab
