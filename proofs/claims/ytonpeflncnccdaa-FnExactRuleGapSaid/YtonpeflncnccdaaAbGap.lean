/- RuleGap: the model's side; the program's side from PlanFrom's contract. -/
import Derived.Test.YtonpeflncnccdaaAbRule
import Derived.Test.YtonpeflncnccdaaAbBack
import Derived.Test.YtonpeflncnccdaaAbLots
import Derived.Test.YtonpeflncnccdaaGapMath
namespace Go.Proofs.Ytonpeflncnccdaa.Ab
open Go Go.RowKit
set_option linter.unusedVariables false
set_option linter.unusedSimpArgs false

/-- How much more a rule's plan costs than the best one. -/
def gapA (k : Cs) (rule : Int) : Int := if ruleOk k rule then costOf k (fromL k.need (ruleL k rule)) - bestCost k else 0
theorem gapA_no {k : Cs} {rule : Int} (h : ruleOk k rule = false) : gapA k rule = 0 := by unfold gapA; rw [h]; rfl
theorem gapA_yes {k : Cs} {rule : Int} (h : ruleOk k rule = true) : gapA k rule = costOf k (fromL k.need (ruleL k rule)) - bestCost k := by unfold gapA; rw [h]; rfl
theorem gap_in {k : Cs} (hg : Good k) (rule : Int) : (0 ≤ costOf k (fromL k.need (ruleL k rule)) ∧ costOf k (fromL k.need (ruleL k rule)) ≤ 104472) ∧ 0 ≤ bestCost k ∧ bestCost k ≤ 13059 := by
  have h8 := hg.n8
  rw [fromL_cost hg (ruleL_rising k rule).1 (ruleL_covers hg rule), ← bwd_best hg]
  exact ⟨costL_in hg (ruleL_rising k rule).1, getD_bound (by omega) (bwdF_in hg _ _ (Nat.le_refl _) h8) 0⟩
theorem specGap_rc (m : Mem) (v : Value) (k : Cs) (rule : Int) (h : CaseA m v k) : RC Try.prog 27 [v, .int .i64 rule] m (AnsV (.tuple #[.int .i64 (gapA k rule), .bool (ruleOk k rule)])) := by
  refine rc_of_run mixed ok_spec_RuleGap (by simp) (go_start _ _ _ ?_)
  obtain ⟨v1, v2, v3, v4, rfl, h1, h2, h3, h4⟩ := h.ro.ok
  have hc : CaseA (roM m) (.agg #[v1, v2, v3, v4]) k := ⟨_, _, _, _, rfl, h1, h2, h3, h4⟩
  simp (config := {implicitDefEqProofs := false, maxDischargeDepth := 20}) (disch := first | omega | (simp only [lenE]; done) | (simp only [lenE]; omega) | rfl | (simp only [lenE, markR_len]; done) | (simp only [lenE, markR_len]; omega)) only [runE, mapE, listE, initT_5, initT_6, initT_7, initT_8, resV, oneV, binA, unA, reduceCtorEq, Nat.reduceEqDiff, Nat.reduceAdd, Nat.reduceLT, Nat.reduceLeDiff, Nat.reduceMul, Nat.reduceSub, ↓reduceIte, decide_true, decide_false, Bool.true_eq_false, Bool.false_eq_true, Bool.not_true, Bool.not_false, if_true, if_false, and_true, true_and, memE, celE, w64, Nat.zero_add, Nat.add_zero, Nat.mul_one, putL, and_self, ldn, c_spec_RuleGap, r_spec_RuleGap]
  refine callH_rc (l2Good_rc _ _ k (hc.ext _)) ?_
  rintro r new ⟨rfl, nr1⟩
  have hx : Grow (roM m ++ [⟨.own, 28, [v1, v2, v3, v4]⟩]) (roM m ++ [⟨.own, 28, [v1, v2, v3, v4]⟩] ++ new) := (Grow.refl _).app nr1
  cases hg : k.good with
  | false =>
    have e : ruleOk k rule = false := by unfold ruleOk; rw [hg]; rfl
    simp (config := {implicitDefEqProofs := false, maxDischargeDepth := 20}) (disch := first | omega | (simp only [lenE]; done) | (simp only [lenE]; omega) | rfl | (simp only [lenE, markR_len]; done) | (simp only [lenE, markR_len]; omega)) only [runE, mapE, listE, initT_5, initT_6, initT_7, initT_8, resV, oneV, binA, unA, reduceCtorEq, Nat.reduceEqDiff, Nat.reduceAdd, Nat.reduceLT, Nat.reduceLeDiff, Nat.reduceMul, Nat.reduceSub, ↓reduceIte, decide_true, decide_false, Bool.true_eq_false, Bool.false_eq_true, Bool.not_true, Bool.not_false, if_true, if_false, and_true, true_and, memE, celE, w64, Nat.zero_add, Nat.add_zero, Nat.mul_one, putL, and_self, ldn, goG_undef]
    rw [e, gapA_no e]
    exact ext_ansV hx.ext rfl
  | true =>
    have gd := good_iff.1 hg
    have h8 := gd.n8
    simp (config := {implicitDefEqProofs := false, maxDischargeDepth := 20}) (disch := first | omega | (simp only [lenE]; done) | (simp only [lenE]; omega) | rfl | (simp only [lenE, markR_len]; done) | (simp only [lenE, markR_len]; omega)) only [runE, mapE, listE, initT_5, initT_6, initT_7, initT_8, resV, oneV, binA, unA, reduceCtorEq, Nat.reduceEqDiff, Nat.reduceAdd, Nat.reduceLT, Nat.reduceLeDiff, Nat.reduceMul, Nat.reduceSub, ↓reduceIte, decide_true, decide_false, Bool.true_eq_false, Bool.false_eq_true, Bool.not_true, Bool.not_false, if_true, if_false, and_true, true_and, memE, celE, w64, Nat.zero_add, Nat.add_zero, Nat.mul_one, putL, and_self, ldn]
    refine callH_rc (l1In_rc _ rule 1 3) ?_
    rintro r new2 ⟨rfl, rfl⟩
    cases hr : (decide (1 ≤ rule) && decide (rule ≤ 3)) with
    | false =>
      have e : ruleOk k rule = false := by unfold ruleOk; rw [hr]; simp
      simp (config := {implicitDefEqProofs := false, maxDischargeDepth := 20}) (disch := first | omega | (simp only [lenE]; done) | (simp only [lenE]; omega) | rfl | (simp only [lenE, markR_len]; done) | (simp only [lenE, markR_len]; omega)) only [runE, mapE, listE, initT_5, initT_6, initT_7, initT_8, resV, oneV, binA, unA, reduceCtorEq, Nat.reduceEqDiff, Nat.reduceAdd, Nat.reduceLT, Nat.reduceLeDiff, Nat.reduceMul, Nat.reduceSub, ↓reduceIte, decide_true, decide_false, Bool.true_eq_false, Bool.false_eq_true, Bool.not_true, Bool.not_false, if_true, if_false, and_true, true_and, memE, celE, w64, Nat.zero_add, Nat.add_zero, Nat.mul_one, putL, and_self, ldn]
      rw [e, gapA_no e]
      exact ext_ansV hx.ext rfl
    | true =>
      have e : ruleOk k rule = true := by unfold ruleOk; rw [hg, hr]; rfl
      have hd : 1 ≤ rule ∧ rule ≤ 3 := by simpa using hr
      obtain ⟨rr, -⟩ := ruleL_rising k rule
      have rl := ruleP_len k rule k.need.length (needN k 0)
      have gi := gap_in gd rule
      have bb := bwd_best gd
      rw [e, gapA_yes e]
      obtain ⟨M1, hM1⟩ : ∃ M1, M1 = roM m ++ [⟨.own, 28, [v1, v2, v3, v4]⟩] ++ new := ⟨_, rfl⟩
      rw [← hM1] at hx
      obtain ⟨q0, q1, q2, q3, hlM⟩ := hx.box4
      simp (config := {implicitDefEqProofs := false, maxDischargeDepth := 20}) (disch := first | omega | (simp only [lenE]; done) | (simp only [lenE]; omega) | rfl | (simp only [lenE, markR_len]; done) | (simp only [lenE, markR_len]; omega)) only [runE, mapE, listE, initT_5, initT_6, initT_7, initT_8, resV, oneV, binA, unA, reduceCtorEq, Nat.reduceEqDiff, Nat.reduceAdd, Nat.reduceLT, Nat.reduceLeDiff, Nat.reduceMul, Nat.reduceSub, ↓reduceIte, decide_true, decide_false, Bool.true_eq_false, Bool.false_eq_true, Bool.not_true, Bool.not_false, if_true, if_false, and_true, true_and, memE, celE, w64, Nat.zero_add, Nat.add_zero, Nat.mul_one, putL, and_self, ldn]
      simp only [← hM1]
      refine rcallH_rc (l3Rule_rc _ _ k rule (hx.caseV hc) gd hd) ?_
      intro r new3 hA
      obtain ⟨id, fl, rfl, hge, ho, hle, nr3⟩ := hA.row
      have hx3 := hx.app nr3
      simp (config := {implicitDefEqProofs := false, maxDischargeDepth := 20}) (disch := first | omega | (simp only [lenE]; done) | (simp only [lenE]; omega) | rfl | (simp only [lenE, markR_len]; done) | (simp only [lenE, markR_len]; omega)) only [runE, mapE, listE, initT_5, initT_6, initT_7, initT_8, resV, oneV, binA, unA, reduceCtorEq, Nat.reduceEqDiff, Nat.reduceAdd, Nat.reduceLT, Nat.reduceLeDiff, Nat.reduceMul, Nat.reduceSub, ↓reduceIte, decide_true, decide_false, Bool.true_eq_false, Bool.false_eq_true, Bool.not_true, Bool.not_false, if_true, if_false, and_true, true_and, memE, celE, w64, Nat.zero_add, Nat.add_zero, Nat.mul_one, putL, and_self, ldn]
      refine rcallH_rc (l2From_rc _ _ _ k (ruleL k rule) (hx3.caseV hc) (ho.ints (by omega) fl) gd rr hle) ?_
      intro r new4 hA4
      obtain ⟨pid, pf, rfl, pge, oP, ple, nr4⟩ := hA4.row
      have hx4 := hx3.app nr4
      simp (config := {implicitDefEqProofs := false, maxDischargeDepth := 20}) (disch := first | omega | (simp only [lenE]; done) | (simp only [lenE]; omega) | rfl | (simp only [lenE, markR_len]; done) | (simp only [lenE, markR_len]; omega)) only [runE, mapE, listE, initT_5, initT_6, initT_7, initT_8, resV, oneV, binA, unA, reduceCtorEq, Nat.reduceEqDiff, Nat.reduceAdd, Nat.reduceLT, Nat.reduceLeDiff, Nat.reduceMul, Nat.reduceSub, ↓reduceIte, decide_true, decide_false, Bool.true_eq_false, Bool.false_eq_true, Bool.not_true, Bool.not_false, if_true, if_false, and_true, true_and, memE, celE, w64, Nat.zero_add, Nat.add_zero, Nat.mul_one, putL, and_self, ldn]
      refine rcallH_rc (l2Cost_rc _ _ _ k (fromL k.need (ruleL k rule)) (hx4.caseV hc) (oP.ints (by omega) pf) gd (fromL_len _ _) (fromL_in gd.need gd.n8 rr)) ?_
      rintro r new5 ⟨rfl, nr5⟩
      have hx5 := hx4.app nr5
      simp (config := {implicitDefEqProofs := false, maxDischargeDepth := 20}) (disch := first | omega | (simp only [lenE]; done) | (simp only [lenE]; omega) | rfl | (simp only [lenE, markR_len]; done) | (simp only [lenE, markR_len]; omega)) only [runE, mapE, listE, initT_5, initT_6, initT_7, initT_8, resV, oneV, binA, unA, reduceCtorEq, Nat.reduceEqDiff, Nat.reduceAdd, Nat.reduceLT, Nat.reduceLeDiff, Nat.reduceMul, Nat.reduceSub, ↓reduceIte, decide_true, decide_false, Bool.true_eq_false, Bool.false_eq_true, Bool.not_true, Bool.not_false, if_true, if_false, and_true, true_and, memE, celE, w64, Nat.zero_add, Nat.add_zero, Nat.mul_one, putL, and_self, ldn]
      refine rcallH_rc (l3Backward_rc _ _ k (hx5.caseV hc) gd) ?_
      intro r new6 hA6
      obtain ⟨bid, bf, rfl, bge, oB, ble, nr6⟩ := hA6.row
      have iB := oB.ints (by omega) bf
      have hbl : 0 < (bwdL k).length := by unfold bwdL; rw [bwdF_len]; omega
      have ab : iadA 1 (.slice (some ⟨bid, 0, none⟩) (bwdL k).length bf) (.int .i64 0) = some (pAt (.slice (some ⟨bid, 0, none⟩) (bwdL k).length bf) 0) := iB.at_ 0 hbl
      have lb := iB.ld 0 hbl
      rw [bb] at lb
      simp (config := {implicitDefEqProofs := false, maxDischargeDepth := 20}) (disch := first | omega | (simp only [lenE]; done) | (simp only [lenE]; omega) | rfl | (simp only [lenE, markR_len]; done) | (simp only [lenE, markR_len]; omega)) only [runE, mapE, listE, initT_5, initT_6, initT_7, initT_8, resV, oneV, binA, unA, reduceCtorEq, Nat.reduceEqDiff, Nat.reduceAdd, Nat.reduceLT, Nat.reduceLeDiff, Nat.reduceMul, Nat.reduceSub, ↓reduceIte, decide_true, decide_false, Bool.true_eq_false, Bool.false_eq_true, Bool.not_true, Bool.not_false, if_true, if_false, and_true, true_and, memE, celE, w64, Nat.zero_add, Nat.add_zero, Nat.mul_one, putL, and_self, ldn, ab, lb]
      exact ext_ansV (hx5.app nr6).ext rfl

theorem implGap_of (hPF : ∀ (m : Mem) (v u : Value) (k : Cs) (ps : List Int), CaseA m v k → IntsA m u ps → ps.length ≤ 1048576 → RC Try.prog 24 [v, u] m (AnsL m (fromA k ps) (fromOk k ps)))
    (m : Mem) (v : Value) (k : Cs) (rule : Int) (h : CaseA m v k) : RC Try.prog 28 [v, .int .i64 rule] m (AnsV (.tuple #[.int .i64 (gapA k rule), .bool (ruleOk k rule)])) := by
  refine rc_of_run mixed ok_impl_RuleGap (by simp) (go_start _ _ _ ?_)
  obtain ⟨v1, v2, v3, v4, rfl, h1, h2, h3, h4⟩ := h.ro.ok
  have hc : CaseA (roM m) (.agg #[v1, v2, v3, v4]) k := ⟨_, _, _, _, rfl, h1, h2, h3, h4⟩
  simp (config := {implicitDefEqProofs := false, maxDischargeDepth := 20}) (disch := first | omega | (simp only [lenE]; done) | (simp only [lenE]; omega) | rfl | (simp only [lenE, markR_len]; done) | (simp only [lenE, markR_len]; omega)) only [runE, mapE, listE, initT_5, initT_6, initT_7, initT_8, resV, oneV, binA, unA, reduceCtorEq, Nat.reduceEqDiff, Nat.reduceAdd, Nat.reduceLT, Nat.reduceLeDiff, Nat.reduceMul, Nat.reduceSub, ↓reduceIte, decide_true, decide_false, Bool.true_eq_false, Bool.false_eq_true, Bool.not_true, Bool.not_false, if_true, if_false, and_true, true_and, memE, celE, w64, Nat.zero_add, Nat.add_zero, Nat.mul_one, putL, and_self, ldn, c_impl_RuleGap, r_impl_RuleGap]
  refine callH_rc (implRule_rc _ _ k rule (hc.ext _)) ?_
  intro r new hA
  obtain ⟨id, fl, rfl, hge, ho, hle, nr1⟩ := hA.row
  have hx : Grow (roM m ++ [⟨.own, 28, [v1, v2, v3, v4]⟩]) (roM m ++ [⟨.own, 28, [v1, v2, v3, v4]⟩] ++ new) := (Grow.refl _).app nr1
  cases hr : ruleOk k rule with
  | false =>
    simp (config := {implicitDefEqProofs := false, maxDischargeDepth := 20}) (disch := first | omega | (simp only [lenE]; done) | (simp only [lenE]; omega) | rfl | (simp only [lenE, markR_len]; done) | (simp only [lenE, markR_len]; omega)) only [runE, mapE, listE, initT_5, initT_6, initT_7, initT_8, resV, oneV, binA, unA, reduceCtorEq, Nat.reduceEqDiff, Nat.reduceAdd, Nat.reduceLT, Nat.reduceLeDiff, Nat.reduceMul, Nat.reduceSub, ↓reduceIte, decide_true, decide_false, Bool.true_eq_false, Bool.false_eq_true, Bool.not_true, Bool.not_false, if_true, if_false, and_true, true_and, memE, celE, w64, Nat.zero_add, Nat.add_zero, Nat.mul_one, putL, and_self, ldn, ext_2_0, ext_2_1]
    rw [gapA_no hr]
    exact ext_ansV hx.ext rfl
  | true =>
    have hg : k.good = true := by unfold ruleOk at hr; simp only [Bool.and_eq_true] at hr; exact hr.1
    have gd := good_iff.1 hg
    have h8 := gd.n8
    obtain ⟨rr, -⟩ := ruleL_rising k rule
    have rc := ruleL_covers gd rule
    have fo : fromOk k (ruleL k rule) = true := by unfold fromOk; rw [hg, rc, risB_iff.2 rr]; rfl
    have gi := gap_in gd rule
    have pl := fromL_plan gd rr rc
    have tw : two k (fromL k.need (ruleL k rule)) = true := by
      refine two_iff.2 ⟨gd, fromL_len _ _, fromL_in gd.need gd.n8 rr, ?_, ?_⟩
      · rw [fromL_len]; exact pl.1
      · rw [fromL_len]; exact pl.2
    have ca : costA k (fromL k.need (ruleL k rule)) = costOf k (fromL k.need (ruleL k rule)) := costA_yes tw
    rw [ruleA_yes hr] at ho hle ⊢
    rw [gapA_yes hr]
    obtain ⟨M1, hM1⟩ : ∃ M1, M1 = roM m ++ [⟨.own, 28, [v1, v2, v3, v4]⟩] ++ new := ⟨_, rfl⟩
    rw [← hM1] at hx ho ⊢
    obtain ⟨q0, q1, q2, q3, hlM⟩ := hx.box4
    simp (config := {implicitDefEqProofs := false, maxDischargeDepth := 20}) (disch := first | omega | (simp only [lenE]; done) | (simp only [lenE]; omega) | rfl | (simp only [lenE, markR_len]; done) | (simp only [lenE, markR_len]; omega)) only [runE, mapE, listE, initT_5, initT_6, initT_7, initT_8, resV, oneV, binA, unA, reduceCtorEq, Nat.reduceEqDiff, Nat.reduceAdd, Nat.reduceLT, Nat.reduceLeDiff, Nat.reduceMul, Nat.reduceSub, ↓reduceIte, decide_true, decide_false, Bool.true_eq_false, Bool.false_eq_true, Bool.not_true, Bool.not_false, if_true, if_false, and_true, true_and, memE, celE, w64, Nat.zero_add, Nat.add_zero, Nat.mul_one, putL, and_self, ldn, ext_2_0, ext_2_1, q0, q1, q2, q3]
    refine callH_rc (hPF _ _ _ k (ruleL k rule) (hx.caseV hc) (ho.ints (by omega) fl) hle) ?_
    intro r new2 hA2
    obtain ⟨id2, fl2, rfl, hge2, ho2, hle2, nr2⟩ := hA2.row
    rw [fromA_yes fo] at ho2 hle2 ⊢
    have hx2 := hx.app nr2
    obtain ⟨M2, hM2⟩ : ∃ M2, M2 = M1 ++ new2 := ⟨_, rfl⟩
    rw [← hM2] at hx2 ho2 ⊢
    obtain ⟨q0, q1, q2, q3, hlM2⟩ := hx2.box4
    simp (config := {implicitDefEqProofs := false, maxDischargeDepth := 20}) (disch := first | omega | (simp only [lenE]; done) | (simp only [lenE]; omega) | rfl | (simp only [lenE, markR_len]; done) | (simp only [lenE, markR_len]; omega)) only [runE, mapE, listE, initT_5, initT_6, initT_7, initT_8, resV, oneV, binA, unA, reduceCtorEq, Nat.reduceEqDiff, Nat.reduceAdd, Nat.reduceLT, Nat.reduceLeDiff, Nat.reduceMul, Nat.reduceSub, ↓reduceIte, decide_true, decide_false, Bool.true_eq_false, Bool.false_eq_true, Bool.not_true, Bool.not_false, if_true, if_false, and_true, true_and, memE, celE, w64, Nat.zero_add, Nat.add_zero, Nat.mul_one, putL, and_self, ldn, ext_2_0, ext_2_1, q0, q1, q2, q3]
    refine callH_rc (implPlanCost_rc _ _ _ k (fromL k.need (ruleL k rule)) (hx2.caseV hc) (ho2.ints (by omega) fl2)) ?_
    rintro r new3 ⟨rfl, nr3⟩
    rw [ca]
    have hx3 := hx2.app nr3
    obtain ⟨M3, hM3⟩ : ∃ M3, M3 = M2 ++ new3 := ⟨_, rfl⟩
    rw [← hM3] at hx3 ⊢
    obtain ⟨q0, q1, q2, q3, hlM3⟩ := hx3.box4
    simp (config := {implicitDefEqProofs := false, maxDischargeDepth := 20}) (disch := first | omega | (simp only [lenE]; done) | (simp only [lenE]; omega) | rfl | (simp only [lenE, markR_len]; done) | (simp only [lenE, markR_len]; omega)) only [runE, mapE, listE, initT_5, initT_6, initT_7, initT_8, resV, oneV, binA, unA, reduceCtorEq, Nat.reduceEqDiff, Nat.reduceAdd, Nat.reduceLT, Nat.reduceLeDiff, Nat.reduceMul, Nat.reduceSub, ↓reduceIte, decide_true, decide_false, Bool.true_eq_false, Bool.false_eq_true, Bool.not_true, Bool.not_false, if_true, if_false, and_true, true_and, memE, celE, w64, Nat.zero_add, Nat.add_zero, Nat.mul_one, putL, and_self, ldn, ext_2_0, ext_2_1, q0, q1, q2, q3]
    refine callH_rc (implBestCost_rc _ _ k (hx3.caseV hc)) ?_
    rintro r new4 ⟨rfl, nr4⟩
    rw [bestCA_yes hg]
    simp (config := {implicitDefEqProofs := false, maxDischargeDepth := 20}) (disch := first | omega | (simp only [lenE]; done) | (simp only [lenE]; omega) | rfl | (simp only [lenE, markR_len]; done) | (simp only [lenE, markR_len]; omega)) only [runE, mapE, listE, initT_5, initT_6, initT_7, initT_8, resV, oneV, binA, unA, reduceCtorEq, Nat.reduceEqDiff, Nat.reduceAdd, Nat.reduceLT, Nat.reduceLeDiff, Nat.reduceMul, Nat.reduceSub, ↓reduceIte, decide_true, decide_false, Bool.true_eq_false, Bool.false_eq_true, Bool.not_true, Bool.not_false, if_true, if_false, and_true, true_and, memE, celE, w64, Nat.zero_add, Nat.add_zero, Nat.mul_one, putL, and_self, ldn, ext_2_0, ext_2_1]
    exact ext_ansV (hx3.app nr4).ext rfl
end Go.Proofs.Ytonpeflncnccdaa.Ab
