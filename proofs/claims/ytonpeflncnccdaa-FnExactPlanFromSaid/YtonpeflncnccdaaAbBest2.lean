/- The model's BestPeriods, BestCost and PlanFrom. -/
import Derived.Test.YtonpeflncnccdaaAbBest
namespace Go.Proofs.Ytonpeflncnccdaa.Ab
open Go Go.RowKit
set_option linter.unusedVariables false
set_option linter.unusedSimpArgs false

theorem bestL_rising (k : Cs) : Rising (bestL k) k.need.length := bestC_rising k _
theorem bestL_len (k : Cs) : (bestL k).length ≤ k.need.length := bestC_len k _
def bestPA (k : Cs) : List Int := if k.good then bestL k else []
theorem bestPA_no {k : Cs} (h : k.good = false) : bestPA k = [] := by unfold bestPA; rw [h]; rfl
theorem bestPA_yes {k : Cs} (h : k.good = true) : bestPA k = bestL k := by unfold bestPA; rw [h]; rfl
def bestCA (k : Cs) : Int := if k.good then bestCost k else 0
theorem bestCA_no {k : Cs} (h : k.good = false) : bestCA k = 0 := by unfold bestCA; rw [h]; rfl
theorem bestCA_yes {k : Cs} (h : k.good = true) : bestCA k = bestCost k := by unfold bestCA; rw [h]; rfl

theorem specBestPeriods_rc (m : Mem) (v : Value) (k : Cs) (h : CaseA m v k) : RC Try.prog 16 [v] m (AnsL m (bestPA k) k.good) := by
  refine rc_of_run mixed ok_spec_BestPeriods (by simp) (go_start _ _ _ ?_)
  obtain ⟨v1, v2, v3, v4, rfl, h1, h2, h3, h4⟩ := h.ro.ok
  have hc : CaseA (roM m) (.agg #[v1, v2, v3, v4]) k := ⟨_, _, _, _, rfl, h1, h2, h3, h4⟩
  simp (config := {implicitDefEqProofs := false, maxDischargeDepth := 20}) (disch := first | omega | (simp only [lenE]; done) | (simp only [lenE]; omega) | rfl | (simp only [lenE, markR_len]; done) | (simp only [lenE, markR_len]; omega)) only [runE, mapE, listE, initT_5, initT_6, initT_7, initT_8, resV, oneV, binA, unA, reduceCtorEq, Nat.reduceEqDiff, Nat.reduceAdd, Nat.reduceLT, Nat.reduceLeDiff, Nat.reduceMul, Nat.reduceSub, ↓reduceIte, decide_true, decide_false, Bool.true_eq_false, Bool.false_eq_true, Bool.not_true, Bool.not_false, if_true, if_false, and_true, true_and, memE, celE, w64, Nat.zero_add, Nat.add_zero, Nat.mul_one, putL, and_self, ldn, c_spec_BestPeriods, r_spec_BestPeriods]
  refine callH_rc (l2Good_rc _ _ k (hc.ext _)) ?_
  rintro r new ⟨rfl, nr1⟩
  have hx : Grow (roM m ++ [⟨.own, 28, [v1, v2, v3, v4]⟩]) (roM m ++ [⟨.own, 28, [v1, v2, v3, v4]⟩] ++ new) := (Grow.refl _).app nr1
  cases hg : k.good with
  | false =>
    simp (config := {implicitDefEqProofs := false, maxDischargeDepth := 20}) (disch := first | omega | (simp only [lenE]; done) | (simp only [lenE]; omega) | rfl | (simp only [lenE, markR_len]; done) | (simp only [lenE, markR_len]; omega)) only [runE, mapE, listE, initT_5, initT_6, initT_7, initT_8, resV, oneV, binA, unA, reduceCtorEq, Nat.reduceEqDiff, Nat.reduceAdd, Nat.reduceLT, Nat.reduceLeDiff, Nat.reduceMul, Nat.reduceSub, ↓reduceIte, decide_true, decide_false, Bool.true_eq_false, Bool.false_eq_true, Bool.not_true, Bool.not_false, if_true, if_false, and_true, true_and, memE, celE, w64, Nat.zero_add, Nat.add_zero, Nat.mul_one, putL, and_self, ldn, bsl_none]
    rw [bestPA_no hg]
    refine ext_ansL (hx.ext.one _ _) (OwnR.end' (l := []) ?_) (by omega) rfl (by simp)
    simp only [List.length_append, List.length_cons, List.length_nil, roM_len]
  | true =>
    have gd := good_iff.1 hg
    have h8 := gd.n8
    have bl := bestL_len k
    rw [bestPA_yes hg]
    simp (config := {implicitDefEqProofs := false, maxDischargeDepth := 20}) (disch := first | omega | (simp only [lenE]; done) | (simp only [lenE]; omega) | rfl | (simp only [lenE, markR_len]; done) | (simp only [lenE, markR_len]; omega)) only [runE, mapE, listE, initT_5, initT_6, initT_7, initT_8, resV, oneV, binA, unA, reduceCtorEq, Nat.reduceEqDiff, Nat.reduceAdd, Nat.reduceLT, Nat.reduceLeDiff, Nat.reduceMul, Nat.reduceSub, ↓reduceIte, decide_true, decide_false, Bool.true_eq_false, Bool.false_eq_true, Bool.not_true, Bool.not_false, if_true, if_false, and_true, true_and, memE, celE, w64, Nat.zero_add, Nat.add_zero, Nat.mul_one, putL, and_self, ldn]
    refine callH_rc (l2Best_rc _ _ k (hx.caseV hc) gd) ?_
    intro r new2 hA
    obtain ⟨id, fl, rfl, hge, ho, hle, nr2⟩ := hA.row
    have := hx.ext.len
    simp (config := {implicitDefEqProofs := false, maxDischargeDepth := 20}) (disch := first | omega | (simp only [lenE]; done) | (simp only [lenE]; omega) | rfl | (simp only [lenE, markR_len]; done) | (simp only [lenE, markR_len]; omega)) only [runE, mapE, listE, initT_5, initT_6, initT_7, initT_8, resV, oneV, binA, unA, reduceCtorEq, Nat.reduceEqDiff, Nat.reduceAdd, Nat.reduceLT, Nat.reduceLeDiff, Nat.reduceMul, Nat.reduceSub, ↓reduceIte, decide_true, decide_false, Bool.true_eq_false, Bool.false_eq_true, Bool.not_true, Bool.not_false, if_true, if_false, and_true, true_and, memE, celE, w64, Nat.zero_add, Nat.add_zero, Nat.mul_one, putL, and_self, ldn]
    exact ext_ansL (hx.app nr2).ext ho (by omega) rfl (by omega)

theorem l2Least_rc (m : Mem) (v : Value) (k : Cs) (h : CaseA m v k) (hg : Good k) :
    RC Try.prog 37 [v] m (AnsV (.int .i64 (bestCost k))) := by
  refine rc_of_run mixed ok_spec_l2Least (by simp) (go_start _ _ _ ?_)
  obtain ⟨v1, v2, v3, v4, rfl, h1, h2, h3, h4⟩ := h.ro.ok
  have hc : CaseA (roM m) (.agg #[v1, v2, v3, v4]) k := ⟨_, _, _, _, rfl, h1, h2, h3, h4⟩
  have h8 := hg.n8
  have hx : Grow (roM m ++ [⟨.own, 28, [v1, v2, v3, v4]⟩]) (roM m ++ [⟨.own, 28, [v1, v2, v3, v4]⟩]) := Grow.refl _
  obtain ⟨r0, r1, r2, r3, hlM⟩ := hx.box4
  simp (config := {implicitDefEqProofs := false, maxDischargeDepth := 20}) (disch := first | omega | (simp only [lenE]; done) | (simp only [lenE]; omega) | rfl | (simp only [lenE, markR_len]; done) | (simp only [lenE, markR_len]; omega)) only [runE, mapE, listE, initT_5, initT_6, initT_7, initT_8, resV, oneV, binA, unA, reduceCtorEq, Nat.reduceEqDiff, Nat.reduceAdd, Nat.reduceLT, Nat.reduceLeDiff, Nat.reduceMul, Nat.reduceSub, ↓reduceIte, decide_true, decide_false, Bool.true_eq_false, Bool.false_eq_true, Bool.not_true, Bool.not_false, if_true, if_false, and_true, true_and, memE, celE, w64, Nat.zero_add, Nat.add_zero, Nat.mul_one, putL, and_self, ldn, c_spec_l2Least, r_spec_l2Least]
  refine rcallH_rc (l2Best_rc _ _ k (hx.caseV hc) hg) ?_
  intro r new2 hA
  obtain ⟨id, fl, rfl, hge, ho, hle, nr2⟩ := hA.row
  have hx2 := hx.app nr2
  have io := ho.ints (by omega) fl
  simp (config := {implicitDefEqProofs := false, maxDischargeDepth := 20}) (disch := first | omega | (simp only [lenE]; done) | (simp only [lenE]; omega) | rfl | (simp only [lenE, markR_len]; done) | (simp only [lenE, markR_len]; omega)) only [runE, mapE, listE, initT_5, initT_6, initT_7, initT_8, resV, oneV, binA, unA, reduceCtorEq, Nat.reduceEqDiff, Nat.reduceAdd, Nat.reduceLT, Nat.reduceLeDiff, Nat.reduceMul, Nat.reduceSub, ↓reduceIte, decide_true, decide_false, Bool.true_eq_false, Bool.false_eq_true, Bool.not_true, Bool.not_false, if_true, if_false, and_true, true_and, memE, celE, w64, Nat.zero_add, Nat.add_zero, Nat.mul_one, putL, and_self, ldn]
  refine rcallH_rc (l2From_rc _ _ _ k (bestL k) (hx2.caseV hc) io hg (bestL_rising k) hle) ?_
  intro r new4 hA4
  obtain ⟨pid, pf, rfl, pge, oP, ple, nrP⟩ := hA4.row
  have hx4 := hx2.app nrP
  have iP := oP.ints (by omega) pf
  simp (config := {implicitDefEqProofs := false, maxDischargeDepth := 20}) (disch := first | omega | (simp only [lenE]; done) | (simp only [lenE]; omega) | rfl | (simp only [lenE, markR_len]; done) | (simp only [lenE, markR_len]; omega)) only [runE, mapE, listE, initT_5, initT_6, initT_7, initT_8, resV, oneV, binA, unA, reduceCtorEq, Nat.reduceEqDiff, Nat.reduceAdd, Nat.reduceLT, Nat.reduceLeDiff, Nat.reduceMul, Nat.reduceSub, ↓reduceIte, decide_true, decide_false, Bool.true_eq_false, Bool.false_eq_true, Bool.not_true, Bool.not_false, if_true, if_false, and_true, true_and, memE, celE, w64, Nat.zero_add, Nat.add_zero, Nat.mul_one, putL, and_self, ldn]
  refine rcallH_rc (l2Cost_rc _ _ _ k (fromL k.need (bestL k)) (hx4.caseV hc) iP hg (fromL_len _ _) (fromL_in hg.need hg.n8 (bestL_rising k))) ?_
  rintro r new5 ⟨rfl, nr5⟩
  simp (config := {implicitDefEqProofs := false, maxDischargeDepth := 20}) (disch := first | omega | (simp only [lenE]; done) | (simp only [lenE]; omega) | rfl | (simp only [lenE, markR_len]; done) | (simp only [lenE, markR_len]; omega)) only [runE, mapE, listE, initT_5, initT_6, initT_7, initT_8, resV, oneV, binA, unA, reduceCtorEq, Nat.reduceEqDiff, Nat.reduceAdd, Nat.reduceLT, Nat.reduceLeDiff, Nat.reduceMul, Nat.reduceSub, ↓reduceIte, decide_true, decide_false, Bool.true_eq_false, Bool.false_eq_true, Bool.not_true, Bool.not_false, if_true, if_false, and_true, true_and, memE, celE, w64, Nat.zero_add, Nat.add_zero, Nat.mul_one, putL, and_self, ldn]
  exact ext_ansV (hx4.app nr5).ext rfl

theorem specBestCost_rc (m : Mem) (v : Value) (k : Cs) (h : CaseA m v k) : RC Try.prog 12 [v] m (AnsV (.tuple #[.int .i64 (bestCA k), .bool k.good])) := by
  refine rc_of_run mixed ok_spec_BestCost (by simp) (go_start _ _ _ ?_)
  obtain ⟨v1, v2, v3, v4, rfl, h1, h2, h3, h4⟩ := h.ro.ok
  have hc : CaseA (roM m) (.agg #[v1, v2, v3, v4]) k := ⟨_, _, _, _, rfl, h1, h2, h3, h4⟩
  simp (config := {implicitDefEqProofs := false, maxDischargeDepth := 20}) (disch := first | omega | (simp only [lenE]; done) | (simp only [lenE]; omega) | rfl | (simp only [lenE, markR_len]; done) | (simp only [lenE, markR_len]; omega)) only [runE, mapE, listE, initT_5, initT_6, initT_7, initT_8, resV, oneV, binA, unA, reduceCtorEq, Nat.reduceEqDiff, Nat.reduceAdd, Nat.reduceLT, Nat.reduceLeDiff, Nat.reduceMul, Nat.reduceSub, ↓reduceIte, decide_true, decide_false, Bool.true_eq_false, Bool.false_eq_true, Bool.not_true, Bool.not_false, if_true, if_false, and_true, true_and, memE, celE, w64, Nat.zero_add, Nat.add_zero, Nat.mul_one, putL, and_self, ldn, c_spec_BestCost, r_spec_BestCost]
  refine callH_rc (l2Good_rc _ _ k (hc.ext _)) ?_
  rintro r new ⟨rfl, nr1⟩
  have hx : Grow (roM m ++ [⟨.own, 28, [v1, v2, v3, v4]⟩]) (roM m ++ [⟨.own, 28, [v1, v2, v3, v4]⟩] ++ new) := (Grow.refl _).app nr1
  cases hg : k.good with
  | false =>
    simp (config := {implicitDefEqProofs := false, maxDischargeDepth := 20}) (disch := first | omega | (simp only [lenE]; done) | (simp only [lenE]; omega) | rfl | (simp only [lenE, markR_len]; done) | (simp only [lenE, markR_len]; omega)) only [runE, mapE, listE, initT_5, initT_6, initT_7, initT_8, resV, oneV, binA, unA, reduceCtorEq, Nat.reduceEqDiff, Nat.reduceAdd, Nat.reduceLT, Nat.reduceLeDiff, Nat.reduceMul, Nat.reduceSub, ↓reduceIte, decide_true, decide_false, Bool.true_eq_false, Bool.false_eq_true, Bool.not_true, Bool.not_false, if_true, if_false, and_true, true_and, memE, celE, w64, Nat.zero_add, Nat.add_zero, Nat.mul_one, putL, and_self, ldn]
    rw [bestCA_no hg]
    exact ext_ansV hx.ext rfl
  | true =>
    have gd := good_iff.1 hg
    rw [bestCA_yes hg]
    simp (config := {implicitDefEqProofs := false, maxDischargeDepth := 20}) (disch := first | omega | (simp only [lenE]; done) | (simp only [lenE]; omega) | rfl | (simp only [lenE, markR_len]; done) | (simp only [lenE, markR_len]; omega)) only [runE, mapE, listE, initT_5, initT_6, initT_7, initT_8, resV, oneV, binA, unA, reduceCtorEq, Nat.reduceEqDiff, Nat.reduceAdd, Nat.reduceLT, Nat.reduceLeDiff, Nat.reduceMul, Nat.reduceSub, ↓reduceIte, decide_true, decide_false, Bool.true_eq_false, Bool.false_eq_true, Bool.not_true, Bool.not_false, if_true, if_false, and_true, true_and, memE, celE, w64, Nat.zero_add, Nat.add_zero, Nat.mul_one, putL, and_self, ldn]
    refine callH_rc (l2Least_rc _ _ k (hx.caseV hc) gd) ?_
    rintro r new2 ⟨rfl, nr2⟩
    simp (config := {implicitDefEqProofs := false, maxDischargeDepth := 20}) (disch := first | omega | (simp only [lenE]; done) | (simp only [lenE]; omega) | rfl | (simp only [lenE, markR_len]; done) | (simp only [lenE, markR_len]; omega)) only [runE, mapE, listE, initT_5, initT_6, initT_7, initT_8, resV, oneV, binA, unA, reduceCtorEq, Nat.reduceEqDiff, Nat.reduceAdd, Nat.reduceLT, Nat.reduceLeDiff, Nat.reduceMul, Nat.reduceSub, ↓reduceIte, decide_true, decide_false, Bool.true_eq_false, Bool.false_eq_true, Bool.not_true, Bool.not_false, if_true, if_false, and_true, true_and, memE, celE, w64, Nat.zero_add, Nat.add_zero, Nat.mul_one, putL, and_self, ldn]
    exact ext_ansV (hx.app nr2).ext rfl

/-- Are these rising numbers below n? -/
def risB (ps : List Int) (n : Nat) : Bool := decide (∀ i, i < ps.length → (0 ≤ ps.getD i 0 ∧ ps.getD i 0 ≤ (n : Int) - 1) ∧ (0 < i → ps.getD (i - 1) 0 < ps.getD i 0))
theorem risB_iff {ps : List Int} {n : Nat} : risB ps n = true ↔ Rising ps n := by
  unfold risB
  rw [decide_eq_true_iff]
  constructor
  · intro h
    refine ⟨fun i hi => by have := (h i hi).1; omega, fun i hi => ?_⟩
    have := (h (i + 1) hi).2 (by omega)
    simpa using this
  · intro h i hi
    refine ⟨by have := h.bd i hi; omega, fun h0 => ?_⟩
    have := h.up (i - 1) (by omega)
    rwa [show i - 1 + 1 = i by omega] at this
theorem risB_no {ps : List Int} {n i : Nat} (hi : i < ps.length) (h : ¬ ((0 ≤ ps.getD i 0 ∧ ps.getD i 0 ≤ (n : Int) - 1) ∧ (0 < i → ps.getD (i - 1) 0 < ps.getD i 0))) : risB ps n = false :=
  decide_eq_false fun hh => h (hh i hi)

theorem l1Rising_rc (m : Mem) (u : Value) (ps : List Int) (n : Nat) (h' : IntsA m u ps) (hn : n ≤ 1048576) :
    RC Try.prog 66 [u, .int .i64 0, .int .i64 ((n : Int) - 1)] m (AnsV (.bool (risB ps n))) := by
  refine rc_of_run mixed ok_spec_l1Rising (by simp) (go_start _ _ _ ?_)
  have hu := h'.ro
  have hbd := hu.bd
  simp (config := {implicitDefEqProofs := false, maxDischargeDepth := 20}) (disch := first | omega | (simp only [lenE]; done) | (simp only [lenE]; omega) | rfl | (simp only [lenE, markR_len]; done) | (simp only [lenE, markR_len]; omega)) only [runE, mapE, listE, initT_5, initT_6, initT_7, initT_8, resV, oneV, binA, unA, reduceCtorEq, Nat.reduceEqDiff, Nat.reduceAdd, Nat.reduceLT, Nat.reduceLeDiff, Nat.reduceMul, Nat.reduceSub, ↓reduceIte, decide_true, decide_false, Bool.true_eq_false, Bool.false_eq_true, Bool.not_true, Bool.not_false, if_true, if_false, and_true, true_and, memE, celE, w64, Nat.zero_add, Nat.add_zero, Nat.mul_one, putL, and_self, ldn, c_spec_l1Rising, r_spec_l1Rising]
  refine loop_inv mixed (fun s => ∃ i : Nat, i ≤ ps.length ∧ (∀ j, j < i → (0 ≤ ps.getD j 0 ∧ ps.getD j 0 ≤ (n : Int) - 1) ∧ (0 < j → ps.getD (j - 1) 0 < ps.getD j 0)) ∧ s.t 0 = u ∧ s.t 1 = .int .i64 0 ∧ s.t 2 = .int .i64 ((n : Int) - 1) ∧ s.t 7 = .int .i64 i ∧ s.m = roM m) (fun s => ps.length - (intOf (s.t 7)).toNat)
    ⟨0, by omega, fun j hj => absurd hj (by omega), rfl, rfl, rfl, rfl, rfl⟩ ?_
  rintro s ⟨i, hk, hall, t0, t1, t2, t7, tm⟩
  have nx : ((0 ≤ ps.getD i 0 ∧ ps.getD i 0 ≤ (n : Int) - 1) ∧ (0 < i → ps.getD (i - 1) 0 < ps.getD i 0)) → ∀ j, j < i + 1 → (0 ≤ ps.getD j 0 ∧ ps.getD j 0 ≤ (n : Int) - 1) ∧ (0 < j → ps.getD (j - 1) 0 < ps.getD j 0) := fun hh j hj => by
    by_cases e : j < i
    · exact hall j e
    · have : j = i := by omega
      rw [this]; exact hh
  by_cases hlt : i < ps.length
  · have hlt' : (i : Int) < ps.length := by omega
    have ai := hu.at_ i hlt
    have li := hu.ld i hlt
    cases hin : (decide (0 ≤ ps.getD i 0) && decide (ps.getD i 0 ≤ (n : Int) - 1)) with
    | false =>
      have hno : ¬ (0 ≤ ps.getD i 0 ∧ ps.getD i 0 ≤ (n : Int) - 1) := by simpa using hin
      simp (config := {implicitDefEqProofs := false, maxDischargeDepth := 20}) (disch := first | omega | (simp only [lenE]; done) | (simp only [lenE]; omega) | rfl | (simp only [lenE, markR_len]; done) | (simp only [lenE, markR_len]; omega)) only [runE, mapE, listE, initT_5, initT_6, initT_7, initT_8, resV, oneV, binA, unA, reduceCtorEq, Nat.reduceEqDiff, Nat.reduceAdd, Nat.reduceLT, Nat.reduceLeDiff, Nat.reduceMul, Nat.reduceSub, ↓reduceIte, decide_true, decide_false, Bool.true_eq_false, Bool.false_eq_true, Bool.not_true, Bool.not_false, if_true, if_false, and_true, true_and, memE, celE, w64, Nat.zero_add, Nat.add_zero, Nat.mul_one, putL, and_self, ldn, t0, t1, t2, t7, tm, hu.len, hlt', ai, li]
      refine rcallH_rc (l1In_rc _ (ps.getD i 0) 0 ((n : Int) - 1)) ?_
      rintro r new ⟨rfl, rfl⟩
      rw [hin]
      simp (config := {implicitDefEqProofs := false, maxDischargeDepth := 20}) (disch := first | omega | (simp only [lenE]; done) | (simp only [lenE]; omega) | rfl | (simp only [lenE, markR_len]; done) | (simp only [lenE, markR_len]; omega)) only [runE, mapE, listE, initT_5, initT_6, initT_7, initT_8, resV, oneV, binA, unA, reduceCtorEq, Nat.reduceEqDiff, Nat.reduceAdd, Nat.reduceLT, Nat.reduceLeDiff, Nat.reduceMul, Nat.reduceSub, ↓reduceIte, decide_true, decide_false, Bool.true_eq_false, Bool.false_eq_true, Bool.not_true, Bool.not_false, if_true, if_false, and_true, true_and, memE, celE, w64, Nat.zero_add, Nat.add_zero, Nat.mul_one, putL, and_self, ldn, goG_undef, t0, t1, t2, t7, tm]
      rw [risB_no hlt (fun hh => hno hh.1)]
      exact ext_ansV (Ext.refl m) rfl
    | true =>
      have hyes : 0 ≤ ps.getD i 0 ∧ ps.getD i 0 ≤ (n : Int) - 1 := by simpa using hin
      simp (config := {implicitDefEqProofs := false, maxDischargeDepth := 20}) (disch := first | omega | (simp only [lenE]; done) | (simp only [lenE]; omega) | rfl | (simp only [lenE, markR_len]; done) | (simp only [lenE, markR_len]; omega)) only [runE, mapE, listE, initT_5, initT_6, initT_7, initT_8, resV, oneV, binA, unA, reduceCtorEq, Nat.reduceEqDiff, Nat.reduceAdd, Nat.reduceLT, Nat.reduceLeDiff, Nat.reduceMul, Nat.reduceSub, ↓reduceIte, decide_true, decide_false, Bool.true_eq_false, Bool.false_eq_true, Bool.not_true, Bool.not_false, if_true, if_false, and_true, true_and, memE, celE, w64, Nat.zero_add, Nat.add_zero, Nat.mul_one, putL, and_self, ldn, t0, t1, t2, t7, tm, hu.len, hlt', ai, li]
      refine rcallH_rc (l1In_rc _ (ps.getD i 0) 0 ((n : Int) - 1)) ?_
      rintro r new ⟨rfl, rfl⟩
      rw [hin]
      by_cases h0 : 0 < i
      · have h0' : (0 : Int) < i := by omega
        have e1 : (i : Int) - 1 = ((i - 1 : Nat) : Int) := by omega
        have aj := hu.at_ (i - 1) (by omega)
        have lj := hu.ld (i - 1) (by omega)
        by_cases hq : ps.getD i 0 ≤ ps.getD (i - 1) 0
        · simp (config := {implicitDefEqProofs := false, maxDischargeDepth := 20}) (disch := first | omega | (simp only [lenE]; done) | (simp only [lenE]; omega) | rfl | (simp only [lenE, markR_len]; done) | (simp only [lenE, markR_len]; omega)) only [runE, mapE, listE, initT_5, initT_6, initT_7, initT_8, resV, oneV, binA, unA, reduceCtorEq, Nat.reduceEqDiff, Nat.reduceAdd, Nat.reduceLT, Nat.reduceLeDiff, Nat.reduceMul, Nat.reduceSub, ↓reduceIte, decide_true, decide_false, Bool.true_eq_false, Bool.false_eq_true, Bool.not_true, Bool.not_false, if_true, if_false, and_true, true_and, memE, celE, w64, Nat.zero_add, Nat.add_zero, Nat.mul_one, putL, and_self, ldn, t0, t1, t2, t7, tm, gt_iff_lt, ge_iff_le, h0', e1, aj, lj, ai, li, hq]
          rw [risB_no hlt (fun hh => absurd (hh.2 h0) (by omega))]
          exact ext_ansV (Ext.refl m) rfl
        · simp (config := {implicitDefEqProofs := false, maxDischargeDepth := 20}) (disch := first | omega | (simp only [lenE]; done) | (simp only [lenE]; omega) | rfl | (simp only [lenE, markR_len]; done) | (simp only [lenE, markR_len]; omega)) only [runE, mapE, listE, initT_5, initT_6, initT_7, initT_8, resV, oneV, binA, unA, reduceCtorEq, Nat.reduceEqDiff, Nat.reduceAdd, Nat.reduceLT, Nat.reduceLeDiff, Nat.reduceMul, Nat.reduceSub, ↓reduceIte, decide_true, decide_false, Bool.true_eq_false, Bool.false_eq_true, Bool.not_true, Bool.not_false, if_true, if_false, and_true, true_and, memE, celE, w64, Nat.zero_add, Nat.add_zero, Nat.mul_one, putL, and_self, ldn, t0, t1, t2, t7, tm, gt_iff_lt, ge_iff_le, h0', e1, aj, lj, ai, li, hq]
          exact ⟨⟨i + 1, by omega, nx ⟨hyes, fun _ => by omega⟩, by simp⟩, by simp [intOf]; omega⟩
      · have h0' : ¬ ((0 : Int) < i) := by omega
        simp (config := {implicitDefEqProofs := false, maxDischargeDepth := 20}) (disch := first | omega | (simp only [lenE]; done) | (simp only [lenE]; omega) | rfl | (simp only [lenE, markR_len]; done) | (simp only [lenE, markR_len]; omega)) only [runE, mapE, listE, initT_5, initT_6, initT_7, initT_8, resV, oneV, binA, unA, reduceCtorEq, Nat.reduceEqDiff, Nat.reduceAdd, Nat.reduceLT, Nat.reduceLeDiff, Nat.reduceMul, Nat.reduceSub, ↓reduceIte, decide_true, decide_false, Bool.true_eq_false, Bool.false_eq_true, Bool.not_true, Bool.not_false, if_true, if_false, and_true, true_and, memE, celE, w64, Nat.zero_add, Nat.add_zero, Nat.mul_one, putL, and_self, ldn, t0, t1, t2, t7, tm, gt_iff_lt, ge_iff_le, h0']
        exact ⟨⟨i + 1, by omega, nx ⟨hyes, fun hh => absurd hh h0⟩, by simp⟩, by simp [intOf]; omega⟩
  · have hlt' : ¬ ((i : Int) < ps.length) := by omega
    have e : i = ps.length := by omega
    simp (config := {implicitDefEqProofs := false, maxDischargeDepth := 20}) (disch := first | omega | (simp only [lenE]; done) | (simp only [lenE]; omega) | rfl | (simp only [lenE, markR_len]; done) | (simp only [lenE, markR_len]; omega)) only [runE, mapE, listE, initT_5, initT_6, initT_7, initT_8, resV, oneV, binA, unA, reduceCtorEq, Nat.reduceEqDiff, Nat.reduceAdd, Nat.reduceLT, Nat.reduceLeDiff, Nat.reduceMul, Nat.reduceSub, ↓reduceIte, decide_true, decide_false, Bool.true_eq_false, Bool.false_eq_true, Bool.not_true, Bool.not_false, if_true, if_false, and_true, true_and, memE, celE, w64, Nat.zero_add, Nat.add_zero, Nat.mul_one, putL, and_self, ldn, t0, t1, t2, t7, tm, hu.len, hlt']
    have : risB ps n = true := decide_eq_true fun j hj => hall j (by omega)
    rw [this]
    exact ext_ansV (Ext.refl m) rfl

theorem l2Periods_rc (m : Mem) (v u : Value) (k : Cs) (ps : List Int) (h : CaseA m v k) (h' : IntsA m u ps) (hg : Good k) :
    RC Try.prog 41 [v, u] m (AnsV (.bool (risB ps k.need.length))) := by
  refine rc_of_run mixed ok_spec_l2Periods (by simp) (go_start _ _ _ ?_)
  obtain ⟨v1, v2, v3, v4, rfl, h1, h2, h3, h4⟩ := h.ro.ok
  have hu := h'.ro
  have h8 := hg.n8
  simp (config := {implicitDefEqProofs := false, maxDischargeDepth := 20}) (disch := first | omega | (simp only [lenE]; done) | (simp only [lenE]; omega) | rfl | (simp only [lenE, markR_len]; done) | (simp only [lenE, markR_len]; omega)) only [runE, mapE, listE, initT_5, initT_6, initT_7, initT_8, resV, oneV, binA, unA, reduceCtorEq, Nat.reduceEqDiff, Nat.reduceAdd, Nat.reduceLT, Nat.reduceLeDiff, Nat.reduceMul, Nat.reduceSub, ↓reduceIte, decide_true, decide_false, Bool.true_eq_false, Bool.false_eq_true, Bool.not_true, Bool.not_false, if_true, if_false, and_true, true_and, memE, celE, w64, Nat.zero_add, Nat.add_zero, Nat.mul_one, putL, and_self, ldn, c_spec_l2Periods, r_spec_l2Periods, h1.len]
  refine callH_rc (l1Rising_rc _ u ps k.need.length (hu.ext _) (by omega)) ?_
  rintro r new ⟨rfl, nr⟩
  simp (config := {implicitDefEqProofs := false, maxDischargeDepth := 20}) (disch := first | omega | (simp only [lenE]; done) | (simp only [lenE]; omega) | rfl | (simp only [lenE, markR_len]; done) | (simp only [lenE, markR_len]; omega)) only [runE, mapE, listE, initT_5, initT_6, initT_7, initT_8, resV, oneV, binA, unA, reduceCtorEq, Nat.reduceEqDiff, Nat.reduceAdd, Nat.reduceLT, Nat.reduceLeDiff, Nat.reduceMul, Nat.reduceSub, ↓reduceIte, decide_true, decide_false, Bool.true_eq_false, Bool.false_eq_true, Bool.not_true, Bool.not_false, if_true, if_false, and_true, true_and, memE, celE, w64, Nat.zero_add, Nat.add_zero, Nat.mul_one, putL, and_self, ldn]
  exact ext_ansV (((Ext.refl m).one _ _).app nr) rfl

/-- Is there a plan from these order periods? -/
def fromOk (k : Cs) (ps : List Int) : Bool := k.good && risB ps k.need.length && covers k.need ps
def fromA (k : Cs) (ps : List Int) : List Int := if fromOk k ps then fromL k.need ps else []
theorem fromA_no {k : Cs} {ps : List Int} (h : fromOk k ps = false) : fromA k ps = [] := by unfold fromA; rw [h]; rfl
theorem fromA_yes {k : Cs} {ps : List Int} (h : fromOk k ps = true) : fromA k ps = fromL k.need ps := by unfold fromA; rw [h]; rfl

theorem specPlanFrom_rc (m : Mem) (v u : Value) (k : Cs) (ps : List Int) (h : CaseA m v k) (h' : IntsA m u ps) (hl : ps.length ≤ 1048576) :
    RC Try.prog 22 [v, u] m (AnsL m (fromA k ps) (fromOk k ps)) := by
  refine rc_of_run mixed ok_spec_PlanFrom (by simp) (go_start _ _ _ ?_)
  obtain ⟨v1, v2, v3, v4, rfl, h1, h2, h3, h4⟩ := h.ro.ok
  have hc : CaseA (roM m) (.agg #[v1, v2, v3, v4]) k := ⟨_, _, _, _, rfl, h1, h2, h3, h4⟩
  have hu := h'.ro
  simp (config := {implicitDefEqProofs := false, maxDischargeDepth := 20}) (disch := first | omega | (simp only [lenE]; done) | (simp only [lenE]; omega) | rfl | (simp only [lenE, markR_len]; done) | (simp only [lenE, markR_len]; omega)) only [runE, mapE, listE, initT_5, initT_6, initT_7, initT_8, resV, oneV, binA, unA, reduceCtorEq, Nat.reduceEqDiff, Nat.reduceAdd, Nat.reduceLT, Nat.reduceLeDiff, Nat.reduceMul, Nat.reduceSub, ↓reduceIte, decide_true, decide_false, Bool.true_eq_false, Bool.false_eq_true, Bool.not_true, Bool.not_false, if_true, if_false, and_true, true_and, memE, celE, w64, Nat.zero_add, Nat.add_zero, Nat.mul_one, putL, and_self, ldn, c_spec_PlanFrom, r_spec_PlanFrom]
  refine callH_rc (l2Good_rc _ _ k (hc.ext _)) ?_
  rintro r new ⟨rfl, nr1⟩
  have hx : Grow (roM m ++ [⟨.own, 28, [v1, v2, v3, v4]⟩]) (roM m ++ [⟨.own, 28, [v1, v2, v3, v4]⟩] ++ new) := (Grow.refl _).app nr1
  cases hg : k.good with
  | false =>
    have e : fromOk k ps = false := by unfold fromOk; rw [hg]; rfl
    simp (config := {implicitDefEqProofs := false, maxDischargeDepth := 20}) (disch := first | omega | (simp only [lenE]; done) | (simp only [lenE]; omega) | rfl | (simp only [lenE, markR_len]; done) | (simp only [lenE, markR_len]; omega)) only [runE, mapE, listE, initT_5, initT_6, initT_7, initT_8, resV, oneV, binA, unA, reduceCtorEq, Nat.reduceEqDiff, Nat.reduceAdd, Nat.reduceLT, Nat.reduceLeDiff, Nat.reduceMul, Nat.reduceSub, ↓reduceIte, decide_true, decide_false, Bool.true_eq_false, Bool.false_eq_true, Bool.not_true, Bool.not_false, if_true, if_false, and_true, true_and, memE, celE, w64, Nat.zero_add, Nat.add_zero, Nat.mul_one, putL, and_self, ldn, bsl_none, goG_undef]
    rw [e, fromA_no e]
    refine ext_ansL (hx.ext.one _ _) (OwnR.end' (l := []) ?_) (by omega) rfl (by simp)
    simp only [List.length_append, List.length_cons, List.length_nil, roM_len]
  | true =>
    have gd := good_iff.1 hg
    have h8 := gd.n8
    obtain ⟨M1, hM1⟩ : ∃ M1, M1 = roM m ++ [⟨.own, 28, [v1, v2, v3, v4]⟩] ++ new := ⟨_, rfl⟩
    rw [← hM1] at hx ⊢
    obtain ⟨q0, q1, q2, q3, hlM⟩ := hx.box4
    simp (config := {implicitDefEqProofs := false, maxDischargeDepth := 20}) (disch := first | omega | (simp only [lenE]; done) | (simp only [lenE]; omega) | rfl | (simp only [lenE, markR_len]; done) | (simp only [lenE, markR_len]; omega)) only [runE, mapE, listE, initT_5, initT_6, initT_7, initT_8, resV, oneV, binA, unA, reduceCtorEq, Nat.reduceEqDiff, Nat.reduceAdd, Nat.reduceLT, Nat.reduceLeDiff, Nat.reduceMul, Nat.reduceSub, ↓reduceIte, decide_true, decide_false, Bool.true_eq_false, Bool.false_eq_true, Bool.not_true, Bool.not_false, if_true, if_false, and_true, true_and, memE, celE, w64, Nat.zero_add, Nat.add_zero, Nat.mul_one, putL, and_self, ldn, q0, q1, q2, q3]
    refine callH_rc (l2Periods_rc _ _ u k ps (hx.caseV hc) (hx.intsV hu) gd) ?_
    rintro r new2 ⟨rfl, nr2⟩
    have hx2 := hx.app nr2
    obtain ⟨M2, hM2⟩ : ∃ M2, M2 = M1 ++ new2 := ⟨_, rfl⟩
    rw [← hM2] at hx2 ⊢
    obtain ⟨q0, q1, q2, q3, hlM2⟩ := hx2.box4
    cases hr : risB ps k.need.length with
    | false =>
      have e : fromOk k ps = false := by unfold fromOk; rw [hr]; simp
      simp (config := {implicitDefEqProofs := false, maxDischargeDepth := 20}) (disch := first | omega | (simp only [lenE]; done) | (simp only [lenE]; omega) | rfl | (simp only [lenE, markR_len]; done) | (simp only [lenE, markR_len]; omega)) only [runE, mapE, listE, initT_5, initT_6, initT_7, initT_8, resV, oneV, binA, unA, reduceCtorEq, Nat.reduceEqDiff, Nat.reduceAdd, Nat.reduceLT, Nat.reduceLeDiff, Nat.reduceMul, Nat.reduceSub, ↓reduceIte, decide_true, decide_false, Bool.true_eq_false, Bool.false_eq_true, Bool.not_true, Bool.not_false, if_true, if_false, and_true, true_and, memE, celE, w64, Nat.zero_add, Nat.add_zero, Nat.mul_one, putL, and_self, ldn, bsl_none, goG_undef]
      rw [e, fromA_no e]
      refine ext_ansL (hx2.ext.one _ _) (OwnR.end' (l := []) rfl) (by omega) rfl (by simp)
    | true =>
      simp (config := {implicitDefEqProofs := false, maxDischargeDepth := 20}) (disch := first | omega | (simp only [lenE]; done) | (simp only [lenE]; omega) | rfl | (simp only [lenE, markR_len]; done) | (simp only [lenE, markR_len]; omega)) only [runE, mapE, listE, initT_5, initT_6, initT_7, initT_8, resV, oneV, binA, unA, reduceCtorEq, Nat.reduceEqDiff, Nat.reduceAdd, Nat.reduceLT, Nat.reduceLeDiff, Nat.reduceMul, Nat.reduceSub, ↓reduceIte, decide_true, decide_false, Bool.true_eq_false, Bool.false_eq_true, Bool.not_true, Bool.not_false, if_true, if_false, and_true, true_and, memE, celE, w64, Nat.zero_add, Nat.add_zero, Nat.mul_one, putL, and_self, ldn, q0, q1, q2, q3]
      refine callH_rc (l2Covers_rc _ _ u k ps (hx2.caseV hc) (hx2.intsV hu) gd hl) ?_
      rintro r new3 ⟨rfl, nr3⟩
      have hx3 := hx2.app nr3
      obtain ⟨M3, hM3⟩ : ∃ M3, M3 = M2 ++ new3 := ⟨_, rfl⟩
      rw [← hM3] at hx3 ⊢
      obtain ⟨q0, q1, q2, q3, hlM3⟩ := hx3.box4
      cases hcv : covers k.need ps with
      | false =>
        have e : fromOk k ps = false := by unfold fromOk; rw [hcv]; simp
        simp (config := {implicitDefEqProofs := false, maxDischargeDepth := 20}) (disch := first | omega | (simp only [lenE]; done) | (simp only [lenE]; omega) | rfl | (simp only [lenE, markR_len]; done) | (simp only [lenE, markR_len]; omega)) only [runE, mapE, listE, initT_5, initT_6, initT_7, initT_8, resV, oneV, binA, unA, reduceCtorEq, Nat.reduceEqDiff, Nat.reduceAdd, Nat.reduceLT, Nat.reduceLeDiff, Nat.reduceMul, Nat.reduceSub, ↓reduceIte, decide_true, decide_false, Bool.true_eq_false, Bool.false_eq_true, Bool.not_true, Bool.not_false, if_true, if_false, and_true, true_and, memE, celE, w64, Nat.zero_add, Nat.add_zero, Nat.mul_one, putL, and_self, ldn, bsl_none, goG_undef]
        rw [e, fromA_no e]
        refine ext_ansL (hx3.ext.one _ _) (OwnR.end' (l := []) rfl) (by omega) rfl (by simp)
      | true =>
        have e : fromOk k ps = true := by unfold fromOk; rw [hg, hr, hcv]; rfl
        simp (config := {implicitDefEqProofs := false, maxDischargeDepth := 20}) (disch := first | omega | (simp only [lenE]; done) | (simp only [lenE]; omega) | rfl | (simp only [lenE, markR_len]; done) | (simp only [lenE, markR_len]; omega)) only [runE, mapE, listE, initT_5, initT_6, initT_7, initT_8, resV, oneV, binA, unA, reduceCtorEq, Nat.reduceEqDiff, Nat.reduceAdd, Nat.reduceLT, Nat.reduceLeDiff, Nat.reduceMul, Nat.reduceSub, ↓reduceIte, decide_true, decide_false, Bool.true_eq_false, Bool.false_eq_true, Bool.not_true, Bool.not_false, if_true, if_false, and_true, true_and, memE, celE, w64, Nat.zero_add, Nat.add_zero, Nat.mul_one, putL, and_self, ldn, q0, q1, q2, q3]
        refine callH_rc (l2From_rc _ _ u k ps (hx3.caseV hc) (hx3.intsV hu) gd (risB_iff.1 hr) hl) ?_
        intro r new4 hA4
        obtain ⟨pid, pf, rfl, pge, oP, ple, nrP⟩ := hA4.row
        simp (config := {implicitDefEqProofs := false, maxDischargeDepth := 20}) (disch := first | omega | (simp only [lenE]; done) | (simp only [lenE]; omega) | rfl | (simp only [lenE, markR_len]; done) | (simp only [lenE, markR_len]; omega)) only [runE, mapE, listE, initT_5, initT_6, initT_7, initT_8, resV, oneV, binA, unA, reduceCtorEq, Nat.reduceEqDiff, Nat.reduceAdd, Nat.reduceLT, Nat.reduceLeDiff, Nat.reduceMul, Nat.reduceSub, ↓reduceIte, decide_true, decide_false, Bool.true_eq_false, Bool.false_eq_true, Bool.not_true, Bool.not_false, if_true, if_false, and_true, true_and, memE, celE, w64, Nat.zero_add, Nat.add_zero, Nat.mul_one, putL, and_self, ldn]
        rw [e, fromA_yes e]
        exact ext_ansL (hx3.app nrP).ext oP (by omega) rfl ple
end Go.Proofs.Ytonpeflncnccdaa.Ab
