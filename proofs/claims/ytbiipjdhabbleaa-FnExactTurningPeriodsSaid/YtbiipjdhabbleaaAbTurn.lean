/- Turning periods: TurningPeriods. -/
import Derived.Test.YtbiipjdhabbleaaAbBack
namespace Go.Proofs.Ytbiipjdhabbleaa.Ab
open Go Go.RowKit
set_option linter.unusedVariables false
set_option linter.unusedSimpArgs false

theorem test_turn (m : Mem) (id : Nat) (x0 : Int) (h : rdc m id 0 = some (.int .i64 x0)) :
    TestA m (.func (.func 62) #[] #[.pointer (some ⟨id, 0, none⟩)]) (fun x => x == x0) := by
  refine ⟨_, _, rfl, fun x m' hm => ?_⟩
  refine rc_of_run mixed ok_impl_TurningPeriods_1 (by simp) (go_start _ _ _ ?_)
  have h' : rdc (roM m') id 0 = some (.int .i64 x0) := by rw [rdc_roM]; exact hm _ _ _ h
  simp (config := {implicitDefEqProofs := false, maxDischargeDepth := 20}) (disch := first | omega | (simp only [lenE]; done) | (simp only [lenE]; omega) | rfl | (simp only [lenE, markR_len]; done) | (simp only [lenE, markR_len]; omega)) only [runE, mapE, listE, initT_5, initT_6, initT_7, initT_8, resV, oneV, binA, unA, reduceCtorEq, Nat.reduceEqDiff, Nat.reduceAdd, Nat.reduceLT, Nat.reduceLeDiff, Nat.reduceMul, Nat.reduceSub, ↓reduceIte, decide_true, decide_false, Bool.true_eq_false, Bool.false_eq_true, Bool.not_true, Bool.not_false, if_true, if_false, and_true, true_and, memE, celE, w64, Nat.zero_add, Nat.add_zero, Nat.mul_one, putL, and_self, ldn, c_impl_TurningPeriods_1, r_impl_TurningPeriods_1, h']
  exact newQ_nil ⟨rfl, rfl⟩
theorem picks_turn {k : Cs} {f : Int → Bool} {L : List Int} (t : Nat) (h : ∀ i, i < t → f (L.getD i 0) = turnAt k i) : picks f L t = turnP k t := by
  induction t with
  | zero => rfl
  | succ t ih => rw [picks, turnP, ih (fun i hi => h i (by omega)), h t (by omega)]
theorem turnP_s (k : Cs) (t : Nat) : turnP k (t + 1) = if turnAt k t then turnP k t ++ [(t : Int)] else turnP k t := rfl
def turnA (k : Cs) : List Int := if k.good then turnP k (k.need.length + 1) else []
theorem turnA_no {k : Cs} (h : k.good = false) : turnA k = [] := by unfold turnA; rw [h]; rfl
theorem turnA_yes {k : Cs} (h : k.good = true) : turnA k = turnP k (k.need.length + 1) := by unfold turnA; rw [h]; rfl
theorem bwdL_in {k : Cs} (hg : Good k) : ∀ x ∈ bwdL k, 0 ≤ x ∧ x ≤ 13059 := bwdF_in hg _ _ (Nat.le_refl _) hg.n8
theorem bwdL_len (k : Cs) : (bwdL k).length = k.need.length + 1 := bwdF_len _ _ _

theorem specTurn_rc (m : Mem) (v : Value) (k : Cs) (h : CaseA m v k) : RC Try.prog 38 [v] m (AnsL m (turnA k) k.good) := by
  refine rc_of_run mixed ok_spec_TurningPeriods (by simp) (go_start _ _ _ ?_)
  obtain ⟨v1, v2, v3, v4, rfl, h1, h2, h3, h4⟩ := h.ro.ok
  have hc : CaseA (roM m) (.agg #[v1, v2, v3, v4]) k := ⟨_, _, _, _, rfl, h1, h2, h3, h4⟩
  simp (config := {implicitDefEqProofs := false, maxDischargeDepth := 20}) (disch := first | omega | (simp only [lenE]; done) | (simp only [lenE]; omega) | rfl | (simp only [lenE, markR_len]; done) | (simp only [lenE, markR_len]; omega)) only [runE, mapE, listE, initT_5, initT_6, initT_7, initT_8, resV, oneV, binA, unA, reduceCtorEq, Nat.reduceEqDiff, Nat.reduceAdd, Nat.reduceLT, Nat.reduceLeDiff, Nat.reduceMul, Nat.reduceSub, ↓reduceIte, decide_true, decide_false, Bool.true_eq_false, Bool.false_eq_true, Bool.not_true, Bool.not_false, if_true, if_false, and_true, true_and, memE, celE, w64, Nat.zero_add, Nat.add_zero, Nat.mul_one, putL, and_self, ldn, c_spec_TurningPeriods, r_spec_TurningPeriods, bsl_none]
  refine callH_rc (l2Good_rc _ _ k ((hc.ext _).ext _)) ?_
  rintro r new ⟨rfl, nr1⟩
  have o0 : OwnR (roM m ++ [⟨.own, 28, [v1, v2, v3, v4]⟩] ++ [⟨.own, 3, []⟩] ++ new) (m.length + 1) [] := (OwnR.end' (l := []) (by simp [roM_len])).ext _
  have hx : Grow (roM m ++ [⟨.own, 28, [v1, v2, v3, v4]⟩]) (roM m ++ [⟨.own, 28, [v1, v2, v3, v4]⟩] ++ [⟨.own, 3, []⟩] ++ new) := ((Grow.refl _).one _ _).app nr1
  cases hg : k.good with
  | false =>
    simp (config := {implicitDefEqProofs := false, maxDischargeDepth := 20}) (disch := first | omega | (simp only [lenE]; done) | (simp only [lenE]; omega) | rfl | (simp only [lenE, markR_len]; done) | (simp only [lenE, markR_len]; omega)) only [runE, mapE, listE, initT_5, initT_6, initT_7, initT_8, resV, oneV, binA, unA, reduceCtorEq, Nat.reduceEqDiff, Nat.reduceAdd, Nat.reduceLT, Nat.reduceLeDiff, Nat.reduceMul, Nat.reduceSub, ↓reduceIte, decide_true, decide_false, Bool.true_eq_false, Bool.false_eq_true, Bool.not_true, Bool.not_false, if_true, if_false, and_true, true_and, memE, celE, w64, Nat.zero_add, Nat.add_zero, Nat.mul_one, putL, and_self, ldn, bsl_none]
    rw [turnA_no hg]
    exact ext_ansL hx.ext o0 (by omega) rfl (by simp)
  | true =>
    have gd := good_iff.1 hg
    have h8 := gd.n8
    rw [turnA_yes hg]
    simp (config := {implicitDefEqProofs := false, maxDischargeDepth := 20}) (disch := first | omega | (simp only [lenE]; done) | (simp only [lenE]; omega) | rfl | (simp only [lenE, markR_len]; done) | (simp only [lenE, markR_len]; omega)) only [runE, mapE, listE, initT_5, initT_6, initT_7, initT_8, resV, oneV, binA, unA, reduceCtorEq, Nat.reduceEqDiff, Nat.reduceAdd, Nat.reduceLT, Nat.reduceLeDiff, Nat.reduceMul, Nat.reduceSub, ↓reduceIte, decide_true, decide_false, Bool.true_eq_false, Bool.false_eq_true, Bool.not_true, Bool.not_false, if_true, if_false, and_true, true_and, memE, celE, w64, Nat.zero_add, Nat.add_zero, Nat.mul_one, putL, and_self, ldn]
    refine callH_rc (l3Forward_rc _ _ k (hx.caseV hc) gd) ?_
    intro r new2 hA
    obtain ⟨d1, d2, f1, f2, rfl, l1, l2, o1, o2, nr2⟩ := hA.rows
    have hx2 := hx.app nr2
    have o02 := o0.ext new2
    simp only [List.length_append, List.length_cons, List.length_nil, roM_len] at l1 l2
    simp (config := {implicitDefEqProofs := false, maxDischargeDepth := 20}) (disch := first | omega | (simp only [lenE]; done) | (simp only [lenE]; omega) | rfl | (simp only [lenE, markR_len]; done) | (simp only [lenE, markR_len]; omega)) only [runE, mapE, listE, initT_5, initT_6, initT_7, initT_8, resV, oneV, binA, unA, reduceCtorEq, Nat.reduceEqDiff, Nat.reduceAdd, Nat.reduceLT, Nat.reduceLeDiff, Nat.reduceMul, Nat.reduceSub, ↓reduceIte, decide_true, decide_false, Bool.true_eq_false, Bool.false_eq_true, Bool.not_true, Bool.not_false, if_true, if_false, and_true, true_and, memE, celE, w64, Nat.zero_add, Nat.add_zero, Nat.mul_one, putL, and_self, ldn, ext_2_0, ext_2_1]
    refine callH_rc (l3Backward_rc _ _ k (hx2.caseV hc) gd) ?_
    intro r new3 hB
    obtain ⟨d3, f3, rfl, l3, o3, -, nr3⟩ := hB.row
    have hx3 := hx2.app nr3
    have o03 := o02.ext new3
    have o13 := o1.ext new3
    simp only [List.length_append, List.length_cons, List.length_nil, roM_len] at l3
    have ll := fwdC_len k k.need.length
    have lb := bwdL_len k
    have hle := fun t => turnP_len k t
    have bf := fwdC_in gd k.need.length h8
    have bb := bwdL_in gd
    have tat : ∀ t, turnAt k t = ((fwdC k k.need.length).getD t 0 + (bwdL k).getD t 0 == (bwdL k).getD 0 0) := fun _ => rfl
    generalize fwdC k k.need.length = ls at *
    generalize bwdL k = lk at *
    obtain ⟨M0, hM0⟩ : ∃ M0, M0 = roM m ++ [⟨.own, 28, [v1, v2, v3, v4]⟩] ++ [⟨.own, 3, []⟩] ++ new ++ new2 ++ new3 := ⟨_, rfl⟩
    simp (config := {implicitDefEqProofs := false, maxDischargeDepth := 20}) (disch := first | omega | (simp only [lenE]; done) | (simp only [lenE]; omega) | rfl | (simp only [lenE, markR_len]; done) | (simp only [lenE, markR_len]; omega)) only [runE, mapE, listE, initT_5, initT_6, initT_7, initT_8, resV, oneV, binA, unA, reduceCtorEq, Nat.reduceEqDiff, Nat.reduceAdd, Nat.reduceLT, Nat.reduceLeDiff, Nat.reduceMul, Nat.reduceSub, ↓reduceIte, decide_true, decide_false, Bool.true_eq_false, Bool.false_eq_true, Bool.not_true, Bool.not_false, if_true, if_false, and_true, true_and, memE, celE, w64, Nat.zero_add, Nat.add_zero, Nat.mul_one, putL, and_self, ldn]
    rw [← hM0] at hx3 o03 o13 o3 ⊢
    refine loop_inv mixed (fun s => ∃ (t : Nat) (M : Mem) (id : Nat), t ≤ k.need.length + 1 ∧ s.t 4 = .slice (some ⟨id, 0, none⟩) (turnP k t).length 1 ∧ s.t 5 = .slice (some ⟨d1, 0, none⟩) ls.length f1 ∧ s.t 7 = .slice (some ⟨d3, 0, none⟩) lk.length f3 ∧ s.t 8 = .int .i64 t ∧ s.m = M ∧ Grow (roM m ++ [⟨.own, 28, [v1, v2, v3, v4]⟩]) M ∧ OwnR M id (turnP k t) ∧ OwnR M d1 ls ∧ OwnR M d3 lk ∧ id ≠ d1 ∧ id ≠ d3 ∧ m.length < id) (fun s => k.need.length + 1 - (intOf (s.t 8)).toNat)
      ⟨0, M0, m.length + 1, by omega, rfl, rfl, rfl, rfl, rfl, hx3, o03, o13, o3, by omega, by omega, by omega⟩ ?_
    rintro s ⟨t, M, id, hk, t4, t5, t7, t8, tm, hxM, oh, oa, ob, ne1, ne3, lid⟩
    have ia := oa.ints (by omega) f1
    have ib := ob.ints (by omega) f3
    by_cases hlt : t < k.need.length + 1
    · have hlt' : (t : Int) < ls.length := by omega
      have a0 : iadA 1 (.slice (some ⟨d3, 0, none⟩) lk.length f3) (.int .i64 0) = some (pAt (.slice (some ⟨d3, 0, none⟩) lk.length f3) 0) := ib.at_ 0 (by omega)
      have hlt2 := hle t
      have b1 := getD_bound (by omega) bf t
      have b2 := getD_bound (by omega) bb t
      have ap := fun id2 n => app_genH (M := M) (x := (t : Int)) (id2 := id2) (n := n) oh (by omega)
      cases hat : turnAt k t with
      | true =>
        have hat' := hat
        rw [tat] at hat'
        simp (config := {implicitDefEqProofs := false, maxDischargeDepth := 20}) (disch := first | omega | (simp only [lenE]; done) | (simp only [lenE]; omega) | rfl | (simp only [lenE, markR_len]; done) | (simp only [lenE, markR_len]; omega)) only [runE, mapE, listE, initT_5, initT_6, initT_7, initT_8, resV, oneV, binA, unA, reduceCtorEq, Nat.reduceEqDiff, Nat.reduceAdd, Nat.reduceLT, Nat.reduceLeDiff, Nat.reduceMul, Nat.reduceSub, ↓reduceIte, decide_true, decide_false, Bool.true_eq_false, Bool.false_eq_true, Bool.not_true, Bool.not_false, if_true, if_false, and_true, true_and, memE, celE, w64, Nat.zero_add, Nat.add_zero, Nat.mul_one, putL, and_self, ldn, t4, t5, t7, t8, tm, hlt', ia.at_ t (by omega), ia.ld t (by omega), ib.at_ t (by omega), ib.ld t (by omega), a0, ib.ld 0 (by omega), hat', bsl_one, ap]
        refine ⟨⟨t + 1, _, M.length + 1, by omega, by rw [turnP_s, if_pos hat, List.length_append]; rfl, by simp, rfl, ((hxM.dead ?_).one _ _).one _ _, ?_, ((oa.dead ne1).ext _).ext _, ((ob.dead ne3).ext _).ext _, ?_, ?_, ?_⟩, by simp [intOf]; omega⟩
        · simp [roM_len]; omega
        · rw [turnP_s, if_pos hat]
          exact OwnR.end' (l := turnP k t ++ [(t : Int)]) (by simp)
        · have := oa.lt; omega
        · have := ob.lt; omega
        · have := oh.lt; omega
      | false =>
        have hat' := hat
        rw [tat] at hat'
        simp (config := {implicitDefEqProofs := false, maxDischargeDepth := 20}) (disch := first | omega | (simp only [lenE]; done) | (simp only [lenE]; omega) | rfl | (simp only [lenE, markR_len]; done) | (simp only [lenE, markR_len]; omega)) only [runE, mapE, listE, initT_5, initT_6, initT_7, initT_8, resV, oneV, binA, unA, reduceCtorEq, Nat.reduceEqDiff, Nat.reduceAdd, Nat.reduceLT, Nat.reduceLeDiff, Nat.reduceMul, Nat.reduceSub, ↓reduceIte, decide_true, decide_false, Bool.true_eq_false, Bool.false_eq_true, Bool.not_true, Bool.not_false, if_true, if_false, and_true, true_and, memE, celE, w64, Nat.zero_add, Nat.add_zero, Nat.mul_one, putL, and_self, ldn, t4, t5, t7, t8, tm, hlt', ia.at_ t (by omega), ia.ld t (by omega), ib.at_ t (by omega), ib.ld t (by omega), a0, ib.ld 0 (by omega), hat']
        exact ⟨⟨t + 1, _, id, by omega, by rw [turnP_s, hat]; rfl, by simp, rfl, hxM, by rw [turnP_s, hat]; exact oh, oa, ob, ne1, ne3, lid⟩, by simp [intOf]; omega⟩
    · have hlt' : ¬ ((t : Int) < ls.length) := by omega
      have e : t = k.need.length + 1 := by omega
      subst e
      have := hle (k.need.length + 1)
      simp (config := {implicitDefEqProofs := false, maxDischargeDepth := 20}) (disch := first | omega | (simp only [lenE]; done) | (simp only [lenE]; omega) | rfl | (simp only [lenE, markR_len]; done) | (simp only [lenE, markR_len]; omega)) only [runE, mapE, listE, initT_5, initT_6, initT_7, initT_8, resV, oneV, binA, unA, reduceCtorEq, Nat.reduceEqDiff, Nat.reduceAdd, Nat.reduceLT, Nat.reduceLeDiff, Nat.reduceMul, Nat.reduceSub, ↓reduceIte, decide_true, decide_false, Bool.true_eq_false, Bool.false_eq_true, Bool.not_true, Bool.not_false, if_true, if_false, and_true, true_and, memE, celE, w64, Nat.zero_add, Nat.add_zero, Nat.mul_one, putL, and_self, ldn, t4, t5, t7, t8, tm, hlt']
      exact ext_ansL hxM.ext oh (by omega) rfl (by omega)

theorem implTurn_rc (m : Mem) (v : Value) (k : Cs) (h : CaseA m v k) : RC Try.prog 39 [v] m (AnsL m (turnA k) k.good) := by
  refine rc_of_run mixed ok_impl_TurningPeriods (by simp) (go_start _ _ _ ?_)
  obtain ⟨v1, v2, v3, v4, rfl, h1, h2, h3, h4⟩ := h.ro.ok
  have hc : CaseA (roM m) (.agg #[v1, v2, v3, v4]) k := ⟨_, _, _, _, rfl, h1, h2, h3, h4⟩
  simp (config := {implicitDefEqProofs := false, maxDischargeDepth := 20}) (disch := first | omega | (simp only [lenE]; done) | (simp only [lenE]; omega) | rfl | (simp only [lenE, markR_len]; done) | (simp only [lenE, markR_len]; omega)) only [runE, mapE, listE, initT_5, initT_6, initT_7, initT_8, resV, oneV, binA, unA, reduceCtorEq, Nat.reduceEqDiff, Nat.reduceAdd, Nat.reduceLT, Nat.reduceLeDiff, Nat.reduceMul, Nat.reduceSub, ↓reduceIte, decide_true, decide_false, Bool.true_eq_false, Bool.false_eq_true, Bool.not_true, Bool.not_false, if_true, if_false, and_true, true_and, memE, celE, w64, Nat.zero_add, Nat.add_zero, Nat.mul_one, putL, and_self, ldn, c_impl_TurningPeriods, r_impl_TurningPeriods]
  refine callH_rc (implIsCase_rc _ _ k (hc.ext _)) ?_
  rintro r new ⟨rfl, nr1⟩
  have hx : Grow (roM m ++ [⟨.own, 28, [v1, v2, v3, v4]⟩]) (roM m ++ [⟨.own, 28, [v1, v2, v3, v4]⟩] ++ new) := (Grow.refl _).app nr1
  cases hg : k.good with
  | false =>
    simp (config := {implicitDefEqProofs := false, maxDischargeDepth := 20}) (disch := first | omega | (simp only [lenE]; done) | (simp only [lenE]; omega) | rfl | (simp only [lenE, markR_len]; done) | (simp only [lenE, markR_len]; omega)) only [runE, mapE, listE, initT_5, initT_6, initT_7, initT_8, resV, oneV, binA, unA, reduceCtorEq, Nat.reduceEqDiff, Nat.reduceAdd, Nat.reduceLT, Nat.reduceLeDiff, Nat.reduceMul, Nat.reduceSub, ↓reduceIte, decide_true, decide_false, Bool.true_eq_false, Bool.false_eq_true, Bool.not_true, Bool.not_false, if_true, if_false, and_true, true_and, memE, celE, w64, Nat.zero_add, Nat.add_zero, Nat.mul_one, putL, and_self, ldn, bsl_none]
    rw [turnA_no hg]
    refine ext_ansL (hx.ext.one _ _) (OwnR.end' (l := []) ?_) (by omega) rfl (by simp)
    simp only [List.length_append, List.length_cons, List.length_nil, roM_len]
  | true =>
    have gd := good_iff.1 hg
    have h8 := gd.n8
    rw [turnA_yes hg]
    simp (config := {implicitDefEqProofs := false, maxDischargeDepth := 20}) (disch := first | omega | (simp only [lenE]; done) | (simp only [lenE]; omega) | rfl | (simp only [lenE, markR_len]; done) | (simp only [lenE, markR_len]; omega)) only [runE, mapE, listE, initT_5, initT_6, initT_7, initT_8, resV, oneV, binA, unA, reduceCtorEq, Nat.reduceEqDiff, Nat.reduceAdd, Nat.reduceLT, Nat.reduceLeDiff, Nat.reduceMul, Nat.reduceSub, ↓reduceIte, decide_true, decide_false, Bool.true_eq_false, Bool.false_eq_true, Bool.not_true, Bool.not_false, if_true, if_false, and_true, true_and, memE, celE, w64, Nat.zero_add, Nat.add_zero, Nat.mul_one, putL, and_self, ldn]
    refine callH_rc (forwardTable_rc _ _ k (hx.caseV hc) gd) ?_
    intro r new2 hA
    obtain ⟨d1, d2, f1, f2, rfl, l1, l2, o1, o2, nr2⟩ := hA.rows
    have hx2 := hx.app nr2
    simp only [List.length_append, List.length_cons, List.length_nil, roM_len] at l1 l2
    simp (config := {implicitDefEqProofs := false, maxDischargeDepth := 20}) (disch := first | omega | (simp only [lenE]; done) | (simp only [lenE]; omega) | rfl | (simp only [lenE, markR_len]; done) | (simp only [lenE, markR_len]; omega)) only [runE, mapE, listE, initT_5, initT_6, initT_7, initT_8, resV, oneV, binA, unA, reduceCtorEq, Nat.reduceEqDiff, Nat.reduceAdd, Nat.reduceLT, Nat.reduceLeDiff, Nat.reduceMul, Nat.reduceSub, ↓reduceIte, decide_true, decide_false, Bool.true_eq_false, Bool.false_eq_true, Bool.not_true, Bool.not_false, if_true, if_false, and_true, true_and, memE, celE, w64, Nat.zero_add, Nat.add_zero, Nat.mul_one, putL, and_self, ldn, ext_2_0, ext_2_1]
    refine callH_rc (backwardTable_rc _ _ k (hx2.caseV hc) gd) ?_
    intro r new3 hB
    obtain ⟨d3, f3, rfl, l3, o3, -, nr3⟩ := hB.row
    have hx3 := hx2.app nr3
    have o13 := o1.ext new3
    simp only [List.length_append, List.length_cons, List.length_nil, roM_len] at l3
    have d1l := o1.lt
    simp only [List.length_append, List.length_cons, List.length_nil, roM_len] at d1l
    have ll := fwdC_len k k.need.length
    have lb := bwdL_len k
    have hle := fun t => turnP_len k t
    have bf := fwdC_in gd k.need.length h8
    have bb := bwdL_in gd
    have tat : ∀ t, turnAt k t = ((fwdC k k.need.length).getD t 0 + (bwdL k).getD t 0 == (bwdL k).getD 0 0) := fun _ => rfl
    generalize fwdC k k.need.length = ls at *
    generalize bwdL k = lk at *
    obtain ⟨M0, hM0⟩ : ∃ M0, M0 = roM m ++ [⟨.own, 28, [v1, v2, v3, v4]⟩] ++ new ++ new2 ++ new3 := ⟨_, rfl⟩
    have L0 : M0.length = m.length + 1 + new.length + new2.length + new3.length := by rw [hM0]; simp [roM_len]; omega
    rw [← hM0] at hx3 o13 o3 ⊢
    have ib := o3.ints (by omega) f3
    have a0 : iadA 1 (.slice (some ⟨d3, 0, none⟩) lk.length f3) (.int .i64 0) = some (pAt (.slice (some ⟨d3, 0, none⟩) lk.length f3) 0) := ib.at_ 0 (by omega)
    simp (config := {implicitDefEqProofs := false, maxDischargeDepth := 20}) (disch := first | omega | (simp only [lenE]; done) | (simp only [lenE]; omega) | rfl | (simp only [lenE, markR_len]; done) | (simp only [lenE, markR_len]; omega)) only [runE, mapE, listE, initT_5, initT_6, initT_7, initT_8, resV, oneV, binA, unA, reduceCtorEq, Nat.reduceEqDiff, Nat.reduceAdd, Nat.reduceLT, Nat.reduceLeDiff, Nat.reduceMul, Nat.reduceSub, ↓reduceIte, decide_true, decide_false, Bool.true_eq_false, Bool.false_eq_true, Bool.not_true, Bool.not_false, if_true, if_false, and_true, true_and, memE, celE, w64, Nat.zero_add, Nat.add_zero, Nat.mul_one, putL, and_self, ldn, a0, ib.ld 0 (by omega)]
    have o13b := o13.ext [⟨.own, 3, [.int .i64 (lk.getD 0 0)]⟩]
    have o3b := o3.ext [⟨.own, 3, [.int .i64 (lk.getD 0 0)]⟩]
    have hx4 := hx3.one 3 [.int .i64 (lk.getD 0 0)]
    have hbx : rdc (M0 ++ [⟨.own, 3, [.int .i64 (lk.getD 0 0)]⟩]) M0.length 0 = some (.int .i64 (lk.getD 0 0)) := by rw [rdc_box rfl]; rfl
    have d3l := o3.lt
    refine loop_inv mixed (fun s => ∃ (t : Nat) (M : Mem) (L : List Int), t ≤ k.need.length + 1 ∧ s.t 6 = .slice (some ⟨d3, 0, none⟩) (k.need.length + 1) f3 ∧ s.t 7 = .pointer (some ⟨M0.length, 0, none⟩) ∧ s.t 24 = .slice (some ⟨d1, 0, none⟩) ls.length f1 ∧ s.t 25 = .int .i64 ls.length ∧ s.t 26 = .int .i64 t ∧ s.m = M ∧ Grow (roM m ++ [⟨.own, 28, [v1, v2, v3, v4]⟩]) M ∧ OwnR M d1 ls ∧ OwnR M d3 L ∧ rdc M M0.length 0 = some (.int .i64 (lk.getD 0 0)) ∧ L.length = k.need.length + 1 ∧ (∀ i, i < t → L.getD i 0 = ls.getD i 0 + lk.getD i 0) ∧ (∀ i, t ≤ i → L.getD i 0 = lk.getD i 0)) (fun s => k.need.length + 1 - (intOf (s.t 26)).toNat)
      ⟨0, _, lk, by omega, by simp only [put_t, put_t', put_m, putT_t, putT_t', putT_m, init_t, init_m, initT_0, initT_1, initT_2, initT_3, initT_4, initT_5, initT_6, initT_7, initT_8, Nat.reduceEqDiff, ↓reduceIte]; rw [lb], rfl, rfl, rfl, rfl, rfl, hx4, o13b, o3b, hbx, lb, fun i hi => absurd hi (by omega), fun i _ => rfl⟩ ?_
    rintro s ⟨t, M, L, hk, t6, t7, t24, t25, t26, tm, hxM, oa, ob, hbM, hL, hpre, hpost⟩
    have ia := oa.ints (by omega) f1
    by_cases hlt : t < k.need.length + 1
    · have hlt' : (t : Int) < ls.length := by omega
      have b1 := getD_bound (by omega) bf t
      have b2 := getD_bound (by omega) bb t
      have rdt := ob.rd (i := t) (by omega)
      rw [hpost t (Nat.le_refl _)] at rdt
      have ost := ob.st (off := t) (x := lk.getD t 0 + ls.getD t 0) (by omega)
      simp (config := {implicitDefEqProofs := false, maxDischargeDepth := 20}) (disch := first | omega | (simp only [lenE]; done) | (simp only [lenE]; omega) | rfl | (simp only [lenE, markR_len]; done) | (simp only [lenE, markR_len]; omega)) only [runE, mapE, listE, initT_5, initT_6, initT_7, initT_8, resV, oneV, binA, unA, reduceCtorEq, Nat.reduceEqDiff, Nat.reduceAdd, Nat.reduceLT, Nat.reduceLeDiff, Nat.reduceMul, Nat.reduceSub, ↓reduceIte, decide_true, decide_false, Bool.true_eq_false, Bool.false_eq_true, Bool.not_true, Bool.not_false, if_true, if_false, and_true, true_and, memE, celE, w64, Nat.zero_add, Nat.add_zero, Nat.mul_one, putL, and_self, ldn, t6, t7, t24, t25, t26, tm, hlt', ia.at_ t (by omega), ia.ld t (by omega), iadA_in hlt, rdt, ost]
      have hne : d3 ≠ d1 := by omega
      have hneb : d3 ≠ M0.length := by omega
      have gs : ∀ i, (L.set t (lk.getD t 0 + ls.getD t 0)).getD i 0 = if i = t then lk.getD t 0 + ls.getD t 0 else L.getD i 0 := fun i => by
        rw [List.getD_eq_getElem?_getD, List.getElem?_set]
        by_cases e : t = i
        · subst e; rw [if_pos rfl, if_pos rfl, if_pos (by omega)]; rfl
        · rw [if_neg e, if_neg (fun h => e h.symm), List.getD_eq_getElem?_getD]
      refine ⟨⟨t + 1, _, L.set t (lk.getD t 0 + ls.getD t 0), by omega, by simp, rfl, hxM.put (by simp [roM_len]; omega) _ _, oa.set_ne hne, OwnR.set_self ob, ?_, by simpa using hL, ?_, ?_⟩, by simp [intOf]; omega⟩
      · unfold rdc at hbM ⊢
        rw [List.getElem?_set_ne hneb]; exact hbM
      · intro i hi
        rw [gs]
        by_cases e : i = t
        · rw [if_pos e, e]; omega
        · rw [if_neg e]; exact hpre i (by omega)
      · intro i hi
        rw [gs, if_neg (by omega)]
        exact hpost i (by omega)
    · have hlt' : ¬ ((t : Int) < ls.length) := by omega
      have e : t = k.need.length + 1 := by omega
      subst e
      have hi := ob.ints (by omega) f3
      rw [hL] at hi
      simp (config := {implicitDefEqProofs := false, maxDischargeDepth := 20}) (disch := first | omega | (simp only [lenE]; done) | (simp only [lenE]; omega) | rfl | (simp only [lenE, markR_len]; done) | (simp only [lenE, markR_len]; omega)) only [runE, mapE, listE, initT_5, initT_6, initT_7, initT_8, resV, oneV, binA, unA, reduceCtorEq, Nat.reduceEqDiff, Nat.reduceAdd, Nat.reduceLT, Nat.reduceLeDiff, Nat.reduceMul, Nat.reduceSub, ↓reduceIte, decide_true, decide_false, Bool.true_eq_false, Bool.false_eq_true, Bool.not_true, Bool.not_false, if_true, if_false, and_true, true_and, memE, celE, w64, Nat.zero_add, Nat.add_zero, Nat.mul_one, putL, and_self, ldn, t6, t7, t24, t25, t26, tm, hlt']
      refine callH_rc (periodsWith2_rc M _ _ L (fun x => x == lk.getD 0 0) hi (fun M' hM' => test_turn M' _ _ (hM'.rd hbM)) (by omega)) ?_
      intro r new4 hP
      obtain ⟨d4, f4, rfl, l4, o4, -, nr4⟩ := hP.row
      have ep : picks (fun x => x == lk.getD 0 0) L L.length = turnP k (k.need.length + 1) := by
        rw [hL]
        refine picks_turn _ fun i hi => ?_
        rw [tat, hpre i hi]
      rw [ep] at o4
      have := hle (k.need.length + 1)
      have hlm := hxM.len
      simp only [List.length_append, List.length_cons, List.length_nil, roM_len] at hlm
      simp (config := {implicitDefEqProofs := false, maxDischargeDepth := 20}) (disch := first | omega | (simp only [lenE]; done) | (simp only [lenE]; omega) | rfl | (simp only [lenE, markR_len]; done) | (simp only [lenE, markR_len]; omega)) only [runE, mapE, listE, initT_5, initT_6, initT_7, initT_8, resV, oneV, binA, unA, reduceCtorEq, Nat.reduceEqDiff, Nat.reduceAdd, Nat.reduceLT, Nat.reduceLeDiff, Nat.reduceMul, Nat.reduceSub, ↓reduceIte, decide_true, decide_false, Bool.true_eq_false, Bool.false_eq_true, Bool.not_true, Bool.not_false, if_true, if_false, and_true, true_and, memE, celE, w64, Nat.zero_add, Nat.add_zero, Nat.mul_one, putL, and_self, ldn, ep]
      exact ext_ansL (hxM.app nr4).ext o4 (by omega) rfl (by omega)
end Go.Proofs.Ytbiipjdhabbleaa.Ab
