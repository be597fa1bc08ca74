/- Claims and fair prices: ClaimsOf, AreFair. -/
import Derived.Test.YtonpeflncnccdaaAbApp
import Derived.Test.YtonpeflncnccdaaAbTurn
namespace Go.Proofs.Ytonpeflncnccdaa.Ab
open Go Go.RowKit
set_option linter.unusedVariables false
set_option linter.unusedSimpArgs false

theorem l1Most_rc (m : Mem) (a b : Int) : RC Try.prog 78 [.int .i64 a, .int .i64 b] m fun r new => r = .int .i64 (max a b) ∧ new = [] := by
  refine rc_of_run mixed ok_spec_l1Most (by simp) (go_start _ _ _ ?_)
  by_cases h : b < a
  · simp (config := {implicitDefEqProofs := false, maxDischargeDepth := 20}) (disch := first | omega | (simp only [lenE]; done) | (simp only [lenE]; omega) | rfl | (simp only [lenE, markR_len]; done) | (simp only [lenE, markR_len]; omega)) only [runE, mapE, listE, initT_5, initT_6, initT_7, initT_8, resV, oneV, binA, unA, reduceCtorEq, Nat.reduceEqDiff, Nat.reduceAdd, Nat.reduceLT, Nat.reduceLeDiff, Nat.reduceMul, Nat.reduceSub, ↓reduceIte, decide_true, decide_false, Bool.true_eq_false, Bool.false_eq_true, Bool.not_true, Bool.not_false, if_true, if_false, and_true, true_and, memE, celE, w64, Nat.zero_add, Nat.add_zero, Nat.mul_one, putL, and_self, ldn, c_spec_l1Most, r_spec_l1Most, h, gt_iff_lt]
    exact newQ_nil ⟨by congr 1; omega, rfl⟩
  · simp (config := {implicitDefEqProofs := false, maxDischargeDepth := 20}) (disch := first | omega | (simp only [lenE]; done) | (simp only [lenE]; omega) | rfl | (simp only [lenE, markR_len]; done) | (simp only [lenE, markR_len]; omega)) only [runE, mapE, listE, initT_5, initT_6, initT_7, initT_8, resV, oneV, binA, unA, reduceCtorEq, Nat.reduceEqDiff, Nat.reduceAdd, Nat.reduceLT, Nat.reduceLeDiff, Nat.reduceMul, Nat.reduceSub, ↓reduceIte, decide_true, decide_false, Bool.true_eq_false, Bool.false_eq_true, Bool.not_true, Bool.not_false, if_true, if_false, and_true, true_and, memE, celE, w64, Nat.zero_add, Nat.add_zero, Nat.mul_one, putL, and_self, ldn, c_spec_l1Most, r_spec_l1Most, h, gt_iff_lt]
    exact newQ_nil ⟨by congr 1; omega, rfl⟩

theorem l3Claim_rc (m : Mem) (v u : Value) (k : Cs) (ps : List Int) (i : Nat) (h : CaseA m v k) (h' : IntsA m u ps) (hg : Good k) (hl : ps.length ≤ k.need.length) (hp : ∀ x ∈ ps, 0 ≤ x ∧ x ≤ 9999) (hi8 : i ≤ 8) :
    RC Try.prog 55 [v, u, .int .i64 i] m (AnsV (.int .i64 (claimF k ps i))) := by
  refine rc_of_run mixed ok_spec_l3Claim (by simp) (go_start _ _ _ ?_)
  obtain ⟨v1, v2, v3, v4, rfl, h1, h2, h3, h4⟩ := h.ro.ok
  have hc : CaseA (roM m) (.agg #[v1, v2, v3, v4]) k := ⟨_, _, _, _, rfl, h1, h2, h3, h4⟩
  have hu := h'.ro
  have h8 := hg.n8
  simp (config := {implicitDefEqProofs := false, maxDischargeDepth := 20}) (disch := first | omega | (simp only [lenE]; done) | (simp only [lenE]; omega) | rfl | (simp only [lenE, markR_len]; done) | (simp only [lenE, markR_len]; omega)) only [runE, mapE, listE, initT_5, initT_6, initT_7, initT_8, resV, oneV, binA, unA, reduceCtorEq, Nat.reduceEqDiff, Nat.reduceAdd, Nat.reduceLT, Nat.reduceLeDiff, Nat.reduceMul, Nat.reduceSub, ↓reduceIte, decide_true, decide_false, Bool.true_eq_false, Bool.false_eq_true, Bool.not_true, Bool.not_false, if_true, if_false, and_true, true_and, memE, celE, w64, Nat.zero_add, Nat.add_zero, Nat.mul_one, putL, and_self, ldn, c_spec_l3Claim, r_spec_l3Claim]
  refine loop_inv mixed (fun s => ∃ (x : Nat) (M : Mem), i ≤ x ∧ (x ≤ ps.length ∨ x = i) ∧ s.t 1 = u ∧ s.t 2 = .int .i64 i ∧ s.t 3 = .pointer (some ⟨m.length, 0, none⟩) ∧ s.t 7 = .int .i64 (claimS k ps i x) ∧ s.t 8 = .int .i64 x ∧ s.m = M ∧ Grow (roM m ++ [⟨.own, 28, [v1, v2, v3, v4]⟩]) M) (fun s => ps.length - (intOf (s.t 8)).toNat)
    ⟨i, _, Nat.le_refl _, by omega, rfl, rfl, rfl, by rw [claimS_self]; rfl, rfl, rfl, Grow.refl _⟩ ?_
  rintro s ⟨x, M, hix, hxe, t1, t2, t3, t7, t8, tm, hx⟩
  obtain ⟨r0, r1, r2, r3, hlM⟩ := hx.box4
  have iu := hx.intsV hu
  by_cases hlt : x < ps.length
  · have hlt' : (x : Int) < ps.length := by omega
    have i1 := hx.intsV h1
    have b1 := claimT_in hg hp hix (by omega)
    have b2 := claimS_in hg hp i x (by omega)
    have b3 := nr_in hg hix (by omega)
    have e2 := claimS_s k ps hix
    simp (config := {implicitDefEqProofs := false, maxDischargeDepth := 20}) (disch := first | omega | (simp only [lenE]; done) | (simp only [lenE]; omega) | rfl | (simp only [lenE, markR_len]; done) | (simp only [lenE, markR_len]; omega)) only [runE, mapE, listE, initT_5, initT_6, initT_7, initT_8, resV, oneV, binA, unA, reduceCtorEq, Nat.reduceEqDiff, Nat.reduceAdd, Nat.reduceLT, Nat.reduceLeDiff, Nat.reduceMul, Nat.reduceSub, ↓reduceIte, decide_true, decide_false, Bool.true_eq_false, Bool.false_eq_true, Bool.not_true, Bool.not_false, if_true, if_false, and_true, true_and, memE, celE, w64, Nat.zero_add, Nat.add_zero, Nat.mul_one, putL, and_self, ldn, t1, t2, t3, t7, t8, tm, hlt', iu.len, iu.at_ x (by omega), iu.ld x (by omega), r0, r1, r2, r3, i1.at_ x (by omega), i1.ld x (by omega)]
    refine rcallH_rc (l3Rate_rc _ _ k i x (hx.caseV hc) hg (by omega) hix (by omega)) ?_
    rintro r new ⟨rfl, nr⟩
    simp (config := {implicitDefEqProofs := false, maxDischargeDepth := 20}) (disch := first | omega | (simp only [lenE]; done) | (simp only [lenE]; omega) | rfl | (simp only [lenE, markR_len]; done) | (simp only [lenE, markR_len]; omega)) only [runE, mapE, listE, initT_5, initT_6, initT_7, initT_8, resV, oneV, binA, unA, reduceCtorEq, Nat.reduceEqDiff, Nat.reduceAdd, Nat.reduceLT, Nat.reduceLeDiff, Nat.reduceMul, Nat.reduceSub, ↓reduceIte, decide_true, decide_false, Bool.true_eq_false, Bool.false_eq_true, Bool.not_true, Bool.not_false, if_true, if_false, and_true, true_and, memE, celE, w64, Nat.zero_add, Nat.add_zero, Nat.mul_one, putL, and_self, ldn]
    refine rcallH_rc (l1Most_rc _ _ _) ?_
    rintro r n2 ⟨rfl, rfl⟩
    unfold claimT at b1 e2
    simp (config := {implicitDefEqProofs := false, maxDischargeDepth := 20}) (disch := first | omega | (simp only [lenE]; done) | (simp only [lenE]; omega) | rfl | (simp only [lenE, markR_len]; done) | (simp only [lenE, markR_len]; omega)) only [runE, mapE, listE, initT_5, initT_6, initT_7, initT_8, resV, oneV, binA, unA, reduceCtorEq, Nat.reduceEqDiff, Nat.reduceAdd, Nat.reduceLT, Nat.reduceLeDiff, Nat.reduceMul, Nat.reduceSub, ↓reduceIte, decide_true, decide_false, Bool.true_eq_false, Bool.false_eq_true, Bool.not_true, Bool.not_false, if_true, if_false, and_true, true_and, memE, celE, w64, Nat.zero_add, Nat.add_zero, Nat.mul_one, putL, and_self, ldn, t1, t2, t3, t7, t8, tm]
    exact ⟨⟨x + 1, _, by omega, by omega, by rw [e2], by simp, rfl, hx.app nr⟩, by simp [intOf]; omega⟩
  · have hlt' : ¬ ((x : Int) < ps.length) := by omega
    have e : claimS k ps i x = claimF k ps i := by
      unfold claimF
      by_cases h : x = ps.length
      · rw [h]
      · have : x = i := by omega
        rw [this, claimS_self, claimS_early k ps (by omega)]
    simp (config := {implicitDefEqProofs := false, maxDischargeDepth := 20}) (disch := first | omega | (simp only [lenE]; done) | (simp only [lenE]; omega) | rfl | (simp only [lenE, markR_len]; done) | (simp only [lenE, markR_len]; omega)) only [runE, mapE, listE, initT_5, initT_6, initT_7, initT_8, resV, oneV, binA, unA, reduceCtorEq, Nat.reduceEqDiff, Nat.reduceAdd, Nat.reduceLT, Nat.reduceLeDiff, Nat.reduceMul, Nat.reduceSub, ↓reduceIte, decide_true, decide_false, Bool.true_eq_false, Bool.false_eq_true, Bool.not_true, Bool.not_false, if_true, if_false, and_true, true_and, memE, celE, w64, Nat.zero_add, Nat.add_zero, Nat.mul_one, putL, and_self, ldn, t1, t2, t3, t7, t8, tm, hlt', iu.len]
    exact ext_ansV hx.ext (by rw [e])

theorem claimBy_rc (m : Mem) (v u : Value) (k : Cs) (ps : List Int) (i : Nat) (h : CaseA m v k) (h' : IntsA m u ps) (hg : Good k) (hl : ps.length ≤ k.need.length) (hp : ∀ x ∈ ps, 0 ≤ x ∧ x ≤ 9999) (hi8 : i ≤ 8) :
    RC Try.prog 57 [v, u, .int .i64 i] m (AnsV (.int .i64 (claimF k ps i))) := by
  refine rc_of_run mixed ok_impl_claimBy (by simp) (go_start _ _ _ ?_)
  obtain ⟨v1, v2, v3, v4, rfl, h1, h2, h3, h4⟩ := h.ro.ok
  have hc : CaseA (roM m) (.agg #[v1, v2, v3, v4]) k := ⟨_, _, _, _, rfl, h1, h2, h3, h4⟩
  have hu := h'.ro
  have h8 := hg.n8
  simp (config := {implicitDefEqProofs := false, maxDischargeDepth := 20}) (disch := first | omega | (simp only [lenE]; done) | (simp only [lenE]; omega) | rfl | (simp only [lenE, markR_len]; done) | (simp only [lenE, markR_len]; omega)) only [runE, mapE, listE, initT_5, initT_6, initT_7, initT_8, resV, oneV, binA, unA, reduceCtorEq, Nat.reduceEqDiff, Nat.reduceAdd, Nat.reduceLT, Nat.reduceLeDiff, Nat.reduceMul, Nat.reduceSub, ↓reduceIte, decide_true, decide_false, Bool.true_eq_false, Bool.false_eq_true, Bool.not_true, Bool.not_false, if_true, if_false, and_true, true_and, memE, celE, w64, Nat.zero_add, Nat.add_zero, Nat.mul_one, putL, and_self, ldn, c_impl_claimBy, r_impl_claimBy]
  refine loop_inv mixed (fun s => ∃ (x : Nat) (M : Mem), i ≤ x ∧ (x ≤ ps.length ∨ x = i) ∧ s.t 1 = u ∧ s.t 2 = .int .i64 i ∧ s.t 3 = .pointer (some ⟨m.length, 0, none⟩) ∧ s.t 7 = .int .i64 (claimS k ps i x) ∧ s.t 8 = .int .i64 x ∧ s.m = M ∧ Grow (roM m ++ [⟨.own, 28, [v1, v2, v3, v4]⟩]) M) (fun s => ps.length - (intOf (s.t 8)).toNat)
    ⟨i, _, Nat.le_refl _, by omega, rfl, rfl, rfl, by rw [claimS_self]; rfl, rfl, rfl, Grow.refl _⟩ ?_
  rintro s ⟨x, M, hix, hxe, t1, t2, t3, t7, t8, tm, hx⟩
  obtain ⟨r0, r1, r2, r3, hlM⟩ := hx.box4
  have iu := hx.intsV hu
  by_cases hlt : x < ps.length
  · have hlt' : (x : Int) < ps.length := by omega
    have i1 := hx.intsV h1
    have b1 := claimT_in hg hp hix (by omega)
    have b2 := claimS_in hg hp i x (by omega)
    have b3 := nr_in hg hix (by omega)
    have e2 := claimS_s k ps hix
    simp (config := {implicitDefEqProofs := false, maxDischargeDepth := 20}) (disch := first | omega | (simp only [lenE]; done) | (simp only [lenE]; omega) | rfl | (simp only [lenE, markR_len]; done) | (simp only [lenE, markR_len]; omega)) only [runE, mapE, listE, initT_5, initT_6, initT_7, initT_8, resV, oneV, binA, unA, reduceCtorEq, Nat.reduceEqDiff, Nat.reduceAdd, Nat.reduceLT, Nat.reduceLeDiff, Nat.reduceMul, Nat.reduceSub, ↓reduceIte, decide_true, decide_false, Bool.true_eq_false, Bool.false_eq_true, Bool.not_true, Bool.not_false, if_true, if_false, and_true, true_and, memE, celE, w64, Nat.zero_add, Nat.add_zero, Nat.mul_one, putL, and_self, ldn, t1, t2, t3, t7, t8, tm, hlt', iu.len, iu.at_ x (by omega), iu.ld x (by omega), r0, r1, r2, r3, i1.at_ x (by omega), i1.ld x (by omega)]
    refine rcallH_rc (rateFrom_rc _ _ k i x (hx.caseV hc) hg (by omega) hix (by omega)) ?_
    rintro r new ⟨rfl, nr⟩
    unfold claimT at b1 e2
    simp (config := {implicitDefEqProofs := false, maxDischargeDepth := 20}) (disch := first | omega | (simp only [lenE]; done) | (simp only [lenE]; omega) | rfl | (simp only [lenE, markR_len]; done) | (simp only [lenE, markR_len]; omega)) only [runE, mapE, listE, initT_5, initT_6, initT_7, initT_8, resV, oneV, binA, unA, reduceCtorEq, Nat.reduceEqDiff, Nat.reduceAdd, Nat.reduceLT, Nat.reduceLeDiff, Nat.reduceMul, Nat.reduceSub, ↓reduceIte, decide_true, decide_false, Bool.true_eq_false, Bool.false_eq_true, Bool.not_true, Bool.not_false, if_true, if_false, and_true, true_and, memE, celE, w64, Nat.zero_add, Nat.add_zero, Nat.mul_one, putL, and_self, ldn, t1, t2, t3, t7, t8, tm]
    exact ⟨⟨x + 1, _, by omega, by omega, by rw [e2], by simp, rfl, hx.app nr⟩, by simp [intOf]; omega⟩
  · have hlt' : ¬ ((x : Int) < ps.length) := by omega
    have e : claimS k ps i x = claimF k ps i := by
      unfold claimF
      by_cases h : x = ps.length
      · rw [h]
      · have : x = i := by omega
        rw [this, claimS_self, claimS_early k ps (by omega)]
    simp (config := {implicitDefEqProofs := false, maxDischargeDepth := 20}) (disch := first | omega | (simp only [lenE]; done) | (simp only [lenE]; omega) | rfl | (simp only [lenE, markR_len]; done) | (simp only [lenE, markR_len]; omega)) only [runE, mapE, listE, initT_5, initT_6, initT_7, initT_8, resV, oneV, binA, unA, reduceCtorEq, Nat.reduceEqDiff, Nat.reduceAdd, Nat.reduceLT, Nat.reduceLeDiff, Nat.reduceMul, Nat.reduceSub, ↓reduceIte, decide_true, decide_false, Bool.true_eq_false, Bool.false_eq_true, Bool.not_true, Bool.not_false, if_true, if_false, and_true, true_and, memE, celE, w64, Nat.zero_add, Nat.add_zero, Nat.mul_one, putL, and_self, ldn, t1, t2, t3, t7, t8, tm, hlt', iu.len]
    exact ext_ansV hx.ext (by rw [e])

def pricesOk (k : Cs) (ps : List Int) : Bool := k.good && Go.Proofs.Ytonpeflncnccdaa.rowB ps k.need.length 9999
theorem pricesOk_iff {k : Cs} {ps : List Int} (h : pricesOk k ps = true) : Good k ∧ ps.length = k.need.length ∧ (∀ x ∈ ps, 0 ≤ x ∧ x ≤ 9999) := by
  unfold pricesOk at h
  rw [Bool.and_eq_true, good_iff, rowB_iff] at h
  exact ⟨h.1, h.2.2, h.2.1⟩
theorem l3Prices_rc (m : Mem) (v u : Value) (k : Cs) (ps : List Int) (h : CaseA m v k) (h' : IntsA m u ps) :
    RC Try.prog 54 [v, u] m (AnsV (.bool (pricesOk k ps))) := by
  refine rc_of_run mixed ok_spec_l3Prices (by simp) (go_start _ _ _ ?_)
  obtain ⟨v1, v2, v3, v4, rfl, h1, h2, h3, h4⟩ := h.ro.ok
  have hc : CaseA (roM m) (.agg #[v1, v2, v3, v4]) k := ⟨_, _, _, _, rfl, h1, h2, h3, h4⟩
  have hu := h'.ro
  simp (config := {implicitDefEqProofs := false, maxDischargeDepth := 20}) (disch := first | omega | (simp only [lenE]; done) | (simp only [lenE]; omega) | rfl | (simp only [lenE, markR_len]; done) | (simp only [lenE, markR_len]; omega)) only [runE, mapE, listE, initT_5, initT_6, initT_7, initT_8, resV, oneV, binA, unA, reduceCtorEq, Nat.reduceEqDiff, Nat.reduceAdd, Nat.reduceLT, Nat.reduceLeDiff, Nat.reduceMul, Nat.reduceSub, ↓reduceIte, decide_true, decide_false, Bool.true_eq_false, Bool.false_eq_true, Bool.not_true, Bool.not_false, if_true, if_false, and_true, true_and, memE, celE, w64, Nat.zero_add, Nat.add_zero, Nat.mul_one, putL, and_self, ldn, c_spec_l3Prices, r_spec_l3Prices]
  refine callH_rc (l2Good_rc _ _ k (hc.ext _)) ?_
  rintro r new ⟨rfl, nr1⟩
  have hx : Ext m (roM m ++ [⟨.own, 28, [v1, v2, v3, v4]⟩] ++ new) := ((Ext.refl m).one _ _).app nr1
  unfold pricesOk
  cases hg : k.good with
  | false =>
    simp (config := {implicitDefEqProofs := false, maxDischargeDepth := 20}) (disch := first | omega | (simp only [lenE]; done) | (simp only [lenE]; omega) | rfl | (simp only [lenE, markR_len]; done) | (simp only [lenE, markR_len]; omega)) only [runE, mapE, listE, initT_5, initT_6, initT_7, initT_8, resV, oneV, binA, unA, reduceCtorEq, Nat.reduceEqDiff, Nat.reduceAdd, Nat.reduceLT, Nat.reduceLeDiff, Nat.reduceMul, Nat.reduceSub, ↓reduceIte, decide_true, decide_false, Bool.true_eq_false, Bool.false_eq_true, Bool.not_true, Bool.not_false, if_true, if_false, and_true, true_and, memE, celE, w64, Nat.zero_add, Nat.add_zero, Nat.mul_one, putL, and_self, ldn]
    exact ext_ansV hx rfl
  | true =>
    simp (config := {implicitDefEqProofs := false, maxDischargeDepth := 20}) (disch := first | omega | (simp only [lenE]; done) | (simp only [lenE]; omega) | rfl | (simp only [lenE, markR_len]; done) | (simp only [lenE, markR_len]; omega)) only [runE, mapE, listE, initT_5, initT_6, initT_7, initT_8, resV, oneV, binA, unA, reduceCtorEq, Nat.reduceEqDiff, Nat.reduceAdd, Nat.reduceLT, Nat.reduceLeDiff, Nat.reduceMul, Nat.reduceSub, ↓reduceIte, decide_true, decide_false, Bool.true_eq_false, Bool.false_eq_true, Bool.not_true, Bool.not_false, if_true, if_false, and_true, true_and, memE, celE, w64, Nat.zero_add, Nat.add_zero, Nat.mul_one, putL, and_self, ldn, h1.len]
    refine callH_rc (l2Row_rc _ u ps k.need.length 9999 ((hu.ext _).ext _)) ?_
    rintro r n2 ⟨rfl, rfl⟩
    simp (config := {implicitDefEqProofs := false, maxDischargeDepth := 20}) (disch := first | omega | (simp only [lenE]; done) | (simp only [lenE]; omega) | rfl | (simp only [lenE, markR_len]; done) | (simp only [lenE, markR_len]; omega)) only [runE, mapE, listE, initT_5, initT_6, initT_7, initT_8, resV, oneV, binA, unA, reduceCtorEq, Nat.reduceEqDiff, Nat.reduceAdd, Nat.reduceLT, Nat.reduceLeDiff, Nat.reduceMul, Nat.reduceSub, ↓reduceIte, decide_true, decide_false, Bool.true_eq_false, Bool.false_eq_true, Bool.not_true, Bool.not_false, if_true, if_false, and_true, true_and, memE, celE, w64, Nat.zero_add, Nat.add_zero, Nat.mul_one, putL, and_self, ldn]
    exact ext_ansV (by simpa using hx) rfl

def claimsA (k : Cs) (ps : List Int) : List Int := if pricesOk k ps then claimsL k ps ps.length else []
theorem claimsA_no {k : Cs} {ps : List Int} (h : pricesOk k ps = false) : claimsA k ps = [] := by unfold claimsA; rw [h]; rfl
theorem claimsA_yes {k : Cs} {ps : List Int} (h : pricesOk k ps = true) : claimsA k ps = claimsL k ps ps.length := by unfold claimsA; rw [h]; rfl
theorem claimsL_s (k : Cs) (ps : List Int) (i : Nat) : claimsL k ps (i + 1) = claimsL k ps i ++ [claimF k ps i] := rfl

theorem specClaims_rc (m : Mem) (v u : Value) (k : Cs) (ps : List Int) (h : CaseA m v k) (h' : IntsA m u ps) : RC Try.prog 29 [v, u] m (AnsL m (claimsA k ps) (pricesOk k ps)) := by
  refine rc_of_run mixed ok_spec_ClaimsOf (by simp) (go_start _ _ _ ?_)
  obtain ⟨v1, v2, v3, v4, rfl, h1, h2, h3, h4⟩ := h.ro.ok
  have hc : CaseA (roM m) (.agg #[v1, v2, v3, v4]) k := ⟨_, _, _, _, rfl, h1, h2, h3, h4⟩
  have hu := h'.ro
  simp (config := {implicitDefEqProofs := false, maxDischargeDepth := 20}) (disch := first | omega | (simp only [lenE]; done) | (simp only [lenE]; omega) | rfl | (simp only [lenE, markR_len]; done) | (simp only [lenE, markR_len]; omega)) only [runE, mapE, listE, initT_5, initT_6, initT_7, initT_8, resV, oneV, binA, unA, reduceCtorEq, Nat.reduceEqDiff, Nat.reduceAdd, Nat.reduceLT, Nat.reduceLeDiff, Nat.reduceMul, Nat.reduceSub, ↓reduceIte, decide_true, decide_false, Bool.true_eq_false, Bool.false_eq_true, Bool.not_true, Bool.not_false, if_true, if_false, and_true, true_and, memE, celE, w64, Nat.zero_add, Nat.add_zero, Nat.mul_one, putL, and_self, ldn, c_spec_ClaimsOf, r_spec_ClaimsOf, bsl_none]
  refine callH_rc (l3Prices_rc _ _ u k ps ((hc.ext _).ext _) ((hu.ext _).ext _)) ?_
  rintro r new ⟨rfl, nr1⟩
  have o0 : OwnR (roM m ++ [⟨.own, 28, [v1, v2, v3, v4]⟩] ++ [⟨.own, 3, []⟩] ++ new) (m.length + 1) [] := (OwnR.end' (l := []) (by simp [roM_len])).ext _
  have hx : Grow (roM m ++ [⟨.own, 28, [v1, v2, v3, v4]⟩]) (roM m ++ [⟨.own, 28, [v1, v2, v3, v4]⟩] ++ [⟨.own, 3, []⟩] ++ new) := ((Grow.refl _).one _ _).app nr1
  cases hg : pricesOk k ps with
  | false =>
    simp (config := {implicitDefEqProofs := false, maxDischargeDepth := 20}) (disch := first | omega | (simp only [lenE]; done) | (simp only [lenE]; omega) | rfl | (simp only [lenE, markR_len]; done) | (simp only [lenE, markR_len]; omega)) only [runE, mapE, listE, initT_5, initT_6, initT_7, initT_8, resV, oneV, binA, unA, reduceCtorEq, Nat.reduceEqDiff, Nat.reduceAdd, Nat.reduceLT, Nat.reduceLeDiff, Nat.reduceMul, Nat.reduceSub, ↓reduceIte, decide_true, decide_false, Bool.true_eq_false, Bool.false_eq_true, Bool.not_true, Bool.not_false, if_true, if_false, and_true, true_and, memE, celE, w64, Nat.zero_add, Nat.add_zero, Nat.mul_one, putL, and_self, ldn]
    rw [claimsA_no hg]
    exact ext_ansL hx.ext o0 (by omega) rfl (by simp)
  | true =>
    obtain ⟨gd, hl, hp⟩ := pricesOk_iff hg
    have h8 := gd.n8
    rw [claimsA_yes hg]
    have cl := fun i => claimsL_len k ps i
    simp (config := {implicitDefEqProofs := false, maxDischargeDepth := 20}) (disch := first | omega | (simp only [lenE]; done) | (simp only [lenE]; omega) | rfl | (simp only [lenE, markR_len]; done) | (simp only [lenE, markR_len]; omega)) only [runE, mapE, listE, initT_5, initT_6, initT_7, initT_8, resV, oneV, binA, unA, reduceCtorEq, Nat.reduceEqDiff, Nat.reduceAdd, Nat.reduceLT, Nat.reduceLeDiff, Nat.reduceMul, Nat.reduceSub, ↓reduceIte, decide_true, decide_false, Bool.true_eq_false, Bool.false_eq_true, Bool.not_true, Bool.not_false, if_true, if_false, and_true, true_and, memE, celE, w64, Nat.zero_add, Nat.add_zero, Nat.mul_one, putL, and_self, ldn]
    refine loop_inv mixed (fun s => ∃ (t : Nat) (M : Mem) (id : Nat), t ≤ ps.length ∧ s.t 1 = u ∧ s.t 2 = .pointer (some ⟨m.length, 0, none⟩) ∧ s.t 6 = .slice (some ⟨id, 0, none⟩) (claimsL k ps t).length 1 ∧ s.t 7 = .int .i64 t ∧ s.m = M ∧ Grow (roM m ++ [⟨.own, 28, [v1, v2, v3, v4]⟩]) M ∧ OwnR M id (claimsL k ps t) ∧ m.length < id) (fun s => ps.length - (intOf (s.t 7)).toNat)
      ⟨0, _, m.length + 1, by omega, rfl, rfl, rfl, rfl, rfl, hx, o0, by omega⟩ ?_
    rintro s ⟨t, M, id, hk, t1, t2, t6, t7, tm, hxM, oh, lid⟩
    obtain ⟨r0, r1, r2, r3, hlM⟩ := hxM.box4
    have iu := hxM.intsV hu
    have clt := cl t
    by_cases hlt : t < ps.length
    · have hlt' : (t : Int) < ps.length := by omega
      simp (config := {implicitDefEqProofs := false, maxDischargeDepth := 20}) (disch := first | omega | (simp only [lenE]; done) | (simp only [lenE]; omega) | rfl | (simp only [lenE, markR_len]; done) | (simp only [lenE, markR_len]; omega)) only [runE, mapE, listE, initT_5, initT_6, initT_7, initT_8, resV, oneV, binA, unA, reduceCtorEq, Nat.reduceEqDiff, Nat.reduceAdd, Nat.reduceLT, Nat.reduceLeDiff, Nat.reduceMul, Nat.reduceSub, ↓reduceIte, decide_true, decide_false, Bool.true_eq_false, Bool.false_eq_true, Bool.not_true, Bool.not_false, if_true, if_false, and_true, true_and, memE, celE, w64, Nat.zero_add, Nat.add_zero, Nat.mul_one, putL, and_self, ldn, t1, t2, t6, t7, tm, hlt', iu.len, r0, r1, r2, r3]
      refine callH_rc (l3Claim_rc _ _ u k ps t (hxM.caseV hc) iu gd (by omega) hp (by omega)) ?_
      rintro r new2 ⟨rfl, nr2⟩
      have oh2 := oh.ext new2
      have ohl := oh.lt
      have ap := fun id2 n => app_genH (M := M ++ new2) (x := claimF k ps t) (id2 := id2) (n := n) oh2 (by omega)
      simp (config := {implicitDefEqProofs := false, maxDischargeDepth := 20}) (disch := first | omega | (simp only [lenE]; done) | (simp only [lenE]; omega) | rfl | (simp only [lenE, markR_len]; done) | (simp only [lenE, markR_len]; omega)) only [runE, mapE, listE, initT_5, initT_6, initT_7, initT_8, resV, oneV, binA, unA, reduceCtorEq, Nat.reduceEqDiff, Nat.reduceAdd, Nat.reduceLT, Nat.reduceLeDiff, Nat.reduceMul, Nat.reduceSub, ↓reduceIte, decide_true, decide_false, Bool.true_eq_false, Bool.false_eq_true, Bool.not_true, Bool.not_false, if_true, if_false, and_true, true_and, memE, celE, w64, Nat.zero_add, Nat.add_zero, Nat.mul_one, putL, and_self, ldn, t1, t2, t6, t7, tm, bsl_one, ap]
      refine ⟨⟨t + 1, _, M.length + new2.length + 1, by omega, by rw [claimsL_s, List.length_append]; rfl, by simp, rfl, (((hxM.app nr2).dead ?_).one _ _).one _ _, ?_, ?_⟩, by simp [intOf]; omega⟩
      · simp [roM_len]; omega
      · rw [claimsL_s]
        exact OwnR.end' (l := claimsL k ps t ++ [claimF k ps t]) (by simp)
      · omega
    · have hlt' : ¬ ((t : Int) < ps.length) := by omega
      have e : t = ps.length := by omega
      subst e
      simp (config := {implicitDefEqProofs := false, maxDischargeDepth := 20}) (disch := first | omega | (simp only [lenE]; done) | (simp only [lenE]; omega) | rfl | (simp only [lenE, markR_len]; done) | (simp only [lenE, markR_len]; omega)) only [runE, mapE, listE, initT_5, initT_6, initT_7, initT_8, resV, oneV, binA, unA, reduceCtorEq, Nat.reduceEqDiff, Nat.reduceAdd, Nat.reduceLT, Nat.reduceLeDiff, Nat.reduceMul, Nat.reduceSub, ↓reduceIte, decide_true, decide_false, Bool.true_eq_false, Bool.false_eq_true, Bool.not_true, Bool.not_false, if_true, if_false, and_true, true_and, memE, celE, w64, Nat.zero_add, Nat.add_zero, Nat.mul_one, putL, and_self, ldn, t1, t2, t6, t7, tm, hlt', iu.len]
      exact ext_ansL hxM.ext oh (by omega) rfl (by omega)

theorem implClaims_rc (m : Mem) (v u : Value) (k : Cs) (ps : List Int) (h : CaseA m v k) (h' : IntsA m u ps) : RC Try.prog 30 [v, u] m (AnsL m (claimsA k ps) (pricesOk k ps)) := by
  refine rc_of_run mixed ok_impl_ClaimsOf (by simp) (go_start _ _ _ ?_)
  obtain ⟨v1, v2, v3, v4, rfl, h1, h2, h3, h4⟩ := h.ro.ok
  have hc : CaseA (roM m) (.agg #[v1, v2, v3, v4]) k := ⟨_, _, _, _, rfl, h1, h2, h3, h4⟩
  have hu := h'.ro
  simp (config := {implicitDefEqProofs := false, maxDischargeDepth := 20}) (disch := first | omega | (simp only [lenE]; done) | (simp only [lenE]; omega) | rfl | (simp only [lenE, markR_len]; done) | (simp only [lenE, markR_len]; omega)) only [runE, mapE, listE, initT_5, initT_6, initT_7, initT_8, resV, oneV, binA, unA, reduceCtorEq, Nat.reduceEqDiff, Nat.reduceAdd, Nat.reduceLT, Nat.reduceLeDiff, Nat.reduceMul, Nat.reduceSub, ↓reduceIte, decide_true, decide_false, Bool.true_eq_false, Bool.false_eq_true, Bool.not_true, Bool.not_false, if_true, if_false, and_true, true_and, memE, celE, w64, Nat.zero_add, Nat.add_zero, Nat.mul_one, putL, and_self, ldn, c_impl_ClaimsOf, r_impl_ClaimsOf]
  refine callH_rc (implIsCase_rc _ _ k (hc.ext _)) ?_
  rintro r new ⟨rfl, nr1⟩
  have hx : Grow (roM m ++ [⟨.own, 28, [v1, v2, v3, v4]⟩]) (roM m ++ [⟨.own, 28, [v1, v2, v3, v4]⟩] ++ new) := (Grow.refl _).app nr1
  cases hgk : k.good with
  | false =>
    have no : pricesOk k ps = false := by unfold pricesOk; rw [hgk]; rfl
    simp (config := {implicitDefEqProofs := false, maxDischargeDepth := 20}) (disch := first | omega | (simp only [lenE]; done) | (simp only [lenE]; omega) | rfl | (simp only [lenE, markR_len]; done) | (simp only [lenE, markR_len]; omega)) only [runE, mapE, listE, initT_5, initT_6, initT_7, initT_8, resV, oneV, binA, unA, reduceCtorEq, Nat.reduceEqDiff, Nat.reduceAdd, Nat.reduceLT, Nat.reduceLeDiff, Nat.reduceMul, Nat.reduceSub, ↓reduceIte, decide_true, decide_false, Bool.true_eq_false, Bool.false_eq_true, Bool.not_true, Bool.not_false, if_true, if_false, and_true, true_and, memE, celE, w64, Nat.zero_add, Nat.add_zero, Nat.mul_one, putL, and_self, ldn, bsl_none]
    rw [no, claimsA_no no]
    refine ext_ansL (hx.ext.one _ _) (OwnR.end' (l := []) ?_) (by omega) rfl (by simp)
    simp only [List.length_append, List.length_cons, List.length_nil, roM_len]
  | true =>
    simp (config := {implicitDefEqProofs := false, maxDischargeDepth := 20}) (disch := first | omega | (simp only [lenE]; done) | (simp only [lenE]; omega) | rfl | (simp only [lenE, markR_len]; done) | (simp only [lenE, markR_len]; omega)) only [runE, mapE, listE, initT_5, initT_6, initT_7, initT_8, resV, oneV, binA, unA, reduceCtorEq, Nat.reduceEqDiff, Nat.reduceAdd, Nat.reduceLT, Nat.reduceLeDiff, Nat.reduceMul, Nat.reduceSub, ↓reduceIte, decide_true, decide_false, Bool.true_eq_false, Bool.false_eq_true, Bool.not_true, Bool.not_false, if_true, if_false, and_true, true_and, memE, celE, w64, Nat.zero_add, Nat.add_zero, Nat.mul_one, putL, and_self, ldn, h1.len]
    refine callH_rc (isRow_rc _ u ps k.need.length 9999 ((hu.ext _).ext _)) ?_
    rintro r new1 ⟨rfl, nr1b⟩
    have hx := hx.app nr1b
    cases hrow : Go.Proofs.Ytonpeflncnccdaa.rowB ps k.need.length 9999 with
    | false =>
      have no : pricesOk k ps = false := by unfold pricesOk; rw [hrow]; simp
      simp (config := {implicitDefEqProofs := false, maxDischargeDepth := 20}) (disch := first | omega | (simp only [lenE]; done) | (simp only [lenE]; omega) | rfl | (simp only [lenE, markR_len]; done) | (simp only [lenE, markR_len]; omega)) only [runE, mapE, listE, initT_5, initT_6, initT_7, initT_8, resV, oneV, binA, unA, reduceCtorEq, Nat.reduceEqDiff, Nat.reduceAdd, Nat.reduceLT, Nat.reduceLeDiff, Nat.reduceMul, Nat.reduceSub, ↓reduceIte, decide_true, decide_false, Bool.true_eq_false, Bool.false_eq_true, Bool.not_true, Bool.not_false, if_true, if_false, and_true, true_and, memE, celE, w64, Nat.zero_add, Nat.add_zero, Nat.mul_one, putL, and_self, ldn, bsl_none]
      rw [no, claimsA_no no]
      refine ext_ansL (hx.ext.one _ _) (OwnR.end' (l := []) ?_) (by omega) rfl (by simp)
      simp only [List.length_append, List.length_cons, List.length_nil, roM_len]
    | true =>
      have hg : pricesOk k ps = true := by unfold pricesOk; rw [hgk, hrow]; rfl
      obtain ⟨gd, hl, hp⟩ := pricesOk_iff hg
      have h8 := gd.n8
      rw [hg, claimsA_yes hg]
      have cl := fun i => claimsL_len k ps i
      obtain ⟨M0, hM0⟩ : ∃ M0, M0 = roM m ++ [⟨.own, 28, [v1, v2, v3, v4]⟩] ++ new ++ new1 := ⟨_, rfl⟩
      have L0 : M0.length = m.length + 1 + new.length + new1.length := by rw [hM0]; simp [roM_len]; omega
      simp (config := {implicitDefEqProofs := false, maxDischargeDepth := 20}) (disch := first | omega | (simp only [lenE]; done) | (simp only [lenE]; omega) | rfl | (simp only [lenE, markR_len]; done) | (simp only [lenE, markR_len]; omega)) only [runE, mapE, listE, initT_5, initT_6, initT_7, initT_8, resV, oneV, binA, unA, reduceCtorEq, Nat.reduceEqDiff, Nat.reduceAdd, Nat.reduceLT, Nat.reduceLeDiff, Nat.reduceMul, Nat.reduceSub, ↓reduceIte, decide_true, decide_false, Bool.true_eq_false, Bool.false_eq_true, Bool.not_true, Bool.not_false, if_true, if_false, and_true, true_and, memE, celE, w64, Nat.zero_add, Nat.add_zero, Nat.mul_one, putL, and_self, ldn, bsl_none, hu.len]
      rw [← hM0] at hx ⊢
      refine loop_inv mixed (fun s => ∃ (t : Nat) (M : Mem) (id : Nat), t ≤ ps.length ∧ s.t 1 = u ∧ s.t 2 = .pointer (some ⟨m.length, 0, none⟩) ∧ s.t 6 = .slice (some ⟨id, 0, none⟩) (claimsL k ps t).length 1 ∧ s.t 22 = .int .i64 ps.length ∧ s.t 23 = .int .i64 t ∧ s.m = M ∧ Grow (roM m ++ [⟨.own, 28, [v1, v2, v3, v4]⟩]) M ∧ OwnR M id (claimsL k ps t) ∧ m.length < id) (fun s => ps.length - (intOf (s.t 23)).toNat)
        ⟨0, _, M0.length, by omega, rfl, rfl, by simp only [put_t, put_t', put_m, putT_t, putT_t', putT_m, init_t, init_m, initT_0, initT_1, initT_2, initT_3, initT_4, initT_5, initT_6, initT_7, initT_8, Nat.reduceEqDiff, ↓reduceIte]; rw [L0]; rfl, rfl, rfl, rfl, hx.one _ _, OwnR.at_end M0 [], by omega⟩ ?_
      rintro s ⟨t, M, id, hk, t1, t2, t6, t22, t23, tm, hxM, oh, lid⟩
      obtain ⟨r0, r1, r2, r3, hlM⟩ := hxM.box4
      have iu := hxM.intsV hu
      have clt := cl t
      by_cases hlt : t < ps.length
      · have hlt' : (t : Int) < ps.length := by omega
        simp (config := {implicitDefEqProofs := false, maxDischargeDepth := 20}) (disch := first | omega | (simp only [lenE]; done) | (simp only [lenE]; omega) | rfl | (simp only [lenE, markR_len]; done) | (simp only [lenE, markR_len]; omega)) only [runE, mapE, listE, initT_5, initT_6, initT_7, initT_8, resV, oneV, binA, unA, reduceCtorEq, Nat.reduceEqDiff, Nat.reduceAdd, Nat.reduceLT, Nat.reduceLeDiff, Nat.reduceMul, Nat.reduceSub, ↓reduceIte, decide_true, decide_false, Bool.true_eq_false, Bool.false_eq_true, Bool.not_true, Bool.not_false, if_true, if_false, and_true, true_and, memE, celE, w64, Nat.zero_add, Nat.add_zero, Nat.mul_one, putL, and_self, ldn, t1, t2, t6, t22, t23, tm, hlt', r0, r1, r2, r3]
        refine callH_rc (claimBy_rc _ _ u k ps t (hxM.caseV hc) iu gd (by omega) hp (by omega)) ?_
        rintro r new2 ⟨rfl, nr2⟩
        have oh2 := oh.ext new2
        have ohl := oh.lt
        have ap := fun id2 n => app_genH (M := M ++ new2) (x := claimF k ps t) (id2 := id2) (n := n) oh2 (by omega)
        simp (config := {implicitDefEqProofs := false, maxDischargeDepth := 20}) (disch := first | omega | (simp only [lenE]; done) | (simp only [lenE]; omega) | rfl | (simp only [lenE, markR_len]; done) | (simp only [lenE, markR_len]; omega)) only [runE, mapE, listE, initT_5, initT_6, initT_7, initT_8, resV, oneV, binA, unA, reduceCtorEq, Nat.reduceEqDiff, Nat.reduceAdd, Nat.reduceLT, Nat.reduceLeDiff, Nat.reduceMul, Nat.reduceSub, ↓reduceIte, decide_true, decide_false, Bool.true_eq_false, Bool.false_eq_true, Bool.not_true, Bool.not_false, if_true, if_false, and_true, true_and, memE, celE, w64, Nat.zero_add, Nat.add_zero, Nat.mul_one, putL, and_self, ldn, t1, t2, t6, t22, t23, tm, bsl_one, ap]
        refine ⟨⟨t + 1, _, M.length + new2.length + 1, by omega, by rw [claimsL_s, List.length_append]; rfl, by simp, rfl, (((hxM.app nr2).dead ?_).one _ _).one _ _, ?_, ?_⟩, by simp [intOf]; omega⟩
        · simp [roM_len]; omega
        · rw [claimsL_s]
          exact OwnR.end' (l := claimsL k ps t ++ [claimF k ps t]) (by simp)
        · omega
      · have hlt' : ¬ ((t : Int) < ps.length) := by omega
        have e : t = ps.length := by omega
        subst e
        simp (config := {implicitDefEqProofs := false, maxDischargeDepth := 20}) (disch := first | omega | (simp only [lenE]; done) | (simp only [lenE]; omega) | rfl | (simp only [lenE, markR_len]; done) | (simp only [lenE, markR_len]; omega)) only [runE, mapE, listE, initT_5, initT_6, initT_7, initT_8, resV, oneV, binA, unA, reduceCtorEq, Nat.reduceEqDiff, Nat.reduceAdd, Nat.reduceLT, Nat.reduceLeDiff, Nat.reduceMul, Nat.reduceSub, ↓reduceIte, decide_true, decide_false, Bool.true_eq_false, Bool.false_eq_true, Bool.not_true, Bool.not_false, if_true, if_false, and_true, true_and, memE, celE, w64, Nat.zero_add, Nat.add_zero, Nat.mul_one, putL, and_self, ldn, t1, t2, t6, t22, t23, tm, hlt']
        exact ext_ansL hxM.ext oh (by omega) rfl (by omega)

theorem l3Fair_rc (m : Mem) (v u : Value) (k : Cs) (ps : List Int) (h : CaseA m v k) (h' : IntsA m u ps) :
    RC Try.prog 58 [v, u] m (AnsV (.bool (pricesOk k ps && fairB k ps))) := by
  refine rc_of_run mixed ok_spec_l3Fair (by simp) (go_start _ _ _ ?_)
  obtain ⟨v1, v2, v3, v4, rfl, h1, h2, h3, h4⟩ := h.ro.ok
  have hc : CaseA (roM m) (.agg #[v1, v2, v3, v4]) k := ⟨_, _, _, _, rfl, h1, h2, h3, h4⟩
  have hu := h'.ro
  simp (config := {implicitDefEqProofs := false, maxDischargeDepth := 20}) (disch := first | omega | (simp only [lenE]; done) | (simp only [lenE]; omega) | rfl | (simp only [lenE, markR_len]; done) | (simp only [lenE, markR_len]; omega)) only [runE, mapE, listE, initT_5, initT_6, initT_7, initT_8, resV, oneV, binA, unA, reduceCtorEq, Nat.reduceEqDiff, Nat.reduceAdd, Nat.reduceLT, Nat.reduceLeDiff, Nat.reduceMul, Nat.reduceSub, ↓reduceIte, decide_true, decide_false, Bool.true_eq_false, Bool.false_eq_true, Bool.not_true, Bool.not_false, if_true, if_false, and_true, true_and, memE, celE, w64, Nat.zero_add, Nat.add_zero, Nat.mul_one, putL, and_self, ldn, c_spec_l3Fair, r_spec_l3Fair]
  refine callH_rc (l3Prices_rc _ _ u k ps (hc.ext _) (hu.ext _)) ?_
  rintro r new ⟨rfl, nr1⟩
  have hx : Grow (roM m ++ [⟨.own, 28, [v1, v2, v3, v4]⟩]) (roM m ++ [⟨.own, 28, [v1, v2, v3, v4]⟩] ++ new) := (Grow.refl _).app nr1
  cases hg : pricesOk k ps with
  | false =>
    simp (config := {implicitDefEqProofs := false, maxDischargeDepth := 20}) (disch := first | omega | (simp only [lenE]; done) | (simp only [lenE]; omega) | rfl | (simp only [lenE, markR_len]; done) | (simp only [lenE, markR_len]; omega)) only [runE, mapE, listE, initT_5, initT_6, initT_7, initT_8, resV, oneV, binA, unA, reduceCtorEq, Nat.reduceEqDiff, Nat.reduceAdd, Nat.reduceLT, Nat.reduceLeDiff, Nat.reduceMul, Nat.reduceSub, ↓reduceIte, decide_true, decide_false, Bool.true_eq_false, Bool.false_eq_true, Bool.not_true, Bool.not_false, if_true, if_false, and_true, true_and, memE, celE, w64, Nat.zero_add, Nat.add_zero, Nat.mul_one, putL, and_self, ldn]
    exact ext_ansV hx.ext rfl
  | true =>
    obtain ⟨gd, hl, hp⟩ := pricesOk_iff hg
    have h8 := gd.n8
    have g0 := gd.ls
    simp (config := {implicitDefEqProofs := false, maxDischargeDepth := 20}) (disch := first | omega | (simp only [lenE]; done) | (simp only [lenE]; omega) | rfl | (simp only [lenE, markR_len]; done) | (simp only [lenE, markR_len]; omega)) only [runE, mapE, listE, initT_5, initT_6, initT_7, initT_8, resV, oneV, binA, unA, reduceCtorEq, Nat.reduceEqDiff, Nat.reduceAdd, Nat.reduceLT, Nat.reduceLeDiff, Nat.reduceMul, Nat.reduceSub, ↓reduceIte, decide_true, decide_false, Bool.true_eq_false, Bool.false_eq_true, Bool.not_true, Bool.not_false, if_true, if_false, and_true, true_and, memE, celE, w64, Nat.zero_add, Nat.add_zero, Nat.mul_one, putL, and_self, ldn]
    refine loop_inv mixed (fun s => ∃ (t : Nat) (M : Mem), t ≤ ps.length ∧ s.t 1 = u ∧ s.t 2 = .pointer (some ⟨m.length, 0, none⟩) ∧ s.t 5 = .int .i64 t ∧ s.m = M ∧ Grow (roM m ++ [⟨.own, 28, [v1, v2, v3, v4]⟩]) M ∧ (∀ j, j < t → fairAt k ps j = true)) (fun s => ps.length - (intOf (s.t 5)).toNat)
      ⟨0, _, by omega, rfl, rfl, rfl, rfl, hx, fun j hj => absurd hj (by omega)⟩ ?_
    rintro s ⟨t, M, hk, t1, t2, t5, tm, hxM, hall⟩
    obtain ⟨r0, r1, r2, r3, hlM⟩ := hxM.box4
    have iu := hxM.intsV hu
    have i1 := hxM.intsV h1
    have i2 := hxM.intsV h2
    by_cases hlt : t < ps.length
    · have hlt' : (t : Int) < ps.length := by omega
      simp (config := {implicitDefEqProofs := false, maxDischargeDepth := 20}) (disch := first | omega | (simp only [lenE]; done) | (simp only [lenE]; omega) | rfl | (simp only [lenE, markR_len]; done) | (simp only [lenE, markR_len]; omega)) only [runE, mapE, listE, initT_5, initT_6, initT_7, initT_8, resV, oneV, binA, unA, reduceCtorEq, Nat.reduceEqDiff, Nat.reduceAdd, Nat.reduceLT, Nat.reduceLeDiff, Nat.reduceMul, Nat.reduceSub, ↓reduceIte, decide_true, decide_false, Bool.true_eq_false, Bool.false_eq_true, Bool.not_true, Bool.not_false, if_true, if_false, and_true, true_and, memE, celE, w64, Nat.zero_add, Nat.add_zero, Nat.mul_one, putL, and_self, ldn, t1, t2, t5, tm, hlt', iu.len, r0, r1, r2, r3, i2.at_ t (by omega), i2.ld t (by omega)]
      refine rcallH_rc (l3Claim_rc _ _ u k ps t (hxM.caseV hc) iu gd (by omega) hp (by omega)) ?_
      rintro r new2 ⟨rfl, nr2⟩
      have hx2 := hxM.app nr2
      have nx : fairAt k ps t = true → ∀ j, j < t + 1 → fairAt k ps j = true := fun hf j hj => by
        by_cases e : j = t
        · rw [e]; exact hf
        · exact hall j (by omega)
      by_cases c1 : k.setup.getD t 0 < claimF k ps t
      · have hf : fairAt k ps t = false := by unfold fairAt; rw [decide_eq_true c1]; rfl
        simp (config := {implicitDefEqProofs := false, maxDischargeDepth := 20}) (disch := first | omega | (simp only [lenE]; done) | (simp only [lenE]; omega) | rfl | (simp only [lenE, markR_len]; done) | (simp only [lenE, markR_len]; omega)) only [runE, mapE, listE, initT_5, initT_6, initT_7, initT_8, resV, oneV, binA, unA, reduceCtorEq, Nat.reduceEqDiff, Nat.reduceAdd, Nat.reduceLT, Nat.reduceLeDiff, Nat.reduceMul, Nat.reduceSub, ↓reduceIte, decide_true, decide_false, Bool.true_eq_false, Bool.false_eq_true, Bool.not_true, Bool.not_false, if_true, if_false, and_true, true_and, memE, celE, w64, Nat.zero_add, Nat.add_zero, Nat.mul_one, putL, and_self, ldn, t1, t2, t5, tm, gt_iff_lt, c1]
        exact ext_ansV hx2.ext (by rw [fair_no hlt hf]; rfl)
      · by_cases c2 : k.need.getD t 0 = 0
        · have c2' : (k.need.getD t 0 == 0) = true := by rw [c2]; rfl
          by_cases c3 : 0 < ps.getD t 0
          · have hf : fairAt k ps t = false := by unfold fairAt; rw [decide_eq_false c1, c2', decide_eq_true c3]; rfl
            simp (config := {implicitDefEqProofs := false, maxDischargeDepth := 20}) (disch := first | omega | (simp only [lenE]; done) | (simp only [lenE]; omega) | rfl | (simp only [lenE, markR_len]; done) | (simp only [lenE, markR_len]; omega)) only [runE, mapE, listE, initT_5, initT_6, initT_7, initT_8, resV, oneV, binA, unA, reduceCtorEq, Nat.reduceEqDiff, Nat.reduceAdd, Nat.reduceLT, Nat.reduceLeDiff, Nat.reduceMul, Nat.reduceSub, ↓reduceIte, decide_true, decide_false, Bool.true_eq_false, Bool.false_eq_true, Bool.not_true, Bool.not_false, if_true, if_false, and_true, true_and, memE, celE, w64, Nat.zero_add, Nat.add_zero, Nat.mul_one, putL, and_self, ldn, t1, t2, t5, tm, gt_iff_lt, c1, r0, i1.at_ t (by omega), (i1.ext _).ld t (by omega), c2', iu.at_ t (by omega), (iu.ext _).ld t (by omega), c3]
            exact ext_ansV hx2.ext (by rw [fair_no hlt hf]; rfl)
          · have hf : fairAt k ps t = true := by unfold fairAt; rw [decide_eq_false c1, c2', decide_eq_false c3]; rfl
            simp (config := {implicitDefEqProofs := false, maxDischargeDepth := 20}) (disch := first | omega | (simp only [lenE]; done) | (simp only [lenE]; omega) | rfl | (simp only [lenE, markR_len]; done) | (simp only [lenE, markR_len]; omega)) only [runE, mapE, listE, initT_5, initT_6, initT_7, initT_8, resV, oneV, binA, unA, reduceCtorEq, Nat.reduceEqDiff, Nat.reduceAdd, Nat.reduceLT, Nat.reduceLeDiff, Nat.reduceMul, Nat.reduceSub, ↓reduceIte, decide_true, decide_false, Bool.true_eq_false, Bool.false_eq_true, Bool.not_true, Bool.not_false, if_true, if_false, and_true, true_and, memE, celE, w64, Nat.zero_add, Nat.add_zero, Nat.mul_one, putL, and_self, ldn, t1, t2, t5, tm, gt_iff_lt, c1, r0, i1.at_ t (by omega), (i1.ext _).ld t (by omega), c2', iu.at_ t (by omega), (iu.ext _).ld t (by omega), c3]
            exact ⟨⟨t + 1, _, by omega, by simp, rfl, hx2, nx hf⟩, by simp [intOf]; omega⟩
        · have c2' : (k.need.getD t 0 == 0) = false := by simp only [beq_eq_false_iff_ne]; exact c2
          have hf : fairAt k ps t = true := by unfold fairAt; rw [decide_eq_false c1, c2']; rfl
          simp (config := {implicitDefEqProofs := false, maxDischargeDepth := 20}) (disch := first | omega | (simp only [lenE]; done) | (simp only [lenE]; omega) | rfl | (simp only [lenE, markR_len]; done) | (simp only [lenE, markR_len]; omega)) only [runE, mapE, listE, initT_5, initT_6, initT_7, initT_8, resV, oneV, binA, unA, reduceCtorEq, Nat.reduceEqDiff, Nat.reduceAdd, Nat.reduceLT, Nat.reduceLeDiff, Nat.reduceMul, Nat.reduceSub, ↓reduceIte, decide_true, decide_false, Bool.true_eq_false, Bool.false_eq_true, Bool.not_true, Bool.not_false, if_true, if_false, and_true, true_and, memE, celE, w64, Nat.zero_add, Nat.add_zero, Nat.mul_one, putL, and_self, ldn, t1, t2, t5, tm, gt_iff_lt, c1, r0, i1.at_ t (by omega), (i1.ext _).ld t (by omega), c2']
          exact ⟨⟨t + 1, _, by omega, by simp, rfl, hx2, nx hf⟩, by simp [intOf]; omega⟩
    · have hlt' : ¬ ((t : Int) < ps.length) := by omega
      have e : t = ps.length := by omega
      subst e
      simp (config := {implicitDefEqProofs := false, maxDischargeDepth := 20}) (disch := first | omega | (simp only [lenE]; done) | (simp only [lenE]; omega) | rfl | (simp only [lenE, markR_len]; done) | (simp only [lenE, markR_len]; omega)) only [runE, mapE, listE, initT_5, initT_6, initT_7, initT_8, resV, oneV, binA, unA, reduceCtorEq, Nat.reduceEqDiff, Nat.reduceAdd, Nat.reduceLT, Nat.reduceLeDiff, Nat.reduceMul, Nat.reduceSub, ↓reduceIte, decide_true, decide_false, Bool.true_eq_false, Bool.false_eq_true, Bool.not_true, Bool.not_false, if_true, if_false, and_true, true_and, memE, celE, w64, Nat.zero_add, Nat.add_zero, Nat.mul_one, putL, and_self, ldn, t1, t2, t5, tm, hlt', iu.len]
      exact ext_ansV hxM.ext (by rw [fair_yes hall]; rfl)

theorem specFair_rc (m : Mem) (v u : Value) (k : Cs) (ps : List Int) (h : CaseA m v k) (h' : IntsA m u ps) :
    RC Try.prog 31 [v, u] m (AnsV (.tuple #[.bool (pricesOk k ps && fairB k ps), .bool (pricesOk k ps)])) := by
  refine rc_of_run mixed ok_spec_AreFair (by simp) (go_start _ _ _ ?_)
  obtain ⟨v1, v2, v3, v4, rfl, h1, h2, h3, h4⟩ := h.ro.ok
  have hc : CaseA (roM m) (.agg #[v1, v2, v3, v4]) k := ⟨_, _, _, _, rfl, h1, h2, h3, h4⟩
  have hu := h'.ro
  simp (config := {implicitDefEqProofs := false, maxDischargeDepth := 20}) (disch := first | omega | (simp only [lenE]; done) | (simp only [lenE]; omega) | rfl | (simp only [lenE, markR_len]; done) | (simp only [lenE, markR_len]; omega)) only [runE, mapE, listE, initT_5, initT_6, initT_7, initT_8, resV, oneV, binA, unA, reduceCtorEq, Nat.reduceEqDiff, Nat.reduceAdd, Nat.reduceLT, Nat.reduceLeDiff, Nat.reduceMul, Nat.reduceSub, ↓reduceIte, decide_true, decide_false, Bool.true_eq_false, Bool.false_eq_true, Bool.not_true, Bool.not_false, if_true, if_false, and_true, true_and, memE, celE, w64, Nat.zero_add, Nat.add_zero, Nat.mul_one, putL, and_self, ldn, c_spec_AreFair, r_spec_AreFair]
  refine callH_rc (l3Prices_rc _ _ u k ps (hc.ext _) (hu.ext _)) ?_
  rintro r new ⟨rfl, nr1⟩
  have hx : Grow (roM m ++ [⟨.own, 28, [v1, v2, v3, v4]⟩]) (roM m ++ [⟨.own, 28, [v1, v2, v3, v4]⟩] ++ new) := (Grow.refl _).app nr1
  cases hg : pricesOk k ps with
  | false =>
    simp (config := {implicitDefEqProofs := false, maxDischargeDepth := 20}) (disch := first | omega | (simp only [lenE]; done) | (simp only [lenE]; omega) | rfl | (simp only [lenE, markR_len]; done) | (simp only [lenE, markR_len]; omega)) only [runE, mapE, listE, initT_5, initT_6, initT_7, initT_8, resV, oneV, binA, unA, reduceCtorEq, Nat.reduceEqDiff, Nat.reduceAdd, Nat.reduceLT, Nat.reduceLeDiff, Nat.reduceMul, Nat.reduceSub, ↓reduceIte, decide_true, decide_false, Bool.true_eq_false, Bool.false_eq_true, Bool.not_true, Bool.not_false, if_true, if_false, and_true, true_and, memE, celE, w64, Nat.zero_add, Nat.add_zero, Nat.mul_one, putL, and_self, ldn]
    exact ext_ansV hx.ext rfl
  | true =>
    simp (config := {implicitDefEqProofs := false, maxDischargeDepth := 20}) (disch := first | omega | (simp only [lenE]; done) | (simp only [lenE]; omega) | rfl | (simp only [lenE, markR_len]; done) | (simp only [lenE, markR_len]; omega)) only [runE, mapE, listE, initT_5, initT_6, initT_7, initT_8, resV, oneV, binA, unA, reduceCtorEq, Nat.reduceEqDiff, Nat.reduceAdd, Nat.reduceLT, Nat.reduceLeDiff, Nat.reduceMul, Nat.reduceSub, ↓reduceIte, decide_true, decide_false, Bool.true_eq_false, Bool.false_eq_true, Bool.not_true, Bool.not_false, if_true, if_false, and_true, true_and, memE, celE, w64, Nat.zero_add, Nat.add_zero, Nat.mul_one, putL, and_self, ldn]
    refine callH_rc (l3Fair_rc _ _ u k ps (hx.caseV hc) (hx.intsV hu)) ?_
    rintro r new2 ⟨rfl, nr2⟩
    rw [hg]
    simp (config := {implicitDefEqProofs := false, maxDischargeDepth := 20}) (disch := first | omega | (simp only [lenE]; done) | (simp only [lenE]; omega) | rfl | (simp only [lenE, markR_len]; done) | (simp only [lenE, markR_len]; omega)) only [runE, mapE, listE, initT_5, initT_6, initT_7, initT_8, resV, oneV, binA, unA, reduceCtorEq, Nat.reduceEqDiff, Nat.reduceAdd, Nat.reduceLT, Nat.reduceLeDiff, Nat.reduceMul, Nat.reduceSub, ↓reduceIte, decide_true, decide_false, Bool.true_eq_false, Bool.false_eq_true, Bool.not_true, Bool.not_false, if_true, if_false, and_true, true_and, memE, celE, w64, Nat.zero_add, Nat.add_zero, Nat.mul_one, putL, and_self, ldn]
    exact ext_ansV (hx.app nr2).ext rfl

theorem implFair_rc (m : Mem) (v u : Value) (k : Cs) (ps : List Int) (h : CaseA m v k) (h' : IntsA m u ps) :
    RC Try.prog 32 [v, u] m (AnsV (.tuple #[.bool (pricesOk k ps && fairB k ps), .bool (pricesOk k ps)])) := by
  refine rc_of_run mixed ok_impl_AreFair (by simp) (go_start _ _ _ ?_)
  obtain ⟨v1, v2, v3, v4, rfl, h1, h2, h3, h4⟩ := h.ro.ok
  have hc : CaseA (roM m) (.agg #[v1, v2, v3, v4]) k := ⟨_, _, _, _, rfl, h1, h2, h3, h4⟩
  have hu := h'.ro
  simp (config := {implicitDefEqProofs := false, maxDischargeDepth := 20}) (disch := first | omega | (simp only [lenE]; done) | (simp only [lenE]; omega) | rfl | (simp only [lenE, markR_len]; done) | (simp only [lenE, markR_len]; omega)) only [runE, mapE, listE, initT_5, initT_6, initT_7, initT_8, resV, oneV, binA, unA, reduceCtorEq, Nat.reduceEqDiff, Nat.reduceAdd, Nat.reduceLT, Nat.reduceLeDiff, Nat.reduceMul, Nat.reduceSub, ↓reduceIte, decide_true, decide_false, Bool.true_eq_false, Bool.false_eq_true, Bool.not_true, Bool.not_false, if_true, if_false, and_true, true_and, memE, celE, w64, Nat.zero_add, Nat.add_zero, Nat.mul_one, putL, and_self, ldn, c_impl_AreFair, r_impl_AreFair]
  refine callH_rc (implClaims_rc _ _ u k ps (hc.ext _) (hu.ext _)) ?_
  intro r new hA
  obtain ⟨cid, cfl, rfl, hge, hown, hle, nr1⟩ := hA.row
  have hx : Grow (roM m ++ [⟨.own, 28, [v1, v2, v3, v4]⟩]) (roM m ++ [⟨.own, 28, [v1, v2, v3, v4]⟩] ++ new) := (Grow.refl _).app nr1
  cases hg : pricesOk k ps with
  | false =>
    simp (config := {implicitDefEqProofs := false, maxDischargeDepth := 20}) (disch := first | omega | (simp only [lenE]; done) | (simp only [lenE]; omega) | rfl | (simp only [lenE, markR_len]; done) | (simp only [lenE, markR_len]; omega)) only [runE, mapE, listE, initT_5, initT_6, initT_7, initT_8, resV, oneV, binA, unA, reduceCtorEq, Nat.reduceEqDiff, Nat.reduceAdd, Nat.reduceLT, Nat.reduceLeDiff, Nat.reduceMul, Nat.reduceSub, ↓reduceIte, decide_true, decide_false, Bool.true_eq_false, Bool.false_eq_true, Bool.not_true, Bool.not_false, if_true, if_false, and_true, true_and, memE, celE, w64, Nat.zero_add, Nat.add_zero, Nat.mul_one, putL, and_self, ldn, ext_2_0, ext_2_1]
    exact ext_ansV hx.ext rfl
  | true =>
    obtain ⟨gd, hl, hp⟩ := pricesOk_iff hg
    have h8 := gd.n8
    have g0 := gd.ls
    rw [claimsA_yes hg] at hown ⊢
    have cl := claimsL_len k ps ps.length
    have cat : ∀ t, t < ps.length → (claimsL k ps ps.length).getD t 0 = claimF k ps t := fun t ht => claimsL_at k ps ht
    obtain ⟨c1, c2, c3, c4, -⟩ := hown.ints (by omega) cfl
    generalize claimsL k ps ps.length = L at *
    obtain ⟨r0, r1, r2, r3, hlM⟩ := hx.box4
    have iu := hx.intsV hu
    have i1 := hx.intsV h1
    have i2 := hx.intsV h2
    generalize hMM : roM m ++ [⟨.own, 28, [v1, v2, v3, v4]⟩] ++ new = M at *
    simp (config := {implicitDefEqProofs := false, maxDischargeDepth := 20}) (disch := first | omega | (simp only [lenE]; done) | (simp only [lenE]; omega) | rfl | (simp only [lenE, markR_len]; done) | (simp only [lenE, markR_len]; omega)) only [runE, mapE, listE, initT_5, initT_6, initT_7, initT_8, resV, oneV, binA, unA, reduceCtorEq, Nat.reduceEqDiff, Nat.reduceAdd, Nat.reduceLT, Nat.reduceLeDiff, Nat.reduceMul, Nat.reduceSub, ↓reduceIte, decide_true, decide_false, Bool.true_eq_false, Bool.false_eq_true, Bool.not_true, Bool.not_false, if_true, if_false, and_true, true_and, memE, celE, w64, Nat.zero_add, Nat.add_zero, Nat.mul_one, putL, and_self, ldn, ext_2_0, ext_2_1]
    refine loop_inv mixed (fun s => ∃ (t : Nat), t ≤ ps.length ∧ s.t 1 = u ∧ s.t 2 = .pointer (some ⟨m.length, 0, none⟩) ∧ s.t 18 = .slice (some ⟨cid, 0, none⟩) L.length cfl ∧ s.t 19 = .int .i64 L.length ∧ s.t 20 = .int .i64 t ∧ s.m = M ∧ (∀ j, j < t → fairAt k ps j = true)) (fun s => ps.length - (intOf (s.t 20)).toNat)
      ⟨0, by omega, rfl, rfl, rfl, rfl, rfl, rfl, fun j hj => absurd hj (by omega)⟩ ?_
    rintro s ⟨t, hk, t1, t2, t18, t19, t20, tm, hall⟩
    by_cases hlt : t < ps.length
    · have hlt' : (t : Int) < L.length := by omega
      have q4 := c4 t (by omega)
      rw [cat t hlt] at q4
      have nx : fairAt k ps t = true → ∀ j, j < t + 1 → fairAt k ps j = true := fun hf j hj => by
        by_cases e : j = t
        · rw [e]; exact hf
        · exact hall j (by omega)
      by_cases d1 : k.setup.getD t 0 < claimF k ps t
      · have hf : fairAt k ps t = false := by unfold fairAt; rw [decide_eq_true d1]; rfl
        simp (config := {implicitDefEqProofs := false, maxDischargeDepth := 20}) (disch := first | omega | (simp only [lenE]; done) | (simp only [lenE]; omega) | rfl | (simp only [lenE, markR_len]; done) | (simp only [lenE, markR_len]; omega)) only [runE, mapE, listE, initT_5, initT_6, initT_7, initT_8, resV, oneV, binA, unA, reduceCtorEq, Nat.reduceEqDiff, Nat.reduceAdd, Nat.reduceLT, Nat.reduceLeDiff, Nat.reduceMul, Nat.reduceSub, ↓reduceIte, decide_true, decide_false, Bool.true_eq_false, Bool.false_eq_true, Bool.not_true, Bool.not_false, if_true, if_false, and_true, true_and, memE, celE, w64, Nat.zero_add, Nat.add_zero, Nat.mul_one, putL, and_self, ldn, t1, t2, t18, t19, t20, tm, hlt', c3 t (by omega), q4, r1, i2.at_ t (by omega), i2.ld t (by omega), gt_iff_lt, d1, goG_undef]
        exact ext_ansV hx.ext (by rw [fair_no hlt hf]; rfl)
      · by_cases d2 : k.need.getD t 0 = 0
        · have d2' : (k.need.getD t 0 == 0) = true := by rw [d2]; rfl
          by_cases d3 : 0 < ps.getD t 0
          · have hf : fairAt k ps t = false := by unfold fairAt; rw [decide_eq_false d1, d2', decide_eq_true d3]; rfl
            simp (config := {implicitDefEqProofs := false, maxDischargeDepth := 20}) (disch := first | omega | (simp only [lenE]; done) | (simp only [lenE]; omega) | rfl | (simp only [lenE, markR_len]; done) | (simp only [lenE, markR_len]; omega)) only [runE, mapE, listE, initT_5, initT_6, initT_7, initT_8, resV, oneV, binA, unA, reduceCtorEq, Nat.reduceEqDiff, Nat.reduceAdd, Nat.reduceLT, Nat.reduceLeDiff, Nat.reduceMul, Nat.reduceSub, ↓reduceIte, decide_true, decide_false, Bool.true_eq_false, Bool.false_eq_true, Bool.not_true, Bool.not_false, if_true, if_false, and_true, true_and, memE, celE, w64, Nat.zero_add, Nat.add_zero, Nat.mul_one, putL, and_self, ldn, t1, t2, t18, t19, t20, tm, hlt', c3 t (by omega), q4, r1, i2.at_ t (by omega), i2.ld t (by omega), gt_iff_lt, d1, r0, i1.at_ t (by omega), i1.ld t (by omega), d2', iu.at_ t (by omega), iu.ld t (by omega), d3]
            exact ext_ansV hx.ext (by rw [fair_no hlt hf]; rfl)
          · have hf : fairAt k ps t = true := by unfold fairAt; rw [decide_eq_false d1, d2', decide_eq_false d3]; rfl
            simp (config := {implicitDefEqProofs := false, maxDischargeDepth := 20}) (disch := first | omega | (simp only [lenE]; done) | (simp only [lenE]; omega) | rfl | (simp only [lenE, markR_len]; done) | (simp only [lenE, markR_len]; omega)) only [runE, mapE, listE, initT_5, initT_6, initT_7, initT_8, resV, oneV, binA, unA, reduceCtorEq, Nat.reduceEqDiff, Nat.reduceAdd, Nat.reduceLT, Nat.reduceLeDiff, Nat.reduceMul, Nat.reduceSub, ↓reduceIte, decide_true, decide_false, Bool.true_eq_false, Bool.false_eq_true, Bool.not_true, Bool.not_false, if_true, if_false, and_true, true_and, memE, celE, w64, Nat.zero_add, Nat.add_zero, Nat.mul_one, putL, and_self, ldn, t1, t2, t18, t19, t20, tm, hlt', c3 t (by omega), q4, r1, i2.at_ t (by omega), i2.ld t (by omega), gt_iff_lt, d1, r0, i1.at_ t (by omega), i1.ld t (by omega), d2', iu.at_ t (by omega), iu.ld t (by omega), d3]
            exact ⟨⟨t + 1, by omega, by simp, nx hf⟩, by simp [intOf]; omega⟩
        · have d2' : (k.need.getD t 0 == 0) = false := by simp only [beq_eq_false_iff_ne]; exact d2
          have hf : fairAt k ps t = true := by unfold fairAt; rw [decide_eq_false d1, d2']; rfl
          simp (config := {implicitDefEqProofs := false, maxDischargeDepth := 20}) (disch := first | omega | (simp only [lenE]; done) | (simp only [lenE]; omega) | rfl | (simp only [lenE, markR_len]; done) | (simp only [lenE, markR_len]; omega)) only [runE, mapE, listE, initT_5, initT_6, initT_7, initT_8, resV, oneV, binA, unA, reduceCtorEq, Nat.reduceEqDiff, Nat.reduceAdd, Nat.reduceLT, Nat.reduceLeDiff, Nat.reduceMul, Nat.reduceSub, ↓reduceIte, decide_true, decide_false, Bool.true_eq_false, Bool.false_eq_true, Bool.not_true, Bool.not_false, if_true, if_false, and_true, true_and, memE, celE, w64, Nat.zero_add, Nat.add_zero, Nat.mul_one, putL, and_self, ldn, t1, t2, t18, t19, t20, tm, hlt', c3 t (by omega), q4, r1, i2.at_ t (by omega), i2.ld t (by omega), gt_iff_lt, d1, r0, i1.at_ t (by omega), i1.ld t (by omega), d2']
          exact ⟨⟨t + 1, by omega, by simp, nx hf⟩, by simp [intOf]; omega⟩
    · have hlt' : ¬ ((t : Int) < L.length) := by omega
      have e : t = ps.length := by omega
      subst e
      simp (config := {implicitDefEqProofs := false, maxDischargeDepth := 20}) (disch := first | omega | (simp only [lenE]; done) | (simp only [lenE]; omega) | rfl | (simp only [lenE, markR_len]; done) | (simp only [lenE, markR_len]; omega)) only [runE, mapE, listE, initT_5, initT_6, initT_7, initT_8, resV, oneV, binA, unA, reduceCtorEq, Nat.reduceEqDiff, Nat.reduceAdd, Nat.reduceLT, Nat.reduceLeDiff, Nat.reduceMul, Nat.reduceSub, ↓reduceIte, decide_true, decide_false, Bool.true_eq_false, Bool.false_eq_true, Bool.not_true, Bool.not_false, if_true, if_false, and_true, true_and, memE, celE, w64, Nat.zero_add, Nat.add_zero, Nat.mul_one, putL, and_self, ldn, t1, t2, t18, t19, t20, tm, hlt']
      exact ext_ansV hx.ext (by rw [fair_yes hall]; rfl)
end Go.Proofs.Ytonpeflncnccdaa.Ab
