/- Fair prices that are found, and price proofs: FairPrices, IsPriceProof. -/
import Derived.Test.YtonpeflncnccdaaAbClaim
namespace Go.Proofs.Ytonpeflncnccdaa.Ab
open Go Go.RowKit
set_option linter.unusedVariables false
set_option linter.unusedSimpArgs false

theorem IntsA.cellsV {m : Mem} {u : Value} {l : List Int} (h : IntsA m u l) : u.cells = #[u] := by
  rcases h.form with ⟨rfl, _⟩ | ⟨id, off, fl, rfl⟩ <;> rfl
theorem priceBy_in {k : Cs} (hg : Good k) {ps : List Int} (hp : ∀ x ∈ ps, 0 ≤ x ∧ x ≤ 9999) {t i : Nat} (hl : ps.length ≤ 8) (hit : i ≤ t) (ht : t ≤ 8) :
    -100000 ≤ priceBy k ps t i ∧ priceBy k ps t i ≤ 1719 ∧ 0 ≤ k.need.getD t 0 * rateF k i t ∧ k.need.getD t 0 * rateF k i t ≤ 1620 ∧ 0 ≤ k.setup.getD i 0 ∧ k.setup.getD i 0 ≤ 99 := by
  have b1 := nr_in hg hit ht
  have b2 := getD_bound (m := 99) (by omega) hg.setup i
  have b3 := claimS_in hg hp i ps.length (by omega)
  unfold priceBy claimF
  omega

theorem fairP_s (k : Cs) (t : Nat) : fairP k (t + 1) = fairP k t ++ [priceF k (fairP k t) t] := rfl
theorem fairP_in {k : Cs} (hg : Good k) (t : Nat) (h8 : t ≤ 8) : ∀ x ∈ fairP k t, 0 ≤ x ∧ x ≤ 9999 := fun x hx => by
  have := (fairP_inv hg t h8).2 x hx
  omega
def minZ (f : Nat → Int) : Nat → Int
  | 0 => 0
  | x + 1 => minB f x

def priceA (k : Cs) : List Int := if k.good then fairP k k.need.length else []
theorem priceA_no {k : Cs} (h : k.good = false) : priceA k = [] := by unfold priceA; rw [h]; rfl
theorem priceA_yes {k : Cs} (h : k.good = true) : priceA k = fairP k k.need.length := by unfold priceA; rw [h]; rfl
def proofOk (k : Cs) (ps pl : List Int) : Bool := (pricesOk k ps && fairB k ps) && two k pl
def proofB (k : Cs) (ps pl : List Int) : Bool := proofOk k ps pl && (sumTo ps ps.length == costOf k pl)
theorem sum_prices {k : Cs} {ps : List Int} (h : pricesOk k ps = true) : ∀ j : Nat, j ≤ ps.length → -4611686018427387904 ≤ sumTo ps j ∧ sumTo ps j ≤ 4611686018427387904 := fun j hj => by
  obtain ⟨gd, hl, hp⟩ := pricesOk_iff h
  have := sumTo_bound (m := 9999) (by omega) hp j
  have := gd.n8
  omega

theorem specProof_rc (m : Mem) (v u w : Value) (k : Cs) (ps pl : List Int) (h : CaseA m v k) (h' : IntsA m u ps) (h'' : IntsA m w pl) :
    RC Try.prog 33 [v, u, w] m (AnsV (.tuple #[.bool (proofB k ps pl), .bool (proofOk k ps pl)])) := by
  refine rc_of_run mixed ok_spec_IsPriceProof (by simp) (go_start _ _ _ ?_)
  obtain ⟨v1, v2, v3, v4, rfl, h1, h2, h3, h4⟩ := h.ro.ok
  have hc : CaseA (roM m) (.agg #[v1, v2, v3, v4]) k := ⟨_, _, _, _, rfl, h1, h2, h3, h4⟩
  have hu := h'.ro
  have hw := h''.ro
  simp (config := {implicitDefEqProofs := false, maxDischargeDepth := 20}) (disch := first | omega | (simp only [lenE]; done) | (simp only [lenE]; omega) | rfl | (simp only [lenE, markR_len]; done) | (simp only [lenE, markR_len]; omega)) only [runE, mapE, listE, initT_5, initT_6, initT_7, initT_8, resV, oneV, binA, unA, reduceCtorEq, Nat.reduceEqDiff, Nat.reduceAdd, Nat.reduceLT, Nat.reduceLeDiff, Nat.reduceMul, Nat.reduceSub, ↓reduceIte, decide_true, decide_false, Bool.true_eq_false, Bool.false_eq_true, Bool.not_true, Bool.not_false, if_true, if_false, and_true, true_and, memE, celE, w64, Nat.zero_add, Nat.add_zero, Nat.mul_one, putL, and_self, ldn, c_spec_IsPriceProof, r_spec_IsPriceProof]
  refine callH_rc (l3Fair_rc _ _ u k ps (hc.ext _) (hu.ext _)) ?_
  rintro r new ⟨rfl, nr1⟩
  have hx : Grow (roM m ++ [⟨.own, 28, [v1, v2, v3, v4]⟩]) (roM m ++ [⟨.own, 28, [v1, v2, v3, v4]⟩] ++ new) := (Grow.refl _).app nr1
  cases hf : (pricesOk k ps && fairB k ps) with
  | false =>
    have no : proofOk k ps pl = false := by unfold proofOk; rw [hf]; rfl
    simp (config := {implicitDefEqProofs := false, maxDischargeDepth := 20}) (disch := first | omega | (simp only [lenE]; done) | (simp only [lenE]; omega) | rfl | (simp only [lenE, markR_len]; done) | (simp only [lenE, markR_len]; omega)) only [runE, mapE, listE, initT_5, initT_6, initT_7, initT_8, resV, oneV, binA, unA, reduceCtorEq, Nat.reduceEqDiff, Nat.reduceAdd, Nat.reduceLT, Nat.reduceLeDiff, Nat.reduceMul, Nat.reduceSub, ↓reduceIte, decide_true, decide_false, Bool.true_eq_false, Bool.false_eq_true, Bool.not_true, Bool.not_false, if_true, if_false, and_true, true_and, memE, celE, w64, Nat.zero_add, Nat.add_zero, Nat.mul_one, putL, and_self, ldn]
    exact ext_ansV hx.ext (by unfold proofB; rw [no]; rfl)
  | true =>
    simp (config := {implicitDefEqProofs := false, maxDischargeDepth := 20}) (disch := first | omega | (simp only [lenE]; done) | (simp only [lenE]; omega) | rfl | (simp only [lenE, markR_len]; done) | (simp only [lenE, markR_len]; omega)) only [runE, mapE, listE, initT_5, initT_6, initT_7, initT_8, resV, oneV, binA, unA, reduceCtorEq, Nat.reduceEqDiff, Nat.reduceAdd, Nat.reduceLT, Nat.reduceLeDiff, Nat.reduceMul, Nat.reduceSub, ↓reduceIte, decide_true, decide_false, Bool.true_eq_false, Bool.false_eq_true, Bool.not_true, Bool.not_false, if_true, if_false, and_true, true_and, memE, celE, w64, Nat.zero_add, Nat.add_zero, Nat.mul_one, putL, and_self, ldn]
    refine callH_rc (l2Two_rc _ _ w k pl (hx.caseV hc) (hx.intsV hw)) ?_
    rintro r new2 ⟨rfl, nr2⟩
    have hx2 := hx.app nr2
    cases ht : two k pl with
    | false =>
      have no : proofOk k ps pl = false := by unfold proofOk; rw [ht]; simp
      simp (config := {implicitDefEqProofs := false, maxDischargeDepth := 20}) (disch := first | omega | (simp only [lenE]; done) | (simp only [lenE]; omega) | rfl | (simp only [lenE, markR_len]; done) | (simp only [lenE, markR_len]; omega)) only [runE, mapE, listE, initT_5, initT_6, initT_7, initT_8, resV, oneV, binA, unA, reduceCtorEq, Nat.reduceEqDiff, Nat.reduceAdd, Nat.reduceLT, Nat.reduceLeDiff, Nat.reduceMul, Nat.reduceSub, ↓reduceIte, decide_true, decide_false, Bool.true_eq_false, Bool.false_eq_true, Bool.not_true, Bool.not_false, if_true, if_false, and_true, true_and, memE, celE, w64, Nat.zero_add, Nat.add_zero, Nat.mul_one, putL, and_self, ldn]
      exact ext_ansV hx2.ext (by unfold proofB; rw [no]; rfl)
    | true =>
      have yes : proofOk k ps pl = true := by unfold proofOk; rw [hf, ht]; rfl
      have hpo : pricesOk k ps = true := by rw [Bool.and_eq_true] at hf; exact hf.1
      obtain ⟨b1, b2, b3⟩ := two_bounds ht
      simp (config := {implicitDefEqProofs := false, maxDischargeDepth := 20}) (disch := first | omega | (simp only [lenE]; done) | (simp only [lenE]; omega) | rfl | (simp only [lenE, markR_len]; done) | (simp only [lenE, markR_len]; omega)) only [runE, mapE, listE, initT_5, initT_6, initT_7, initT_8, resV, oneV, binA, unA, reduceCtorEq, Nat.reduceEqDiff, Nat.reduceAdd, Nat.reduceLT, Nat.reduceLeDiff, Nat.reduceMul, Nat.reduceSub, ↓reduceIte, decide_true, decide_false, Bool.true_eq_false, Bool.false_eq_true, Bool.not_true, Bool.not_false, if_true, if_false, and_true, true_and, memE, celE, w64, Nat.zero_add, Nat.add_zero, Nat.mul_one, putL, and_self, ldn]
      refine rcallH_rc (l2Sum_rc _ u ps (hx2.intsV hu) (sum_prices hpo)) ?_
      rintro r new3 ⟨rfl, rfl⟩
      simp (config := {implicitDefEqProofs := false, maxDischargeDepth := 20}) (disch := first | omega | (simp only [lenE]; done) | (simp only [lenE]; omega) | rfl | (simp only [lenE, markR_len]; done) | (simp only [lenE, markR_len]; omega)) only [runE, mapE, listE, initT_5, initT_6, initT_7, initT_8, resV, oneV, binA, unA, reduceCtorEq, Nat.reduceEqDiff, Nat.reduceAdd, Nat.reduceLT, Nat.reduceLeDiff, Nat.reduceMul, Nat.reduceSub, ↓reduceIte, decide_true, decide_false, Bool.true_eq_false, Bool.false_eq_true, Bool.not_true, Bool.not_false, if_true, if_false, and_true, true_and, memE, celE, w64, Nat.zero_add, Nat.add_zero, Nat.mul_one, putL, and_self, ldn]
      refine rcallH_rc (l2Cost_rc _ _ w k pl (hx2.caseV hc) (hx2.intsV hw) b1 b2 b3) ?_
      rintro r new4 ⟨rfl, nr4⟩
      simp (config := {implicitDefEqProofs := false, maxDischargeDepth := 20}) (disch := first | omega | (simp only [lenE]; done) | (simp only [lenE]; omega) | rfl | (simp only [lenE, markR_len]; done) | (simp only [lenE, markR_len]; omega)) only [runE, mapE, listE, initT_5, initT_6, initT_7, initT_8, resV, oneV, binA, unA, reduceCtorEq, Nat.reduceEqDiff, Nat.reduceAdd, Nat.reduceLT, Nat.reduceLeDiff, Nat.reduceMul, Nat.reduceSub, ↓reduceIte, decide_true, decide_false, Bool.true_eq_false, Bool.false_eq_true, Bool.not_true, Bool.not_false, if_true, if_false, and_true, true_and, memE, celE, w64, Nat.zero_add, Nat.add_zero, Nat.mul_one, putL, and_self, ldn]
      refine ext_ansV (by simpa using (hx2.app nr4).ext) ?_
      unfold proofB; rw [yes]; rfl

theorem implProof_rc (m : Mem) (v u w : Value) (k : Cs) (ps pl : List Int) (h : CaseA m v k) (h' : IntsA m u ps) (h'' : IntsA m w pl) :
    RC Try.prog 34 [v, u, w] m (AnsV (.tuple #[.bool (proofB k ps pl), .bool (proofOk k ps pl)])) := by
  refine rc_of_run mixed ok_impl_IsPriceProof (by simp) (go_start _ _ _ ?_)
  obtain ⟨v1, v2, v3, v4, rfl, h1, h2, h3, h4⟩ := h.ro.ok
  have hc : CaseA (roM m) (.agg #[v1, v2, v3, v4]) k := ⟨_, _, _, _, rfl, h1, h2, h3, h4⟩
  have hu := h'.ro
  have hw := h''.ro
  simp (config := {implicitDefEqProofs := false, maxDischargeDepth := 20}) (disch := first | omega | (simp only [lenE]; done) | (simp only [lenE]; omega) | rfl | (simp only [lenE, markR_len]; done) | (simp only [lenE, markR_len]; omega)) only [runE, mapE, listE, initT_5, initT_6, initT_7, initT_8, resV, oneV, binA, unA, reduceCtorEq, Nat.reduceEqDiff, Nat.reduceAdd, Nat.reduceLT, Nat.reduceLeDiff, Nat.reduceMul, Nat.reduceSub, ↓reduceIte, decide_true, decide_false, Bool.true_eq_false, Bool.false_eq_true, Bool.not_true, Bool.not_false, if_true, if_false, and_true, true_and, memE, celE, w64, Nat.zero_add, Nat.add_zero, Nat.mul_one, putL, and_self, ldn, c_impl_IsPriceProof, r_impl_IsPriceProof]
  refine callH_rc (implFair_rc _ _ u k ps (hc.ext _) (hu.ext _)) ?_
  rintro r new ⟨rfl, nr1⟩
  have hx : Grow (roM m ++ [⟨.own, 28, [v1, v2, v3, v4]⟩]) (roM m ++ [⟨.own, 28, [v1, v2, v3, v4]⟩] ++ new) := (Grow.refl _).app nr1
  cases hpo : pricesOk k ps with
  | false =>
    have no : proofOk k ps pl = false := by unfold proofOk; rw [hpo]; rfl
    simp (config := {implicitDefEqProofs := false, maxDischargeDepth := 20}) (disch := first | omega | (simp only [lenE]; done) | (simp only [lenE]; omega) | rfl | (simp only [lenE, markR_len]; done) | (simp only [lenE, markR_len]; omega)) only [runE, mapE, listE, initT_5, initT_6, initT_7, initT_8, resV, oneV, binA, unA, reduceCtorEq, Nat.reduceEqDiff, Nat.reduceAdd, Nat.reduceLT, Nat.reduceLeDiff, Nat.reduceMul, Nat.reduceSub, ↓reduceIte, decide_true, decide_false, Bool.true_eq_false, Bool.false_eq_true, Bool.not_true, Bool.not_false, if_true, if_false, and_true, true_and, memE, celE, w64, Nat.zero_add, Nat.add_zero, Nat.mul_one, putL, and_self, ldn, ext_2_0, ext_2_1]
    exact ext_ansV hx.ext (by unfold proofB; rw [no]; rfl)
  | true =>
    cases hf : fairB k ps with
    | false =>
      have no : proofOk k ps pl = false := by unfold proofOk; rw [hf]; simp
      simp (config := {implicitDefEqProofs := false, maxDischargeDepth := 20}) (disch := first | omega | (simp only [lenE]; done) | (simp only [lenE]; omega) | rfl | (simp only [lenE, markR_len]; done) | (simp only [lenE, markR_len]; omega)) only [runE, mapE, listE, initT_5, initT_6, initT_7, initT_8, resV, oneV, binA, unA, reduceCtorEq, Nat.reduceEqDiff, Nat.reduceAdd, Nat.reduceLT, Nat.reduceLeDiff, Nat.reduceMul, Nat.reduceSub, ↓reduceIte, decide_true, decide_false, Bool.true_eq_false, Bool.false_eq_true, Bool.not_true, Bool.not_false, if_true, if_false, and_true, true_and, memE, celE, w64, Nat.zero_add, Nat.add_zero, Nat.mul_one, putL, and_self, ldn, ext_2_0, ext_2_1, Bool.and_false, Bool.and_true]
      exact ext_ansV hx.ext (by unfold proofB; rw [no]; rfl)
    | true =>
      simp (config := {implicitDefEqProofs := false, maxDischargeDepth := 20}) (disch := first | omega | (simp only [lenE]; done) | (simp only [lenE]; omega) | rfl | (simp only [lenE, markR_len]; done) | (simp only [lenE, markR_len]; omega)) only [runE, mapE, listE, initT_5, initT_6, initT_7, initT_8, resV, oneV, binA, unA, reduceCtorEq, Nat.reduceEqDiff, Nat.reduceAdd, Nat.reduceLT, Nat.reduceLeDiff, Nat.reduceMul, Nat.reduceSub, ↓reduceIte, decide_true, decide_false, Bool.true_eq_false, Bool.false_eq_true, Bool.not_true, Bool.not_false, if_true, if_false, and_true, true_and, memE, celE, w64, Nat.zero_add, Nat.add_zero, Nat.mul_one, putL, and_self, ldn, ext_2_0, ext_2_1, Bool.and_false, Bool.and_true]
      refine callH_rc (implPlanCost_rc _ _ w k pl (hx.caseV hc) (hx.intsV hw)) ?_
      rintro r new2 ⟨rfl, nr2⟩
      have hx2 := hx.app nr2
      cases ht : two k pl with
      | false =>
        have no : proofOk k ps pl = false := by unfold proofOk; rw [ht]; simp
        simp (config := {implicitDefEqProofs := false, maxDischargeDepth := 20}) (disch := first | omega | (simp only [lenE]; done) | (simp only [lenE]; omega) | rfl | (simp only [lenE, markR_len]; done) | (simp only [lenE, markR_len]; omega)) only [runE, mapE, listE, initT_5, initT_6, initT_7, initT_8, resV, oneV, binA, unA, reduceCtorEq, Nat.reduceEqDiff, Nat.reduceAdd, Nat.reduceLT, Nat.reduceLeDiff, Nat.reduceMul, Nat.reduceSub, ↓reduceIte, decide_true, decide_false, Bool.true_eq_false, Bool.false_eq_true, Bool.not_true, Bool.not_false, if_true, if_false, and_true, true_and, memE, celE, w64, Nat.zero_add, Nat.add_zero, Nat.mul_one, putL, and_self, ldn, ext_2_0, ext_2_1]
        exact ext_ansV hx2.ext (by unfold proofB; rw [no]; rfl)
      | true =>
        have yes : proofOk k ps pl = true := by unfold proofOk; rw [hpo, hf, ht]; rfl
        rw [costA_yes ht]
        simp (config := {implicitDefEqProofs := false, maxDischargeDepth := 20}) (disch := first | omega | (simp only [lenE]; done) | (simp only [lenE]; omega) | rfl | (simp only [lenE, markR_len]; done) | (simp only [lenE, markR_len]; omega)) only [runE, mapE, listE, initT_5, initT_6, initT_7, initT_8, resV, oneV, binA, unA, reduceCtorEq, Nat.reduceEqDiff, Nat.reduceAdd, Nat.reduceLT, Nat.reduceLeDiff, Nat.reduceMul, Nat.reduceSub, ↓reduceIte, decide_true, decide_false, Bool.true_eq_false, Bool.false_eq_true, Bool.not_true, Bool.not_false, if_true, if_false, and_true, true_and, memE, celE, w64, Nat.zero_add, Nat.add_zero, Nat.mul_one, putL, and_self, ldn, ext_2_0, ext_2_1]
        refine callH_rc (sumOf_rc _ u ps (hx2.intsV hu) (sum_prices hpo)) ?_
        rintro r new3 ⟨rfl, rfl⟩
        simp (config := {implicitDefEqProofs := false, maxDischargeDepth := 20}) (disch := first | omega | (simp only [lenE]; done) | (simp only [lenE]; omega) | rfl | (simp only [lenE, markR_len]; done) | (simp only [lenE, markR_len]; omega)) only [runE, mapE, listE, initT_5, initT_6, initT_7, initT_8, resV, oneV, binA, unA, reduceCtorEq, Nat.reduceEqDiff, Nat.reduceAdd, Nat.reduceLT, Nat.reduceLeDiff, Nat.reduceMul, Nat.reduceSub, ↓reduceIte, decide_true, decide_false, Bool.true_eq_false, Bool.false_eq_true, Bool.not_true, Bool.not_false, if_true, if_false, and_true, true_and, memE, celE, w64, Nat.zero_add, Nat.add_zero, Nat.mul_one, putL, and_self, ldn]
        refine ext_ansV (by simpa using hx2.ext) ?_
        unfold proofB; rw [yes]; rfl
end Go.Proofs.Ytonpeflncnccdaa.Ab
