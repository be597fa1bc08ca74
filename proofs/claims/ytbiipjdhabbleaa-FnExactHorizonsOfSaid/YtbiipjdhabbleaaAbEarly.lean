/- The first early order; OrdersAtEmpty, LotForLot, WaitsNever. -/
import Derived.Test.YtbiipjdhabbleaaAbPlan
import Derived.Test.YtbiipjdhabbleaaAbBasis
import Derived.Test.YtbiipjdhabbleaaCodMore
namespace Go.Proofs.Ytbiipjdhabbleaa.Ab
open Go Go.RowKit
set_option linter.unusedVariables false
set_option linter.unusedSimpArgs false

def earlyF (f : Nat → Bool) : Nat → Nat → Option Nat
  | 0, _ => none
  | n + 1, t => if f t then some t else earlyF f n (t + 1)
def earlyAt (plan st : List Int) (p : Nat) : Bool := decide (0 < plan.getD p 0) && decide (0 < st.getD (p - 1) 0)
def earlyO (plan st : List Int) : Option Nat := earlyF (earlyAt plan st) (plan.length - 1) 1
def earlyI : Option Nat → Int
  | some t => t
  | none => -1
def earlyP : Option Nat → Int
  | some t => t
  | none => 0
theorem earlyF_yes {f : Nat → Bool} {n t : Nat} (h : t < n) (hf : f t = true) : earlyF f (n - t) t = some t := by
  rw [show n - t = (n - (t + 1)) + 1 by omega, earlyF, if_pos hf]
theorem earlyF_no {f : Nat → Bool} {n t : Nat} (h : t < n) (hf : f t = false) : earlyF f (n - t) t = earlyF f (n - (t + 1)) (t + 1) := by
  rw [show n - t = (n - (t + 1)) + 1 by omega, earlyF, if_neg (by rw [hf]; simp)]
theorem earlyF_end {f : Nat → Bool} {n t : Nat} (h : n ≤ t) : earlyF f (n - t) t = none := by
  rw [show n - t = 0 by omega, earlyF]

theorem firstEarly_rc (m : Mem) (v u : Value) (plan st : List Int) (h : IntsA m v plan) (h' : IntsA m u st) (hl : plan.length ≤ st.length) (h8 : plan.length ≤ 1000) :
    RC Try.prog 46 [v, u] m (AnsV (.tuple #[.int .i64 (earlyP (earlyO plan st)), .bool (earlyO plan st).isSome])) := by
  refine rc_of_run mixed ok_impl_firstEarly (by simp) (go_start _ _ _ ?_)
  obtain ⟨e1, e2, e3, e4, -⟩ := h.ro
  obtain ⟨d1, d2, d3, d4, -⟩ := h'.ro
  simp (config := {implicitDefEqProofs := false, maxDischargeDepth := 20}) (disch := first | omega | (simp only [lenE]; done) | (simp only [lenE]; omega) | rfl | (simp only [lenE, markR_len]; done) | (simp only [lenE, markR_len]; omega)) only [runE, mapE, listE, initT_5, initT_6, initT_7, initT_8, resV, oneV, binA, unA, reduceCtorEq, Nat.reduceEqDiff, Nat.reduceAdd, Nat.reduceLT, Nat.reduceLeDiff, Nat.reduceMul, Nat.reduceSub, ↓reduceIte, decide_true, decide_false, Bool.true_eq_false, Bool.false_eq_true, Bool.not_true, Bool.not_false, if_true, if_false, and_true, true_and, memE, celE, w64, Nat.zero_add, Nat.add_zero, Nat.mul_one, putL, and_self, ldn, c_impl_firstEarly, r_impl_firstEarly]
  refine loop_inv mixed (fun s => ∃ t : Nat, 1 ≤ t ∧ (t ≤ plan.length ∨ t = 1) ∧ s.t 0 = v ∧ s.t 1 = u ∧ s.t 6 = .int .i64 t ∧ s.m = roM m ∧ earlyO plan st = earlyF (earlyAt plan st) (plan.length - t) t) (fun s => plan.length - (intOf (s.t 6)).toNat) ⟨1, by omega, by omega, rfl, rfl, rfl, rfl, rfl⟩ ?_
  rintro s ⟨t, ht1, hk, t0, t1, t6, tm, hall⟩
  by_cases hlt : t < plan.length
  · have hlt' : (t : Int) < plan.length := by omega
    have d3' := d3 (t - 1) (by omega)
    rw [show ((t - 1 : Nat) : Int) = (t : Int) - 1 by omega] at d3'
    by_cases hb : 0 < plan.getD t 0
    · by_cases hc : 0 < st.getD (t - 1) 0
      · simp (config := {implicitDefEqProofs := false, maxDischargeDepth := 20}) (disch := first | omega | (simp only [lenE]; done) | (simp only [lenE]; omega) | rfl | (simp only [lenE, markR_len]; done) | (simp only [lenE, markR_len]; omega)) only [runE, mapE, listE, initT_5, initT_6, initT_7, initT_8, resV, oneV, binA, unA, reduceCtorEq, Nat.reduceEqDiff, Nat.reduceAdd, Nat.reduceLT, Nat.reduceLeDiff, Nat.reduceMul, Nat.reduceSub, ↓reduceIte, decide_true, decide_false, Bool.true_eq_false, Bool.false_eq_true, Bool.not_true, Bool.not_false, if_true, if_false, and_true, true_and, memE, celE, w64, Nat.zero_add, Nat.add_zero, Nat.mul_one, putL, and_self, ldn, t0, t1, t6, tm, e1, e3 t hlt, e4 t hlt, hlt', gt_iff_lt, hb, d3', d4 (t - 1) (by omega), hc]
        rw [earlyF_yes hlt (by unfold earlyAt; rw [decide_eq_true hb, decide_eq_true hc]; rfl)] at hall
        rw [hall]
        exact ext_ansV (Ext.refl m) rfl
      · simp (config := {implicitDefEqProofs := false, maxDischargeDepth := 20}) (disch := first | omega | (simp only [lenE]; done) | (simp only [lenE]; omega) | rfl | (simp only [lenE, markR_len]; done) | (simp only [lenE, markR_len]; omega)) only [runE, mapE, listE, initT_5, initT_6, initT_7, initT_8, resV, oneV, binA, unA, reduceCtorEq, Nat.reduceEqDiff, Nat.reduceAdd, Nat.reduceLT, Nat.reduceLeDiff, Nat.reduceMul, Nat.reduceSub, ↓reduceIte, decide_true, decide_false, Bool.true_eq_false, Bool.false_eq_true, Bool.not_true, Bool.not_false, if_true, if_false, and_true, true_and, memE, celE, w64, Nat.zero_add, Nat.add_zero, Nat.mul_one, putL, and_self, ldn, t0, t1, t6, tm, e1, e3 t hlt, e4 t hlt, hlt', gt_iff_lt, hb, d3', d4 (t - 1) (by omega), hc]
        refine ⟨⟨t + 1, by omega, by omega, by simp, ?_⟩, ?_⟩
        · rw [hall, earlyF_no hlt (by unfold earlyAt; rw [decide_eq_false hc]; simp)]
        · simp [intOf]; omega
    · simp (config := {implicitDefEqProofs := false, maxDischargeDepth := 20}) (disch := first | omega | (simp only [lenE]; done) | (simp only [lenE]; omega) | rfl | (simp only [lenE, markR_len]; done) | (simp only [lenE, markR_len]; omega)) only [runE, mapE, listE, initT_5, initT_6, initT_7, initT_8, resV, oneV, binA, unA, reduceCtorEq, Nat.reduceEqDiff, Nat.reduceAdd, Nat.reduceLT, Nat.reduceLeDiff, Nat.reduceMul, Nat.reduceSub, ↓reduceIte, decide_true, decide_false, Bool.true_eq_false, Bool.false_eq_true, Bool.not_true, Bool.not_false, if_true, if_false, and_true, true_and, memE, celE, w64, Nat.zero_add, Nat.add_zero, Nat.mul_one, putL, and_self, ldn, t0, t1, t6, tm, e1, e3 t hlt, e4 t hlt, hlt', gt_iff_lt, hb]
      refine ⟨⟨t + 1, by omega, by omega, by simp, ?_⟩, ?_⟩
      · rw [hall, earlyF_no hlt (by unfold earlyAt; rw [decide_eq_false hb]; simp)]
      · simp [intOf]; omega
  · have hlt' : ¬ ((t : Int) < plan.length) := by omega
    simp (config := {implicitDefEqProofs := false, maxDischargeDepth := 20}) (disch := first | omega | (simp only [lenE]; done) | (simp only [lenE]; omega) | rfl | (simp only [lenE, markR_len]; done) | (simp only [lenE, markR_len]; omega)) only [runE, mapE, listE, initT_5, initT_6, initT_7, initT_8, resV, oneV, binA, unA, reduceCtorEq, Nat.reduceEqDiff, Nat.reduceAdd, Nat.reduceLT, Nat.reduceLeDiff, Nat.reduceMul, Nat.reduceSub, ↓reduceIte, decide_true, decide_false, Bool.true_eq_false, Bool.false_eq_true, Bool.not_true, Bool.not_false, if_true, if_false, and_true, true_and, memE, celE, w64, Nat.zero_add, Nat.add_zero, Nat.mul_one, putL, and_self, ldn, t0, t1, t6, tm, e1, hlt']
    rw [hall, earlyF_end (by omega)]
    exact ext_ansV (Ext.refl m) rfl

theorem l2Early_rc (m : Mem) (v u : Value) (k : Cs) (plan : List Int) (h : CaseA m v k) (h' : IntsA m u plan) (hg : Good k) (hl : plan.length = k.need.length) (hp : ∀ x ∈ plan, 0 ≤ x ∧ x ≤ 160) :
    RC Try.prog 44 [v, u] m (AnsV (.int .i64 (earlyI (earlyO plan (stocksL plan k.need))))) := by
  refine rc_of_run mixed ok_spec_l2Early (by simp) (go_start _ _ _ ?_)
  obtain ⟨v1, v2, v3, v4, rfl, h1, h2, h3, h4⟩ := h.ro.ok
  have hu := h'.ro
  have h8 := hg.n8
  simp (config := {implicitDefEqProofs := false, maxDischargeDepth := 20}) (disch := first | omega | (simp only [lenE]; done) | (simp only [lenE]; omega) | rfl | (simp only [lenE, markR_len]; done) | (simp only [lenE, markR_len]; omega)) only [runE, mapE, listE, initT_5, initT_6, initT_7, initT_8, resV, oneV, binA, unA, reduceCtorEq, Nat.reduceEqDiff, Nat.reduceAdd, Nat.reduceLT, Nat.reduceLeDiff, Nat.reduceMul, Nat.reduceSub, ↓reduceIte, decide_true, decide_false, Bool.true_eq_false, Bool.false_eq_true, Bool.not_true, Bool.not_false, if_true, if_false, and_true, true_and, memE, celE, w64, Nat.zero_add, Nat.add_zero, Nat.mul_one, putL, and_self, ldn, c_spec_l2Early, r_spec_l2Early]
  refine callH_rc (l2Stocks_rc _ _ u k plan ⟨_, _, _, _, rfl, h1.ext _, h2.ext _, h3.ext _, h4.ext _⟩ (hu.ext _) hg hl hp) ?_
  intro r new hA
  obtain ⟨id, fl, rfl, hge, hown, hle, nrn⟩ := hA.row
  obtain ⟨d1, d2, d3, d4, -⟩ := hown.ints (by omega) fl
  have hll := stocksL_len plan k.need
  generalize stocksL plan k.need = st at *
  obtain ⟨e1, e2, e3, e4, -⟩ := (hu.ext [⟨.own, 28, [v1, v2, v3, v4]⟩]).ext new
  have hx : Ext m (roM m ++ [⟨.own, 28, [v1, v2, v3, v4]⟩] ++ new) := ((Ext.refl m).one _ _).app nrn
  simp (config := {implicitDefEqProofs := false, maxDischargeDepth := 20}) (disch := first | omega | (simp only [lenE]; done) | (simp only [lenE]; omega) | rfl | (simp only [lenE, markR_len]; done) | (simp only [lenE, markR_len]; omega)) only [runE, mapE, listE, initT_5, initT_6, initT_7, initT_8, resV, oneV, binA, unA, reduceCtorEq, Nat.reduceEqDiff, Nat.reduceAdd, Nat.reduceLT, Nat.reduceLeDiff, Nat.reduceMul, Nat.reduceSub, ↓reduceIte, decide_true, decide_false, Bool.true_eq_false, Bool.false_eq_true, Bool.not_true, Bool.not_false, if_true, if_false, and_true, true_and, memE, celE, w64, Nat.zero_add, Nat.add_zero, Nat.mul_one, putL, and_self, ldn]
  refine loop_inv mixed (fun s => ∃ t : Nat, 1 ≤ t ∧ (t ≤ plan.length ∨ t = 1) ∧ s.t 1 = u ∧ s.t 5 = .slice (some ⟨id, 0, none⟩) st.length fl ∧ s.t 6 = .int .i64 t ∧ s.m = roM m ++ [⟨.own, 28, [v1, v2, v3, v4]⟩] ++ new ∧ earlyO plan st = earlyF (earlyAt plan st) (plan.length - t) t) (fun s => plan.length - (intOf (s.t 6)).toNat) ⟨1, by omega, by omega, rfl, rfl, rfl, rfl, rfl⟩ ?_
  rintro s ⟨t, ht1, hk, t1, t5, t6, tm, hall⟩
  by_cases hlt : t < plan.length
  · have hlt' : (t : Int) < plan.length := by omega
    have d3' := d3 (t - 1) (by omega)
    rw [show ((t - 1 : Nat) : Int) = (t : Int) - 1 by omega] at d3'
    by_cases hb : 0 < plan.getD t 0
    · by_cases hc : 0 < st.getD (t - 1) 0
      · simp (config := {implicitDefEqProofs := false, maxDischargeDepth := 20}) (disch := first | omega | (simp only [lenE]; done) | (simp only [lenE]; omega) | rfl | (simp only [lenE, markR_len]; done) | (simp only [lenE, markR_len]; omega)) only [runE, mapE, listE, initT_5, initT_6, initT_7, initT_8, resV, oneV, binA, unA, reduceCtorEq, Nat.reduceEqDiff, Nat.reduceAdd, Nat.reduceLT, Nat.reduceLeDiff, Nat.reduceMul, Nat.reduceSub, ↓reduceIte, decide_true, decide_false, Bool.true_eq_false, Bool.false_eq_true, Bool.not_true, Bool.not_false, if_true, if_false, and_true, true_and, memE, celE, w64, Nat.zero_add, Nat.add_zero, Nat.mul_one, putL, and_self, ldn, t1, t5, t6, tm, e1, e3 t hlt, e4 t hlt, hlt', gt_iff_lt, hb, d3', d4 (t - 1) (by omega), hc]
        rw [earlyF_yes hlt (by unfold earlyAt; rw [decide_eq_true hb, decide_eq_true hc]; rfl)] at hall
        rw [hall]
        exact ext_ansV hx rfl
      · simp (config := {implicitDefEqProofs := false, maxDischargeDepth := 20}) (disch := first | omega | (simp only [lenE]; done) | (simp only [lenE]; omega) | rfl | (simp only [lenE, markR_len]; done) | (simp only [lenE, markR_len]; omega)) only [runE, mapE, listE, initT_5, initT_6, initT_7, initT_8, resV, oneV, binA, unA, reduceCtorEq, Nat.reduceEqDiff, Nat.reduceAdd, Nat.reduceLT, Nat.reduceLeDiff, Nat.reduceMul, Nat.reduceSub, ↓reduceIte, decide_true, decide_false, Bool.true_eq_false, Bool.false_eq_true, Bool.not_true, Bool.not_false, if_true, if_false, and_true, true_and, memE, celE, w64, Nat.zero_add, Nat.add_zero, Nat.mul_one, putL, and_self, ldn, t1, t5, t6, tm, e1, e3 t hlt, e4 t hlt, hlt', gt_iff_lt, hb, d3', d4 (t - 1) (by omega), hc]
        refine ⟨⟨t + 1, by omega, by omega, by simp, ?_⟩, ?_⟩
        · rw [hall, earlyF_no hlt (by unfold earlyAt; rw [decide_eq_false hc]; simp)]
        · simp [intOf]; omega
    · simp (config := {implicitDefEqProofs := false, maxDischargeDepth := 20}) (disch := first | omega | (simp only [lenE]; done) | (simp only [lenE]; omega) | rfl | (simp only [lenE, markR_len]; done) | (simp only [lenE, markR_len]; omega)) only [runE, mapE, listE, initT_5, initT_6, initT_7, initT_8, resV, oneV, binA, unA, reduceCtorEq, Nat.reduceEqDiff, Nat.reduceAdd, Nat.reduceLT, Nat.reduceLeDiff, Nat.reduceMul, Nat.reduceSub, ↓reduceIte, decide_true, decide_false, Bool.true_eq_false, Bool.false_eq_true, Bool.not_true, Bool.not_false, if_true, if_false, and_true, true_and, memE, celE, w64, Nat.zero_add, Nat.add_zero, Nat.mul_one, putL, and_self, ldn, t1, t5, t6, tm, e1, e3 t hlt, e4 t hlt, hlt', gt_iff_lt, hb]
      refine ⟨⟨t + 1, by omega, by omega, by simp, ?_⟩, ?_⟩
      · rw [hall, earlyF_no hlt (by unfold earlyAt; rw [decide_eq_false hb]; simp)]
      · simp [intOf]; omega
  · have hlt' : ¬ ((t : Int) < plan.length) := by omega
    simp (config := {implicitDefEqProofs := false, maxDischargeDepth := 20}) (disch := first | omega | (simp only [lenE]; done) | (simp only [lenE]; omega) | rfl | (simp only [lenE, markR_len]; done) | (simp only [lenE, markR_len]; omega)) only [runE, mapE, listE, initT_5, initT_6, initT_7, initT_8, resV, oneV, binA, unA, reduceCtorEq, Nat.reduceEqDiff, Nat.reduceAdd, Nat.reduceLT, Nat.reduceLeDiff, Nat.reduceMul, Nat.reduceSub, ↓reduceIte, decide_true, decide_false, Bool.true_eq_false, Bool.false_eq_true, Bool.not_true, Bool.not_false, if_true, if_false, and_true, true_and, memE, celE, w64, Nat.zero_add, Nat.add_zero, Nat.mul_one, putL, and_self, ldn, t1, t5, t6, tm, e1, hlt']
    rw [hall, earlyF_end (by omega)]
    exact ext_ansV hx rfl

def atEmpty (k : Cs) (plan : List Int) : Bool := two k plan && (earlyO plan (stocksL plan k.need)).isNone
theorem specAtEmpty_rc (m : Mem) (v u : Value) (k : Cs) (plan : List Int) (h : CaseA m v k) (h' : IntsA m u plan) :
    RC Try.prog 14 [v, u] m (AnsV (.tuple #[.bool (atEmpty k plan), .bool (two k plan)])) := by
  refine rc_of_run mixed ok_spec_OrdersAtEmpty (by simp) (go_start _ _ _ ?_)
  obtain ⟨v1, v2, v3, v4, rfl, h1, h2, h3, h4⟩ := h.ro.ok
  have hu := h'.ro
  simp (config := {implicitDefEqProofs := false, maxDischargeDepth := 20}) (disch := first | omega | (simp only [lenE]; done) | (simp only [lenE]; omega) | rfl | (simp only [lenE, markR_len]; done) | (simp only [lenE, markR_len]; omega)) only [runE, mapE, listE, initT_5, initT_6, initT_7, initT_8, resV, oneV, binA, unA, reduceCtorEq, Nat.reduceEqDiff, Nat.reduceAdd, Nat.reduceLT, Nat.reduceLeDiff, Nat.reduceMul, Nat.reduceSub, ↓reduceIte, decide_true, decide_false, Bool.true_eq_false, Bool.false_eq_true, Bool.not_true, Bool.not_false, if_true, if_false, and_true, true_and, memE, celE, w64, Nat.zero_add, Nat.add_zero, Nat.mul_one, putL, and_self, ldn, c_spec_OrdersAtEmpty, r_spec_OrdersAtEmpty]
  refine callH_rc (l2Two_rc _ _ u k plan ⟨_, _, _, _, rfl, h1.ext _, h2.ext _, h3.ext _, h4.ext _⟩ (hu.ext _)) ?_
  rintro r new ⟨rfl, nr1⟩
  unfold atEmpty
  cases hg : two k plan with
  | false =>
    simp (config := {implicitDefEqProofs := false, maxDischargeDepth := 20}) (disch := first | omega | (simp only [lenE]; done) | (simp only [lenE]; omega) | rfl | (simp only [lenE, markR_len]; done) | (simp only [lenE, markR_len]; omega)) only [runE, mapE, listE, initT_5, initT_6, initT_7, initT_8, resV, oneV, binA, unA, reduceCtorEq, Nat.reduceEqDiff, Nat.reduceAdd, Nat.reduceLT, Nat.reduceLeDiff, Nat.reduceMul, Nat.reduceSub, ↓reduceIte, decide_true, decide_false, Bool.true_eq_false, Bool.false_eq_true, Bool.not_true, Bool.not_false, if_true, if_false, and_true, true_and, memE, celE, w64, Nat.zero_add, Nat.add_zero, Nat.mul_one, putL, and_self, ldn]
    exact ext_ansV (((Ext.refl m).one _ _).app nr1) rfl
  | true =>
    obtain ⟨b1, b2, b3⟩ := two_bounds hg
    simp (config := {implicitDefEqProofs := false, maxDischargeDepth := 20}) (disch := first | omega | (simp only [lenE]; done) | (simp only [lenE]; omega) | rfl | (simp only [lenE, markR_len]; done) | (simp only [lenE, markR_len]; omega)) only [runE, mapE, listE, initT_5, initT_6, initT_7, initT_8, resV, oneV, binA, unA, reduceCtorEq, Nat.reduceEqDiff, Nat.reduceAdd, Nat.reduceLT, Nat.reduceLeDiff, Nat.reduceMul, Nat.reduceSub, ↓reduceIte, decide_true, decide_false, Bool.true_eq_false, Bool.false_eq_true, Bool.not_true, Bool.not_false, if_true, if_false, and_true, true_and, memE, celE, w64, Nat.zero_add, Nat.add_zero, Nat.mul_one, putL, and_self, ldn]
    refine callH_rc (l2Early_rc _ _ u k plan ⟨_, _, _, _, rfl, (h1.ext _).ext _, (h2.ext _).ext _, (h3.ext _).ext _, (h4.ext _).ext _⟩ ((hu.ext _).ext _) b1 b2 b3) ?_
    rintro r new2 ⟨rfl, nr2⟩
    simp (config := {implicitDefEqProofs := false, maxDischargeDepth := 20}) (disch := first | omega | (simp only [lenE]; done) | (simp only [lenE]; omega) | rfl | (simp only [lenE, markR_len]; done) | (simp only [lenE, markR_len]; omega)) only [runE, mapE, listE, initT_5, initT_6, initT_7, initT_8, resV, oneV, binA, unA, reduceCtorEq, Nat.reduceEqDiff, Nat.reduceAdd, Nat.reduceLT, Nat.reduceLeDiff, Nat.reduceMul, Nat.reduceSub, ↓reduceIte, decide_true, decide_false, Bool.true_eq_false, Bool.false_eq_true, Bool.not_true, Bool.not_false, if_true, if_false, and_true, true_and, memE, celE, w64, Nat.zero_add, Nat.add_zero, Nat.mul_one, putL, and_self, ldn]
    refine ext_ansV ((((Ext.refl m).one _ _).app nr1).app nr2) ?_
    cases earlyO plan (stocksL plan k.need) with
    | none => rfl
    | some t =>
      have : ¬ (earlyI (some t) < 0) := by unfold earlyI; simp
      rw [decide_eq_false this]; rfl
theorem implAtEmpty_rc (m : Mem) (v u : Value) (k : Cs) (plan : List Int) (h : CaseA m v k) (h' : IntsA m u plan) :
    RC Try.prog 17 [v, u] m (AnsV (.tuple #[.bool (atEmpty k plan), .bool (two k plan)])) := by
  refine rc_of_run mixed ok_impl_OrdersAtEmpty (by simp) (go_start _ _ _ ?_)
  obtain ⟨v1, v2, v3, v4, rfl, h1, h2, h3, h4⟩ := h.ro.ok
  have hu := h'.ro
  simp (config := {implicitDefEqProofs := false, maxDischargeDepth := 20}) (disch := first | omega | (simp only [lenE]; done) | (simp only [lenE]; omega) | rfl | (simp only [lenE, markR_len]; done) | (simp only [lenE, markR_len]; omega)) only [runE, mapE, listE, initT_5, initT_6, initT_7, initT_8, resV, oneV, binA, unA, reduceCtorEq, Nat.reduceEqDiff, Nat.reduceAdd, Nat.reduceLT, Nat.reduceLeDiff, Nat.reduceMul, Nat.reduceSub, ↓reduceIte, decide_true, decide_false, Bool.true_eq_false, Bool.false_eq_true, Bool.not_true, Bool.not_false, if_true, if_false, and_true, true_and, memE, celE, w64, Nat.zero_add, Nat.add_zero, Nat.mul_one, putL, and_self, ldn, c_impl_OrdersAtEmpty, r_impl_OrdersAtEmpty]
  refine callH_rc (implStocksOf_rc _ _ u k plan ⟨_, _, _, _, rfl, h1.ext _, h2.ext _, h3.ext _, h4.ext _⟩ (hu.ext _)) ?_
  intro r new hA
  obtain ⟨id, fl, rfl, hge, hown, hle, nr⟩ := hA.row
  unfold atEmpty
  cases hg : two k plan with
  | false =>
    simp (config := {implicitDefEqProofs := false, maxDischargeDepth := 20}) (disch := first | omega | (simp only [lenE]; done) | (simp only [lenE]; omega) | rfl | (simp only [lenE, markR_len]; done) | (simp only [lenE, markR_len]; omega)) only [runE, mapE, listE, initT_5, initT_6, initT_7, initT_8, resV, oneV, binA, unA, reduceCtorEq, Nat.reduceEqDiff, Nat.reduceAdd, Nat.reduceLT, Nat.reduceLeDiff, Nat.reduceMul, Nat.reduceSub, ↓reduceIte, decide_true, decide_false, Bool.true_eq_false, Bool.false_eq_true, Bool.not_true, Bool.not_false, if_true, if_false, and_true, true_and, memE, celE, w64, Nat.zero_add, Nat.add_zero, Nat.mul_one, putL, and_self, ldn, ext_2_0, ext_2_1]
    exact ext_ansV (((Ext.refl m).one _ _).app nr) rfl
  | true =>
    obtain ⟨b1, b2, b3⟩ := two_bounds hg
    have h8 := b1.n8
    rw [stocksA_yes hg] at *
    have hll := stocksL_len plan k.need
    simp (config := {implicitDefEqProofs := false, maxDischargeDepth := 20}) (disch := first | omega | (simp only [lenE]; done) | (simp only [lenE]; omega) | rfl | (simp only [lenE, markR_len]; done) | (simp only [lenE, markR_len]; omega)) only [runE, mapE, listE, initT_5, initT_6, initT_7, initT_8, resV, oneV, binA, unA, reduceCtorEq, Nat.reduceEqDiff, Nat.reduceAdd, Nat.reduceLT, Nat.reduceLeDiff, Nat.reduceMul, Nat.reduceSub, ↓reduceIte, decide_true, decide_false, Bool.true_eq_false, Bool.false_eq_true, Bool.not_true, Bool.not_false, if_true, if_false, and_true, true_and, memE, celE, w64, Nat.zero_add, Nat.add_zero, Nat.mul_one, putL, and_self, ldn, ext_2_0, ext_2_1]
    refine callH_rc (firstEarly_rc _ _ _ plan _ ((hu.ext _).ext _) (hown.ints (by omega) fl) (by omega) (by omega)) ?_
    rintro r new2 ⟨rfl, nr2⟩
    simp (config := {implicitDefEqProofs := false, maxDischargeDepth := 20}) (disch := first | omega | (simp only [lenE]; done) | (simp only [lenE]; omega) | rfl | (simp only [lenE, markR_len]; done) | (simp only [lenE, markR_len]; omega)) only [runE, mapE, listE, initT_5, initT_6, initT_7, initT_8, resV, oneV, binA, unA, reduceCtorEq, Nat.reduceEqDiff, Nat.reduceAdd, Nat.reduceLT, Nat.reduceLeDiff, Nat.reduceMul, Nat.reduceSub, ↓reduceIte, decide_true, decide_false, Bool.true_eq_false, Bool.false_eq_true, Bool.not_true, Bool.not_false, if_true, if_false, and_true, true_and, memE, celE, w64, Nat.zero_add, Nat.add_zero, Nat.mul_one, putL, and_self, ldn, ext_2_0, ext_2_1]
    refine ext_ansV ((((Ext.refl m).one _ _).app nr).app nr2) ?_
    cases earlyO plan (stocksL plan k.need) <;> rfl

theorem app_all {M : Mem} {l0 l : List Int} {id : Nat} {v : Value} (h : OwnR M id l0) (hi : IntsA M v l) (hb : l0.length + l.length ≤ 1048576) :
    appP M 3 1 8 (.slice (some ⟨id, 0, none⟩) l0.length 1) v = some (.slice (some ⟨M.length, 0, none⟩) (l0.length + l.length) 1, M.set id deadB ++ [⟨.own, 3, (l0 ++ l).map (Value.int .i64)⟩]) := by
  unfold appP
  rw [hi.src]
  simp only [onesB_ints, if_true, appA, hi.lenOf]
  rw [show M[id]? = some (rowB l0) from h]
  simp only [List.length_map, Nat.mul_one, true_and]
  rw [if_pos (by omega)]
  simp
theorem app_own {M : Mem} {l : List Int} {v : Value} (hi : IntsA M v l) (hb : l.length ≤ 1048576) :
    appP (M ++ [⟨.own, 3, []⟩]) 3 1 8 (.slice (some ⟨M.length, 0, none⟩) 0 1) v = some (.slice (some ⟨M.length + 1, 0, none⟩) l.length 1, M ++ [deadB] ++ [⟨.own, 3, l.map (Value.int .i64)⟩]) := by
  have := app_all (OwnR.at_end M []) (hi.ext [⟨.own, 3, []⟩]) (by simpa using hb)
  simpa using this
theorem bsl_none' {m : Mem} : bslA m 3 1 0 [] [] = some (.slice (some ⟨m.length, 0, none⟩) 0 1, m ++ [⟨.own, 3, []⟩]) := rfl

theorem l1Own_rc (m : Mem) (v : Value) (l : List Int) (h : IntsA m v l) (hl : l.length ≤ 1048576) : RC Try.prog 49 [v] m (AnsR m l) := by
  refine rc_of_run mixed ok_spec_l1Own (by simp) (go_start _ _ _ ?_)
  have hr := h.ro
  have ha := app_own hr hl
  rw [roM_len] at ha
  simp (config := {implicitDefEqProofs := false, maxDischargeDepth := 20}) (disch := first | omega | (simp only [lenE]; done) | (simp only [lenE]; omega) | rfl | (simp only [lenE, markR_len]; done) | (simp only [lenE, markR_len]; omega)) only [runE, mapE, listE, initT_5, initT_6, initT_7, initT_8, resV, oneV, binA, unA, reduceCtorEq, Nat.reduceEqDiff, Nat.reduceAdd, Nat.reduceLT, Nat.reduceLeDiff, Nat.reduceMul, Nat.reduceSub, ↓reduceIte, decide_true, decide_false, Bool.true_eq_false, Bool.false_eq_true, Bool.not_true, Bool.not_false, if_true, if_false, and_true, true_and, memE, celE, w64, Nat.zero_add, Nat.add_zero, Nat.mul_one, putL, and_self, ldn, c_spec_l1Own, r_spec_l1Own, bsl_none', ha]
  exact ext_ansR (((Ext.refl m).app (noRo_dead noRo_nil)).one _ _) (OwnR.end' (by simp [roM_len])) (by omega) rfl hl

def lotA (k : Cs) : List Int := if k.good then k.need else []
def waitAt (k : Cs) (j : Nat) : Bool := decide (¬ (k.unit.getD j 0 + k.hold.getD j 0 < k.unit.getD (j + 1) 0))
def waitsB (k : Cs) : Bool := (List.range (k.need.length - 1)).all (waitAt k)
theorem waits_yes {k : Cs} (h : ∀ j, j < k.need.length - 1 → waitAt k j = true) : waitsB k = true := by
  unfold waitsB; rw [List.all_eq_true]; intro j hj; exact h j (List.mem_range.1 hj)
theorem waits_no {k : Cs} {j : Nat} (hj : j < k.need.length - 1) (h : waitAt k j = false) : waitsB k = false := by
  cases hr : waitsB k with
  | false => rfl
  | true => unfold waitsB at hr; rw [List.all_eq_true] at hr; rw [hr j (List.mem_range.2 hj)] at h; cases h

theorem specWaits_rc (m : Mem) (v : Value) (k : Cs) (h : CaseA m v k) : RC Try.prog 24 [v] m (AnsV (.tuple #[.bool (k.good && waitsB k), .bool k.good])) := by
  refine rc_of_run mixed ok_spec_WaitsNever (by simp) (go_start _ _ _ ?_)
  obtain ⟨v1, v2, v3, v4, rfl, h1, h2, h3, h4⟩ := h.ro.ok
  simp (config := {implicitDefEqProofs := false, maxDischargeDepth := 20}) (disch := first | omega | (simp only [lenE]; done) | (simp only [lenE]; omega) | rfl | (simp only [lenE, markR_len]; done) | (simp only [lenE, markR_len]; omega)) only [runE, mapE, listE, initT_5, initT_6, initT_7, initT_8, resV, oneV, binA, unA, reduceCtorEq, Nat.reduceEqDiff, Nat.reduceAdd, Nat.reduceLT, Nat.reduceLeDiff, Nat.reduceMul, Nat.reduceSub, ↓reduceIte, decide_true, decide_false, Bool.true_eq_false, Bool.false_eq_true, Bool.not_true, Bool.not_false, if_true, if_false, and_true, true_and, memE, celE, w64, Nat.zero_add, Nat.add_zero, Nat.mul_one, putL, and_self, ldn, c_spec_WaitsNever, r_spec_WaitsNever]
  refine callH_rc (l2Good_rc _ _ k ⟨_, _, _, _, rfl, h1.ext _, h2.ext _, h3.ext _, h4.ext _⟩) ?_
  rintro r new ⟨rfl, nr1⟩
  have hx : Ext m (roM m ++ [⟨.own, 28, [v1, v2, v3, v4]⟩] ++ new) := ((Ext.refl m).one _ _).app nr1
  cases hg : k.good with
  | false =>
    simp (config := {implicitDefEqProofs := false, maxDischargeDepth := 20}) (disch := first | omega | (simp only [lenE]; done) | (simp only [lenE]; omega) | rfl | (simp only [lenE, markR_len]; done) | (simp only [lenE, markR_len]; omega)) only [runE, mapE, listE, initT_5, initT_6, initT_7, initT_8, resV, oneV, binA, unA, reduceCtorEq, Nat.reduceEqDiff, Nat.reduceAdd, Nat.reduceLT, Nat.reduceLeDiff, Nat.reduceMul, Nat.reduceSub, ↓reduceIte, decide_true, decide_false, Bool.true_eq_false, Bool.false_eq_true, Bool.not_true, Bool.not_false, if_true, if_false, and_true, true_and, memE, celE, w64, Nat.zero_add, Nat.add_zero, Nat.mul_one, putL, and_self, ldn]
    exact ext_ansV hx rfl
  | true =>
    have gd := good_iff.1 hg
    have h8 := gd.n8
    have g1 := gd.lu
    have g2 := gd.lh
    obtain ⟨d1, d2, d3, d4, -⟩ := (h3.ext [⟨.own, 28, [v1, v2, v3, v4]⟩]).ext new
    obtain ⟨c1, c2, c3, c4, -⟩ := (h4.ext [⟨.own, 28, [v1, v2, v3, v4]⟩]).ext new
    simp (config := {implicitDefEqProofs := false, maxDischargeDepth := 20}) (disch := first | omega | (simp only [lenE]; done) | (simp only [lenE]; omega) | rfl | (simp only [lenE, markR_len]; done) | (simp only [lenE, markR_len]; omega)) only [runE, mapE, listE, initT_5, initT_6, initT_7, initT_8, resV, oneV, binA, unA, reduceCtorEq, Nat.reduceEqDiff, Nat.reduceAdd, Nat.reduceLT, Nat.reduceLeDiff, Nat.reduceMul, Nat.reduceSub, ↓reduceIte, decide_true, decide_false, Bool.true_eq_false, Bool.false_eq_true, Bool.not_true, Bool.not_false, if_true, if_false, and_true, true_and, memE, celE, w64, Nat.zero_add, Nat.add_zero, Nat.mul_one, putL, and_self, ldn]
    refine loop_inv mixed (fun s => ∃ t : Nat, (t + 1 ≤ k.need.length ∨ t = 0) ∧ s.t 1 = .pointer (some ⟨m.length, 0, none⟩) ∧ s.t 4 = .int .i64 t ∧ s.m = roM m ++ [⟨.own, 28, [v1, v2, v3, v4]⟩] ++ new ∧ ∀ j, j < t → waitAt k j = true) (fun s => k.need.length - (intOf (s.t 4)).toNat) ⟨0, by omega, rfl, rfl, rfl, fun j hj => absurd hj (by omega)⟩ ?_
    rintro s ⟨t, hk, t1, t4, tm, hall⟩
    have hsz : (t : Int) + 1 ≤ 100 := by omega
    by_cases hlt : t + 1 < k.need.length
    · have hlt' : (t : Int) + 1 < k.need.length := by omega
      have q1 := getD_in gd.unit (k := t) (by omega)
      have q2 := getD_in gd.hold (k := t) (by omega)
      have d3' := d3 (t + 1) (by omega)
      rw [show ((t + 1 : Nat) : Int) = (t : Int) + 1 by omega] at d3'
      by_cases hb : k.unit.getD t 0 + k.hold.getD t 0 < k.unit.getD (t + 1) 0
      · simp (config := {implicitDefEqProofs := false, maxDischargeDepth := 20}) (disch := first | omega | (simp only [lenE]; done) | (simp only [lenE]; omega) | rfl | (simp only [lenE, markR_len]; done) | (simp only [lenE, markR_len]; omega)) only [runE, mapE, listE, initT_5, initT_6, initT_7, initT_8, resV, oneV, binA, unA, reduceCtorEq, Nat.reduceEqDiff, Nat.reduceAdd, Nat.reduceLT, Nat.reduceLeDiff, Nat.reduceMul, Nat.reduceSub, ↓reduceIte, decide_true, decide_false, Bool.true_eq_false, Bool.false_eq_true, Bool.not_true, Bool.not_false, if_true, if_false, and_true, true_and, memE, celE, w64, Nat.zero_add, Nat.add_zero, Nat.mul_one, putL, and_self, ldn, t1, t4, tm, h1.len, hlt', d3 t (by omega), d4 t (by omega), c3 t (by omega), c4 t (by omega), d3', d4 (t + 1) (by omega), hb]
        refine ext_ansV hx ?_
        rw [waits_no (j := t) (by omega) (by unfold waitAt; exact decide_eq_false (fun h => h hb))]; rfl
      · simp (config := {implicitDefEqProofs := false, maxDischargeDepth := 20}) (disch := first | omega | (simp only [lenE]; done) | (simp only [lenE]; omega) | rfl | (simp only [lenE, markR_len]; done) | (simp only [lenE, markR_len]; omega)) only [runE, mapE, listE, initT_5, initT_6, initT_7, initT_8, resV, oneV, binA, unA, reduceCtorEq, Nat.reduceEqDiff, Nat.reduceAdd, Nat.reduceLT, Nat.reduceLeDiff, Nat.reduceMul, Nat.reduceSub, ↓reduceIte, decide_true, decide_false, Bool.true_eq_false, Bool.false_eq_true, Bool.not_true, Bool.not_false, if_true, if_false, and_true, true_and, memE, celE, w64, Nat.zero_add, Nat.add_zero, Nat.mul_one, putL, and_self, ldn, t1, t4, tm, h1.len, hlt', d3 t (by omega), d4 t (by omega), c3 t (by omega), c4 t (by omega), d3', d4 (t + 1) (by omega), hb]
        refine ⟨⟨t + 1, by omega, by simp, fun j hj => ?_⟩, ?_⟩
        · by_cases e : j = t
          · subst e; unfold waitAt; exact decide_eq_true hb
          · exact hall j (by omega)
        · simp [intOf]; omega
    · have hlt' : ¬ ((t : Int) + 1 < k.need.length) := by omega
      simp (config := {implicitDefEqProofs := false, maxDischargeDepth := 20}) (disch := first | omega | (simp only [lenE]; done) | (simp only [lenE]; omega) | rfl | (simp only [lenE, markR_len]; done) | (simp only [lenE, markR_len]; omega)) only [runE, mapE, listE, initT_5, initT_6, initT_7, initT_8, resV, oneV, binA, unA, reduceCtorEq, Nat.reduceEqDiff, Nat.reduceAdd, Nat.reduceLT, Nat.reduceLeDiff, Nat.reduceMul, Nat.reduceSub, ↓reduceIte, decide_true, decide_false, Bool.true_eq_false, Bool.false_eq_true, Bool.not_true, Bool.not_false, if_true, if_false, and_true, true_and, memE, celE, w64, Nat.zero_add, Nat.add_zero, Nat.mul_one, putL, and_self, ldn, t1, t4, tm, h1.len, hlt']
      refine ext_ansV hx ?_
      rw [waits_yes fun j hj => hall j (by omega)]; rfl

theorem implWaits_rc (m : Mem) (v : Value) (k : Cs) (h : CaseA m v k) : RC Try.prog 25 [v] m (AnsV (.tuple #[.bool (k.good && waitsB k), .bool k.good])) := by
  refine rc_of_run mixed ok_impl_WaitsNever (by simp) (go_start _ _ _ ?_)
  obtain ⟨v1, v2, v3, v4, rfl, h1, h2, h3, h4⟩ := h.ro.ok
  simp (config := {implicitDefEqProofs := false, maxDischargeDepth := 20}) (disch := first | omega | (simp only [lenE]; done) | (simp only [lenE]; omega) | rfl | (simp only [lenE, markR_len]; done) | (simp only [lenE, markR_len]; omega)) only [runE, mapE, listE, initT_5, initT_6, initT_7, initT_8, resV, oneV, binA, unA, reduceCtorEq, Nat.reduceEqDiff, Nat.reduceAdd, Nat.reduceLT, Nat.reduceLeDiff, Nat.reduceMul, Nat.reduceSub, ↓reduceIte, decide_true, decide_false, Bool.true_eq_false, Bool.false_eq_true, Bool.not_true, Bool.not_false, if_true, if_false, and_true, true_and, memE, celE, w64, Nat.zero_add, Nat.add_zero, Nat.mul_one, putL, and_self, ldn, c_impl_WaitsNever, r_impl_WaitsNever]
  refine callH_rc (implIsCase_rc _ _ k ⟨_, _, _, _, rfl, h1.ext _, h2.ext _, h3.ext _, h4.ext _⟩) ?_
  rintro r new ⟨rfl, nr1⟩
  have hx : Ext m (roM m ++ [⟨.own, 28, [v1, v2, v3, v4]⟩] ++ new) := ((Ext.refl m).one _ _).app nr1
  cases hg : k.good with
  | false =>
    simp (config := {implicitDefEqProofs := false, maxDischargeDepth := 20}) (disch := first | omega | (simp only [lenE]; done) | (simp only [lenE]; omega) | rfl | (simp only [lenE, markR_len]; done) | (simp only [lenE, markR_len]; omega)) only [runE, mapE, listE, initT_5, initT_6, initT_7, initT_8, resV, oneV, binA, unA, reduceCtorEq, Nat.reduceEqDiff, Nat.reduceAdd, Nat.reduceLT, Nat.reduceLeDiff, Nat.reduceMul, Nat.reduceSub, ↓reduceIte, decide_true, decide_false, Bool.true_eq_false, Bool.false_eq_true, Bool.not_true, Bool.not_false, if_true, if_false, and_true, true_and, memE, celE, w64, Nat.zero_add, Nat.add_zero, Nat.mul_one, putL, and_self, ldn]
    exact ext_ansV hx rfl
  | true =>
    have gd := good_iff.1 hg
    have h8 := gd.n8
    have g1 := gd.lu
    have g2 := gd.lh
    obtain ⟨d1, d2, d3, d4, -⟩ := (h3.ext [⟨.own, 28, [v1, v2, v3, v4]⟩]).ext new
    obtain ⟨c1, c2, c3, c4, -⟩ := (h4.ext [⟨.own, 28, [v1, v2, v3, v4]⟩]).ext new
    simp (config := {implicitDefEqProofs := false, maxDischargeDepth := 20}) (disch := first | omega | (simp only [lenE]; done) | (simp only [lenE]; omega) | rfl | (simp only [lenE, markR_len]; done) | (simp only [lenE, markR_len]; omega)) only [runE, mapE, listE, initT_5, initT_6, initT_7, initT_8, resV, oneV, binA, unA, reduceCtorEq, Nat.reduceEqDiff, Nat.reduceAdd, Nat.reduceLT, Nat.reduceLeDiff, Nat.reduceMul, Nat.reduceSub, ↓reduceIte, decide_true, decide_false, Bool.true_eq_false, Bool.false_eq_true, Bool.not_true, Bool.not_false, if_true, if_false, and_true, true_and, memE, celE, w64, Nat.zero_add, Nat.add_zero, Nat.mul_one, putL, and_self, ldn]
    refine loop_inv mixed (fun s => ∃ t : Nat, (t + 1 ≤ k.need.length ∨ t = 0) ∧ s.t 1 = .pointer (some ⟨m.length, 0, none⟩) ∧ s.t 4 = .int .i64 ((t : Int) + 1) ∧ s.m = roM m ++ [⟨.own, 28, [v1, v2, v3, v4]⟩] ++ new ∧ ∀ j, j < t → waitAt k j = true) (fun s => k.need.length - (intOf (s.t 4)).toNat) ⟨0, by omega, rfl, rfl, rfl, fun j hj => absurd hj (by omega)⟩ ?_
    rintro s ⟨t, hk, t1, t4, tm, hall⟩
    have hsz : (t : Int) + 1 ≤ 100 := by omega
    by_cases hlt : t + 1 < k.need.length
    · have hlt' : (t : Int) + 1 < k.unit.length := by omega
      have q1 := getD_in gd.unit (k := t) (by omega)
      have q2 := getD_in gd.hold (k := t) (by omega)
      have d3' := d3 (t + 1) (by omega)
      rw [show ((t + 1 : Nat) : Int) = (t : Int) + 1 by omega] at d3'
      have es : (t : Int) + 1 - 1 = t := by omega
      by_cases hb : k.unit.getD t 0 + k.hold.getD t 0 < k.unit.getD (t + 1) 0
      · simp (config := {implicitDefEqProofs := false, maxDischargeDepth := 20}) (disch := first | omega | (simp only [lenE]; done) | (simp only [lenE]; omega) | rfl | (simp only [lenE, markR_len]; done) | (simp only [lenE, markR_len]; omega)) only [runE, mapE, listE, initT_5, initT_6, initT_7, initT_8, resV, oneV, binA, unA, reduceCtorEq, Nat.reduceEqDiff, Nat.reduceAdd, Nat.reduceLT, Nat.reduceLeDiff, Nat.reduceMul, Nat.reduceSub, ↓reduceIte, decide_true, decide_false, Bool.true_eq_false, Bool.false_eq_true, Bool.not_true, Bool.not_false, if_true, if_false, and_true, true_and, memE, celE, w64, Nat.zero_add, Nat.add_zero, Nat.mul_one, putL, and_self, ldn, t1, t4, tm, d1, es, hlt', d3 t (by omega), d4 t (by omega), c3 t (by omega), c4 t (by omega), d3', d4 (t + 1) (by omega), hb]
        refine ext_ansV hx ?_
        rw [waits_no (j := t) (by omega) (by unfold waitAt; exact decide_eq_false (fun h => h hb))]; rfl
      · simp (config := {implicitDefEqProofs := false, maxDischargeDepth := 20}) (disch := first | omega | (simp only [lenE]; done) | (simp only [lenE]; omega) | rfl | (simp only [lenE, markR_len]; done) | (simp only [lenE, markR_len]; omega)) only [runE, mapE, listE, initT_5, initT_6, initT_7, initT_8, resV, oneV, binA, unA, reduceCtorEq, Nat.reduceEqDiff, Nat.reduceAdd, Nat.reduceLT, Nat.reduceLeDiff, Nat.reduceMul, Nat.reduceSub, ↓reduceIte, decide_true, decide_false, Bool.true_eq_false, Bool.false_eq_true, Bool.not_true, Bool.not_false, if_true, if_false, and_true, true_and, memE, celE, w64, Nat.zero_add, Nat.add_zero, Nat.mul_one, putL, and_self, ldn, t1, t4, tm, d1, es, hlt', d3 t (by omega), d4 t (by omega), c3 t (by omega), c4 t (by omega), d3', d4 (t + 1) (by omega), hb]
        refine ⟨⟨t + 1, by omega, by simp, fun j hj => ?_⟩, ?_⟩
        · by_cases e : j = t
          · subst e; unfold waitAt; exact decide_eq_true hb
          · exact hall j (by omega)
        · simp [intOf]; omega
    · have hlt' : ¬ ((t : Int) + 1 < k.unit.length) := by omega
      simp (config := {implicitDefEqProofs := false, maxDischargeDepth := 20}) (disch := first | omega | (simp only [lenE]; done) | (simp only [lenE]; omega) | rfl | (simp only [lenE, markR_len]; done) | (simp only [lenE, markR_len]; omega)) only [runE, mapE, listE, initT_5, initT_6, initT_7, initT_8, resV, oneV, binA, unA, reduceCtorEq, Nat.reduceEqDiff, Nat.reduceAdd, Nat.reduceLT, Nat.reduceLeDiff, Nat.reduceMul, Nat.reduceSub, ↓reduceIte, decide_true, decide_false, Bool.true_eq_false, Bool.false_eq_true, Bool.not_true, Bool.not_false, if_true, if_false, and_true, true_and, memE, celE, w64, Nat.zero_add, Nat.add_zero, Nat.mul_one, putL, and_self, ldn, t1, t4, tm, d1, hlt']
      refine ext_ansV hx ?_
      rw [waits_yes fun j hj => hall j (by omega)]; rfl
end Go.Proofs.Ytbiipjdhabbleaa.Ab
