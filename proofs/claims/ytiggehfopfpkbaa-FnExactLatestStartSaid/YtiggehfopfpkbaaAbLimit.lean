/- Limits: CanMeet, FirstShort, KeepsLimits, PartialPeriods. -/
import Derived.Test.YtiggehfopfpkbaaAbLate
namespace Go.Proofs.Ytiggehfopfpkbaa.Ab
open Go Go.RowKit
set_option linter.unusedVariables false
set_option linter.unusedSimpArgs false

def rowsB (k : Cs) (l : List Int) (most : Int) : Bool := k.good && Go.Proofs.Ytiggehfopfpkbaa.rowB l k.need.length most
theorem rowsB_iff {k : Cs} {l : List Int} {most : Int} : rowsB k l most = true ↔ Good k ∧ (∀ x ∈ l, 0 ≤ x ∧ x ≤ most) ∧ l.length = k.need.length := by
  unfold rowsB; rw [Bool.and_eq_true, good_iff, rowB_iff]
theorem l4Limits_rc (m : Mem) (v u : Value) (k : Cs) (l : List Int) (h : CaseA m v k) (h' : IntsA m u l) :
    RC Try.prog 63 [v, u] m (AnsV (.bool (rowsB k l 160))) := by
  refine rc_of_run mixed ok_spec_l4Limits (by simp) (go_start _ _ _ ?_)
  obtain ⟨v1, v2, v3, v4, rfl, h1, h2, h3, h4⟩ := h.ro.ok
  have hu := h'.ro
  simp (config := {implicitDefEqProofs := false, maxDischargeDepth := 20}) (disch := first | omega | (simp only [lenE]; done) | (simp only [lenE]; omega) | rfl | (simp only [lenE, markR_len]; done) | (simp only [lenE, markR_len]; omega)) only [runE, mapE, listE, resV, oneV, binA, unA, reduceCtorEq, Nat.reduceEqDiff, Nat.reduceAdd, Nat.reduceLT, Nat.reduceLeDiff, Nat.reduceMul, Nat.reduceSub, ↓reduceIte, decide_true, decide_false, Bool.true_eq_false, Bool.false_eq_true, Bool.not_true, Bool.not_false, if_true, if_false, and_true, true_and, memE, celE, w64, Nat.zero_add, Nat.add_zero, Nat.mul_one, putL, and_self, ldn, c_spec_l4Limits, r_spec_l4Limits]
  refine callH_rc (l2Good_rc _ _ k ⟨_, _, _, _, rfl, h1.ext _, h2.ext _, h3.ext _, h4.ext _⟩) ?_
  rintro r new ⟨rfl, nr1⟩
  unfold rowsB
  cases hg : k.good with
  | false =>
    simp (config := {implicitDefEqProofs := false, maxDischargeDepth := 20}) (disch := first | omega | (simp only [lenE]; done) | (simp only [lenE]; omega) | rfl | (simp only [lenE, markR_len]; done) | (simp only [lenE, markR_len]; omega)) only [runE, mapE, listE, resV, oneV, binA, unA, reduceCtorEq, Nat.reduceEqDiff, Nat.reduceAdd, Nat.reduceLT, Nat.reduceLeDiff, Nat.reduceMul, Nat.reduceSub, ↓reduceIte, decide_true, decide_false, Bool.true_eq_false, Bool.false_eq_true, Bool.not_true, Bool.not_false, if_true, if_false, and_true, true_and, memE, celE, w64, Nat.zero_add, Nat.add_zero, Nat.mul_one, putL, and_self, ldn]
    exact ext_ansV (((Ext.refl m).one _ _).app nr1) (by simp)
  | true =>
    simp (config := {implicitDefEqProofs := false, maxDischargeDepth := 20}) (disch := first | omega | (simp only [lenE]; done) | (simp only [lenE]; omega) | rfl | (simp only [lenE, markR_len]; done) | (simp only [lenE, markR_len]; omega)) only [runE, mapE, listE, resV, oneV, binA, unA, reduceCtorEq, Nat.reduceEqDiff, Nat.reduceAdd, Nat.reduceLT, Nat.reduceLeDiff, Nat.reduceMul, Nat.reduceSub, ↓reduceIte, decide_true, decide_false, Bool.true_eq_false, Bool.false_eq_true, Bool.not_true, Bool.not_false, if_true, if_false, and_true, true_and, memE, celE, w64, Nat.zero_add, Nat.add_zero, Nat.mul_one, putL, and_self, ldn, h1.len]
    refine callH_rc (l2Row_rc _ u l k.need.length 160 ((hu.ext _).ext _)) ?_
    rintro r new ⟨rfl, rfl⟩
    simp (config := {implicitDefEqProofs := false, maxDischargeDepth := 20}) (disch := first | omega | (simp only [lenE]; done) | (simp only [lenE]; omega) | rfl | (simp only [lenE, markR_len]; done) | (simp only [lenE, markR_len]; omega)) only [runE, mapE, listE, resV, oneV, binA, unA, reduceCtorEq, Nat.reduceEqDiff, Nat.reduceAdd, Nat.reduceLT, Nat.reduceLeDiff, Nat.reduceMul, Nat.reduceSub, ↓reduceIte, decide_true, decide_false, Bool.true_eq_false, Bool.false_eq_true, Bool.not_true, Bool.not_false, if_true, if_false, and_true, true_and, memE, celE, w64, Nat.zero_add, Nat.add_zero, Nat.mul_one, putL, and_self, ldn]
    exact ext_ansV (((Ext.refl m).one _ _).app nr1) (by simp)
theorem areLimits_rc (m : Mem) (v u : Value) (k : Cs) (l : List Int) (h : CaseA m v k) (h' : IntsA m u l) :
    RC Try.prog 65 [v, u] m (AnsV (.bool (rowsB k l 160))) := by
  refine rc_of_run mixed ok_impl_areLimits (by simp) (go_start _ _ _ ?_)
  obtain ⟨v1, v2, v3, v4, rfl, h1, h2, h3, h4⟩ := h.ro.ok
  have hu := h'.ro
  simp (config := {implicitDefEqProofs := false, maxDischargeDepth := 20}) (disch := first | omega | (simp only [lenE]; done) | (simp only [lenE]; omega) | rfl | (simp only [lenE, markR_len]; done) | (simp only [lenE, markR_len]; omega)) only [runE, mapE, listE, resV, oneV, binA, unA, reduceCtorEq, Nat.reduceEqDiff, Nat.reduceAdd, Nat.reduceLT, Nat.reduceLeDiff, Nat.reduceMul, Nat.reduceSub, ↓reduceIte, decide_true, decide_false, Bool.true_eq_false, Bool.false_eq_true, Bool.not_true, Bool.not_false, if_true, if_false, and_true, true_and, memE, celE, w64, Nat.zero_add, Nat.add_zero, Nat.mul_one, putL, and_self, ldn, c_impl_areLimits, r_impl_areLimits]
  refine callH_rc (implIsCase_rc _ _ k ⟨_, _, _, _, rfl, h1.ext _, h2.ext _, h3.ext _, h4.ext _⟩) ?_
  rintro r new ⟨rfl, nr1⟩
  unfold rowsB
  cases hg : k.good with
  | false =>
    simp (config := {implicitDefEqProofs := false, maxDischargeDepth := 20}) (disch := first | omega | (simp only [lenE]; done) | (simp only [lenE]; omega) | rfl | (simp only [lenE, markR_len]; done) | (simp only [lenE, markR_len]; omega)) only [runE, mapE, listE, resV, oneV, binA, unA, reduceCtorEq, Nat.reduceEqDiff, Nat.reduceAdd, Nat.reduceLT, Nat.reduceLeDiff, Nat.reduceMul, Nat.reduceSub, ↓reduceIte, decide_true, decide_false, Bool.true_eq_false, Bool.false_eq_true, Bool.not_true, Bool.not_false, if_true, if_false, and_true, true_and, memE, celE, w64, Nat.zero_add, Nat.add_zero, Nat.mul_one, putL, and_self, ldn]
    exact ext_ansV (((Ext.refl m).one _ _).app nr1) (by simp)
  | true =>
    simp (config := {implicitDefEqProofs := false, maxDischargeDepth := 20}) (disch := first | omega | (simp only [lenE]; done) | (simp only [lenE]; omega) | rfl | (simp only [lenE, markR_len]; done) | (simp only [lenE, markR_len]; omega)) only [runE, mapE, listE, resV, oneV, binA, unA, reduceCtorEq, Nat.reduceEqDiff, Nat.reduceAdd, Nat.reduceLT, Nat.reduceLeDiff, Nat.reduceMul, Nat.reduceSub, ↓reduceIte, decide_true, decide_false, Bool.true_eq_false, Bool.false_eq_true, Bool.not_true, Bool.not_false, if_true, if_false, and_true, true_and, memE, celE, w64, Nat.zero_add, Nat.add_zero, Nat.mul_one, putL, and_self, ldn, h1.len]
    refine callH_rc (isRow_rc _ u l k.need.length 160 ((hu.ext _).ext _)) ?_
    rintro r new2 ⟨rfl, nr2⟩
    simp (config := {implicitDefEqProofs := false, maxDischargeDepth := 20}) (disch := first | omega | (simp only [lenE]; done) | (simp only [lenE]; omega) | rfl | (simp only [lenE, markR_len]; done) | (simp only [lenE, markR_len]; omega)) only [runE, mapE, listE, resV, oneV, binA, unA, reduceCtorEq, Nat.reduceEqDiff, Nat.reduceAdd, Nat.reduceLT, Nat.reduceLeDiff, Nat.reduceMul, Nat.reduceSub, ↓reduceIte, decide_true, decide_false, Bool.true_eq_false, Bool.false_eq_true, Bool.not_true, Bool.not_false, if_true, if_false, and_true, true_and, memE, celE, w64, Nat.zero_add, Nat.add_zero, Nat.mul_one, putL, and_self, ldn]
    exact ext_ansV ((((Ext.refl m).one _ _).app nr1).app nr2) (by simp)
theorem l4Rates_rc (m : Mem) (v u : Value) (k : Cs) (l : List Int) (h : CaseA m v k) (h' : IntsA m u l) :
    RC Try.prog 93 [v, u] m (AnsV (.bool (rowsB k l 9))) := by
  refine rc_of_run mixed ok_spec_l4Rates (by simp) (go_start _ _ _ ?_)
  obtain ⟨v1, v2, v3, v4, rfl, h1, h2, h3, h4⟩ := h.ro.ok
  have hu := h'.ro
  simp (config := {implicitDefEqProofs := false, maxDischargeDepth := 20}) (disch := first | omega | (simp only [lenE]; done) | (simp only [lenE]; omega) | rfl | (simp only [lenE, markR_len]; done) | (simp only [lenE, markR_len]; omega)) only [runE, mapE, listE, resV, oneV, binA, unA, reduceCtorEq, Nat.reduceEqDiff, Nat.reduceAdd, Nat.reduceLT, Nat.reduceLeDiff, Nat.reduceMul, Nat.reduceSub, ↓reduceIte, decide_true, decide_false, Bool.true_eq_false, Bool.false_eq_true, Bool.not_true, Bool.not_false, if_true, if_false, and_true, true_and, memE, celE, w64, Nat.zero_add, Nat.add_zero, Nat.mul_one, putL, and_self, ldn, c_spec_l4Rates, r_spec_l4Rates]
  refine callH_rc (l2Good_rc _ _ k ⟨_, _, _, _, rfl, h1.ext _, h2.ext _, h3.ext _, h4.ext _⟩) ?_
  rintro r new ⟨rfl, nr1⟩
  unfold rowsB
  cases hg : k.good with
  | false =>
    simp (config := {implicitDefEqProofs := false, maxDischargeDepth := 20}) (disch := first | omega | (simp only [lenE]; done) | (simp only [lenE]; omega) | rfl | (simp only [lenE, markR_len]; done) | (simp only [lenE, markR_len]; omega)) only [runE, mapE, listE, resV, oneV, binA, unA, reduceCtorEq, Nat.reduceEqDiff, Nat.reduceAdd, Nat.reduceLT, Nat.reduceLeDiff, Nat.reduceMul, Nat.reduceSub, ↓reduceIte, decide_true, decide_false, Bool.true_eq_false, Bool.false_eq_true, Bool.not_true, Bool.not_false, if_true, if_false, and_true, true_and, memE, celE, w64, Nat.zero_add, Nat.add_zero, Nat.mul_one, putL, and_self, ldn]
    exact ext_ansV (((Ext.refl m).one _ _).app nr1) (by simp)
  | true =>
    simp (config := {implicitDefEqProofs := false, maxDischargeDepth := 20}) (disch := first | omega | (simp only [lenE]; done) | (simp only [lenE]; omega) | rfl | (simp only [lenE, markR_len]; done) | (simp only [lenE, markR_len]; omega)) only [runE, mapE, listE, resV, oneV, binA, unA, reduceCtorEq, Nat.reduceEqDiff, Nat.reduceAdd, Nat.reduceLT, Nat.reduceLeDiff, Nat.reduceMul, Nat.reduceSub, ↓reduceIte, decide_true, decide_false, Bool.true_eq_false, Bool.false_eq_true, Bool.not_true, Bool.not_false, if_true, if_false, and_true, true_and, memE, celE, w64, Nat.zero_add, Nat.add_zero, Nat.mul_one, putL, and_self, ldn, h1.len]
    refine callH_rc (l2Row_rc _ u l k.need.length 9 ((hu.ext _).ext _)) ?_
    rintro r new ⟨rfl, rfl⟩
    simp (config := {implicitDefEqProofs := false, maxDischargeDepth := 20}) (disch := first | omega | (simp only [lenE]; done) | (simp only [lenE]; omega) | rfl | (simp only [lenE, markR_len]; done) | (simp only [lenE, markR_len]; omega)) only [runE, mapE, listE, resV, oneV, binA, unA, reduceCtorEq, Nat.reduceEqDiff, Nat.reduceAdd, Nat.reduceLT, Nat.reduceLeDiff, Nat.reduceMul, Nat.reduceSub, ↓reduceIte, decide_true, decide_false, Bool.true_eq_false, Bool.false_eq_true, Bool.not_true, Bool.not_false, if_true, if_false, and_true, true_and, memE, celE, w64, Nat.zero_add, Nat.add_zero, Nat.mul_one, putL, and_self, ldn]
    exact ext_ansV (((Ext.refl m).one _ _).app nr1) (by simp)
theorem areRates_rc (m : Mem) (v u : Value) (k : Cs) (l : List Int) (h : CaseA m v k) (h' : IntsA m u l) :
    RC Try.prog 96 [v, u] m (AnsV (.bool (rowsB k l 9))) := by
  refine rc_of_run mixed ok_impl_areRates (by simp) (go_start _ _ _ ?_)
  obtain ⟨v1, v2, v3, v4, rfl, h1, h2, h3, h4⟩ := h.ro.ok
  have hu := h'.ro
  simp (config := {implicitDefEqProofs := false, maxDischargeDepth := 20}) (disch := first | omega | (simp only [lenE]; done) | (simp only [lenE]; omega) | rfl | (simp only [lenE, markR_len]; done) | (simp only [lenE, markR_len]; omega)) only [runE, mapE, listE, resV, oneV, binA, unA, reduceCtorEq, Nat.reduceEqDiff, Nat.reduceAdd, Nat.reduceLT, Nat.reduceLeDiff, Nat.reduceMul, Nat.reduceSub, ↓reduceIte, decide_true, decide_false, Bool.true_eq_false, Bool.false_eq_true, Bool.not_true, Bool.not_false, if_true, if_false, and_true, true_and, memE, celE, w64, Nat.zero_add, Nat.add_zero, Nat.mul_one, putL, and_self, ldn, c_impl_areRates, r_impl_areRates]
  refine callH_rc (implIsCase_rc _ _ k ⟨_, _, _, _, rfl, h1.ext _, h2.ext _, h3.ext _, h4.ext _⟩) ?_
  rintro r new ⟨rfl, nr1⟩
  unfold rowsB
  cases hg : k.good with
  | false =>
    simp (config := {implicitDefEqProofs := false, maxDischargeDepth := 20}) (disch := first | omega | (simp only [lenE]; done) | (simp only [lenE]; omega) | rfl | (simp only [lenE, markR_len]; done) | (simp only [lenE, markR_len]; omega)) only [runE, mapE, listE, resV, oneV, binA, unA, reduceCtorEq, Nat.reduceEqDiff, Nat.reduceAdd, Nat.reduceLT, Nat.reduceLeDiff, Nat.reduceMul, Nat.reduceSub, ↓reduceIte, decide_true, decide_false, Bool.true_eq_false, Bool.false_eq_true, Bool.not_true, Bool.not_false, if_true, if_false, and_true, true_and, memE, celE, w64, Nat.zero_add, Nat.add_zero, Nat.mul_one, putL, and_self, ldn]
    exact ext_ansV (((Ext.refl m).one _ _).app nr1) (by simp)
  | true =>
    simp (config := {implicitDefEqProofs := false, maxDischargeDepth := 20}) (disch := first | omega | (simp only [lenE]; done) | (simp only [lenE]; omega) | rfl | (simp only [lenE, markR_len]; done) | (simp only [lenE, markR_len]; omega)) only [runE, mapE, listE, resV, oneV, binA, unA, reduceCtorEq, Nat.reduceEqDiff, Nat.reduceAdd, Nat.reduceLT, Nat.reduceLeDiff, Nat.reduceMul, Nat.reduceSub, ↓reduceIte, decide_true, decide_false, Bool.true_eq_false, Bool.false_eq_true, Bool.not_true, Bool.not_false, if_true, if_false, and_true, true_and, memE, celE, w64, Nat.zero_add, Nat.add_zero, Nat.mul_one, putL, and_self, ldn, h1.len]
    refine callH_rc (isRow_rc _ u l k.need.length 9 ((hu.ext _).ext _)) ?_
    rintro r new2 ⟨rfl, nr2⟩
    simp (config := {implicitDefEqProofs := false, maxDischargeDepth := 20}) (disch := first | omega | (simp only [lenE]; done) | (simp only [lenE]; omega) | rfl | (simp only [lenE, markR_len]; done) | (simp only [lenE, markR_len]; omega)) only [runE, mapE, listE, resV, oneV, binA, unA, reduceCtorEq, Nat.reduceEqDiff, Nat.reduceAdd, Nat.reduceLT, Nat.reduceLeDiff, Nat.reduceMul, Nat.reduceSub, ↓reduceIte, decide_true, decide_false, Bool.true_eq_false, Bool.false_eq_true, Bool.not_true, Bool.not_false, if_true, if_false, and_true, true_and, memE, celE, w64, Nat.zero_add, Nat.add_zero, Nat.mul_one, putL, and_self, ldn]
    exact ext_ansV ((((Ext.refl m).one _ _).app nr1).app nr2) (by simp)

/-- The first period that is short, and by how much, or -1. -/
def shortF (lims need : List Int) : Nat → Nat → Int × Int
  | 0, _ => (-1, 0)
  | d + 1, t => if nowK lims need (t + 1) < 0 then ((t : Int), -(nowK lims need (t + 1))) else shortF lims need d (t + 1)
def shortR (lims need : List Int) : Int × Int := shortF lims need lims.length 0
theorem shortF_yes {lims need : List Int} {d t : Nat} (h : nowK lims need (t + 1) < 0) : shortF lims need (d + 1) t = ((t : Int), -(nowK lims need (t + 1))) := by rw [shortF, if_pos h]
theorem shortF_no {lims need : List Int} {d t : Nat} (h : ¬ nowK lims need (t + 1) < 0) : shortF lims need (d + 1) t = shortF lims need d (t + 1) := by rw [shortF, if_neg h]
theorem shortF_in (lims need : List Int) (d t : Nat) : (shortF lims need d t).1 = -1 ∨ 0 ≤ (shortF lims need d t).1 := by
  induction d generalizing t with
  | zero => left; rfl
  | succ d ih =>
    rw [shortF]
    split
    · right; simp only []; omega
    · exact ih _
theorem shortF_none {lims need : List Int} (d t : Nat) (h : (shortF lims need d t).1 < 0) : ∀ s, t ≤ s → s < t + d → 0 ≤ nowK lims need (s + 1) := by
  induction d generalizing t with
  | zero => intro s h1 h2; omega
  | succ d ih =>
    intro s h1 h2
    rw [shortF] at h
    split at h
    · simp only [] at h; omega
    · rename_i hn
      by_cases e : s = t
      · subst e; omega
      · exact ih _ h s (by omega) (by omega)

theorem l4Short_rc (m : Mem) (v u : Value) (k : Cs) (lims : List Int) (h : CaseA m v k) (h' : IntsA m u lims) (hg : Good k) (hl : lims.length = k.need.length) (hp : ∀ x ∈ lims, 0 ≤ x ∧ x ≤ 160) :
    RC Try.prog 64 [v, u] m (AnsV (.tuple #[.int .i64 (shortR lims k.need).1, .int .i64 (shortR lims k.need).2])) := by
  refine rc_of_run mixed ok_spec_l4Short (by simp) (go_start _ _ _ ?_)
  obtain ⟨v1, v2, v3, v4, rfl, h1, h2, h3, h4⟩ := h.ro.ok
  have hu := h'.ro
  have h8 := hg.n8
  have i1 := h1.ext [⟨.own, 28, [v1, v2, v3, v4]⟩]
  have iu := hu.ext [⟨.own, 28, [v1, v2, v3, v4]⟩]
  simp (config := {implicitDefEqProofs := false, maxDischargeDepth := 20}) (disch := first | omega | (simp only [lenE]; done) | (simp only [lenE]; omega) | rfl | (simp only [lenE, markR_len]; done) | (simp only [lenE, markR_len]; omega)) only [runE, mapE, listE, resV, oneV, binA, unA, reduceCtorEq, Nat.reduceEqDiff, Nat.reduceAdd, Nat.reduceLT, Nat.reduceLeDiff, Nat.reduceMul, Nat.reduceSub, ↓reduceIte, decide_true, decide_false, Bool.true_eq_false, Bool.false_eq_true, Bool.not_true, Bool.not_false, if_true, if_false, and_true, true_and, memE, celE, w64, Nat.zero_add, Nat.add_zero, Nat.mul_one, putL, and_self, ldn, c_spec_l4Short, r_spec_l4Short]
  refine loop_inv mixed (fun s => ∃ t : Nat, t ≤ lims.length ∧ s.t 1 = u ∧ s.t 2 = .pointer (some ⟨m.length, 0, none⟩) ∧ s.t 6 = .int .i64 (nowK lims k.need t) ∧ s.t 7 = .int .i64 t ∧ s.m = roM m ++ [⟨.own, 28, [v1, v2, v3, v4]⟩] ∧ shortR lims k.need = shortF lims k.need (lims.length - t) t) (fun s => lims.length - (intOf (s.t 7)).toNat)
    ⟨0, by omega, rfl, rfl, rfl, rfl, rfl, rfl⟩ ?_
  rintro s ⟨t, hk, t1, t2, t6, t7, tm, hsh⟩
  by_cases hlt : t < lims.length
  · have hlt' : (t : Int) < lims.length := by omega
    have b1 := nowK_in hp hg.need h8 t (by omega) (by omega)
    have b2 := getD_in hp hlt
    have b3 := getD_in hg.need (k := t) (by omega)
    have b4 := nowK_s (plan := lims) (need := k.need) hlt (by omega)
    rw [show lims.length - t = (lims.length - (t + 1)) + 1 by omega] at hsh
    by_cases hn : nowK lims k.need t + lims.getD t 0 - k.need.getD t 0 < 0
    · rw [shortF_yes (by rw [b4]; exact hn), b4] at hsh
      simp (config := {implicitDefEqProofs := false, maxDischargeDepth := 20}) (disch := first | omega | (simp only [lenE]; done) | (simp only [lenE]; omega) | rfl | (simp only [lenE, markR_len]; done) | (simp only [lenE, markR_len]; omega)) only [runE, mapE, listE, resV, oneV, binA, unA, reduceCtorEq, Nat.reduceEqDiff, Nat.reduceAdd, Nat.reduceLT, Nat.reduceLeDiff, Nat.reduceMul, Nat.reduceSub, ↓reduceIte, decide_true, decide_false, Bool.true_eq_false, Bool.false_eq_true, Bool.not_true, Bool.not_false, if_true, if_false, and_true, true_and, memE, celE, w64, Nat.zero_add, Nat.add_zero, Nat.mul_one, putL, and_self, ldn, t1, t2, t6, t7, tm, iu.len, iu.at_ t hlt, iu.ld t hlt, i1.at_ t (by omega), i1.ld t (by omega), hlt', hn]
      exact ext_ansV ((Ext.refl m).one _ _) (by rw [hsh]; simp)
    · rw [shortF_no (by rw [b4]; exact hn)] at hsh
      simp (config := {implicitDefEqProofs := false, maxDischargeDepth := 20}) (disch := first | omega | (simp only [lenE]; done) | (simp only [lenE]; omega) | rfl | (simp only [lenE, markR_len]; done) | (simp only [lenE, markR_len]; omega)) only [runE, mapE, listE, resV, oneV, binA, unA, reduceCtorEq, Nat.reduceEqDiff, Nat.reduceAdd, Nat.reduceLT, Nat.reduceLeDiff, Nat.reduceMul, Nat.reduceSub, ↓reduceIte, decide_true, decide_false, Bool.true_eq_false, Bool.false_eq_true, Bool.not_true, Bool.not_false, if_true, if_false, and_true, true_and, memE, celE, w64, Nat.zero_add, Nat.add_zero, Nat.mul_one, putL, and_self, ldn, t1, t2, t6, t7, tm, iu.len, iu.at_ t hlt, iu.ld t hlt, i1.at_ t (by omega), i1.ld t (by omega), hlt', hn]
      exact ⟨⟨t + 1, by omega, by rw [b4], by simp, hsh⟩, by simp [intOf]; omega⟩
  · have hlt' : ¬ ((t : Int) < lims.length) := by omega
    have e : t = lims.length := by omega
    subst e
    rw [Nat.sub_self, shortF] at hsh
    simp (config := {implicitDefEqProofs := false, maxDischargeDepth := 20}) (disch := first | omega | (simp only [lenE]; done) | (simp only [lenE]; omega) | rfl | (simp only [lenE, markR_len]; done) | (simp only [lenE, markR_len]; omega)) only [runE, mapE, listE, resV, oneV, binA, unA, reduceCtorEq, Nat.reduceEqDiff, Nat.reduceAdd, Nat.reduceLT, Nat.reduceLeDiff, Nat.reduceMul, Nat.reduceSub, ↓reduceIte, decide_true, decide_false, Bool.true_eq_false, Bool.false_eq_true, Bool.not_true, Bool.not_false, if_true, if_false, and_true, true_and, memE, celE, w64, Nat.zero_add, Nat.add_zero, Nat.mul_one, putL, and_self, ldn, t1, t2, t6, t7, tm, iu.len, hlt']
    exact ext_ansV ((Ext.refl m).one _ _) (by rw [hsh])

def canB (k : Cs) (lims : List Int) : Bool := rowsB k lims 160 && decide ((shortR lims k.need).1 < 0)
def firstT (k : Cs) (lims : List Int) : Int × Int × Bool :=
  if rowsB k lims 160 && decide (0 ≤ (shortR lims k.need).1) then ((shortR lims k.need).1, (shortR lims k.need).2, true) else (0, 0, false)
theorem firstT_yes {k : Cs} {lims : List Int} (h1 : rowsB k lims 160 = true) (h2 : 0 ≤ (shortR lims k.need).1) : firstT k lims = ((shortR lims k.need).1, (shortR lims k.need).2, true) := by
  unfold firstT; rw [h1, Bool.true_and, if_pos (decide_eq_true h2)]
theorem firstT_no {k : Cs} {lims : List Int} (h : rowsB k lims 160 = false ∨ (shortR lims k.need).1 < 0) : firstT k lims = (0, 0, false) := by
  unfold firstT
  rcases h with h | h
  · rw [h]; rfl
  · rw [if_neg]; simp; omega
theorem firstA_yes {k : Cs} {lims : List Int} (h1 : rowsB k lims 160 = true) (h2 : 0 ≤ (shortR lims k.need).1) : Value.tuple #[.int .i64 (firstT k lims).1, .int .i64 (firstT k lims).2.1, .bool (firstT k lims).2.2] = .tuple #[.int .i64 (shortR lims k.need).1, .int .i64 (shortR lims k.need).2, .bool true] := by rw [firstT_yes h1 h2]
theorem firstA_no {k : Cs} {lims : List Int} (h : rowsB k lims 160 = false ∨ (shortR lims k.need).1 < 0) : Value.tuple #[.int .i64 (firstT k lims).1, .int .i64 (firstT k lims).2.1, .bool (firstT k lims).2.2] = .tuple #[.int .i64 0, .int .i64 0, .bool false] := by rw [firstT_no h]
theorem ext_3_0 (a b c : Value) : extA 0 (.tuple #[a, b, c]) = some a := rfl
theorem ext_3_1 (a b c : Value) : extA 1 (.tuple #[a, b, c]) = some b := rfl
theorem ext_3_2 (a b c : Value) : extA 2 (.tuple #[a, b, c]) = some c := rfl

theorem specCanMeet_rc (m : Mem) (v u : Value) (k : Cs) (lims : List Int) (h : CaseA m v k) (h' : IntsA m u lims) :
    RC Try.prog 21 [v, u] m (AnsV (.tuple #[.bool (canB k lims), .bool (rowsB k lims 160)])) := by
  refine rc_of_run mixed ok_spec_CanMeet (by simp) (go_start _ _ _ ?_)
  obtain ⟨v1, v2, v3, v4, rfl, h1, h2, h3, h4⟩ := h.ro.ok
  have hu := h'.ro
  simp (config := {implicitDefEqProofs := false, maxDischargeDepth := 20}) (disch := first | omega | (simp only [lenE]; done) | (simp only [lenE]; omega) | rfl | (simp only [lenE, markR_len]; done) | (simp only [lenE, markR_len]; omega)) only [runE, mapE, listE, resV, oneV, binA, unA, reduceCtorEq, Nat.reduceEqDiff, Nat.reduceAdd, Nat.reduceLT, Nat.reduceLeDiff, Nat.reduceMul, Nat.reduceSub, ↓reduceIte, decide_true, decide_false, Bool.true_eq_false, Bool.false_eq_true, Bool.not_true, Bool.not_false, if_true, if_false, and_true, true_and, memE, celE, w64, Nat.zero_add, Nat.add_zero, Nat.mul_one, putL, and_self, ldn, c_spec_CanMeet, r_spec_CanMeet]
  refine callH_rc (l4Limits_rc _ _ u k lims ⟨_, _, _, _, rfl, h1.ext _, h2.ext _, h3.ext _, h4.ext _⟩ (hu.ext _)) ?_
  rintro r new ⟨rfl, nr1⟩
  unfold canB
  cases hg : rowsB k lims 160 with
  | false =>
    simp (config := {implicitDefEqProofs := false, maxDischargeDepth := 20}) (disch := first | omega | (simp only [lenE]; done) | (simp only [lenE]; omega) | rfl | (simp only [lenE, markR_len]; done) | (simp only [lenE, markR_len]; omega)) only [runE, mapE, listE, resV, oneV, binA, unA, reduceCtorEq, Nat.reduceEqDiff, Nat.reduceAdd, Nat.reduceLT, Nat.reduceLeDiff, Nat.reduceMul, Nat.reduceSub, ↓reduceIte, decide_true, decide_false, Bool.true_eq_false, Bool.false_eq_true, Bool.not_true, Bool.not_false, if_true, if_false, and_true, true_and, memE, celE, w64, Nat.zero_add, Nat.add_zero, Nat.mul_one, putL, and_self, ldn]
    exact ext_ansV (((Ext.refl m).one _ _).app nr1) (by simp)
  | true =>
    obtain ⟨g1, g2, g3⟩ := rowsB_iff.1 hg
    simp (config := {implicitDefEqProofs := false, maxDischargeDepth := 20}) (disch := first | omega | (simp only [lenE]; done) | (simp only [lenE]; omega) | rfl | (simp only [lenE, markR_len]; done) | (simp only [lenE, markR_len]; omega)) only [runE, mapE, listE, resV, oneV, binA, unA, reduceCtorEq, Nat.reduceEqDiff, Nat.reduceAdd, Nat.reduceLT, Nat.reduceLeDiff, Nat.reduceMul, Nat.reduceSub, ↓reduceIte, decide_true, decide_false, Bool.true_eq_false, Bool.false_eq_true, Bool.not_true, Bool.not_false, if_true, if_false, and_true, true_and, memE, celE, w64, Nat.zero_add, Nat.add_zero, Nat.mul_one, putL, and_self, ldn]
    refine callH_rc (l4Short_rc _ _ u k lims ⟨_, _, _, _, rfl, (h1.ext _).ext _, (h2.ext _).ext _, (h3.ext _).ext _, (h4.ext _).ext _⟩ ((hu.ext _).ext _) g1 g3 g2) ?_
    rintro r new2 ⟨rfl, nr2⟩
    by_cases hs : (shortR lims k.need).1 < 0
    · simp (config := {implicitDefEqProofs := false, maxDischargeDepth := 20}) (disch := first | omega | (simp only [lenE]; done) | (simp only [lenE]; omega) | rfl | (simp only [lenE, markR_len]; done) | (simp only [lenE, markR_len]; omega)) only [runE, mapE, listE, resV, oneV, binA, unA, reduceCtorEq, Nat.reduceEqDiff, Nat.reduceAdd, Nat.reduceLT, Nat.reduceLeDiff, Nat.reduceMul, Nat.reduceSub, ↓reduceIte, decide_true, decide_false, Bool.true_eq_false, Bool.false_eq_true, Bool.not_true, Bool.not_false, if_true, if_false, and_true, true_and, memE, celE, w64, Nat.zero_add, Nat.add_zero, Nat.mul_one, putL, and_self, ldn, ext_2_0, ext_2_1, hs]
      exact ext_ansV ((((Ext.refl m).one _ _).app nr1).app nr2) (by simp)
    · simp (config := {implicitDefEqProofs := false, maxDischargeDepth := 20}) (disch := first | omega | (simp only [lenE]; done) | (simp only [lenE]; omega) | rfl | (simp only [lenE, markR_len]; done) | (simp only [lenE, markR_len]; omega)) only [runE, mapE, listE, resV, oneV, binA, unA, reduceCtorEq, Nat.reduceEqDiff, Nat.reduceAdd, Nat.reduceLT, Nat.reduceLeDiff, Nat.reduceMul, Nat.reduceSub, ↓reduceIte, decide_true, decide_false, Bool.true_eq_false, Bool.false_eq_true, Bool.not_true, Bool.not_false, if_true, if_false, and_true, true_and, memE, celE, w64, Nat.zero_add, Nat.add_zero, Nat.mul_one, putL, and_self, ldn, ext_2_0, ext_2_1, hs]
      exact ext_ansV ((((Ext.refl m).one _ _).app nr1).app nr2) (by simp)
theorem specFirstShort_rc (m : Mem) (v u : Value) (k : Cs) (lims : List Int) (h : CaseA m v k) (h' : IntsA m u lims) :
    RC Try.prog 27 [v, u] m (AnsV (.tuple #[.int .i64 (firstT k lims).1, .int .i64 (firstT k lims).2.1, .bool (firstT k lims).2.2])) := by
  refine rc_of_run mixed ok_spec_FirstShort (by simp) (go_start _ _ _ ?_)
  obtain ⟨v1, v2, v3, v4, rfl, h1, h2, h3, h4⟩ := h.ro.ok
  have hu := h'.ro
  simp (config := {implicitDefEqProofs := false, maxDischargeDepth := 20}) (disch := first | omega | (simp only [lenE]; done) | (simp only [lenE]; omega) | rfl | (simp only [lenE, markR_len]; done) | (simp only [lenE, markR_len]; omega)) only [runE, mapE, listE, resV, oneV, binA, unA, reduceCtorEq, Nat.reduceEqDiff, Nat.reduceAdd, Nat.reduceLT, Nat.reduceLeDiff, Nat.reduceMul, Nat.reduceSub, ↓reduceIte, decide_true, decide_false, Bool.true_eq_false, Bool.false_eq_true, Bool.not_true, Bool.not_false, if_true, if_false, and_true, true_and, memE, celE, w64, Nat.zero_add, Nat.add_zero, Nat.mul_one, putL, and_self, ldn, c_spec_FirstShort, r_spec_FirstShort]
  refine callH_rc (l4Limits_rc _ _ u k lims ⟨_, _, _, _, rfl, h1.ext _, h2.ext _, h3.ext _, h4.ext _⟩ (hu.ext _)) ?_
  rintro r new ⟨rfl, nr1⟩
  cases hg : rowsB k lims 160 with
  | false =>
    simp (config := {implicitDefEqProofs := false, maxDischargeDepth := 20}) (disch := first | omega | (simp only [lenE]; done) | (simp only [lenE]; omega) | rfl | (simp only [lenE, markR_len]; done) | (simp only [lenE, markR_len]; omega)) only [runE, mapE, listE, resV, oneV, binA, unA, reduceCtorEq, Nat.reduceEqDiff, Nat.reduceAdd, Nat.reduceLT, Nat.reduceLeDiff, Nat.reduceMul, Nat.reduceSub, ↓reduceIte, decide_true, decide_false, Bool.true_eq_false, Bool.false_eq_true, Bool.not_true, Bool.not_false, if_true, if_false, and_true, true_and, memE, celE, w64, Nat.zero_add, Nat.add_zero, Nat.mul_one, putL, and_self, ldn]
    exact ext_ansV (((Ext.refl m).one _ _).app nr1) (firstA_no (.inl hg)).symm
  | true =>
    obtain ⟨g1, g2, g3⟩ := rowsB_iff.1 hg
    simp (config := {implicitDefEqProofs := false, maxDischargeDepth := 20}) (disch := first | omega | (simp only [lenE]; done) | (simp only [lenE]; omega) | rfl | (simp only [lenE, markR_len]; done) | (simp only [lenE, markR_len]; omega)) only [runE, mapE, listE, resV, oneV, binA, unA, reduceCtorEq, Nat.reduceEqDiff, Nat.reduceAdd, Nat.reduceLT, Nat.reduceLeDiff, Nat.reduceMul, Nat.reduceSub, ↓reduceIte, decide_true, decide_false, Bool.true_eq_false, Bool.false_eq_true, Bool.not_true, Bool.not_false, if_true, if_false, and_true, true_and, memE, celE, w64, Nat.zero_add, Nat.add_zero, Nat.mul_one, putL, and_self, ldn]
    refine callH_rc (l4Short_rc _ _ u k lims ⟨_, _, _, _, rfl, (h1.ext _).ext _, (h2.ext _).ext _, (h3.ext _).ext _, (h4.ext _).ext _⟩ ((hu.ext _).ext _) g1 g3 g2) ?_
    rintro r new2 ⟨rfl, nr2⟩
    by_cases hs : (shortR lims k.need).1 < 0
    · simp (config := {implicitDefEqProofs := false, maxDischargeDepth := 20}) (disch := first | omega | (simp only [lenE]; done) | (simp only [lenE]; omega) | rfl | (simp only [lenE, markR_len]; done) | (simp only [lenE, markR_len]; omega)) only [runE, mapE, listE, resV, oneV, binA, unA, reduceCtorEq, Nat.reduceEqDiff, Nat.reduceAdd, Nat.reduceLT, Nat.reduceLeDiff, Nat.reduceMul, Nat.reduceSub, ↓reduceIte, decide_true, decide_false, Bool.true_eq_false, Bool.false_eq_true, Bool.not_true, Bool.not_false, if_true, if_false, and_true, true_and, memE, celE, w64, Nat.zero_add, Nat.add_zero, Nat.mul_one, putL, and_self, ldn, ext_2_0, ext_2_1, hs]
      exact ext_ansV ((((Ext.refl m).one _ _).app nr1).app nr2) (firstA_no (.inr hs)).symm
    · simp (config := {implicitDefEqProofs := false, maxDischargeDepth := 20}) (disch := first | omega | (simp only [lenE]; done) | (simp only [lenE]; omega) | rfl | (simp only [lenE, markR_len]; done) | (simp only [lenE, markR_len]; omega)) only [runE, mapE, listE, resV, oneV, binA, unA, reduceCtorEq, Nat.reduceEqDiff, Nat.reduceAdd, Nat.reduceLT, Nat.reduceLeDiff, Nat.reduceMul, Nat.reduceSub, ↓reduceIte, decide_true, decide_false, Bool.true_eq_false, Bool.false_eq_true, Bool.not_true, Bool.not_false, if_true, if_false, and_true, true_and, memE, celE, w64, Nat.zero_add, Nat.add_zero, Nat.mul_one, putL, and_self, ldn, ext_2_0, ext_2_1, hs]
      exact ext_ansV ((((Ext.refl m).one _ _).app nr1).app nr2) (firstA_yes hg (by omega)).symm

theorem implFirstShort_rc (m : Mem) (v u : Value) (k : Cs) (lims : List Int) (h : CaseA m v k) (h' : IntsA m u lims) :
    RC Try.prog 28 [v, u] m (AnsV (.tuple #[.int .i64 (firstT k lims).1, .int .i64 (firstT k lims).2.1, .bool (firstT k lims).2.2])) := by
  refine rc_of_run mixed ok_impl_FirstShort (by simp) (go_start _ _ _ ?_)
  obtain ⟨v1, v2, v3, v4, rfl, h1, h2, h3, h4⟩ := h.ro.ok
  have hu := h'.ro
  simp (config := {implicitDefEqProofs := false, maxDischargeDepth := 20}) (disch := first | omega | (simp only [lenE]; done) | (simp only [lenE]; omega) | rfl | (simp only [lenE, markR_len]; done) | (simp only [lenE, markR_len]; omega)) only [runE, mapE, listE, resV, oneV, binA, unA, reduceCtorEq, Nat.reduceEqDiff, Nat.reduceAdd, Nat.reduceLT, Nat.reduceLeDiff, Nat.reduceMul, Nat.reduceSub, ↓reduceIte, decide_true, decide_false, Bool.true_eq_false, Bool.false_eq_true, Bool.not_true, Bool.not_false, if_true, if_false, and_true, true_and, memE, celE, w64, Nat.zero_add, Nat.add_zero, Nat.mul_one, putL, and_self, ldn, c_impl_FirstShort, r_impl_FirstShort]
  refine callH_rc (areLimits_rc _ _ u k lims ⟨_, _, _, _, rfl, h1.ext _, h2.ext _, h3.ext _, h4.ext _⟩ (hu.ext _)) ?_
  rintro r new ⟨rfl, nr1⟩
  cases hgl : rowsB k lims 160 with
  | false =>
    simp (config := {implicitDefEqProofs := false, maxDischargeDepth := 20}) (disch := first | omega | (simp only [lenE]; done) | (simp only [lenE]; omega) | rfl | (simp only [lenE, markR_len]; done) | (simp only [lenE, markR_len]; omega)) only [runE, mapE, listE, resV, oneV, binA, unA, reduceCtorEq, Nat.reduceEqDiff, Nat.reduceAdd, Nat.reduceLT, Nat.reduceLeDiff, Nat.reduceMul, Nat.reduceSub, ↓reduceIte, decide_true, decide_false, Bool.true_eq_false, Bool.false_eq_true, Bool.not_true, Bool.not_false, if_true, if_false, and_true, true_and, memE, celE, w64, Nat.zero_add, Nat.add_zero, Nat.mul_one, putL, and_self, ldn]
    exact ext_ansV (((Ext.refl m).one _ _).app nr1) (firstA_no (.inl hgl)).symm
  | true =>
    obtain ⟨hg, hp, hl⟩ := rowsB_iff.1 hgl
    have h8 := hg.n8
    have i1 := (h1.ext [⟨.own, 28, [v1, v2, v3, v4]⟩]).ext new
    have iu := (hu.ext [⟨.own, 28, [v1, v2, v3, v4]⟩]).ext new
    simp (config := {implicitDefEqProofs := false, maxDischargeDepth := 20}) (disch := first | omega | (simp only [lenE]; done) | (simp only [lenE]; omega) | rfl | (simp only [lenE, markR_len]; done) | (simp only [lenE, markR_len]; omega)) only [runE, mapE, listE, resV, oneV, binA, unA, reduceCtorEq, Nat.reduceEqDiff, Nat.reduceAdd, Nat.reduceLT, Nat.reduceLeDiff, Nat.reduceMul, Nat.reduceSub, ↓reduceIte, decide_true, decide_false, Bool.true_eq_false, Bool.false_eq_true, Bool.not_true, Bool.not_false, if_true, if_false, and_true, true_and, memE, celE, w64, Nat.zero_add, Nat.add_zero, Nat.mul_one, putL, and_self, ldn, iu.len]
    refine loop_inv mixed (fun s => ∃ t : Nat, t ≤ lims.length ∧ s.t 2 = .pointer (some ⟨m.length, 0, none⟩) ∧ s.t 7 = .int .i64 (nowK lims k.need t) ∧ s.t 14 = u ∧ s.t 15 = .int .i64 lims.length ∧ s.t 16 = .int .i64 t ∧ s.m = roM m ++ [⟨.own, 28, [v1, v2, v3, v4]⟩] ++ new ∧ shortR lims k.need = shortF lims k.need (lims.length - t) t) (fun s => lims.length - (intOf (s.t 16)).toNat)
      ⟨0, by omega, rfl, rfl, rfl, rfl, rfl, rfl, rfl⟩ ?_
    rintro s ⟨t, hk, t2, t7, t14, t15, t16, tm, hsh⟩
    by_cases hlt : t < lims.length
    · have hlt' : (t : Int) < lims.length := by omega
      have b1 := nowK_in hp hg.need h8 t (by omega) (by omega)
      have b2 := getD_in hp hlt
      have b3 := getD_in hg.need (k := t) (by omega)
      have b4 := nowK_s (plan := lims) (need := k.need) hlt (by omega)
      have b5 : nowK lims k.need (t + 1) = nowK lims k.need t + (lims.getD t 0 - k.need.getD t 0) := by omega
      rw [show lims.length - t = (lims.length - (t + 1)) + 1 by omega] at hsh
      by_cases hn : nowK lims k.need t + (lims.getD t 0 - k.need.getD t 0) < 0
      · rw [shortF_yes (by rw [b5]; exact hn), b5] at hsh
        simp (config := {implicitDefEqProofs := false, maxDischargeDepth := 20}) (disch := first | omega | (simp only [lenE]; done) | (simp only [lenE]; omega) | rfl | (simp only [lenE, markR_len]; done) | (simp only [lenE, markR_len]; omega)) only [runE, mapE, listE, resV, oneV, binA, unA, reduceCtorEq, Nat.reduceEqDiff, Nat.reduceAdd, Nat.reduceLT, Nat.reduceLeDiff, Nat.reduceMul, Nat.reduceSub, ↓reduceIte, decide_true, decide_false, Bool.true_eq_false, Bool.false_eq_true, Bool.not_true, Bool.not_false, if_true, if_false, and_true, true_and, memE, celE, w64, Nat.zero_add, Nat.add_zero, Nat.mul_one, putL, and_self, ldn, t2, t7, t14, t15, t16, tm, iu.at_ t hlt, iu.ld t hlt, i1.at_ t (by omega), i1.ld t (by omega), hlt', hn]
        exact ext_ansV (((Ext.refl m).one _ _).app nr1) (by rw [firstA_yes hgl (by rw [hsh]; simp), hsh]; simp)
      · rw [shortF_no (by rw [b5]; exact hn)] at hsh
        simp (config := {implicitDefEqProofs := false, maxDischargeDepth := 20}) (disch := first | omega | (simp only [lenE]; done) | (simp only [lenE]; omega) | rfl | (simp only [lenE, markR_len]; done) | (simp only [lenE, markR_len]; omega)) only [runE, mapE, listE, resV, oneV, binA, unA, reduceCtorEq, Nat.reduceEqDiff, Nat.reduceAdd, Nat.reduceLT, Nat.reduceLeDiff, Nat.reduceMul, Nat.reduceSub, ↓reduceIte, decide_true, decide_false, Bool.true_eq_false, Bool.false_eq_true, Bool.not_true, Bool.not_false, if_true, if_false, and_true, true_and, memE, celE, w64, Nat.zero_add, Nat.add_zero, Nat.mul_one, putL, and_self, ldn, t2, t7, t14, t15, t16, tm, iu.at_ t hlt, iu.ld t hlt, i1.at_ t (by omega), i1.ld t (by omega), hlt', hn]
        exact ⟨⟨t + 1, by omega, by rw [b5], by simp, hsh⟩, by simp [intOf]; omega⟩
    · have hlt' : ¬ ((t : Int) < lims.length) := by omega
      have e : t = lims.length := by omega
      subst e
      rw [Nat.sub_self, shortF] at hsh
      simp (config := {implicitDefEqProofs := false, maxDischargeDepth := 20}) (disch := first | omega | (simp only [lenE]; done) | (simp only [lenE]; omega) | rfl | (simp only [lenE, markR_len]; done) | (simp only [lenE, markR_len]; omega)) only [runE, mapE, listE, resV, oneV, binA, unA, reduceCtorEq, Nat.reduceEqDiff, Nat.reduceAdd, Nat.reduceLT, Nat.reduceLeDiff, Nat.reduceMul, Nat.reduceSub, ↓reduceIte, decide_true, decide_false, Bool.true_eq_false, Bool.false_eq_true, Bool.not_true, Bool.not_false, if_true, if_false, and_true, true_and, memE, celE, w64, Nat.zero_add, Nat.add_zero, Nat.mul_one, putL, and_self, ldn, t2, t7, t14, t15, t16, tm, hlt']
      exact ext_ansV (((Ext.refl m).one _ _).app nr1) (firstA_no (.inr (by rw [hsh]; decide))).symm
theorem implCanMeet_rc (m : Mem) (v u : Value) (k : Cs) (lims : List Int) (h : CaseA m v k) (h' : IntsA m u lims) :
    RC Try.prog 24 [v, u] m (AnsV (.tuple #[.bool (canB k lims), .bool (rowsB k lims 160)])) := by
  refine rc_of_run mixed ok_impl_CanMeet (by simp) (go_start _ _ _ ?_)
  obtain ⟨v1, v2, v3, v4, rfl, h1, h2, h3, h4⟩ := h.ro.ok
  have hu := h'.ro
  simp (config := {implicitDefEqProofs := false, maxDischargeDepth := 20}) (disch := first | omega | (simp only [lenE]; done) | (simp only [lenE]; omega) | rfl | (simp only [lenE, markR_len]; done) | (simp only [lenE, markR_len]; omega)) only [runE, mapE, listE, resV, oneV, binA, unA, reduceCtorEq, Nat.reduceEqDiff, Nat.reduceAdd, Nat.reduceLT, Nat.reduceLeDiff, Nat.reduceMul, Nat.reduceSub, ↓reduceIte, decide_true, decide_false, Bool.true_eq_false, Bool.false_eq_true, Bool.not_true, Bool.not_false, if_true, if_false, and_true, true_and, memE, celE, w64, Nat.zero_add, Nat.add_zero, Nat.mul_one, putL, and_self, ldn, c_impl_CanMeet, r_impl_CanMeet]
  refine callH_rc (areLimits_rc _ _ u k lims ⟨_, _, _, _, rfl, h1.ext _, h2.ext _, h3.ext _, h4.ext _⟩ (hu.ext _)) ?_
  rintro r new ⟨rfl, nr1⟩
  unfold canB
  cases hg : rowsB k lims 160 with
  | false =>
    simp (config := {implicitDefEqProofs := false, maxDischargeDepth := 20}) (disch := first | omega | (simp only [lenE]; done) | (simp only [lenE]; omega) | rfl | (simp only [lenE, markR_len]; done) | (simp only [lenE, markR_len]; omega)) only [runE, mapE, listE, resV, oneV, binA, unA, reduceCtorEq, Nat.reduceEqDiff, Nat.reduceAdd, Nat.reduceLT, Nat.reduceLeDiff, Nat.reduceMul, Nat.reduceSub, ↓reduceIte, decide_true, decide_false, Bool.true_eq_false, Bool.false_eq_true, Bool.not_true, Bool.not_false, if_true, if_false, and_true, true_and, memE, celE, w64, Nat.zero_add, Nat.add_zero, Nat.mul_one, putL, and_self, ldn]
    exact ext_ansV (((Ext.refl m).one _ _).app nr1) (by simp)
  | true =>
    simp (config := {implicitDefEqProofs := false, maxDischargeDepth := 20}) (disch := first | omega | (simp only [lenE]; done) | (simp only [lenE]; omega) | rfl | (simp only [lenE, markR_len]; done) | (simp only [lenE, markR_len]; omega)) only [runE, mapE, listE, resV, oneV, binA, unA, reduceCtorEq, Nat.reduceEqDiff, Nat.reduceAdd, Nat.reduceLT, Nat.reduceLeDiff, Nat.reduceMul, Nat.reduceSub, ↓reduceIte, decide_true, decide_false, Bool.true_eq_false, Bool.false_eq_true, Bool.not_true, Bool.not_false, if_true, if_false, and_true, true_and, memE, celE, w64, Nat.zero_add, Nat.add_zero, Nat.mul_one, putL, and_self, ldn]
    have C := fun M w hw hu => implFirstShort_rc M w u k lims hw hu
    generalize hF : firstT k lims = F at C
    obtain ⟨p, q, c⟩ := F
    dsimp only at C
    refine callH_rc (C _ _ ⟨_, _, _, _, rfl, (h1.ext _).ext _, (h2.ext _).ext _, (h3.ext _).ext _, (h4.ext _).ext _⟩ ((hu.ext _).ext _)) ?_
    rintro r new2 ⟨rfl, nr2⟩
    obtain hs | hs := Int.lt_or_le (shortR lims k.need).1 0
    · rw [firstT_no (.inr hs)] at hF
      cases hF
      simp (config := {implicitDefEqProofs := false, maxDischargeDepth := 20}) (disch := first | omega | (simp only [lenE]; done) | (simp only [lenE]; omega) | rfl | (simp only [lenE, markR_len]; done) | (simp only [lenE, markR_len]; omega)) only [runE, mapE, listE, resV, oneV, binA, unA, reduceCtorEq, Nat.reduceEqDiff, Nat.reduceAdd, Nat.reduceLT, Nat.reduceLeDiff, Nat.reduceMul, Nat.reduceSub, ↓reduceIte, decide_true, decide_false, Bool.true_eq_false, Bool.false_eq_true, Bool.not_true, Bool.not_false, if_true, if_false, and_true, true_and, memE, celE, w64, Nat.zero_add, Nat.add_zero, Nat.mul_one, putL, and_self, ldn, ext_3_0, ext_3_1, ext_3_2]
      exact ext_ansV ((((Ext.refl m).one _ _).app nr1).app nr2) (by simp [hs])
    · rw [firstT_yes hg (by omega)] at hF
      cases hF
      simp (config := {implicitDefEqProofs := false, maxDischargeDepth := 20}) (disch := first | omega | (simp only [lenE]; done) | (simp only [lenE]; omega) | rfl | (simp only [lenE, markR_len]; done) | (simp only [lenE, markR_len]; omega)) only [runE, mapE, listE, resV, oneV, binA, unA, reduceCtorEq, Nat.reduceEqDiff, Nat.reduceAdd, Nat.reduceLT, Nat.reduceLeDiff, Nat.reduceMul, Nat.reduceSub, ↓reduceIte, decide_true, decide_false, Bool.true_eq_false, Bool.false_eq_true, Bool.not_true, Bool.not_false, if_true, if_false, and_true, true_and, memE, celE, w64, Nat.zero_add, Nat.add_zero, Nat.mul_one, putL, and_self, ldn, ext_3_0, ext_3_1, ext_3_2]
      exact ext_ansV ((((Ext.refl m).one _ _).app nr1).app nr2) (by simp; omega)

/-- No amount is greater than its limit. -/
def keepB (lims plan : List Int) : Bool := (List.range plan.length).all (fun t => decide (plan.getD t 0 ≤ lims.getD t 0))
theorem keep_yes {lims plan : List Int} (h : ∀ j, j < plan.length → plan.getD j 0 ≤ lims.getD j 0) : keepB lims plan = true := by
  unfold keepB
  rw [List.all_eq_true]
  intro t ht
  exact decide_eq_true (h t (List.mem_range.1 ht))
theorem keep_no {lims plan : List Int} {j : Nat} (hj : j < plan.length) (h : ¬ plan.getD j 0 ≤ lims.getD j 0) : keepB lims plan = false := by
  cases hb : keepB lims plan with
  | false => rfl
  | true =>
    unfold keepB at hb
    rw [List.all_eq_true] at hb
    exact absurd (of_decide_eq_true (hb j (List.mem_range.2 hj))) h
def keptOk (k : Cs) (lims plan : List Int) : Bool := rowsB k lims 160 && planB k plan

theorem l4Keeps_rc (m : Mem) (u u2 : Value) (lims plan : List Int) (h : IntsA m u lims) (h' : IntsA m u2 plan) (hl : lims.length = plan.length) :
    RC Try.prog 67 [u, u2] m (AnsV (.bool (keepB lims plan))) := by
  refine rc_of_run mixed ok_spec_l4Keeps (by simp) (go_start _ _ _ ?_)
  have hu := h.ro
  have hp := h'.ro
  have bd := hp.bd
  simp (config := {implicitDefEqProofs := false, maxDischargeDepth := 20}) (disch := first | omega | (simp only [lenE]; done) | (simp only [lenE]; omega) | rfl | (simp only [lenE, markR_len]; done) | (simp only [lenE, markR_len]; omega)) only [runE, mapE, listE, resV, oneV, binA, unA, reduceCtorEq, Nat.reduceEqDiff, Nat.reduceAdd, Nat.reduceLT, Nat.reduceLeDiff, Nat.reduceMul, Nat.reduceSub, ↓reduceIte, decide_true, decide_false, Bool.true_eq_false, Bool.false_eq_true, Bool.not_true, Bool.not_false, if_true, if_false, and_true, true_and, memE, celE, w64, Nat.zero_add, Nat.add_zero, Nat.mul_one, putL, and_self, ldn, c_spec_l4Keeps, r_spec_l4Keeps]
  refine loop_inv mixed (fun s => ∃ t : Nat, t ≤ plan.length ∧ s.t 0 = u ∧ s.t 1 = u2 ∧ s.t 5 = .int .i64 t ∧ s.m = roM m ∧ ∀ j, j < t → plan.getD j 0 ≤ lims.getD j 0) (fun s => plan.length - (intOf (s.t 5)).toNat)
    ⟨0, by omega, rfl, rfl, rfl, rfl, fun j hj => absurd hj (by omega)⟩ ?_
  rintro s ⟨t, hk, t0, t1, t5, tm, hall⟩
  by_cases hlt : t < plan.length
  · have hlt' : (t : Int) < plan.length := by omega
    by_cases hb : lims.getD t 0 < plan.getD t 0
    · simp (config := {implicitDefEqProofs := false, maxDischargeDepth := 20}) (disch := first | omega | (simp only [lenE]; done) | (simp only [lenE]; omega) | rfl | (simp only [lenE, markR_len]; done) | (simp only [lenE, markR_len]; omega)) only [runE, mapE, listE, resV, oneV, binA, unA, reduceCtorEq, Nat.reduceEqDiff, Nat.reduceAdd, Nat.reduceLT, Nat.reduceLeDiff, Nat.reduceMul, Nat.reduceSub, ↓reduceIte, decide_true, decide_false, Bool.true_eq_false, Bool.false_eq_true, Bool.not_true, Bool.not_false, if_true, if_false, and_true, true_and, memE, celE, w64, Nat.zero_add, Nat.add_zero, Nat.mul_one, putL, and_self, ldn, t0, t1, t5, tm, hp.len, hp.at_ t hlt, hp.ld t hlt, hu.at_ t (by omega), hu.ld t (by omega), hlt', gt_iff_lt, hb]
      exact ext_ansV (Ext.refl m) (by rw [keep_no hlt (by omega)])
    · simp (config := {implicitDefEqProofs := false, maxDischargeDepth := 20}) (disch := first | omega | (simp only [lenE]; done) | (simp only [lenE]; omega) | rfl | (simp only [lenE, markR_len]; done) | (simp only [lenE, markR_len]; omega)) only [runE, mapE, listE, resV, oneV, binA, unA, reduceCtorEq, Nat.reduceEqDiff, Nat.reduceAdd, Nat.reduceLT, Nat.reduceLeDiff, Nat.reduceMul, Nat.reduceSub, ↓reduceIte, decide_true, decide_false, Bool.true_eq_false, Bool.false_eq_true, Bool.not_true, Bool.not_false, if_true, if_false, and_true, true_and, memE, celE, w64, Nat.zero_add, Nat.add_zero, Nat.mul_one, putL, and_self, ldn, t0, t1, t5, tm, hp.len, hp.at_ t hlt, hp.ld t hlt, hu.at_ t (by omega), hu.ld t (by omega), hlt', gt_iff_lt, hb]
      refine ⟨⟨t + 1, by omega, by simp, fun j hj => ?_⟩, by simp [intOf]; omega⟩
      by_cases e : j = t
      · subst e; omega
      · exact hall j (by omega)
  · have hlt' : ¬ ((t : Int) < plan.length) := by omega
    have e : t = plan.length := by omega
    subst e
    simp (config := {implicitDefEqProofs := false, maxDischargeDepth := 20}) (disch := first | omega | (simp only [lenE]; done) | (simp only [lenE]; omega) | rfl | (simp only [lenE, markR_len]; done) | (simp only [lenE, markR_len]; omega)) only [runE, mapE, listE, resV, oneV, binA, unA, reduceCtorEq, Nat.reduceEqDiff, Nat.reduceAdd, Nat.reduceLT, Nat.reduceLeDiff, Nat.reduceMul, Nat.reduceSub, ↓reduceIte, decide_true, decide_false, Bool.true_eq_false, Bool.false_eq_true, Bool.not_true, Bool.not_false, if_true, if_false, and_true, true_and, memE, celE, w64, Nat.zero_add, Nat.add_zero, Nat.mul_one, putL, and_self, ldn, t0, t1, t5, tm, hp.len, hlt']
    exact ext_ansV (Ext.refl m) (by rw [keep_yes hall])

theorem specKeeps_rc (m : Mem) (v u u2 : Value) (k : Cs) (lims plan : List Int) (h : CaseA m v k) (h' : IntsA m u lims) (h'' : IntsA m u2 plan) :
    RC Try.prog 29 [v, u, u2] m (AnsV (.tuple #[.bool (keptOk k lims plan && keepB lims plan), .bool (keptOk k lims plan)])) := by
  refine rc_of_run mixed ok_spec_KeepsLimits (by simp) (go_start _ _ _ ?_)
  obtain ⟨v1, v2, v3, v4, rfl, h1, h2, h3, h4⟩ := h.ro.ok
  have hu := h'.ro
  have hp := h''.ro
  simp (config := {implicitDefEqProofs := false, maxDischargeDepth := 20}) (disch := first | omega | (simp only [lenE]; done) | (simp only [lenE]; omega) | rfl | (simp only [lenE, markR_len]; done) | (simp only [lenE, markR_len]; omega)) only [runE, mapE, listE, resV, oneV, binA, unA, reduceCtorEq, Nat.reduceEqDiff, Nat.reduceAdd, Nat.reduceLT, Nat.reduceLeDiff, Nat.reduceMul, Nat.reduceSub, ↓reduceIte, decide_true, decide_false, Bool.true_eq_false, Bool.false_eq_true, Bool.not_true, Bool.not_false, if_true, if_false, and_true, true_and, memE, celE, w64, Nat.zero_add, Nat.add_zero, Nat.mul_one, putL, and_self, ldn, c_spec_KeepsLimits, r_spec_KeepsLimits]
  refine callH_rc (l4Limits_rc _ _ u k lims ⟨_, _, _, _, rfl, h1.ext _, h2.ext _, h3.ext _, h4.ext _⟩ (hu.ext _)) ?_
  rintro r new ⟨rfl, nr1⟩
  unfold keptOk
  cases hg : rowsB k lims 160 with
  | false =>
    simp (config := {implicitDefEqProofs := false, maxDischargeDepth := 20}) (disch := first | omega | (simp only [lenE]; done) | (simp only [lenE]; omega) | rfl | (simp only [lenE, markR_len]; done) | (simp only [lenE, markR_len]; omega)) only [runE, mapE, listE, resV, oneV, binA, unA, reduceCtorEq, Nat.reduceEqDiff, Nat.reduceAdd, Nat.reduceLT, Nat.reduceLeDiff, Nat.reduceMul, Nat.reduceSub, ↓reduceIte, decide_true, decide_false, Bool.true_eq_false, Bool.false_eq_true, Bool.not_true, Bool.not_false, if_true, if_false, and_true, true_and, memE, celE, w64, Nat.zero_add, Nat.add_zero, Nat.mul_one, putL, and_self, ldn]
    exact ext_ansV (((Ext.refl m).one _ _).app nr1) (by simp)
  | true =>
    obtain ⟨g1, g2, g3⟩ := rowsB_iff.1 hg
    simp (config := {implicitDefEqProofs := false, maxDischargeDepth := 20}) (disch := first | omega | (simp only [lenE]; done) | (simp only [lenE]; omega) | rfl | (simp only [lenE, markR_len]; done) | (simp only [lenE, markR_len]; omega)) only [runE, mapE, listE, resV, oneV, binA, unA, reduceCtorEq, Nat.reduceEqDiff, Nat.reduceAdd, Nat.reduceLT, Nat.reduceLeDiff, Nat.reduceMul, Nat.reduceSub, ↓reduceIte, decide_true, decide_false, Bool.true_eq_false, Bool.false_eq_true, Bool.not_true, Bool.not_false, if_true, if_false, and_true, true_and, memE, celE, w64, Nat.zero_add, Nat.add_zero, Nat.mul_one, putL, and_self, ldn]
    refine callH_rc (l2Plan_rc _ _ u2 k plan ⟨_, _, _, _, rfl, (h1.ext _).ext _, (h2.ext _).ext _, (h3.ext _).ext _, (h4.ext _).ext _⟩ ((hp.ext _).ext _) g1) ?_
    rintro r new2 ⟨rfl, nr2⟩
    cases hb : planB k plan with
    | false =>
      simp (config := {implicitDefEqProofs := false, maxDischargeDepth := 20}) (disch := first | omega | (simp only [lenE]; done) | (simp only [lenE]; omega) | rfl | (simp only [lenE, markR_len]; done) | (simp only [lenE, markR_len]; omega)) only [runE, mapE, listE, resV, oneV, binA, unA, reduceCtorEq, Nat.reduceEqDiff, Nat.reduceAdd, Nat.reduceLT, Nat.reduceLeDiff, Nat.reduceMul, Nat.reduceSub, ↓reduceIte, decide_true, decide_false, Bool.true_eq_false, Bool.false_eq_true, Bool.not_true, Bool.not_false, if_true, if_false, and_true, true_and, memE, celE, w64, Nat.zero_add, Nat.add_zero, Nat.mul_one, putL, and_self, ldn]
      exact ext_ansV ((((Ext.refl m).one _ _).app nr1).app nr2) (by simp)
    | true =>
      have hl := (planB_iff.1 hb).1
      simp (config := {implicitDefEqProofs := false, maxDischargeDepth := 20}) (disch := first | omega | (simp only [lenE]; done) | (simp only [lenE]; omega) | rfl | (simp only [lenE, markR_len]; done) | (simp only [lenE, markR_len]; omega)) only [runE, mapE, listE, resV, oneV, binA, unA, reduceCtorEq, Nat.reduceEqDiff, Nat.reduceAdd, Nat.reduceLT, Nat.reduceLeDiff, Nat.reduceMul, Nat.reduceSub, ↓reduceIte, decide_true, decide_false, Bool.true_eq_false, Bool.false_eq_true, Bool.not_true, Bool.not_false, if_true, if_false, and_true, true_and, memE, celE, w64, Nat.zero_add, Nat.add_zero, Nat.mul_one, putL, and_self, ldn]
      refine callH_rc (l4Keeps_rc _ u u2 lims plan (((hu.ext _).ext _).ext _) (((hp.ext _).ext _).ext _) (by omega)) ?_
      rintro r new3 ⟨rfl, nr3⟩
      simp (config := {implicitDefEqProofs := false, maxDischargeDepth := 20}) (disch := first | omega | (simp only [lenE]; done) | (simp only [lenE]; omega) | rfl | (simp only [lenE, markR_len]; done) | (simp only [lenE, markR_len]; omega)) only [runE, mapE, listE, resV, oneV, binA, unA, reduceCtorEq, Nat.reduceEqDiff, Nat.reduceAdd, Nat.reduceLT, Nat.reduceLeDiff, Nat.reduceMul, Nat.reduceSub, ↓reduceIte, decide_true, decide_false, Bool.true_eq_false, Bool.false_eq_true, Bool.not_true, Bool.not_false, if_true, if_false, and_true, true_and, memE, celE, w64, Nat.zero_add, Nat.add_zero, Nat.mul_one, putL, and_self, ldn]
      exact ext_ansV (((((Ext.refl m).one _ _).app nr1).app nr2).app nr3) (by simp)

theorem implKeeps_rc (m : Mem) (v u u2 : Value) (k : Cs) (lims plan : List Int) (h : CaseA m v k) (h' : IntsA m u lims) (h'' : IntsA m u2 plan) :
    RC Try.prog 30 [v, u, u2] m (AnsV (.tuple #[.bool (keptOk k lims plan && keepB lims plan), .bool (keptOk k lims plan)])) := by
  refine rc_of_run mixed ok_impl_KeepsLimits (by simp) (go_start _ _ _ ?_)
  obtain ⟨v1, v2, v3, v4, rfl, h1, h2, h3, h4⟩ := h.ro.ok
  have hu := h'.ro
  have hp := h''.ro
  have e : keptOk k lims plan = (two k plan && rowsB k lims 160) := by
    unfold keptOk two rowsB
    cases k.good <;> cases planB k plan <;> simp
  rw [e]
  simp (config := {implicitDefEqProofs := false, maxDischargeDepth := 20}) (disch := first | omega | (simp only [lenE]; done) | (simp only [lenE]; omega) | rfl | (simp only [lenE, markR_len]; done) | (simp only [lenE, markR_len]; omega)) only [runE, mapE, listE, resV, oneV, binA, unA, reduceCtorEq, Nat.reduceEqDiff, Nat.reduceAdd, Nat.reduceLT, Nat.reduceLeDiff, Nat.reduceMul, Nat.reduceSub, ↓reduceIte, decide_true, decide_false, Bool.true_eq_false, Bool.false_eq_true, Bool.not_true, Bool.not_false, if_true, if_false, and_true, true_and, memE, celE, w64, Nat.zero_add, Nat.add_zero, Nat.mul_one, putL, and_self, ldn, c_impl_KeepsLimits, r_impl_KeepsLimits]
  refine callH_rc (implStocksOf_rc _ _ u2 k plan ⟨_, _, _, _, rfl, h1.ext _, h2.ext _, h3.ext _, h4.ext _⟩ (hp.ext _)) ?_
  intro r new hA
  obtain ⟨id, fl, rfl, hge, hown, hle, nr1⟩ := hA.row
  cases ht : two k plan with
  | false =>
    simp (config := {implicitDefEqProofs := false, maxDischargeDepth := 20}) (disch := first | omega | (simp only [lenE]; done) | (simp only [lenE]; omega) | rfl | (simp only [lenE, markR_len]; done) | (simp only [lenE, markR_len]; omega)) only [runE, mapE, listE, resV, oneV, binA, unA, reduceCtorEq, Nat.reduceEqDiff, Nat.reduceAdd, Nat.reduceLT, Nat.reduceLeDiff, Nat.reduceMul, Nat.reduceSub, ↓reduceIte, decide_true, decide_false, Bool.true_eq_false, Bool.false_eq_true, Bool.not_true, Bool.not_false, if_true, if_false, and_true, true_and, memE, celE, w64, Nat.zero_add, Nat.add_zero, Nat.mul_one, putL, and_self, ldn, ext_2_0, ext_2_1]
    exact ext_ansV (((Ext.refl m).one _ _).app nr1) (by simp)
  | true =>
    obtain ⟨g1, g2, g3⟩ := two_bounds ht
    simp (config := {implicitDefEqProofs := false, maxDischargeDepth := 20}) (disch := first | omega | (simp only [lenE]; done) | (simp only [lenE]; omega) | rfl | (simp only [lenE, markR_len]; done) | (simp only [lenE, markR_len]; omega)) only [runE, mapE, listE, resV, oneV, binA, unA, reduceCtorEq, Nat.reduceEqDiff, Nat.reduceAdd, Nat.reduceLT, Nat.reduceLeDiff, Nat.reduceMul, Nat.reduceSub, ↓reduceIte, decide_true, decide_false, Bool.true_eq_false, Bool.false_eq_true, Bool.not_true, Bool.not_false, if_true, if_false, and_true, true_and, memE, celE, w64, Nat.zero_add, Nat.add_zero, Nat.mul_one, putL, and_self, ldn, ext_2_0, ext_2_1]
    refine callH_rc (areLimits_rc _ _ u k lims ⟨_, _, _, _, rfl, (h1.ext _).ext _, (h2.ext _).ext _, (h3.ext _).ext _, (h4.ext _).ext _⟩ ((hu.ext _).ext _)) ?_
    rintro r new2 ⟨rfl, nr2⟩
    cases hg : rowsB k lims 160 with
    | false =>
      simp (config := {implicitDefEqProofs := false, maxDischargeDepth := 20}) (disch := first | omega | (simp only [lenE]; done) | (simp only [lenE]; omega) | rfl | (simp only [lenE, markR_len]; done) | (simp only [lenE, markR_len]; omega)) only [runE, mapE, listE, resV, oneV, binA, unA, reduceCtorEq, Nat.reduceEqDiff, Nat.reduceAdd, Nat.reduceLT, Nat.reduceLeDiff, Nat.reduceMul, Nat.reduceSub, ↓reduceIte, decide_true, decide_false, Bool.true_eq_false, Bool.false_eq_true, Bool.not_true, Bool.not_false, if_true, if_false, and_true, true_and, memE, celE, w64, Nat.zero_add, Nat.add_zero, Nat.mul_one, putL, and_self, ldn]
      exact ext_ansV ((((Ext.refl m).one _ _).app nr1).app nr2) (by simp)
    | true =>
      obtain ⟨q1, q2, q3⟩ := rowsB_iff.1 hg
      have iu := ((hu.ext [⟨.own, 28, [v1, v2, v3, v4]⟩]).ext new).ext new2
      have bd := hp.bd
      have ip := ((hp.ext [⟨.own, 28, [v1, v2, v3, v4]⟩]).ext new).ext new2
      simp (config := {implicitDefEqProofs := false, maxDischargeDepth := 20}) (disch := first | omega | (simp only [lenE]; done) | (simp only [lenE]; omega) | rfl | (simp only [lenE, markR_len]; done) | (simp only [lenE, markR_len]; omega)) only [runE, mapE, listE, resV, oneV, binA, unA, reduceCtorEq, Nat.reduceEqDiff, Nat.reduceAdd, Nat.reduceLT, Nat.reduceLeDiff, Nat.reduceMul, Nat.reduceSub, ↓reduceIte, decide_true, decide_false, Bool.true_eq_false, Bool.false_eq_true, Bool.not_true, Bool.not_false, if_true, if_false, and_true, true_and, memE, celE, w64, Nat.zero_add, Nat.add_zero, Nat.mul_one, putL, and_self, ldn, ip.len]
      refine loop_inv mixed (fun s => ∃ t : Nat, t ≤ plan.length ∧ s.t 1 = u ∧ s.t 26 = u2 ∧ s.t 27 = .int .i64 plan.length ∧ s.t 28 = .int .i64 t ∧ s.m = roM m ++ [⟨.own, 28, [v1, v2, v3, v4]⟩] ++ new ++ new2 ∧ ∀ j, j < t → plan.getD j 0 ≤ lims.getD j 0) (fun s => plan.length - (intOf (s.t 28)).toNat)
        ⟨0, by omega, rfl, rfl, rfl, rfl, rfl, fun j hj => absurd hj (by omega)⟩ ?_
      rintro s ⟨t, hk, t1, t26, t27, t28, tm, hall⟩
      by_cases hlt : t < plan.length
      · have hlt' : (t : Int) < plan.length := by omega
        by_cases hb : lims.getD t 0 < plan.getD t 0
        · simp (config := {implicitDefEqProofs := false, maxDischargeDepth := 20}) (disch := first | omega | (simp only [lenE]; done) | (simp only [lenE]; omega) | rfl | (simp only [lenE, markR_len]; done) | (simp only [lenE, markR_len]; omega)) only [runE, mapE, listE, resV, oneV, binA, unA, reduceCtorEq, Nat.reduceEqDiff, Nat.reduceAdd, Nat.reduceLT, Nat.reduceLeDiff, Nat.reduceMul, Nat.reduceSub, ↓reduceIte, decide_true, decide_false, Bool.true_eq_false, Bool.false_eq_true, Bool.not_true, Bool.not_false, if_true, if_false, and_true, true_and, memE, celE, w64, Nat.zero_add, Nat.add_zero, Nat.mul_one, putL, and_self, ldn, t1, t26, t27, t28, tm, ip.at_ t hlt, ip.ld t hlt, iu.at_ t (by omega), iu.ld t (by omega), hlt', gt_iff_lt, hb]
          exact ext_ansV ((((Ext.refl m).one _ _).app nr1).app nr2) (by rw [keep_no hlt (by omega)]; simp)
        · simp (config := {implicitDefEqProofs := false, maxDischargeDepth := 20}) (disch := first | omega | (simp only [lenE]; done) | (simp only [lenE]; omega) | rfl | (simp only [lenE, markR_len]; done) | (simp only [lenE, markR_len]; omega)) only [runE, mapE, listE, resV, oneV, binA, unA, reduceCtorEq, Nat.reduceEqDiff, Nat.reduceAdd, Nat.reduceLT, Nat.reduceLeDiff, Nat.reduceMul, Nat.reduceSub, ↓reduceIte, decide_true, decide_false, Bool.true_eq_false, Bool.false_eq_true, Bool.not_true, Bool.not_false, if_true, if_false, and_true, true_and, memE, celE, w64, Nat.zero_add, Nat.add_zero, Nat.mul_one, putL, and_self, ldn, t1, t26, t27, t28, tm, ip.at_ t hlt, ip.ld t hlt, iu.at_ t (by omega), iu.ld t (by omega), hlt', gt_iff_lt, hb]
          refine ⟨⟨t + 1, by omega, by simp, fun j hj => ?_⟩, by simp [intOf]; omega⟩
          by_cases e : j = t
          · subst e; omega
          · exact hall j (by omega)
      · have hlt' : ¬ ((t : Int) < plan.length) := by omega
        have e : t = plan.length := by omega
        subst e
        simp (config := {implicitDefEqProofs := false, maxDischargeDepth := 20}) (disch := first | omega | (simp only [lenE]; done) | (simp only [lenE]; omega) | rfl | (simp only [lenE, markR_len]; done) | (simp only [lenE, markR_len]; omega)) only [runE, mapE, listE, resV, oneV, binA, unA, reduceCtorEq, Nat.reduceEqDiff, Nat.reduceAdd, Nat.reduceLT, Nat.reduceLeDiff, Nat.reduceMul, Nat.reduceSub, ↓reduceIte, decide_true, decide_false, Bool.true_eq_false, Bool.false_eq_true, Bool.not_true, Bool.not_false, if_true, if_false, and_true, true_and, memE, celE, w64, Nat.zero_add, Nat.add_zero, Nat.mul_one, putL, and_self, ldn, t1, t26, t27, t28, tm, hlt']
        exact ext_ansV ((((Ext.refl m).one _ _).app nr1).app nr2) (by rw [keep_yes hall]; simp)
end Go.Proofs.Ytiggehfopfpkbaa.Ab
