/- What the law needs of the texts that it rests on. -/
import Derived.Test.YtamhhicnfpemeaaShChainBound0
section
namespace Go.Proofs.Ytamhhicnfpemeaa.Ab
open Go Go.RowKit
set_option linter.unusedVariables false
set_option linter.unusedSimpArgs false
def sortFrom (l : List Int) (k : Nat) : Prop := ∀ i, k ≤ i + 1 → i + 1 < l.length → l.getD i 0 ≤ l.getD (i + 1) 0
def sortTo (l : List Int) (k : Nat) : Prop := ∀ i, i + 1 < k → l.getD i 0 ≤ l.getD (i + 1) 0
theorem isNaN7_rc (m : Mem) (x : Int) : RC Try.prog 157 [.int .i64 x] m fun r new => r = .bool false ∧ new = [] := by
  refine rc_of_run mixed ok_cmp_isNaN (by simp) (go_start _ _ _ ?_)
  simp (config := {implicitDefEqProofs := false, maxDischargeDepth := 20}) (disch := first | omega | (simp only [lenE]; done) | (simp only [lenE]; omega) | rfl | (simp only [lenE, markR_len]; done) | (simp only [lenE, markR_len]; omega)) only [runE, mapE, listE, initT_5, initT_6, initT_7, initT_8, resV, oneV, binA, unA, reduceCtorEq, Nat.reduceEqDiff, Nat.reduceAdd, Nat.reduceLT, Nat.reduceLeDiff, Nat.reduceMul, Nat.reduceSub, ↓reduceIte, decide_true, decide_false, Bool.true_eq_false, Bool.false_eq_true, Bool.not_true, Bool.not_false, if_true, if_false, and_true, true_and, memE, celE, w64, Nat.zero_add, Nat.add_zero, Nat.mul_one, putL, and_self, ldn, c_cmp_isNaN, r_cmp_isNaN, bne_self_eq_false]
  exact newQ_nil ⟨rfl, rfl⟩
theorem cmpLess_rc (m : Mem) (x y : Int) : RC Try.prog 128 [.int .i64 x, .int .i64 y] m fun r new => r = .bool (decide (x < y)) ∧ new = [] := by
  refine rc_of_run mixed ok_cmp_Less (by simp) (go_start _ _ _ ?_)
  simp (config := {implicitDefEqProofs := false, maxDischargeDepth := 20}) (disch := first | omega | (simp only [lenE]; done) | (simp only [lenE]; omega) | rfl | (simp only [lenE, markR_len]; done) | (simp only [lenE, markR_len]; omega)) only [runE, mapE, listE, initT_5, initT_6, initT_7, initT_8, resV, oneV, binA, unA, reduceCtorEq, Nat.reduceEqDiff, Nat.reduceAdd, Nat.reduceLT, Nat.reduceLeDiff, Nat.reduceMul, Nat.reduceSub, ↓reduceIte, decide_true, decide_false, Bool.true_eq_false, Bool.false_eq_true, Bool.not_true, Bool.not_false, if_true, if_false, and_true, true_and, memE, celE, w64, Nat.zero_add, Nat.add_zero, Nat.mul_one, putL, and_self, ldn, c_cmp_Less, r_cmp_Less]
  refine callH_rc (isNaN7_rc _ x) ?_
  rintro r new ⟨rfl, rfl⟩
  simp (config := {implicitDefEqProofs := false, maxDischargeDepth := 20}) (disch := first | omega | (simp only [lenE]; done) | (simp only [lenE]; omega) | rfl | (simp only [lenE, markR_len]; done) | (simp only [lenE, markR_len]; omega)) only [runE, mapE, listE, initT_5, initT_6, initT_7, initT_8, resV, oneV, binA, unA, reduceCtorEq, Nat.reduceEqDiff, Nat.reduceAdd, Nat.reduceLT, Nat.reduceLeDiff, Nat.reduceMul, Nat.reduceSub, ↓reduceIte, decide_true, decide_false, Bool.true_eq_false, Bool.false_eq_true, Bool.not_true, Bool.not_false, if_true, if_false, and_true, true_and, memE, celE, w64, Nat.zero_add, Nat.add_zero, Nat.mul_one, putL, and_self, ldn, List.append_nil]
  exact newQ_nil ⟨rfl, rfl⟩
theorem isSorted_rc (m : Mem) (v : Value) (l : List Int) (h : IntsA m v l) : RC Try.prog 96 [v] m fun r new => r = .bool (sortB l) ∧ new = [] := by
  refine rc_of_run mixed ok_slices_IsSorted (by simp) (go_start _ _ _ ?_)
  have hr := h.ro
  have hb := hr.bd
  simp (config := {implicitDefEqProofs := false, maxDischargeDepth := 20}) (disch := first | omega | (simp only [lenE]; done) | (simp only [lenE]; omega) | rfl | (simp only [lenE, markR_len]; done) | (simp only [lenE, markR_len]; omega)) only [runE, mapE, listE, initT_5, initT_6, initT_7, initT_8, resV, oneV, binA, unA, reduceCtorEq, Nat.reduceEqDiff, Nat.reduceAdd, Nat.reduceLT, Nat.reduceLeDiff, Nat.reduceMul, Nat.reduceSub, ↓reduceIte, decide_true, decide_false, Bool.true_eq_false, Bool.false_eq_true, Bool.not_true, Bool.not_false, if_true, if_false, and_true, true_and, memE, celE, w64, Nat.zero_add, Nat.add_zero, Nat.mul_one, putL, and_self, ldn, c_slices_IsSorted, r_slices_IsSorted, hr.len]
  refine loop_inv mixed (fun s => ∃ k : Nat, k ≤ l.length ∧ s.m = roM m ∧ s.t 0 = v ∧ s.t 3 = .int .i64 ((k : Int) - 1) ∧ sortFrom l k) (fun s => (intOf (s.t 3)).toNat)
    ⟨l.length, by omega, rfl, rfl, rfl, fun i h1 h2 => absurd h2 (by omega)⟩ ?_
  rintro s ⟨k, hk, tm, t0, t3, hall⟩
  by_cases hp : 0 < (k : Int) - 1
  · obtain ⟨j, hj⟩ : ∃ j : Nat, k = j + 2 := ⟨k - 2, by omega⟩
    subst hj
    have e1 : ((j + 2 : Nat) : Int) - 1 = ((j + 1 : Nat) : Int) := by omega
    have e2 : ((j + 1 : Nat) : Int) - 1 = ((j : Nat) : Int) := by omega
    rw [e1] at t3 hp
    simp (config := {implicitDefEqProofs := false, maxDischargeDepth := 20}) (disch := first | omega | (simp only [lenE]; done) | (simp only [lenE]; omega) | rfl | (simp only [lenE, markR_len]; done) | (simp only [lenE, markR_len]; omega)) only [runE, mapE, listE, initT_5, initT_6, initT_7, initT_8, resV, oneV, binA, unA, reduceCtorEq, Nat.reduceEqDiff, Nat.reduceAdd, Nat.reduceLT, Nat.reduceLeDiff, Nat.reduceMul, Nat.reduceSub, ↓reduceIte, decide_true, decide_false, Bool.true_eq_false, Bool.false_eq_true, Bool.not_true, Bool.not_false, if_true, if_false, and_true, true_and, memE, celE, w64, Nat.zero_add, Nat.add_zero, Nat.mul_one, putL, and_self, ldn, tm, t0, t3, gt_iff_lt, hp, hr.at_ (j + 1) (by omega), hr.ld (j + 1) (by omega), e2, hr.at_ j (by omega), hr.ld j (by omega)]
    refine rcallH_rc (cmpLess_rc _ _ _) ?_
    rintro r new ⟨rfl, rfl⟩
    rw [List.append_nil]
    by_cases hlt : l.getD (j + 1) 0 < l.getD j 0
    · simp (config := {implicitDefEqProofs := false, maxDischargeDepth := 20}) (disch := first | omega | (simp only [lenE]; done) | (simp only [lenE]; omega) | rfl | (simp only [lenE, markR_len]; done) | (simp only [lenE, markR_len]; omega)) only [runE, mapE, listE, initT_5, initT_6, initT_7, initT_8, resV, oneV, binA, unA, reduceCtorEq, Nat.reduceEqDiff, Nat.reduceAdd, Nat.reduceLT, Nat.reduceLeDiff, Nat.reduceMul, Nat.reduceSub, ↓reduceIte, decide_true, decide_false, Bool.true_eq_false, Bool.false_eq_true, Bool.not_true, Bool.not_false, if_true, if_false, and_true, true_and, memE, celE, w64, Nat.zero_add, Nat.add_zero, Nat.mul_one, putL, and_self, ldn, tm, t0, t3, hlt]
      refine newQ_nil ⟨?_, rfl⟩
      cases hs : sortB l with
      | false => rfl
      | true => have := sortB_iff.1 hs j (by omega); omega
    · simp (config := {implicitDefEqProofs := false, maxDischargeDepth := 20}) (disch := first | omega | (simp only [lenE]; done) | (simp only [lenE]; omega) | rfl | (simp only [lenE, markR_len]; done) | (simp only [lenE, markR_len]; omega)) only [runE, mapE, listE, initT_5, initT_6, initT_7, initT_8, resV, oneV, binA, unA, reduceCtorEq, Nat.reduceEqDiff, Nat.reduceAdd, Nat.reduceLT, Nat.reduceLeDiff, Nat.reduceMul, Nat.reduceSub, ↓reduceIte, decide_true, decide_false, Bool.true_eq_false, Bool.false_eq_true, Bool.not_true, Bool.not_false, if_true, if_false, and_true, true_and, memE, celE, w64, Nat.zero_add, Nat.add_zero, Nat.mul_one, putL, and_self, ldn, tm, t0, t3, hlt]
      refine ⟨⟨j + 1, by omega, by congr 1 <;> omega, fun i h1 h2 => ?_⟩, ?_⟩
      · by_cases e : i = j
        · subst e; omega
        · exact hall i (by omega) h2
      · simp [intOf]
  · simp (config := {implicitDefEqProofs := false, maxDischargeDepth := 20}) (disch := first | omega | (simp only [lenE]; done) | (simp only [lenE]; omega) | rfl | (simp only [lenE, markR_len]; done) | (simp only [lenE, markR_len]; omega)) only [runE, mapE, listE, initT_5, initT_6, initT_7, initT_8, resV, oneV, binA, unA, reduceCtorEq, Nat.reduceEqDiff, Nat.reduceAdd, Nat.reduceLT, Nat.reduceLeDiff, Nat.reduceMul, Nat.reduceSub, ↓reduceIte, decide_true, decide_false, Bool.true_eq_false, Bool.false_eq_true, Bool.not_true, Bool.not_false, if_true, if_false, and_true, true_and, memE, celE, w64, Nat.zero_add, Nat.add_zero, Nat.mul_one, putL, and_self, ldn, tm, t0, t3, gt_iff_lt, hp]
    refine newQ_nil ⟨?_, rfl⟩
    have : sortB l = true := sortB_iff.2 fun i hi => hall i (by omega) hi
    rw [this]
theorem l7Good_rc (m : Mem) (v : Value) (c : Ch) (h : ChA m v c) : RC Try.prog 72 [v] m (AnsV (.bool c.good)) := by
  refine rc_of_run mixed ok_spec_l7Good (by simp) (go_start _ _ _ ?_)
  obtain ⟨a, b, d, rfl, ha, hb, hd⟩ := h.ro
  unfold Ch.good
  by_cases g0 : c.need.length ≤ 6
  · have g0' : ¬ (6 < (c.need.length : Int)) := by omega
    simp (config := {implicitDefEqProofs := false, maxDischargeDepth := 20}) (disch := first | omega | (simp only [lenE]; done) | (simp only [lenE]; omega) | rfl | (simp only [lenE, markR_len]; done) | (simp only [lenE, markR_len]; omega)) only [runE, mapE, listE, initT_5, initT_6, initT_7, initT_8, resV, oneV, binA, unA, reduceCtorEq, Nat.reduceEqDiff, Nat.reduceAdd, Nat.reduceLT, Nat.reduceLeDiff, Nat.reduceMul, Nat.reduceSub, ↓reduceIte, decide_true, decide_false, Bool.true_eq_false, Bool.false_eq_true, Bool.not_true, Bool.not_false, if_true, if_false, and_true, true_and, memE, celE, w64, Nat.zero_add, Nat.add_zero, Nat.mul_one, putL, and_self, ldn, c_spec_l7Good, r_spec_l7Good, ha.len, gt_iff_lt, g0']
    refine callH_rc (l2Row_rc _ a c.need c.need.length 20 (ha.ext _)) ?_
    rintro r new ⟨rfl, rfl⟩
    cases b1 : Go.Proofs.Ytamhhicnfpemeaa.rowB c.need c.need.length 20 with
    | false =>
      simp (config := {implicitDefEqProofs := false, maxDischargeDepth := 20}) (disch := first | omega | (simp only [lenE]; done) | (simp only [lenE]; omega) | rfl | (simp only [lenE, markR_len]; done) | (simp only [lenE, markR_len]; omega)) only [runE, mapE, listE, initT_5, initT_6, initT_7, initT_8, resV, oneV, binA, unA, reduceCtorEq, Nat.reduceEqDiff, Nat.reduceAdd, Nat.reduceLT, Nat.reduceLeDiff, Nat.reduceMul, Nat.reduceSub, ↓reduceIte, decide_true, decide_false, Bool.true_eq_false, Bool.false_eq_true, Bool.not_true, Bool.not_false, if_true, if_false, and_true, true_and, memE, celE, w64, Nat.zero_add, Nat.add_zero, Nat.mul_one, putL, and_self, ldn]
      try simp only [List.append_assoc, List.cons_append, List.nil_append, List.append_nil]
      exact ⟨_, rfl, by (repeat (first | exact noRo_nil | assumption | apply noRo_own | apply noRo_dead | apply noRo_app)), by simp, by (repeat (first | exact noRo_nil | assumption | apply noRo_own | apply noRo_dead | apply noRo_app))⟩
    | true =>
    simp (config := {implicitDefEqProofs := false, maxDischargeDepth := 20}) (disch := first | omega | (simp only [lenE]; done) | (simp only [lenE]; omega) | rfl | (simp only [lenE, markR_len]; done) | (simp only [lenE, markR_len]; omega)) only [runE, mapE, listE, initT_5, initT_6, initT_7, initT_8, resV, oneV, binA, unA, reduceCtorEq, Nat.reduceEqDiff, Nat.reduceAdd, Nat.reduceLT, Nat.reduceLeDiff, Nat.reduceMul, Nat.reduceSub, ↓reduceIte, decide_true, decide_false, Bool.true_eq_false, Bool.false_eq_true, Bool.not_true, Bool.not_false, if_true, if_false, and_true, true_and, memE, celE, w64, Nat.zero_add, Nat.add_zero, Nat.mul_one, putL, and_self, ldn, hb.len]
    refine callH_rc (l1In_rc _ _ _ _) ?_
    rintro r new ⟨rfl, rfl⟩
    cases b2 : (decide ((1 : Int) ≤ (c.setup.length : Int)) && decide ((c.setup.length : Int) ≤ 3)) with
    | false =>
      simp (config := {implicitDefEqProofs := false, maxDischargeDepth := 20}) (disch := first | omega | (simp only [lenE]; done) | (simp only [lenE]; omega) | rfl | (simp only [lenE, markR_len]; done) | (simp only [lenE, markR_len]; omega)) only [runE, mapE, listE, initT_5, initT_6, initT_7, initT_8, resV, oneV, binA, unA, reduceCtorEq, Nat.reduceEqDiff, Nat.reduceAdd, Nat.reduceLT, Nat.reduceLeDiff, Nat.reduceMul, Nat.reduceSub, ↓reduceIte, decide_true, decide_false, Bool.true_eq_false, Bool.false_eq_true, Bool.not_true, Bool.not_false, if_true, if_false, and_true, true_and, memE, celE, w64, Nat.zero_add, Nat.add_zero, Nat.mul_one, putL, and_self, ldn]
      try simp only [List.append_assoc, List.cons_append, List.nil_append, List.append_nil]
      have : (decide (1 ≤ c.setup.length) && decide (c.setup.length ≤ 3)) = false := by simp at b2 ⊢; omega
      exact ⟨_, rfl, by (repeat (first | exact noRo_nil | assumption | apply noRo_own | apply noRo_dead | apply noRo_app)), by rw [this]; simp, by (repeat (first | exact noRo_nil | assumption | apply noRo_own | apply noRo_dead | apply noRo_app))⟩
    | true =>
    have b2' : (decide (1 ≤ c.setup.length) && decide (c.setup.length ≤ 3)) = true := by simp at b2 ⊢; omega
    simp (config := {implicitDefEqProofs := false, maxDischargeDepth := 20}) (disch := first | omega | (simp only [lenE]; done) | (simp only [lenE]; omega) | rfl | (simp only [lenE, markR_len]; done) | (simp only [lenE, markR_len]; omega)) only [runE, mapE, listE, initT_5, initT_6, initT_7, initT_8, resV, oneV, binA, unA, reduceCtorEq, Nat.reduceEqDiff, Nat.reduceAdd, Nat.reduceLT, Nat.reduceLeDiff, Nat.reduceMul, Nat.reduceSub, ↓reduceIte, decide_true, decide_false, Bool.true_eq_false, Bool.false_eq_true, Bool.not_true, Bool.not_false, if_true, if_false, and_true, true_and, memE, celE, w64, Nat.zero_add, Nat.add_zero, Nat.mul_one, putL, and_self, ldn, hb.len]
    refine callH_rc (l2Row_rc _ b c.setup c.setup.length 99 (hb.ext _)) ?_
    rintro r new ⟨rfl, rfl⟩
    cases b3 : Go.Proofs.Ytamhhicnfpemeaa.rowB c.setup c.setup.length 99 with
    | false =>
      simp (config := {implicitDefEqProofs := false, maxDischargeDepth := 20}) (disch := first | omega | (simp only [lenE]; done) | (simp only [lenE]; omega) | rfl | (simp only [lenE, markR_len]; done) | (simp only [lenE, markR_len]; omega)) only [runE, mapE, listE, initT_5, initT_6, initT_7, initT_8, resV, oneV, binA, unA, reduceCtorEq, Nat.reduceEqDiff, Nat.reduceAdd, Nat.reduceLT, Nat.reduceLeDiff, Nat.reduceMul, Nat.reduceSub, ↓reduceIte, decide_true, decide_false, Bool.true_eq_false, Bool.false_eq_true, Bool.not_true, Bool.not_false, if_true, if_false, and_true, true_and, memE, celE, w64, Nat.zero_add, Nat.add_zero, Nat.mul_one, putL, and_self, ldn]
      try simp only [List.append_assoc, List.cons_append, List.nil_append, List.append_nil]
      exact ⟨_, rfl, by (repeat (first | exact noRo_nil | assumption | apply noRo_own | apply noRo_dead | apply noRo_app)), by simp, by (repeat (first | exact noRo_nil | assumption | apply noRo_own | apply noRo_dead | apply noRo_app))⟩
    | true =>
    simp (config := {implicitDefEqProofs := false, maxDischargeDepth := 20}) (disch := first | omega | (simp only [lenE]; done) | (simp only [lenE]; omega) | rfl | (simp only [lenE, markR_len]; done) | (simp only [lenE, markR_len]; omega)) only [runE, mapE, listE, initT_5, initT_6, initT_7, initT_8, resV, oneV, binA, unA, reduceCtorEq, Nat.reduceEqDiff, Nat.reduceAdd, Nat.reduceLT, Nat.reduceLeDiff, Nat.reduceMul, Nat.reduceSub, ↓reduceIte, decide_true, decide_false, Bool.true_eq_false, Bool.false_eq_true, Bool.not_true, Bool.not_false, if_true, if_false, and_true, true_and, memE, celE, w64, Nat.zero_add, Nat.add_zero, Nat.mul_one, putL, and_self, ldn, hb.len]
    refine callH_rc (l2Row_rc _ d c.hold c.setup.length 9 (hd.ext _)) ?_
    rintro r new ⟨rfl, rfl⟩
    cases b4 : Go.Proofs.Ytamhhicnfpemeaa.rowB c.hold c.setup.length 9 with
    | false =>
      simp (config := {implicitDefEqProofs := false, maxDischargeDepth := 20}) (disch := first | omega | (simp only [lenE]; done) | (simp only [lenE]; omega) | rfl | (simp only [lenE, markR_len]; done) | (simp only [lenE, markR_len]; omega)) only [runE, mapE, listE, initT_5, initT_6, initT_7, initT_8, resV, oneV, binA, unA, reduceCtorEq, Nat.reduceEqDiff, Nat.reduceAdd, Nat.reduceLT, Nat.reduceLeDiff, Nat.reduceMul, Nat.reduceSub, ↓reduceIte, decide_true, decide_false, Bool.true_eq_false, Bool.false_eq_true, Bool.not_true, Bool.not_false, if_true, if_false, and_true, true_and, memE, celE, w64, Nat.zero_add, Nat.add_zero, Nat.mul_one, putL, and_self, ldn]
      try simp only [List.append_assoc, List.cons_append, List.nil_append, List.append_nil]
      exact ⟨_, rfl, by (repeat (first | exact noRo_nil | assumption | apply noRo_own | apply noRo_dead | apply noRo_app)), by simp, by (repeat (first | exact noRo_nil | assumption | apply noRo_own | apply noRo_dead | apply noRo_app))⟩
    | true =>
    have hl := (rowB_iff.1 b4).2
    have l3 : c.hold.length ≤ 3 := by simp at b2'; omega
    have hX := (Ext.refl m).one 26 [a, b, d]
    simp (config := {implicitDefEqProofs := false, maxDischargeDepth := 20}) (disch := first | omega | (simp only [lenE]; done) | (simp only [lenE]; omega) | rfl | (simp only [lenE, markR_len]; done) | (simp only [lenE, markR_len]; omega)) only [runE, mapE, listE, initT_5, initT_6, initT_7, initT_8, resV, oneV, binA, unA, reduceCtorEq, Nat.reduceEqDiff, Nat.reduceAdd, Nat.reduceLT, Nat.reduceLeDiff, Nat.reduceMul, Nat.reduceSub, ↓reduceIte, decide_true, decide_false, Bool.true_eq_false, Bool.false_eq_true, Bool.not_true, Bool.not_false, if_true, if_false, and_true, true_and, memE, celE, w64, Nat.zero_add, Nat.add_zero, Nat.mul_one, putL, and_self, ldn]
    refine loop_inv mixed (fun s => ∃ k : Nat, 1 ≤ k ∧ s.m = roM m ++ [⟨.own, 26, [a, b, d]⟩] ∧ s.t 1 = .pointer (some ⟨m.length, 0, none⟩) ∧ s.t 3 = .int .i64 (k : Int) ∧ (k ≤ c.hold.length ∨ k = 1) ∧ sortTo c.hold k) (fun s => (c.hold.length - intOf (s.t 3)).toNat)
      ⟨1, by omega, rfl, rfl, rfl, .inr rfl, fun i hi => absurd hi (by omega)⟩ ?_
    rintro s ⟨k, h1, tm, t1, t3, hk, hall⟩
    by_cases hp : (k : Int) < c.hold.length
    · obtain ⟨j, hj⟩ : ∃ j : Nat, k = j + 1 := ⟨k - 1, by omega⟩
      subst hj
      have e2 : ((j + 1 : Nat) : Int) - 1 = ((j : Nat) : Int) := by omega
      have hd1 := hd.ext [⟨.own, 26, [a, b, d]⟩]
      by_cases hlt : c.hold.getD (j + 1) 0 < c.hold.getD j 0
      · simp (config := {implicitDefEqProofs := false, maxDischargeDepth := 20}) (disch := first | omega | (simp only [lenE]; done) | (simp only [lenE]; omega) | rfl | (simp only [lenE, markR_len]; done) | (simp only [lenE, markR_len]; omega)) only [runE, mapE, listE, initT_5, initT_6, initT_7, initT_8, resV, oneV, binA, unA, reduceCtorEq, Nat.reduceEqDiff, Nat.reduceAdd, Nat.reduceLT, Nat.reduceLeDiff, Nat.reduceMul, Nat.reduceSub, ↓reduceIte, decide_true, decide_false, Bool.true_eq_false, Bool.false_eq_true, Bool.not_true, Bool.not_false, if_true, if_false, and_true, true_and, memE, celE, w64, Nat.zero_add, Nat.add_zero, Nat.mul_one, putL, and_self, ldn, tm, t1, t3, hp, hd.len, hd.at_ (j + 1) (by omega), hd1.ld (j + 1) (by omega), e2, hd.at_ j (by omega), hd1.ld j (by omega), hlt]
        refine ext_ansV hX ?_
        cases hs : sortB c.hold with
        | false => simp
        | true => have := sortB_iff.1 hs j (by omega); omega
      · simp (config := {implicitDefEqProofs := false, maxDischargeDepth := 20}) (disch := first | omega | (simp only [lenE]; done) | (simp only [lenE]; omega) | rfl | (simp only [lenE, markR_len]; done) | (simp only [lenE, markR_len]; omega)) only [runE, mapE, listE, initT_5, initT_6, initT_7, initT_8, resV, oneV, binA, unA, reduceCtorEq, Nat.reduceEqDiff, Nat.reduceAdd, Nat.reduceLT, Nat.reduceLeDiff, Nat.reduceMul, Nat.reduceSub, ↓reduceIte, decide_true, decide_false, Bool.true_eq_false, Bool.false_eq_true, Bool.not_true, Bool.not_false, if_true, if_false, and_true, true_and, memE, celE, w64, Nat.zero_add, Nat.add_zero, Nat.mul_one, putL, and_self, ldn, tm, t1, t3, hp, hd.len, hd.at_ (j + 1) (by omega), hd1.ld (j + 1) (by omega), e2, hd.at_ j (by omega), hd1.ld j (by omega), hlt]
        refine ⟨⟨j + 2, by omega, by simp; omega, by omega, fun i h2 => ?_⟩, ?_⟩
        · by_cases e : i = j
          · subst e; omega
          · exact hall i (by omega)
        · simp [intOf]; omega
    · simp (config := {implicitDefEqProofs := false, maxDischargeDepth := 20}) (disch := first | omega | (simp only [lenE]; done) | (simp only [lenE]; omega) | rfl | (simp only [lenE, markR_len]; done) | (simp only [lenE, markR_len]; omega)) only [runE, mapE, listE, initT_5, initT_6, initT_7, initT_8, resV, oneV, binA, unA, reduceCtorEq, Nat.reduceEqDiff, Nat.reduceAdd, Nat.reduceLT, Nat.reduceLeDiff, Nat.reduceMul, Nat.reduceSub, ↓reduceIte, decide_true, decide_false, Bool.true_eq_false, Bool.false_eq_true, Bool.not_true, Bool.not_false, if_true, if_false, and_true, true_and, memE, celE, w64, Nat.zero_add, Nat.add_zero, Nat.mul_one, putL, and_self, ldn, tm, t1, t3, hp, hd.len]
      refine ext_ansV hX ?_
      have : sortB c.hold = true := sortB_iff.2 fun i hi => hall i (by omega)
      rw [this, b2']
      simp [g0]
  · have g0' : 6 < (c.need.length : Int) := by omega
    simp (config := {implicitDefEqProofs := false, maxDischargeDepth := 20}) (disch := first | omega | (simp only [lenE]; done) | (simp only [lenE]; omega) | rfl | (simp only [lenE, markR_len]; done) | (simp only [lenE, markR_len]; omega)) only [runE, mapE, listE, initT_5, initT_6, initT_7, initT_8, resV, oneV, binA, unA, reduceCtorEq, Nat.reduceEqDiff, Nat.reduceAdd, Nat.reduceLT, Nat.reduceLeDiff, Nat.reduceMul, Nat.reduceSub, ↓reduceIte, decide_true, decide_false, Bool.true_eq_false, Bool.false_eq_true, Bool.not_true, Bool.not_false, if_true, if_false, and_true, true_and, memE, celE, w64, Nat.zero_add, Nat.add_zero, Nat.mul_one, putL, and_self, ldn, c_spec_l7Good, r_spec_l7Good, ha.len, gt_iff_lt, g0']
    try simp only [List.append_assoc, List.cons_append, List.nil_append, List.append_nil]
    exact ⟨_, rfl, by (repeat (first | exact noRo_nil | assumption | apply noRo_own | apply noRo_dead | apply noRo_app)), by simp [g0], by (repeat (first | exact noRo_nil | assumption | apply noRo_own | apply noRo_dead | apply noRo_app))⟩
theorem areStages_rc (m : Mem) (a b d : Value) (c : Ch) (ha : IntsA m a c.need) (hb : IntsA m b c.setup) (hd : IntsA m d c.hold) :
    RC Try.prog 79 [a, b, d] m (AnsV (.bool (decide (c.need.length ≤ 6) && Go.Proofs.Ytamhhicnfpemeaa.rowB c.need c.need.length 20 && (decide (1 ≤ c.setup.length) && decide (c.setup.length ≤ 3)) && Go.Proofs.Ytamhhicnfpemeaa.rowB c.setup c.setup.length 99 && Go.Proofs.Ytamhhicnfpemeaa.rowB c.hold c.setup.length 9))) := by
  refine rc_of_run mixed ok_impl_areStages (by simp) (go_start _ _ _ ?_)
  have ha' := ha.ro
  have hb' := hb.ro
  have hd' := hd.ro
  by_cases g0 : 0 < (c.setup.length : Int)
  · by_cases g1 : (c.setup.length : Int) ≤ 3
    · simp (config := {implicitDefEqProofs := false, maxDischargeDepth := 20}) (disch := first | omega | (simp only [lenE]; done) | (simp only [lenE]; omega) | rfl | (simp only [lenE, markR_len]; done) | (simp only [lenE, markR_len]; omega)) only [runE, mapE, listE, initT_5, initT_6, initT_7, initT_8, resV, oneV, binA, unA, reduceCtorEq, Nat.reduceEqDiff, Nat.reduceAdd, Nat.reduceLT, Nat.reduceLeDiff, Nat.reduceMul, Nat.reduceSub, ↓reduceIte, decide_true, decide_false, Bool.true_eq_false, Bool.false_eq_true, Bool.not_true, Bool.not_false, if_true, if_false, and_true, true_and, memE, celE, w64, Nat.zero_add, Nat.add_zero, Nat.mul_one, putL, and_self, ldn, c_impl_areStages, r_impl_areStages, hb'.len, gt_iff_lt, g0, g1]
      refine callH_rc (isRow_rc _ b c.setup c.setup.length 99 hb') ?_
      rintro r n1 ⟨rfl, nr1⟩
      cases b3 : Go.Proofs.Ytamhhicnfpemeaa.rowB c.setup c.setup.length 99 with
      | false =>
        simp (config := {implicitDefEqProofs := false, maxDischargeDepth := 20}) (disch := first | omega | (simp only [lenE]; done) | (simp only [lenE]; omega) | rfl | (simp only [lenE, markR_len]; done) | (simp only [lenE, markR_len]; omega)) only [runE, mapE, listE, initT_5, initT_6, initT_7, initT_8, resV, oneV, binA, unA, reduceCtorEq, Nat.reduceEqDiff, Nat.reduceAdd, Nat.reduceLT, Nat.reduceLeDiff, Nat.reduceMul, Nat.reduceSub, ↓reduceIte, decide_true, decide_false, Bool.true_eq_false, Bool.false_eq_true, Bool.not_true, Bool.not_false, if_true, if_false, and_true, true_and, memE, celE, w64, Nat.zero_add, Nat.add_zero, Nat.mul_one, putL, and_self, ldn]
        try simp only [List.append_assoc, List.cons_append, List.nil_append, List.append_nil]
        exact ⟨_, rfl, by (repeat (first | exact noRo_nil | assumption | apply noRo_own | apply noRo_dead | apply noRo_app)), by simp, by (repeat (first | exact noRo_nil | assumption | apply noRo_own | apply noRo_dead | apply noRo_app))⟩
      | true =>
      simp (config := {implicitDefEqProofs := false, maxDischargeDepth := 20}) (disch := first | omega | (simp only [lenE]; done) | (simp only [lenE]; omega) | rfl | (simp only [lenE, markR_len]; done) | (simp only [lenE, markR_len]; omega)) only [runE, mapE, listE, initT_5, initT_6, initT_7, initT_8, resV, oneV, binA, unA, reduceCtorEq, Nat.reduceEqDiff, Nat.reduceAdd, Nat.reduceLT, Nat.reduceLeDiff, Nat.reduceMul, Nat.reduceSub, ↓reduceIte, decide_true, decide_false, Bool.true_eq_false, Bool.false_eq_true, Bool.not_true, Bool.not_false, if_true, if_false, and_true, true_and, memE, celE, w64, Nat.zero_add, Nat.add_zero, Nat.mul_one, putL, and_self, ldn]
      refine callH_rc (isRow_rc _ d c.hold c.setup.length 9 (hd'.ext _)) ?_
      rintro r n2 ⟨rfl, nr2⟩
      cases b4 : Go.Proofs.Ytamhhicnfpemeaa.rowB c.hold c.setup.length 9 with
      | false =>
        simp (config := {implicitDefEqProofs := false, maxDischargeDepth := 20}) (disch := first | omega | (simp only [lenE]; done) | (simp only [lenE]; omega) | rfl | (simp only [lenE, markR_len]; done) | (simp only [lenE, markR_len]; omega)) only [runE, mapE, listE, initT_5, initT_6, initT_7, initT_8, resV, oneV, binA, unA, reduceCtorEq, Nat.reduceEqDiff, Nat.reduceAdd, Nat.reduceLT, Nat.reduceLeDiff, Nat.reduceMul, Nat.reduceSub, ↓reduceIte, decide_true, decide_false, Bool.true_eq_false, Bool.false_eq_true, Bool.not_true, Bool.not_false, if_true, if_false, and_true, true_and, memE, celE, w64, Nat.zero_add, Nat.add_zero, Nat.mul_one, putL, and_self, ldn]
        try simp only [List.append_assoc, List.cons_append, List.nil_append, List.append_nil]
        exact ⟨_, rfl, by (repeat (first | exact noRo_nil | assumption | apply noRo_own | apply noRo_dead | apply noRo_app)), by simp, by (repeat (first | exact noRo_nil | assumption | apply noRo_own | apply noRo_dead | apply noRo_app))⟩
      | true =>
      by_cases g2 : (c.need.length : Int) ≤ 6
      · simp (config := {implicitDefEqProofs := false, maxDischargeDepth := 20}) (disch := first | omega | (simp only [lenE]; done) | (simp only [lenE]; omega) | rfl | (simp only [lenE, markR_len]; done) | (simp only [lenE, markR_len]; omega)) only [runE, mapE, listE, initT_5, initT_6, initT_7, initT_8, resV, oneV, binA, unA, reduceCtorEq, Nat.reduceEqDiff, Nat.reduceAdd, Nat.reduceLT, Nat.reduceLeDiff, Nat.reduceMul, Nat.reduceSub, ↓reduceIte, decide_true, decide_false, Bool.true_eq_false, Bool.false_eq_true, Bool.not_true, Bool.not_false, if_true, if_false, and_true, true_and, memE, celE, w64, Nat.zero_add, Nat.add_zero, Nat.mul_one, putL, and_self, ldn, ha'.len, g2]
        refine callH_rc (isRow_rc _ a c.need c.need.length 20 ((ha'.ext _).ext _)) ?_
        rintro r n3 ⟨rfl, nr3⟩
        simp (config := {implicitDefEqProofs := false, maxDischargeDepth := 20}) (disch := first | omega | (simp only [lenE]; done) | (simp only [lenE]; omega) | rfl | (simp only [lenE, markR_len]; done) | (simp only [lenE, markR_len]; omega)) only [runE, mapE, listE, initT_5, initT_6, initT_7, initT_8, resV, oneV, binA, unA, reduceCtorEq, Nat.reduceEqDiff, Nat.reduceAdd, Nat.reduceLT, Nat.reduceLeDiff, Nat.reduceMul, Nat.reduceSub, ↓reduceIte, decide_true, decide_false, Bool.true_eq_false, Bool.false_eq_true, Bool.not_true, Bool.not_false, if_true, if_false, and_true, true_and, memE, celE, w64, Nat.zero_add, Nat.add_zero, Nat.mul_one, putL, and_self, ldn]
        try simp only [List.append_assoc, List.cons_append, List.nil_append, List.append_nil]
        have h1 : c.need.length ≤ 6 := by omega
        have h2 : 1 ≤ c.setup.length := by omega
        have h3 : c.setup.length ≤ 3 := by omega
        exact ⟨_, rfl, by (repeat (first | exact noRo_nil | assumption | apply noRo_own | apply noRo_dead | apply noRo_app)), by simp [h1, h2, h3], by (repeat (first | exact noRo_nil | assumption | apply noRo_own | apply noRo_dead | apply noRo_app))⟩
      · simp (config := {implicitDefEqProofs := false, maxDischargeDepth := 20}) (disch := first | omega | (simp only [lenE]; done) | (simp only [lenE]; omega) | rfl | (simp only [lenE, markR_len]; done) | (simp only [lenE, markR_len]; omega)) only [runE, mapE, listE, initT_5, initT_6, initT_7, initT_8, resV, oneV, binA, unA, reduceCtorEq, Nat.reduceEqDiff, Nat.reduceAdd, Nat.reduceLT, Nat.reduceLeDiff, Nat.reduceMul, Nat.reduceSub, ↓reduceIte, decide_true, decide_false, Bool.true_eq_false, Bool.false_eq_true, Bool.not_true, Bool.not_false, if_true, if_false, and_true, true_and, memE, celE, w64, Nat.zero_add, Nat.add_zero, Nat.mul_one, putL, and_self, ldn, ha'.len, g2]
        try simp only [List.append_assoc, List.cons_append, List.nil_append, List.append_nil]
        have h1 : ¬ (c.need.length ≤ 6) := by omega
        exact ⟨_, rfl, by (repeat (first | exact noRo_nil | assumption | apply noRo_own | apply noRo_dead | apply noRo_app)), by simp [h1], by (repeat (first | exact noRo_nil | assumption | apply noRo_own | apply noRo_dead | apply noRo_app))⟩
    · simp (config := {implicitDefEqProofs := false, maxDischargeDepth := 20}) (disch := first | omega | (simp only [lenE]; done) | (simp only [lenE]; omega) | rfl | (simp only [lenE, markR_len]; done) | (simp only [lenE, markR_len]; omega)) only [runE, mapE, listE, initT_5, initT_6, initT_7, initT_8, resV, oneV, binA, unA, reduceCtorEq, Nat.reduceEqDiff, Nat.reduceAdd, Nat.reduceLT, Nat.reduceLeDiff, Nat.reduceMul, Nat.reduceSub, ↓reduceIte, decide_true, decide_false, Bool.true_eq_false, Bool.false_eq_true, Bool.not_true, Bool.not_false, if_true, if_false, and_true, true_and, memE, celE, w64, Nat.zero_add, Nat.add_zero, Nat.mul_one, putL, and_self, ldn, c_impl_areStages, r_impl_areStages, hb'.len, gt_iff_lt, g0, g1]
      have h1 : ¬ (c.setup.length ≤ 3) := by omega
      exact newQ_nil ⟨by simp [h1], noRo_nil⟩
  · simp (config := {implicitDefEqProofs := false, maxDischargeDepth := 20}) (disch := first | omega | (simp only [lenE]; done) | (simp only [lenE]; omega) | rfl | (simp only [lenE, markR_len]; done) | (simp only [lenE, markR_len]; omega)) only [runE, mapE, listE, initT_5, initT_6, initT_7, initT_8, resV, oneV, binA, unA, reduceCtorEq, Nat.reduceEqDiff, Nat.reduceAdd, Nat.reduceLT, Nat.reduceLeDiff, Nat.reduceMul, Nat.reduceSub, ↓reduceIte, decide_true, decide_false, Bool.true_eq_false, Bool.false_eq_true, Bool.not_true, Bool.not_false, if_true, if_false, and_true, true_and, memE, celE, w64, Nat.zero_add, Nat.add_zero, Nat.mul_one, putL, and_self, ldn, c_impl_areStages, r_impl_areStages, hb'.len, gt_iff_lt, g0]
    have h1 : ¬ (1 ≤ c.setup.length) := by omega
    exact newQ_nil ⟨by simp [h1], noRo_nil⟩
theorem implIsChain_rc (m : Mem) (v : Value) (c : Ch) (h : ChA m v c) : RC Try.prog 32 [v] m (AnsV (.bool c.good)) := by
  refine rc_of_run mixed ok_impl_IsChain (by simp) (go_start _ _ _ ?_)
  obtain ⟨a, b, d, rfl, ha, hb, hd⟩ := h.ro
  simp (config := {implicitDefEqProofs := false, maxDischargeDepth := 20}) (disch := first | omega | (simp only [lenE]; done) | (simp only [lenE]; omega) | rfl | (simp only [lenE, markR_len]; done) | (simp only [lenE, markR_len]; omega)) only [runE, mapE, listE, initT_5, initT_6, initT_7, initT_8, resV, oneV, binA, unA, reduceCtorEq, Nat.reduceEqDiff, Nat.reduceAdd, Nat.reduceLT, Nat.reduceLeDiff, Nat.reduceMul, Nat.reduceSub, ↓reduceIte, decide_true, decide_false, Bool.true_eq_false, Bool.false_eq_true, Bool.not_true, Bool.not_false, if_true, if_false, and_true, true_and, memE, celE, w64, Nat.zero_add, Nat.add_zero, Nat.mul_one, putL, and_self, ldn, c_impl_IsChain, r_impl_IsChain]
  refine callH_rc (areStages_rc _ a b d c (ha.ext _) (hb.ext _) (hd.ext _)) ?_
  rintro r n1 ⟨rfl, nr1⟩
  unfold Ch.good
  obtain ⟨x, hx⟩ : ∃ x, x = (decide (c.need.length ≤ 6) && Go.Proofs.Ytamhhicnfpemeaa.rowB c.need c.need.length 20 && (decide (1 ≤ c.setup.length) && decide (c.setup.length ≤ 3)) && Go.Proofs.Ytamhhicnfpemeaa.rowB c.setup c.setup.length 99 && Go.Proofs.Ytamhhicnfpemeaa.rowB c.hold c.setup.length 9) := ⟨_, rfl⟩
  rw [← hx]
  cases x with
  | false =>
    simp (config := {implicitDefEqProofs := false, maxDischargeDepth := 20}) (disch := first | omega | (simp only [lenE]; done) | (simp only [lenE]; omega) | rfl | (simp only [lenE, markR_len]; done) | (simp only [lenE, markR_len]; omega)) only [runE, mapE, listE, initT_5, initT_6, initT_7, initT_8, resV, oneV, binA, unA, reduceCtorEq, Nat.reduceEqDiff, Nat.reduceAdd, Nat.reduceLT, Nat.reduceLeDiff, Nat.reduceMul, Nat.reduceSub, ↓reduceIte, decide_true, decide_false, Bool.true_eq_false, Bool.false_eq_true, Bool.not_true, Bool.not_false, if_true, if_false, and_true, true_and, memE, celE, w64, Nat.zero_add, Nat.add_zero, Nat.mul_one, putL, and_self, ldn]
    try simp only [List.append_assoc, List.cons_append, List.nil_append, List.append_nil]
    exact ⟨_, rfl, by (repeat (first | exact noRo_nil | assumption | apply noRo_own | apply noRo_dead | apply noRo_app)), rfl, by (repeat (first | exact noRo_nil | assumption | apply noRo_own | apply noRo_dead | apply noRo_app))⟩
  | true =>
    simp (config := {implicitDefEqProofs := false, maxDischargeDepth := 20}) (disch := first | omega | (simp only [lenE]; done) | (simp only [lenE]; omega) | rfl | (simp only [lenE, markR_len]; done) | (simp only [lenE, markR_len]; omega)) only [runE, mapE, listE, initT_5, initT_6, initT_7, initT_8, resV, oneV, binA, unA, reduceCtorEq, Nat.reduceEqDiff, Nat.reduceAdd, Nat.reduceLT, Nat.reduceLeDiff, Nat.reduceMul, Nat.reduceSub, ↓reduceIte, decide_true, decide_false, Bool.true_eq_false, Bool.false_eq_true, Bool.not_true, Bool.not_false, if_true, if_false, and_true, true_and, memE, celE, w64, Nat.zero_add, Nat.add_zero, Nat.mul_one, putL, and_self, ldn]
    refine callH_rc (isSorted_rc _ d c.hold ((hd.ext _).ext _)) ?_
    rintro r n2 ⟨rfl, rfl⟩
    simp (config := {implicitDefEqProofs := false, maxDischargeDepth := 20}) (disch := first | omega | (simp only [lenE]; done) | (simp only [lenE]; omega) | rfl | (simp only [lenE, markR_len]; done) | (simp only [lenE, markR_len]; omega)) only [runE, mapE, listE, initT_5, initT_6, initT_7, initT_8, resV, oneV, binA, unA, reduceCtorEq, Nat.reduceEqDiff, Nat.reduceAdd, Nat.reduceLT, Nat.reduceLeDiff, Nat.reduceMul, Nat.reduceSub, ↓reduceIte, decide_true, decide_false, Bool.true_eq_false, Bool.false_eq_true, Bool.not_true, Bool.not_false, if_true, if_false, and_true, true_and, memE, celE, w64, Nat.zero_add, Nat.add_zero, Nat.mul_one, putL, and_self, ldn]
    try simp only [List.append_assoc, List.cons_append, List.nil_append, List.append_nil]
    exact ⟨_, rfl, by (repeat (first | exact noRo_nil | assumption | apply noRo_own | apply noRo_dead | apply noRo_app)), rfl, by (repeat (first | exact noRo_nil | assumption | apply noRo_own | apply noRo_dead | apply noRo_app))⟩
theorem l7Echelon_rc (m : Mem) (v : Value) (c : Ch) (s : Nat) (z : Int) (hz : z = s) (h : ChA m v c) (hg : GoodCh c) (hs : s < c.hold.length) : RC Try.prog 75 [v, .int .i64 z] m (AnsV (.int .i64 (c.ech s))) := by
  subst hz
  refine rc_of_run mixed ok_spec_l7Echelon (by simp) (go_start _ _ _ ?_)
  obtain ⟨a, b, d, rfl, ha, hb, hd⟩ := h.ro
  have hd1 := hd.ext [⟨.own, 26, [a, b, d]⟩]
  have bd := fun k => getD_bound (m := 9) (by omega) hg.hold k
  have lh := hg.lh
  have l3 := hg.s3
  have hX := (Ext.refl m).one 26 [a, b, d]
  unfold Ch.ech
  by_cases e : s = 0
  · subst e
    have e1 : (((0 : Nat) : Int) == 0) = true := by decide
    have z0 : ((0 : Nat) : Int) = 0 := rfl
    have a0 := hd.at_ 0 hs
    rw [z0] at a0
    simp (config := {implicitDefEqProofs := false, maxDischargeDepth := 20}) (disch := first | omega | (simp only [lenE]; done) | (simp only [lenE]; omega) | rfl | (simp only [lenE, markR_len]; done) | (simp only [lenE, markR_len]; omega)) only [runE, mapE, listE, initT_5, initT_6, initT_7, initT_8, resV, oneV, binA, unA, reduceCtorEq, Nat.reduceEqDiff, Nat.reduceAdd, Nat.reduceLT, Nat.reduceLeDiff, Nat.reduceMul, Nat.reduceSub, ↓reduceIte, decide_true, decide_false, Bool.true_eq_false, Bool.false_eq_true, Bool.not_true, Bool.not_false, if_true, if_false, and_true, true_and, memE, celE, w64, Nat.zero_add, Nat.add_zero, Nat.mul_one, putL, and_self, ldn, c_spec_l7Echelon, r_spec_l7Echelon, e1, a0, hd1.ld 0 hs]
    exact ext_ansV hX rfl
  · have e1 : ((s : Int) == 0) = false := by rw [beq_eq_false_iff_ne]; omega
    obtain ⟨j, hj⟩ : ∃ j : Nat, s = j + 1 := ⟨s - 1, by omega⟩
    subst hj
    have e2 : ((j + 1 : Nat) : Int) - 1 = ((j : Nat) : Int) := by omega
    have b1 := bd (j + 1)
    have b2 := bd j
    simp (config := {implicitDefEqProofs := false, maxDischargeDepth := 20}) (disch := first | omega | (simp only [lenE]; done) | (simp only [lenE]; omega) | rfl | (simp only [lenE, markR_len]; done) | (simp only [lenE, markR_len]; omega)) only [runE, mapE, listE, initT_5, initT_6, initT_7, initT_8, resV, oneV, binA, unA, reduceCtorEq, Nat.reduceEqDiff, Nat.reduceAdd, Nat.reduceLT, Nat.reduceLeDiff, Nat.reduceMul, Nat.reduceSub, ↓reduceIte, decide_true, decide_false, Bool.true_eq_false, Bool.false_eq_true, Bool.not_true, Bool.not_false, if_true, if_false, and_true, true_and, memE, celE, w64, Nat.zero_add, Nat.add_zero, Nat.mul_one, putL, and_self, ldn, c_spec_l7Echelon, r_spec_l7Echelon, e1, hd.at_ (j + 1) hs, hd1.ld (j + 1) hs, e2, hd.at_ j (by omega), hd1.ld j (by omega)]
    refine ext_ansV hX ?_
    rfl
theorem echelonHold_rc (m : Mem) (v : Value) (c : Ch) (s : Nat) (z : Int) (hz : z = s) (h : ChA m v c) (hg : GoodCh c) (hs : s < c.hold.length) : RC Try.prog 103 [v, .int .i64 z] m (AnsV (.int .i64 (c.ech s))) := by
  subst hz
  refine rc_of_run mixed ok_impl_echelonHold (by simp) (go_start _ _ _ ?_)
  obtain ⟨a, b, d, rfl, ha, hb, hd⟩ := h.ro
  have hd1 := hd.ext [⟨.own, 26, [a, b, d]⟩]
  have bd := fun k => getD_bound (m := 9) (by omega) hg.hold k
  have lh := hg.lh
  have l3 := hg.s3
  have hX := (Ext.refl m).one 26 [a, b, d]
  unfold Ch.ech
  by_cases e : s = 0
  · subst e
    have e1 : (((0 : Nat) : Int) == 0) = true := by decide
    have z0 : ((0 : Nat) : Int) = 0 := rfl
    have a0 := hd.at_ 0 hs
    rw [z0] at a0
    simp (config := {implicitDefEqProofs := false, maxDischargeDepth := 20}) (disch := first | omega | (simp only [lenE]; done) | (simp only [lenE]; omega) | rfl | (simp only [lenE, markR_len]; done) | (simp only [lenE, markR_len]; omega)) only [runE, mapE, listE, initT_5, initT_6, initT_7, initT_8, resV, oneV, binA, unA, reduceCtorEq, Nat.reduceEqDiff, Nat.reduceAdd, Nat.reduceLT, Nat.reduceLeDiff, Nat.reduceMul, Nat.reduceSub, ↓reduceIte, decide_true, decide_false, Bool.true_eq_false, Bool.false_eq_true, Bool.not_true, Bool.not_false, if_true, if_false, and_true, true_and, memE, celE, w64, Nat.zero_add, Nat.add_zero, Nat.mul_one, putL, and_self, ldn, c_impl_echelonHold, r_impl_echelonHold, e1, a0, hd1.ld 0 hs]
    exact ext_ansV hX rfl
  · have e1 : ((s : Int) == 0) = false := by rw [beq_eq_false_iff_ne]; omega
    obtain ⟨j, hj⟩ : ∃ j : Nat, s = j + 1 := ⟨s - 1, by omega⟩
    subst hj
    have e2 : ((j + 1 : Nat) : Int) - 1 = ((j : Nat) : Int) := by omega
    have b1 := bd (j + 1)
    have b2 := bd j
    simp (config := {implicitDefEqProofs := false, maxDischargeDepth := 20}) (disch := first | omega | (simp only [lenE]; done) | (simp only [lenE]; omega) | rfl | (simp only [lenE, markR_len]; done) | (simp only [lenE, markR_len]; omega)) only [runE, mapE, listE, initT_5, initT_6, initT_7, initT_8, resV, oneV, binA, unA, reduceCtorEq, Nat.reduceEqDiff, Nat.reduceAdd, Nat.reduceLT, Nat.reduceLeDiff, Nat.reduceMul, Nat.reduceSub, ↓reduceIte, decide_true, decide_false, Bool.true_eq_false, Bool.false_eq_true, Bool.not_true, Bool.not_false, if_true, if_false, and_true, true_and, memE, celE, w64, Nat.zero_add, Nat.add_zero, Nat.mul_one, putL, and_self, ldn, c_impl_echelonHold, r_impl_echelonHold, e1, hd.at_ (j + 1) hs, hd1.ld (j + 1) hs, e2, hd.at_ j (by omega), hd1.ld j (by omega)]
    refine ext_ansV hX ?_
    rfl
end Go.Proofs.Ytamhhicnfpemeaa.Ab
end
section
namespace Go.Proofs.Ytamhhicnfpemeaa.Ab
open Go Go.RowKit
set_option linter.unusedVariables false
set_option linter.unusedSimpArgs false
theorem Ext.of {m M : Mem} (h1 : m.length ≤ M.length) (h2 : ∀ i, i < m.length → M[i]? = (roM m)[i]?) (h3 : ∀ (i : Nat) (k : Blk), m.length ≤ i → M[i]? = some k → k.kd ≠ .ro) : Ext m M := by
  refine ⟨M.drop m.length, ?_, ?_⟩
  · apply List.ext_getElem?
    intro i
    by_cases hi : i < m.length
    · rw [h2 i hi, List.getElem?_append_left (by rw [roM_len]; exact hi)]
    · rw [List.getElem?_append_right (by rw [roM_len]; omega), List.getElem?_drop, roM_len]; congr 1; omega
  · intro b hb
    obtain ⟨i, hi⟩ := List.mem_iff_getElem?.1 hb
    rw [List.getElem?_drop] at hi
    exact h3 _ b (by omega) hi
theorem Ext.ids {m M : Mem} (h : Ext m M) : m.length ≤ M.length ∧ (∀ i, i < m.length → M[i]? = (roM m)[i]?) ∧ ∀ (i : Nat) (k : Blk), m.length ≤ i → M[i]? = some k → k.kd ≠ .ro := by
  have hl := h.len
  obtain ⟨n0, rfl, h0⟩ := h
  refine ⟨hl, fun i hi => by rw [List.getElem?_append_left (by rw [roM_len]; exact hi)], fun i k hi hk => ?_⟩
  rw [List.getElem?_append_right (by rw [roM_len]; exact hi)] at hk
  exact h0 k (List.mem_of_getElem? hk)
theorem KC.step {m M : Mem} {b lo : Nat} {vs : Nat → Value} {ls : Nat → List Int} {rs : Nat → Nat} (h : KC M b lo vs ls rs) (hX : Ext m M) (hml : m.length ≤ lo) {o : Nat} (ho : o < 4) (hl : (ls o).length ≤ 1000) (x : Int) : ∃ M1 M2 vs' ls' rs',
    appP (M ++ [⟨.own, 3, [.int .i64 x]⟩]) 3 1 8 (vs o) (.slice (some ⟨M.length, 0, none⟩) 1 1) = some (.slice (some ⟨M.length + 1, 0, none⟩) ((ls o).length + 1) 1, M1) ∧
    stA M1 b o [.slice (some ⟨M.length + 1, 0, none⟩) ((ls o).length + 1) 1] = some M2 ∧
    KC M2 b lo vs' ls' rs' ∧ Ext m M2 ∧ (∀ i, i ≠ o → vs' i = vs i ∧ ls' i = ls i) ∧ ls' o = ls o ++ [x] ∧ (∀ i, i < lo → M2[i]? = M[i]?) := by
  obtain ⟨M1, M2, a1, a2, a3, a4, a5, a6⟩ := h.app ho hl x
  obtain ⟨e1, e2, e3⟩ := hX.ids
  have hb := (List.getElem?_eq_some_iff.1 h.box).1
  have hlo := h.lob
  refine ⟨M1, M2, _, _, _, a1, a2, a3, ?_, fun i hi => ⟨by simp [up4, hi], by simp [up4, hi]⟩, by simp [up4], a5⟩
  refine Ext.of (by omega) (fun i hi => by rw [a5 i (by omega)]; exact e2 i hi) fun i k hi hk => ?_
  by_cases hil : i < lo
  · rw [a5 i hil] at hk; exact e3 i k hi hk
  · exact a6 (fun i k hi hk => e3 i k (by omega) hk) i k (by omega) hk
theorem KC.rd {M : Mem} {b lo : Nat} {vs : Nat → Value} {ls : Nat → List Int} {rs : Nat → Nat} (h : KC M b lo vs ls rs) (k : Nat) : rdc M b k = [vs 0, vs 1, vs 2, vs 3][k]? := by
  have := h.box
  simp [rdc, this]
theorem KC.ones {M : Mem} {b lo : Nat} {vs : Nat → Value} {ls : Nat → List Int} {rs : Nat → Nat} (h : KC M b lo vs ls rs) : onesB [vs 0, vs 1, vs 2, vs 3] = true := by
  have hv : ∀ i, i < 4 → ∃ a n c, vs i = .slice a n c := fun i hi => by
    rcases h.row i hi with ⟨h1, _⟩ | ⟨h1, _⟩ <;> exact ⟨_, _, _, h1⟩
  obtain ⟨a0, n0, c0, e0⟩ := hv 0 (by omega)
  obtain ⟨a1, n1, c1, e1⟩ := hv 1 (by omega)
  obtain ⟨a2, n2, c2, e2⟩ := hv 2 (by omega)
  obtain ⟨a3, n3, c3, e3⟩ := hv 3 (by omega)
  rw [e0, e1, e2, e3]
  rfl
theorem KC.obj {M M' : Mem} {b lo lo' hi : Nat} {vs : Nat → Value} {ls : Nat → List Int} {rs : Nat → Nat} {k : Cs} {n : Nat} (h : KC M b lo vs ls rs) (h0 : ls 0 = k.need) (h1 : ls 1 = k.setup) (h2 : ls 2 = k.unit) (h3 : ls 3 = k.hold) (hn : k.need.length = n ∧ k.setup.length = n ∧ k.unit.length = n ∧ k.hold.length = n) (hn2 : n ≤ 1000) (hlo : lo' ≤ lo) (hhi : M.length ≤ hi) (hs : ∀ i, lo ≤ i → i < M.length → i ≠ b → M'[i]? = M[i]?) :
    CaseO k lo' hi M' (.agg #[vs 0, vs 1, vs 2, vs 3]) := by
  obtain ⟨n1, n2, n3, n4⟩ := hn
  have sm : k.small := ⟨by omega, by omega, by omega, by omega⟩
  by_cases hz : n = 0
  · subst hz
    have e : ∀ i, i < 4 → ls i = [] → vs i = .slice none 0 0 := fun i hi he => by
      rcases h.row i hi with ⟨h1, _⟩ | ⟨_, h2, _⟩
      · exact h1
      · exact absurd he h2
    have z0 := List.eq_nil_of_length_eq_zero n1
    have z1 := List.eq_nil_of_length_eq_zero n2
    have z2 := List.eq_nil_of_length_eq_zero n3
    have z3 := List.eq_nil_of_length_eq_zero n4
    refine ⟨sm, .inl ⟨?_, ?_⟩⟩
    · obtain ⟨a, b, c, d⟩ := k
      simp only at z0 z1 z2 z3
      rw [z0, z1, z2, z3]
    · rw [e 0 (by omega) (by rw [h0, z0]), e 1 (by omega) (by rw [h1, z1]), e 2 (by omega) (by rw [h2, z2]), e 3 (by omega) (by rw [h3, z3])]
  · have ne : ∀ i, i < 4 → (ls i).length = n → ls i ≠ [] := fun i hi he h => by rw [h] at he; simp at he; omega
    have l0 : (ls 0).length = n := by rw [h0]; exact n1
    have l1 : (ls 1).length = n := by rw [h1]; exact n2
    have l2 : (ls 2).length = n := by rw [h2]; exact n3
    have l3 : (ls 3).length = n := by rw [h3]; exact n4
    have row : ∀ i, i < 4 → (ls i).length = n → vs i = .slice (some ⟨rs i, 0, none⟩) (ls i).length 1 ∧ lo ≤ rs i ∧ rs i < M.length ∧ OwnR M' (rs i) (ls i) := fun i hi he => by
      have hne := ne i hi he
      rcases h.row i hi with ⟨_, h2⟩ | ⟨a, _, c⟩
      · exact absurd h2 hne
      · have g := h.ge i hi hne
        exact ⟨a, g.1, c.lt, c.at_ (hs _ g.1 c.lt g.2)⟩
    obtain ⟨a0, b0, c0, d0⟩ := row 0 (by omega) l0
    obtain ⟨a1, b1, c1, d1⟩ := row 1 (by omega) l1
    obtain ⟨a2, b2, c2, d2⟩ := row 2 (by omega) l2
    obtain ⟨a3, b3, c3, d3⟩ := row 3 (by omega) l3
    have nn := fun i j hi hj hij (ei : (ls i).length = n) (ej : (ls j).length = n) => h.ne i j hi hj hij (ne i hi ei) (ne j hj ej)
    rw [h0] at a0 d0
    rw [h1] at a1 d1
    rw [h2] at a2 d2
    rw [h3] at a3 d3
    refine ⟨sm, .inr ⟨rs 0, rs 1, rs 2, rs 3, 1, 1, 1, 1, by rw [a0, a1, a2, a3], by omega, by omega, by omega, by omega, ⟨nn 0 1 (by omega) (by omega) (by omega) l0 l1, nn 0 2 (by omega) (by omega) (by omega) l0 l2, nn 0 3 (by omega) (by omega) (by omega) l0 l3, nn 1 2 (by omega) (by omega) (by omega) l1 l2, nn 1 3 (by omega) (by omega) (by omega) l1 l3, nn 2 3 (by omega) (by omega) (by omega) l2 l3⟩, d0, d1, d2, d3⟩⟩
theorem bld_none4 : bldA [.slice none 0 0, .slice none 0 0, .slice none 0 0, .slice none 0 0] [] = some (.agg #[.slice none 0 0, .slice none 0 0, .slice none 0 0, .slice none 0 0]) := rfl
theorem replicate_snoc {α : Type} (n : Nat) (x : α) : List.replicate (n + 1) x = List.replicate n x ++ [x] := List.replicate_succ'
theorem l7Case_rc (m : Mem) (v : Value) (need : List Int) (set hold : Int) (h : IntsA m v need) (hl : need.length ≤ 8) : RC Try.prog 74 [v, .int .i64 set, .int .i64 hold] m (AnsO m (CaseO (evenC need set hold)) id) := by
  refine rc_of_run mixed ok_spec_l7Case (by simp) (go_start _ _ _ ?_)
  have hr := h.ro
  simp (config := {implicitDefEqProofs := false, maxDischargeDepth := 20}) (disch := first | omega | (simp only [lenE]; done) | (simp only [lenE]; omega) | rfl | (simp only [lenE, markR_len]; done) | (simp only [lenE, markR_len]; omega)) only [runE, mapE, listE, initT_5, initT_6, initT_7, initT_8, resV, oneV, binA, unA, reduceCtorEq, Nat.reduceEqDiff, Nat.reduceAdd, Nat.reduceLT, Nat.reduceLeDiff, Nat.reduceMul, Nat.reduceSub, ↓reduceIte, decide_true, decide_false, Bool.true_eq_false, Bool.false_eq_true, Bool.not_true, Bool.not_false, if_true, if_false, and_true, true_and, memE, celE, w64, Nat.zero_add, Nat.add_zero, Nat.mul_one, putL, and_self, ldn, c_spec_l7Case, r_spec_l7Case, bld_none4]
  have hX0 := ((Ext.refl m).one 30 [.slice none 0 0, .slice none 0 0, .slice none 0 0, .slice none 0 0]).one 30 [.slice none 0 0, .slice none 0 0, .slice none 0 0, .slice none 0 0]
  have hb0 : OwnB (roM m ++ [⟨.own, 30, [.slice none 0 0, .slice none 0 0, .slice none 0 0, .slice none 0 0]⟩] ++ [⟨.own, 30, [.slice none 0 0, .slice none 0 0, .slice none 0 0, .slice none 0 0]⟩]) m.length 30 [.slice none 0 0, .slice none 0 0, .slice none 0 0, .slice none 0 0] := (OwnB.here (roM_len m).symm).ext _
  have hk0 : KC (roM m ++ [⟨.own, 30, [.slice none 0 0, .slice none 0 0, .slice none 0 0, .slice none 0 0]⟩] ++ [⟨.own, 30, [.slice none 0 0, .slice none 0 0, .slice none 0 0, .slice none 0 0]⟩]) (m.length + 1) (m.length + 1) (fun _ => .slice none 0 0) (fun _ => []) (fun _ => 0) :=
    ⟨OwnB.here (by simp [roM_len]), Nat.le_refl _, fun i hi => .inl ⟨rfl, rfl⟩, fun i hi hne => absurd rfl hne, fun i j hi hj hij hne => absurd rfl hne⟩
  refine loop_inv mixed (fun s => ∃ (t : Nat) (M : Mem) (vs : Nat → Value) (ls : Nat → List Int) (rs : Nat → Nat), t ≤ need.length ∧ s.m = M ∧ Ext m M ∧ OwnB M m.length 30 [.slice none 0 0, .slice none 0 0, .slice none 0 0, .slice none 0 0] ∧ KC M (m.length + 1) (m.length + 1) vs ls rs ∧ ls 0 = need.take t ∧ ls 1 = List.replicate t set ∧ ls 2 = List.replicate t 0 ∧ ls 3 = List.replicate t hold ∧
      s.t 0 = v ∧ s.t 1 = .int .i64 set ∧ s.t 2 = .int .i64 hold ∧ s.t 6 = .pointer (some ⟨m.length, 0, none⟩) ∧ s.t 7 = .pointer (some ⟨m.length + 1, 0, none⟩) ∧ s.t 8 = .int .i64 (t : Int)) (fun s => need.length - (intOf (s.t 8)).toNat)
    ⟨0, _, _, _, _, by omega, rfl, hX0, hb0, hk0, rfl, rfl, rfl, rfl, rfl, rfl, rfl, rfl, rfl, rfl⟩ ?_
  rintro s ⟨t, M, vs, ls, rs, ht, tm, hX, hbx, hK, l0, l1, l2, l3, t0, t1, t2, t6, t7, t8⟩
  have hi := hX.ints hr
  by_cases hlt : t < need.length
  · have hlt' : (t : Int) < need.length := by omega
    obtain ⟨A1, B1, vs1, ls1, rs1, p1, q1, K1, X1, e1, f1, g1⟩ := hK.step hX (by omega) (o := 0) (by omega) (by rw [l0, List.length_take]; omega) (need.getD t 0)
    obtain ⟨A2, B2, vs2, ls2, rs2, p2, q2, K2, X2, e2, f2, g2⟩ := K1.step X1 (by omega) (o := 1) (by omega) (by rw [(e1 1 (by omega)).2, l1]; simp; omega) set
    obtain ⟨A3, B3, vs3, ls3, rs3, p3, q3, K3, X3, e3, f3, g3⟩ := K2.step X2 (by omega) (o := 2) (by omega) (by rw [(e2 2 (by omega)).2, (e1 2 (by omega)).2, l2]; simp; omega) 0
    obtain ⟨A4, B4, vs4, ls4, rs4, p4, q4, K4, X4, e4, f4, g4⟩ := K3.step X3 (by omega) (o := 3) (by omega) (by rw [(e3 3 (by omega)).2, (e2 3 (by omega)).2, (e1 3 (by omega)).2, l3]; simp; omega) hold
    simp (config := {implicitDefEqProofs := false, maxDischargeDepth := 20}) (disch := first | omega | (simp only [lenE]; done) | (simp only [lenE]; omega) | rfl | (simp only [lenE, markR_len]; done) | (simp only [lenE, markR_len]; omega)) only [runE, mapE, listE, initT_5, initT_6, initT_7, initT_8, resV, oneV, binA, unA, reduceCtorEq, Nat.reduceEqDiff, Nat.reduceAdd, Nat.reduceLT, Nat.reduceLeDiff, Nat.reduceMul, Nat.reduceSub, ↓reduceIte, decide_true, decide_false, Bool.true_eq_false, Bool.false_eq_true, Bool.not_true, Bool.not_false, if_true, if_false, and_true, true_and, memE, celE, w64, Nat.zero_add, Nat.add_zero, Nat.mul_one, putL, and_self, ldn, tm, t0, t1, t2, t6, t7, t8, hr.len, hlt', hi.at_ t hlt, hi.ld t hlt, hK.rd, bsl_one, p1, q1]
    simp (config := {implicitDefEqProofs := false, maxDischargeDepth := 20}) (disch := first | omega | (simp only [lenE]; done) | (simp only [lenE]; omega) | rfl | (simp only [lenE, markR_len]; done) | (simp only [lenE, markR_len]; omega)) only [runE, mapE, listE, initT_5, initT_6, initT_7, initT_8, resV, oneV, binA, unA, reduceCtorEq, Nat.reduceEqDiff, Nat.reduceAdd, Nat.reduceLT, Nat.reduceLeDiff, Nat.reduceMul, Nat.reduceSub, ↓reduceIte, decide_true, decide_false, Bool.true_eq_false, Bool.false_eq_true, Bool.not_true, Bool.not_false, if_true, if_false, and_true, true_and, memE, celE, w64, Nat.zero_add, Nat.add_zero, Nat.mul_one, putL, and_self, ldn, K1.rd, p2, q2, bsl_one, t0, t1, t2, t6, t7, t8]
    simp (config := {implicitDefEqProofs := false, maxDischargeDepth := 20}) (disch := first | omega | (simp only [lenE]; done) | (simp only [lenE]; omega) | rfl | (simp only [lenE, markR_len]; done) | (simp only [lenE, markR_len]; omega)) only [runE, mapE, listE, initT_5, initT_6, initT_7, initT_8, resV, oneV, binA, unA, reduceCtorEq, Nat.reduceEqDiff, Nat.reduceAdd, Nat.reduceLT, Nat.reduceLeDiff, Nat.reduceMul, Nat.reduceSub, ↓reduceIte, decide_true, decide_false, Bool.true_eq_false, Bool.false_eq_true, Bool.not_true, Bool.not_false, if_true, if_false, and_true, true_and, memE, celE, w64, Nat.zero_add, Nat.add_zero, Nat.mul_one, putL, and_self, ldn, K2.rd, p3, q3, bsl_one, t0, t1, t2, t6, t7, t8]
    simp (config := {implicitDefEqProofs := false, maxDischargeDepth := 20}) (disch := first | omega | (simp only [lenE]; done) | (simp only [lenE]; omega) | rfl | (simp only [lenE, markR_len]; done) | (simp only [lenE, markR_len]; omega)) only [runE, mapE, listE, initT_5, initT_6, initT_7, initT_8, resV, oneV, binA, unA, reduceCtorEq, Nat.reduceEqDiff, Nat.reduceAdd, Nat.reduceLT, Nat.reduceLeDiff, Nat.reduceMul, Nat.reduceSub, ↓reduceIte, decide_true, decide_false, Bool.true_eq_false, Bool.false_eq_true, Bool.not_true, Bool.not_false, if_true, if_false, and_true, true_and, memE, celE, w64, Nat.zero_add, Nat.add_zero, Nat.mul_one, putL, and_self, ldn, K3.rd, p4, q4, bsl_one, t0, t1, t2, t6, t7, t8]
    refine ⟨⟨t + 1, B4, _, _, _, by omega, rfl, X4, hbx.at_ (by rw [g4 _ (by omega), g3 _ (by omega), g2 _ (by omega), g1 _ (by omega)]), K4, ?_, ?_, ?_, ?_, by simp⟩, ?_⟩
    · rw [(e4 0 (by omega)).2, (e3 0 (by omega)).2, (e2 0 (by omega)).2, f1, l0, take_next hlt]
    · rw [(e4 1 (by omega)).2, (e3 1 (by omega)).2, f2, (e1 1 (by omega)).2, l1, replicate_snoc]
    · rw [(e4 2 (by omega)).2, f3, (e2 2 (by omega)).2, (e1 2 (by omega)).2, l2, replicate_snoc]
    · rw [f4, (e3 3 (by omega)).2, (e2 3 (by omega)).2, (e1 3 (by omega)).2, l3, replicate_snoc]
    · simp [intOf]; omega
  · have hlt' : ¬ ((t : Int) < need.length) := by omega
    have e : t = need.length := by omega
    subst e
    have st := hbx.st (off := 0) (vs := [vs 0, vs 1, vs 2, vs 3]) (by simp) hK.ones
    have hs := hbx.set_self 30 [vs 0, vs 1, vs 2, vs 3]
    simp (config := {implicitDefEqProofs := false, maxDischargeDepth := 20}) (disch := first | omega | (simp only [lenE]; done) | (simp only [lenE]; omega) | rfl | (simp only [lenE, markR_len]; done) | (simp only [lenE, markR_len]; omega)) only [runE, mapE, listE, initT_5, initT_6, initT_7, initT_8, resV, oneV, binA, unA, reduceCtorEq, Nat.reduceEqDiff, Nat.reduceAdd, Nat.reduceLT, Nat.reduceLeDiff, Nat.reduceMul, Nat.reduceSub, ↓reduceIte, decide_true, decide_false, Bool.true_eq_false, Bool.false_eq_true, Bool.not_true, Bool.not_false, if_true, if_false, and_true, true_and, memE, celE, w64, Nat.zero_add, Nat.add_zero, Nat.mul_one, putL, and_self, ldn, tm, t0, t1, t2, t6, t7, t8, hr.len, hlt', hK.rd, st, hs.rd]
    refine ext_ansO (f := _root_.id) (hX.put (Nat.le_refl _) _ _) fun M' hM => ?_
    refine hK.obj (k := evenC need set hold) (n := need.length) (by rw [l0, List.take_of_length_le (Nat.le_refl _)]; rfl) (by rw [l1]; rfl) (by rw [l2]; rfl) (by rw [l3]; rfl) (by simp [evenC]) (by omega) (by omega) (by simp) fun i h1 h2 h3 => ?_
    rw [hM i (by omega) (by simpa using h2), List.getElem?_set_ne (by omega)]
theorem steady1_rc (m : Mem) (x : Int) (id : Nat) (v : Value) (need : List Int) (hb : rdc m id 0 = some v) (h : IntsA m v need) (hl : need.length ≤ 8) : RC Try.prog 120 [.int .i64 x, .pointer (some ⟨id, 0, none⟩)] m (AnsR m (List.replicate need.length x)) := by
  refine rc_of_run mixed ok_impl_steadyCase_1 (by simp) (go_start _ _ _ ?_)
  have hr := h.ro
  have hb' : rdc (roM m) id 0 = some v := by rw [rdc_roM]; exact hb
  have hid := rdc_blk2 hb'
  simp (config := {implicitDefEqProofs := false, maxDischargeDepth := 20}) (disch := first | omega | (simp only [lenE]; done) | (simp only [lenE]; omega) | rfl | (simp only [lenE, markR_len]; done) | (simp only [lenE, markR_len]; omega)) only [runE, mapE, listE, initT_5, initT_6, initT_7, initT_8, resV, oneV, binA, unA, reduceCtorEq, Nat.reduceEqDiff, Nat.reduceAdd, Nat.reduceLT, Nat.reduceLeDiff, Nat.reduceMul, Nat.reduceSub, ↓reduceIte, decide_true, decide_false, Bool.true_eq_false, Bool.false_eq_true, Bool.not_true, Bool.not_false, if_true, if_false, and_true, true_and, memE, celE, w64, Nat.zero_add, Nat.add_zero, Nat.mul_one, putL, and_self, ldn, c_impl_steadyCase_1, r_impl_steadyCase_1, bsl_one, hb', hr.len]
  have ho := OwnR.end' (m := roM m) (l := [x]) (id := m.length) (roM_len m).symm
  have hi := ho.ints (by simp) 1
  refine callH_rc (repeat_rc _ _ x need.length hi hl) ?_
  intro r new hA
  obtain ⟨rid, fl, rfl, hge, hown, hle, nr⟩ := hA.row
  simp (config := {implicitDefEqProofs := false, maxDischargeDepth := 20}) (disch := first | omega | (simp only [lenE]; done) | (simp only [lenE]; omega) | rfl | (simp only [lenE, markR_len]; done) | (simp only [lenE, markR_len]; omega)) only [runE, mapE, listE, initT_5, initT_6, initT_7, initT_8, resV, oneV, binA, unA, reduceCtorEq, Nat.reduceEqDiff, Nat.reduceAdd, Nat.reduceLT, Nat.reduceLeDiff, Nat.reduceMul, Nat.reduceSub, ↓reduceIte, decide_true, decide_false, Bool.true_eq_false, Bool.false_eq_true, Bool.not_true, Bool.not_false, if_true, if_false, and_true, true_and, memE, celE, w64, Nat.zero_add, Nat.add_zero, Nat.mul_one, putL, and_self, ldn]
  rw [List.length_append, roM_len] at hge
  exact ext_ansR (((Ext.refl m).one _ _).app nr) hown (by omega) rfl hle
theorem IntsA.cellsOne {m : Mem} {u : Value} {l : List Int} (h : IntsA m u l) : u.cells = #[u] := by
  rcases h.form with ⟨rfl, _⟩ | ⟨i, o, fl, rfl⟩ <;> rfl
theorem bld_four (i1 i2 i3 i4 : Option Addr) (n1 n2 n3 n4 c1 c2 c3 c4 : Nat) :
    bldA [.slice none 0 0, .slice none 0 0, .slice none 0 0, .slice none 0 0] [(0, 1, .slice i1 n1 c1), (1, 1, .slice i2 n2 c2), (2, 1, .slice i3 n3 c3), (3, 1, .slice i4 n4 c4)] = some (.agg #[.slice i1 n1 c1, .slice i2 n2 c2, .slice i3 n3 c3, .slice i4 n4 c4]) := rfl
theorem steadyCase_rc (m : Mem) (v : Value) (need : List Int) (set hold : Int) (h : IntsA m v need) (hl : need.length ≤ 8) : RC Try.prog 82 [v, .int .i64 set, .int .i64 hold] m (AnsO m (CaseO (evenC need set hold)) id) := by
  refine rc_of_run mixed ok_impl_steadyCase (by simp) (go_start _ _ _ ?_)
  have hr := h.ro
  have hcl : v.cells.toList = [v] := by rw [hr.cellsOne]
  obtain ⟨M0, hM0⟩ : ∃ M0, M0 = roM m ++ [⟨.own, 24, [v]⟩] ++ [⟨.own, 30, [.slice none 0 0, .slice none 0 0, .slice none 0 0, .slice none 0 0]⟩] := ⟨_, rfl⟩
  have L0 : M0.length = m.length + 2 := by rw [hM0]; simp [roM_len]
  have hX0 : Ext m M0 := by rw [hM0]; exact ((Ext.refl m).one _ _).one _ _
  have b3 : OwnB M0 m.length 24 [v] := by rw [hM0]; exact (OwnB.here (roM_len m).symm).ext _
  have b6 : OwnB M0 (m.length + 1) 30 [.slice none 0 0, .slice none 0 0, .slice none 0 0, .slice none 0 0] := by rw [hM0]; exact OwnB.here (by simp [roM_len])
  have hap := app_own (M := M0) (hX0.ints hr) (by omega)
  rw [L0] at hap
  simp (config := {implicitDefEqProofs := false, maxDischargeDepth := 20}) (disch := first | omega | (simp only [lenE]; done) | (simp only [lenE]; omega) | rfl | (simp only [lenE, markR_len]; done) | (simp only [lenE, markR_len]; omega)) only [runE, mapE, listE, initT_5, initT_6, initT_7, initT_8, resV, oneV, binA, unA, reduceCtorEq, Nat.reduceEqDiff, Nat.reduceAdd, Nat.reduceLT, Nat.reduceLeDiff, Nat.reduceMul, Nat.reduceSub, ↓reduceIte, decide_true, decide_false, Bool.true_eq_false, Bool.false_eq_true, Bool.not_true, Bool.not_false, if_true, if_false, and_true, true_and, memE, celE, w64, Nat.zero_add, Nat.add_zero, Nat.mul_one, putL, and_self, ldn, c_impl_steadyCase, r_impl_steadyCase, hcl, bsl_none']
  rw [← hM0]
  have o1 : OwnR (M0 ++ [deadB] ++ [⟨.own, 3, need.map (Value.int .i64)⟩]) (m.length + 2 + 1) need := OwnR.end' (by simp [L0])
  have hX1 : Ext m (M0 ++ [deadB] ++ [⟨.own, 3, need.map (Value.int .i64)⟩]) := (hX0.app (noRo_dead noRo_nil)).one _ _
  replace b3 := (b3.ext [deadB]).ext [⟨.own, 3, need.map (Value.int .i64)⟩]
  replace b6 := (b6.ext [deadB]).ext [⟨.own, 3, need.map (Value.int .i64)⟩]
  obtain ⟨M1, hM1⟩ : ∃ M1, M1 = M0 ++ [deadB] ++ [⟨.own, 3, need.map (Value.int .i64)⟩] := ⟨_, rfl⟩
  have L1 : M1.length = m.length + 4 := by rw [hM1]; simp [L0]
  rw [← hM1] at hap o1 hX1 b3 b6
  simp (config := {implicitDefEqProofs := false, maxDischargeDepth := 20}) (disch := first | omega | (simp only [lenE]; done) | (simp only [lenE]; omega) | rfl | (simp only [lenE, markR_len]; done) | (simp only [lenE, markR_len]; omega)) only [runE, mapE, listE, initT_5, initT_6, initT_7, initT_8, resV, oneV, binA, unA, reduceCtorEq, Nat.reduceEqDiff, Nat.reduceAdd, Nat.reduceLT, Nat.reduceLeDiff, Nat.reduceMul, Nat.reduceSub, ↓reduceIte, decide_true, decide_false, Bool.true_eq_false, Bool.false_eq_true, Bool.not_true, Bool.not_false, if_true, if_false, and_true, true_and, memE, celE, w64, Nat.zero_add, Nat.add_zero, Nat.mul_one, putL, and_self, ldn, hap]
  refine callH_rc (steady1_rc _ set m.length v need (by rw [b3.rd]; rfl) (hX1.ints hr) hl) ?_
  intro r n1 hA
  obtain ⟨r1, f1, rfl, g1, w1, k1, nr1⟩ := hA.row
  have hX2 := hX1.app nr1
  replace b3 := b3.ext n1
  replace b6 := b6.ext n1
  replace o1 := o1.ext n1
  obtain ⟨M2, hM2⟩ : ∃ M2, M2 = M1 ++ n1 := ⟨_, rfl⟩
  have L2 : M2.length = M1.length + n1.length := by rw [hM2]; simp
  rw [← hM2] at hX2 b3 b6 o1 w1 ⊢
  simp (config := {implicitDefEqProofs := false, maxDischargeDepth := 20}) (disch := first | omega | (simp only [lenE]; done) | (simp only [lenE]; omega) | rfl | (simp only [lenE, markR_len]; done) | (simp only [lenE, markR_len]; omega)) only [runE, mapE, listE, initT_5, initT_6, initT_7, initT_8, resV, oneV, binA, unA, reduceCtorEq, Nat.reduceEqDiff, Nat.reduceAdd, Nat.reduceLT, Nat.reduceLeDiff, Nat.reduceMul, Nat.reduceSub, ↓reduceIte, decide_true, decide_false, Bool.true_eq_false, Bool.false_eq_true, Bool.not_true, Bool.not_false, if_true, if_false, and_true, true_and, memE, celE, w64, Nat.zero_add, Nat.add_zero, Nat.mul_one, putL, and_self, ldn]
  refine callH_rc (steady1_rc _ 0 m.length v need (by rw [b3.rd]; rfl) (hX2.ints hr) hl) ?_
  intro r n2 hA
  obtain ⟨r2, f2, rfl, g2, w2, k2, nr2⟩ := hA.row
  have hX3 := hX2.app nr2
  replace b3 := b3.ext n2
  replace b6 := b6.ext n2
  replace o1 := o1.ext n2
  have l1 := w1.lt
  replace w1 := w1.ext n2
  obtain ⟨M3, hM3⟩ : ∃ M3, M3 = M2 ++ n2 := ⟨_, rfl⟩
  have L3 : M3.length = M2.length + n2.length := by rw [hM3]; simp
  rw [← hM3] at hX3 b3 b6 o1 w1 w2 ⊢
  simp (config := {implicitDefEqProofs := false, maxDischargeDepth := 20}) (disch := first | omega | (simp only [lenE]; done) | (simp only [lenE]; omega) | rfl | (simp only [lenE, markR_len]; done) | (simp only [lenE, markR_len]; omega)) only [runE, mapE, listE, initT_5, initT_6, initT_7, initT_8, resV, oneV, binA, unA, reduceCtorEq, Nat.reduceEqDiff, Nat.reduceAdd, Nat.reduceLT, Nat.reduceLeDiff, Nat.reduceMul, Nat.reduceSub, ↓reduceIte, decide_true, decide_false, Bool.true_eq_false, Bool.false_eq_true, Bool.not_true, Bool.not_false, if_true, if_false, and_true, true_and, memE, celE, w64, Nat.zero_add, Nat.add_zero, Nat.mul_one, putL, and_self, ldn]
  refine callH_rc (steady1_rc _ hold m.length v need (by rw [b3.rd]; rfl) (hX3.ints hr) hl) ?_
  intro r n3 hA
  obtain ⟨r3, f3, rfl, g3, w3, k3, nr3⟩ := hA.row
  have hX4 := hX3.app nr3
  have l2 := w2.lt
  replace b6 := b6.ext n3
  replace o1 := o1.ext n3
  replace w1 := w1.ext n3
  replace w2 := w2.ext n3
  obtain ⟨M4, hM4⟩ : ∃ M4, M4 = M3 ++ n3 := ⟨_, rfl⟩
  rw [← hM4] at hX4 b6 o1 w1 w2 w3 ⊢
  have l3 := w3.lt
  have st := b6.st (off := 0) (vs := [.slice (some ⟨m.length + 2 + 1, 0, none⟩) need.length 1, .slice (some ⟨r1, 0, none⟩) (List.replicate need.length set).length f1, .slice (some ⟨r2, 0, none⟩) (List.replicate need.length (0 : Int)).length f2, .slice (some ⟨r3, 0, none⟩) (List.replicate need.length hold).length f3]) (by simp) rfl
  have hs := b6.set_self 30 [.slice (some ⟨m.length + 2 + 1, 0, none⟩) need.length 1, .slice (some ⟨r1, 0, none⟩) (List.replicate need.length set).length f1, .slice (some ⟨r2, 0, none⟩) (List.replicate need.length (0 : Int)).length f2, .slice (some ⟨r3, 0, none⟩) (List.replicate need.length hold).length f3]
  simp (config := {implicitDefEqProofs := false, maxDischargeDepth := 20}) (disch := first | omega | (simp only [lenE]; done) | (simp only [lenE]; omega) | rfl | (simp only [lenE, markR_len]; done) | (simp only [lenE, markR_len]; omega)) only [runE, mapE, listE, initT_5, initT_6, initT_7, initT_8, resV, oneV, binA, unA, reduceCtorEq, Nat.reduceEqDiff, Nat.reduceAdd, Nat.reduceLT, Nat.reduceLeDiff, Nat.reduceMul, Nat.reduceSub, ↓reduceIte, decide_true, decide_false, Bool.true_eq_false, Bool.false_eq_true, Bool.not_true, Bool.not_false, if_true, if_false, and_true, true_and, memE, celE, w64, Nat.zero_add, Nat.add_zero, Nat.mul_one, putL, and_self, ldn, bld_four, st, hs.rd]
  refine ext_ansO (f := _root_.id) (hX4.put (by omega) _ _) fun M' hM => ⟨?_, .inr ⟨m.length + 2 + 1, r1, r2, r3, 1, f1, f2, f3, by rfl, ?_, ?_, ?_, ?_, ?_, ?_, ?_, ?_, ?_⟩⟩
  · simp only [evenC, Cs.small, List.length_replicate]; omega
  · rw [List.length_set]; omega
  · rw [List.length_set]; omega
  · rw [List.length_set]; omega
  · rw [List.length_set]; omega
  · omega
  · exact (o1.set_ne (by omega)).at_ (hM _ (by omega) (by rw [List.length_set]; omega))
  · exact (w1.set_ne (by omega)).at_ (hM _ (by omega) (by rw [List.length_set]; omega))
  · exact (w2.set_ne (by omega)).at_ (hM _ (by omega) (by rw [List.length_set]; omega))
  · exact (w3.set_ne (by omega)).at_ (hM _ (by omega) (by rw [List.length_set]; omega))
end Go.Proofs.Ytamhhicnfpemeaa.Ab
end
section
namespace Go.Proofs.Ytamhhicnfpemeaa.Ab
open Go Go.RowKit
set_option linter.unusedVariables false
set_option linter.unusedSimpArgs false
def _root_.Go.Proofs.Ytamhhicnfpemeaa.Ch.stage (c : Ch) (s : Nat) : Cs := evenC c.need (c.setup.getD s 0) (c.ech s)
theorem CaseO.agg {k : Cs} {lo hi : Nat} {M : Mem} {v : Value} (h : CaseO k lo hi M v) : ∃ v1 v2 v3 v4, v = .agg #[v1, v2, v3, v4] ∧ onesB [v1, v2, v3, v4] = true := by
  obtain ⟨hs, ⟨rfl, rfl⟩ | ⟨i1, i2, i3, i4, f1, f2, f3, f4, rfl, _⟩⟩ := h
  · exact ⟨_, _, _, _, rfl, rfl⟩
  · exact ⟨_, _, _, _, rfl, rfl⟩
theorem stP_agg4 (m : Mem) (id off : Nat) (v1 v2 v3 v4 : Value) : stP m 4 (.pointer (some ⟨id, off, none⟩)) (.agg #[v1, v2, v3, v4]) = stA m id off [v1, v2, v3, v4] := rfl
theorem stageCase_rc (m : Mem) (v : Value) (c : Ch) (s : Nat) (z : Int) (hz : z = s) (h : ChA m v c) (hg : GoodCh c) (hs : s < c.setup.length) : RC Try.prog 71 [v, .int .i64 z] m (AnsO m (CaseO (c.stage s)) id) := by
  subst hz
  refine rc_of_run mixed ok_impl_stageCase (by simp) (go_start _ _ _ ?_)
  obtain ⟨a, b, d, rfl, ha, hb, hd⟩ := h.ro
  have lh := hg.lh
  have s3 := hg.s3
  have n6 := hg.n6
  obtain ⟨M0, hM0⟩ : ∃ M0, M0 = roM m ++ [⟨.own, 26, [a, b, d]⟩] ++ [⟨.own, 30, [.slice none 0 0, .slice none 0 0, .slice none 0 0, .slice none 0 0]⟩] := ⟨_, rfl⟩
  have L0 : M0.length = m.length + 2 := by rw [hM0]; simp [roM_len]
  have hX0 : Ext m M0 := by rw [hM0]; exact ((Ext.refl m).one _ _).one _ _
  have b2 : OwnB M0 m.length 26 [a, b, d] := by rw [hM0]; exact (OwnB.here (roM_len m).symm).ext _
  have b4 : OwnB M0 (m.length + 1) 30 [.slice none 0 0, .slice none 0 0, .slice none 0 0, .slice none 0 0] := by rw [hM0]; exact OwnB.here (by simp [roM_len])
  have hb1 := hX0.ints hb
  have lds := hb1.ld s hs
  rw [hM0] at lds
  simp (config := {implicitDefEqProofs := false, maxDischargeDepth := 20}) (disch := first | omega | (simp only [lenE]; done) | (simp only [lenE]; omega) | rfl | (simp only [lenE, markR_len]; done) | (simp only [lenE, markR_len]; omega)) only [runE, mapE, listE, initT_5, initT_6, initT_7, initT_8, resV, oneV, binA, unA, reduceCtorEq, Nat.reduceEqDiff, Nat.reduceAdd, Nat.reduceLT, Nat.reduceLeDiff, Nat.reduceMul, Nat.reduceSub, ↓reduceIte, decide_true, decide_false, Bool.true_eq_false, Bool.false_eq_true, Bool.not_true, Bool.not_false, if_true, if_false, and_true, true_and, memE, celE, w64, Nat.zero_add, Nat.add_zero, Nat.mul_one, putL, and_self, ldn, c_impl_stageCase, r_impl_stageCase, hb.at_ s hs, lds]
  rw [← hM0]
  refine rcallH_rc (echelonHold_rc _ _ c s _ rfl (ChA.mk (hX0.ints ha) (hX0.ints hb) (hX0.ints hd)) hg (by omega)) ?_
  rintro r n1 ⟨rfl, nr1⟩
  simp (config := {implicitDefEqProofs := false, maxDischargeDepth := 20}) (disch := first | omega | (simp only [lenE]; done) | (simp only [lenE]; omega) | rfl | (simp only [lenE, markR_len]; done) | (simp only [lenE, markR_len]; omega)) only [runE, mapE, listE, initT_5, initT_6, initT_7, initT_8, resV, oneV, binA, unA, reduceCtorEq, Nat.reduceEqDiff, Nat.reduceAdd, Nat.reduceLT, Nat.reduceLeDiff, Nat.reduceMul, Nat.reduceSub, ↓reduceIte, decide_true, decide_false, Bool.true_eq_false, Bool.false_eq_true, Bool.not_true, Bool.not_false, if_true, if_false, and_true, true_and, memE, celE, w64, Nat.zero_add, Nat.add_zero, Nat.mul_one, putL, and_self, ldn]
  refine rcallH_rc (steadyCase_rc _ a c.need _ _ ((hX0.ints ha).ext n1) (by omega)) ?_
  rintro r n2 ⟨nr2, w, hwe, hw⟩
  rw [id_eq] at hwe
  subst r
  obtain ⟨v1, v2, v3, v4, rfl, ones⟩ := hw.now.agg
  have b42 := (b4.ext n1).ext n2
  have hX2 := (hX0.app nr1).app nr2
  obtain ⟨M2, hM2⟩ : ∃ M2, M2 = M0 ++ n1 ++ n2 := ⟨_, rfl⟩
  have L2 : M2.length = (M0 ++ n1).length + n2.length := by rw [hM2]; simp; omega
  rw [← hM2] at b42 hX2 hw ⊢
  rw [← L2] at hw
  have st := b42.st (off := 0) (vs := [v1, v2, v3, v4]) (by simp) ones
  have hs' := b42.set_self 30 [v1, v2, v3, v4]
  simp (config := {implicitDefEqProofs := false, maxDischargeDepth := 20}) (disch := first | omega | (simp only [lenE]; done) | (simp only [lenE]; omega) | rfl | (simp only [lenE, markR_len]; done) | (simp only [lenE, markR_len]; omega)) only [runE, mapE, listE, initT_5, initT_6, initT_7, initT_8, resV, oneV, binA, unA, reduceCtorEq, Nat.reduceEqDiff, Nat.reduceAdd, Nat.reduceLT, Nat.reduceLeDiff, Nat.reduceMul, Nat.reduceSub, ↓reduceIte, decide_true, decide_false, Bool.true_eq_false, Bool.false_eq_true, Bool.not_true, Bool.not_false, if_true, if_false, and_true, true_and, memE, celE, w64, Nat.zero_add, Nat.add_zero, Nat.mul_one, putL, and_self, ldn, stP_agg4, st, hs'.rd]
  refine ext_ansO (f := _root_.id) (hX2.put (by omega) _ _) fun M' hM => ?_
  rw [List.length_set]
  refine CaseO.wide _ _ _ _ _ _ _ ?_ (Nat.le_refl _) (hw.2.2 M' fun i h1 h2 => ?_)
  · simp [L0]; omega
  · have h1' : m.length + 2 ≤ i := by have : (M0 ++ n1).length = M0.length + n1.length := by simp
                                      omega
    rw [hM i (by omega) (by rw [List.length_set]; exact h2), List.getElem?_set_ne (by omega)]
end Go.Proofs.Ytamhhicnfpemeaa.Ab
end
section
namespace Go.Proofs.Ytamhhicnfpemeaa.Ab
open Go Go.RowKit
set_option linter.unusedVariables false
set_option linter.unusedSimpArgs false
theorem TabX.nil {lo : Nat} {M : Mem} {id : Nat} (h : OwnB M id 24 []) (h1 : lo ≤ id) : TabX [] lo (id + 1) M id (fun _ => 0) (fun _ => 0) :=
  ⟨h1, by omega, h, fun j hj => absurd hj (by simp), fun i j hi => absurd hi (by simp)⟩
end Go.Proofs.Ytamhhicnfpemeaa.Ab
end
section
namespace Go.Proofs.Ytamhhicnfpemeaa.Ab
open Go Go.RowKit
set_option linter.unusedVariables false
set_option linter.unusedSimpArgs false
theorem cSet_s (k : Cs) (plan : List Int) (t : Nat) : cSet k plan (t + 1) = if 0 < plan.getD t 0 then cSet k plan t + k.setup.getD t 0 else cSet k plan t := rfl
theorem cUnit_s (k : Cs) (plan : List Int) (t : Nat) : cUnit k plan (t + 1) = cUnit k plan t + k.unit.getD t 0 * plan.getD t 0 := rfl
theorem cHold_s (k : Cs) (plan : List Int) (t : Nat) : cHold k plan (t + 1) = cHold k plan t + k.hold.getD t 0 * stk plan k.need t := rfl
theorem cost_bounds {k : Cs} {plan : List Int} (hg : Good k) (hp : ∀ x ∈ plan, 0 ≤ x ∧ x ≤ 160) (t : Nat) (ht : t ≤ 8) :
    (0 ≤ cSet k plan t ∧ cSet k plan t ≤ 1000) ∧ (0 ≤ cUnit k plan t ∧ cUnit k plan t ≤ 20000) ∧ (-20000 ≤ cHold k plan t ∧ cHold k plan t ≤ 200000) := by
  have h1 := cSet_bound (plan := plan) hg t
  have h2 := cUnit_bound hg hp t
  have h3 := cHold_bound hg hp t (by omega)
  refine ⟨⟨h1.1, by omega⟩, ⟨h2.1, by omega⟩, by omega, by omega⟩
theorem prod_bounds {k : Cs} {plan : List Int} (hg : Good k) (hp : ∀ x ∈ plan, 0 ≤ x ∧ x ≤ 160) (t : Nat) (ht : t < 8) :
    (0 ≤ k.unit.getD t 0 * plan.getD t 0 ∧ k.unit.getD t 0 * plan.getD t 0 ≤ 1440) ∧ (-1620 ≤ k.hold.getD t 0 * stk plan k.need t ∧ k.hold.getD t 0 * stk plan k.need t ≤ 12960) := by
  have h1 := getD_bound (m := 9) (by omega) hg.unit t
  have h2 := getD_bound (m := 160) (by omega) hp t
  have h3 := getD_bound (m := 9) (by omega) hg.hold t
  have h4 := stk_bound hg hp t (by omega)
  refine ⟨mul_bound h1.1 h1.2 h2.1 h2.2, ?_⟩
  rcases Int.le_total 0 (stk plan k.need t) with h | h
  · have := mul_bound h3.1 h3.2 h h4.2
    omega
  · have := mul_bound h3.1 h3.2 (b := - stk plan k.need t) (n := 180) (by omega) (by omega)
    rw [Int.mul_neg] at this
    omega
theorem ld3 {m : Mem} {id : Nat} {a b c : Value} {e : TypeId} (h : m[id]? = some ⟨.own, e, [a, b, c]⟩) : ldA m (some 3) (.pointer (some ⟨id, 0, none⟩)) = some (.agg #[a, b, c]) := by
  simp [ldA, rdn, rdc, h]
theorem iada0 {id : Nat} : iadaA 1 3 (.pointer (some ⟨id, 0, none⟩)) (.int .i64 0) = some (.pointer (some ⟨id, 0, none⟩)) := rfl
theorem iada1 {id : Nat} : iadaA 1 3 (.pointer (some ⟨id, 0, none⟩)) (.int .i64 1) = some (.pointer (some ⟨id, 1, none⟩)) := rfl
theorem iada2 {id : Nat} : iadaA 1 3 (.pointer (some ⟨id, 0, none⟩)) (.int .i64 2) = some (.pointer (some ⟨id, 2, none⟩)) := rfl
theorem bld_nil (z : List Value) : bldA z [] = some (.agg z.toArray) := rfl

theorem l2Parts_rc (m : Mem) (v u : Value) (k : Cs) (plan : List Int) (h : CaseA m v k) (h' : IntsA m u plan) (hg : Good k) (hl : plan.length = k.need.length) (hp : ∀ x ∈ plan, 0 ≤ x ∧ x ≤ 160) :
    RC Try.prog 162 [v, u] m (AnsV (.agg #[.int .i64 (cSet k plan plan.length), .int .i64 (cUnit k plan plan.length), .int .i64 (cHold k plan plan.length)])) := by
  refine rc_of_run mixed ok_spec_l2Parts (by simp) (go_start _ _ _ ?_)
  obtain ⟨v1, v2, v3, v4, rfl, h1, h2, h3, h4⟩ := h.ro.ok
  have hu := h'.ro
  have h8 := hg.n8
  simp (config := {implicitDefEqProofs := false, maxDischargeDepth := 20}) (disch := first | omega | (simp only [lenE]; done) | (simp only [lenE]; omega) | rfl | (simp only [lenE, markR_len]; done) | (simp only [lenE, markR_len]; omega)) only [runE, mapE, listE, initT_5, initT_6, initT_7, initT_8, resV, oneV, binA, unA, reduceCtorEq, Nat.reduceEqDiff, Nat.reduceAdd, Nat.reduceLT, Nat.reduceLeDiff, Nat.reduceMul, Nat.reduceSub, ↓reduceIte, decide_true, decide_false, Bool.true_eq_false, Bool.false_eq_true, Bool.not_true, Bool.not_false, if_true, if_false, and_true, true_and, memE, celE, w64, Nat.zero_add, Nat.add_zero, Nat.mul_one, putL, and_self, ldn, c_spec_l2Parts, r_spec_l2Parts, bld_nil]
  refine callH_rc (l2Stocks_rc _ _ u k plan ⟨_, _, _, _, rfl, (h1.ext _).ext _, (h2.ext _).ext _, (h3.ext _).ext _, (h4.ext _).ext _⟩ ((hu.ext _).ext _) hg hl hp) ?_
  intro r new hA
  obtain ⟨sid, fl, rfl, hge, hown, hle, nrn⟩ := hA.row
  have hsl := stocksL_len plan k.need
  have hat : ∀ t, t < plan.length → (stocksL plan k.need).getD t 0 = stk plan k.need t := fun t ht => stocksL_at ht
  generalize stocksL plan k.need = st at *
  simp (config := {implicitDefEqProofs := false, maxDischargeDepth := 20}) (disch := first | omega | (simp only [lenE]; done) | (simp only [lenE]; omega) | rfl | (simp only [lenE, markR_len]; done) | (simp only [lenE, markR_len]; omega)) only [runE, mapE, listE, initT_5, initT_6, initT_7, initT_8, resV, oneV, binA, unA, reduceCtorEq, Nat.reduceEqDiff, Nat.reduceAdd, Nat.reduceLT, Nat.reduceLeDiff, Nat.reduceMul, Nat.reduceSub, ↓reduceIte, decide_true, decide_false, Bool.true_eq_false, Bool.false_eq_true, Bool.not_true, Bool.not_false, if_true, if_false, and_true, true_and, memE, celE, w64, Nat.zero_add, Nat.add_zero, Nat.mul_one, putL, and_self, ldn, bld_nil]
  refine loop_inv mixed (fun s => ∃ t : Nat, t ≤ plan.length ∧ s.t 1 = u ∧ s.t 2 = .pointer (some ⟨m.length, 0, none⟩) ∧ s.t 4 = .pointer (some ⟨m.length + 1, 0, none⟩) ∧ s.t 5 = .pointer (some ⟨m.length + 1 + 1 + new.length, 0, none⟩) ∧ s.t 6 = .slice (some ⟨sid, 0, none⟩) st.length fl ∧ s.t 7 = .int .i64 t ∧
    s.m = roM m ++ [⟨.own, 30, [v1, v2, v3, v4]⟩] ++ [⟨.own, 162, [.int .i64 0, .int .i64 0, .int .i64 0]⟩] ++ new ++ [⟨.own, 162, [.int .i64 (cSet k plan t), .int .i64 (cUnit k plan t), .int .i64 (cHold k plan t)]⟩]) (fun s => plan.length - (intOf (s.t 7)).toNat)
    ⟨0, by omega, rfl, rfl, rfl, rfl, rfl, rfl, rfl⟩ ?_
  rintro s ⟨t, hk, t1, t2, t4, t5, t6, t7, tm⟩
  by_cases hlt : t < plan.length
  · have hlt' : (t : Int) < plan.length := by omega
    obtain ⟨e1, e2, e3, -, -⟩ := hown.ints (by omega) fl
    have q4 : ∀ b : Blk, ldA (roM m ++ [⟨.own, 30, [v1, v2, v3, v4]⟩] ++ [⟨.own, 162, [.int .i64 0, .int .i64 0, .int .i64 0]⟩] ++ new ++ [b]) none (pAt (.slice (some ⟨sid, 0, none⟩) st.length fl) t) = some (.int .i64 (stk plan k.need t)) := fun b => by
      have := ((hown.ext [b]).ints (by omega) fl).ld t (by omega)
      rw [hat t hlt] at this
      exact this
    have cb := cost_bounds hg hp t (by omega)
    have cb2 := cost_bounds hg hp (t + 1) (by omega)
    have pb := prod_bounds hg hp t (by omega)
    have sb := getD_bound (m := 99) (by omega) hg.setup t
    by_cases hb : 0 < plan.getD t 0
    · simp (config := {implicitDefEqProofs := false, maxDischargeDepth := 20}) (disch := first | omega | (simp only [lenE]; done) | (simp only [lenE]; omega) | rfl | (simp only [lenE, markR_len]; done) | (simp only [lenE, markR_len]; omega)) only [runE, mapE, listE, initT_5, initT_6, initT_7, initT_8, resV, oneV, binA, unA, reduceCtorEq, Nat.reduceEqDiff, Nat.reduceAdd, Nat.reduceLT, Nat.reduceLeDiff, Nat.reduceMul, Nat.reduceSub, ↓reduceIte, decide_true, decide_false, Bool.true_eq_false, Bool.false_eq_true, Bool.not_true, Bool.not_false, if_true, if_false, and_true, true_and, memE, celE, w64, Nat.zero_add, Nat.add_zero, Nat.mul_one, putL, and_self, ldn, t1, t2, t4, t5, t6, t7, tm, hu.len, hu.at_ t hlt, ((((hu.ext [_]).ext [_]).ext new).ext [_]).ld t hlt, hlt', gt_iff_lt, hb, iada0, iada1, iada2, h2.at_ t (by rw [hg.ls]; omega), ((((h2.ext [_]).ext [_]).ext new).ext [_]).ld t (by rw [hg.ls]; omega), h3.at_ t (by rw [hg.lu]; omega), ((((h3.ext [_]).ext [_]).ext new).ext [_]).ld t (by rw [hg.lu]; omega), h4.at_ t (by rw [hg.lh]; omega), ((((h4.ext [_]).ext [_]).ext new).ext [_]).ld t (by rw [hg.lh]; omega), e3 t (by omega), q4]
      exact ⟨⟨t + 1, by omega, by simp, by rw [cSet_s, if_pos hb, cUnit_s, cHold_s]⟩, by simp [intOf]; omega⟩
    · simp (config := {implicitDefEqProofs := false, maxDischargeDepth := 20}) (disch := first | omega | (simp only [lenE]; done) | (simp only [lenE]; omega) | rfl | (simp only [lenE, markR_len]; done) | (simp only [lenE, markR_len]; omega)) only [runE, mapE, listE, initT_5, initT_6, initT_7, initT_8, resV, oneV, binA, unA, reduceCtorEq, Nat.reduceEqDiff, Nat.reduceAdd, Nat.reduceLT, Nat.reduceLeDiff, Nat.reduceMul, Nat.reduceSub, ↓reduceIte, decide_true, decide_false, Bool.true_eq_false, Bool.false_eq_true, Bool.not_true, Bool.not_false, if_true, if_false, and_true, true_and, memE, celE, w64, Nat.zero_add, Nat.add_zero, Nat.mul_one, putL, and_self, ldn, t1, t2, t4, t5, t6, t7, tm, hu.len, hu.at_ t hlt, ((((hu.ext [_]).ext [_]).ext new).ext [_]).ld t hlt, hlt', gt_iff_lt, hb, iada0, iada1, iada2, h2.at_ t (by rw [hg.ls]; omega), ((((h2.ext [_]).ext [_]).ext new).ext [_]).ld t (by rw [hg.ls]; omega), h3.at_ t (by rw [hg.lu]; omega), ((((h3.ext [_]).ext [_]).ext new).ext [_]).ld t (by rw [hg.lu]; omega), h4.at_ t (by rw [hg.lh]; omega), ((((h4.ext [_]).ext [_]).ext new).ext [_]).ld t (by rw [hg.lh]; omega), e3 t (by omega), q4]
      exact ⟨⟨t + 1, by omega, by simp, by rw [cSet_s, if_neg hb, cUnit_s, cHold_s]⟩, by simp [intOf]; omega⟩
  · have hlt' : ¬ ((t : Int) < plan.length) := by omega
    have e : t = plan.length := by omega
    subst e
    simp (config := {implicitDefEqProofs := false, maxDischargeDepth := 20}) (disch := first | omega | (simp only [lenE]; done) | (simp only [lenE]; omega) | rfl | (simp only [lenE, markR_len]; done) | (simp only [lenE, markR_len]; omega)) only [runE, mapE, listE, initT_5, initT_6, initT_7, initT_8, resV, oneV, binA, unA, reduceCtorEq, Nat.reduceEqDiff, Nat.reduceAdd, Nat.reduceLT, Nat.reduceLeDiff, Nat.reduceMul, Nat.reduceSub, ↓reduceIte, decide_true, decide_false, Bool.true_eq_false, Bool.false_eq_true, Bool.not_true, Bool.not_false, if_true, if_false, and_true, true_and, memE, celE, w64, Nat.zero_add, Nat.add_zero, Nat.mul_one, putL, and_self, ldn, t1, t2, t4, t5, t6, t7, tm, hu.len, hlt']
    exact ext_ansV (((((Ext.refl m).one _ _).one _ _).app nrn).one _ _) rfl

theorem l2Cost_rc (m : Mem) (v u : Value) (k : Cs) (plan : List Int) (h : CaseA m v k) (h' : IntsA m u plan) (hg : Good k) (hl : plan.length = k.need.length) (hp : ∀ x ∈ plan, 0 ≤ x ∧ x ≤ 160) :
    RC Try.prog 143 [v, u] m (AnsV (.int .i64 (costOf k plan))) := by
  refine rc_of_run mixed ok_spec_l2Cost (by simp) (go_start _ _ _ ?_)
  obtain ⟨v1, v2, v3, v4, rfl, h1, h2, h3, h4⟩ := h.ro.ok
  have hu := h'.ro
  have h8 := hg.n8
  simp (config := {implicitDefEqProofs := false, maxDischargeDepth := 20}) (disch := first | omega | (simp only [lenE]; done) | (simp only [lenE]; omega) | rfl | (simp only [lenE, markR_len]; done) | (simp only [lenE, markR_len]; omega)) only [runE, mapE, listE, initT_5, initT_6, initT_7, initT_8, resV, oneV, binA, unA, reduceCtorEq, Nat.reduceEqDiff, Nat.reduceAdd, Nat.reduceLT, Nat.reduceLeDiff, Nat.reduceMul, Nat.reduceSub, ↓reduceIte, decide_true, decide_false, Bool.true_eq_false, Bool.false_eq_true, Bool.not_true, Bool.not_false, if_true, if_false, and_true, true_and, memE, celE, w64, Nat.zero_add, Nat.add_zero, Nat.mul_one, putL, and_self, ldn, c_spec_l2Cost, r_spec_l2Cost]
  refine callH_rc (l2Parts_rc _ _ u k plan ⟨_, _, _, _, rfl, h1.ext _, h2.ext _, h3.ext _, h4.ext _⟩ (hu.ext _) hg hl hp) ?_
  rintro r new ⟨rfl, nr⟩
  have cb := cost_bounds hg hp plan.length (by omega)
  simp (config := {implicitDefEqProofs := false, maxDischargeDepth := 20}) (disch := first | omega | (simp only [lenE]; done) | (simp only [lenE]; omega) | rfl | (simp only [lenE, markR_len]; done) | (simp only [lenE, markR_len]; omega)) only [runE, mapE, listE, initT_5, initT_6, initT_7, initT_8, resV, oneV, binA, unA, reduceCtorEq, Nat.reduceEqDiff, Nat.reduceAdd, Nat.reduceLT, Nat.reduceLeDiff, Nat.reduceMul, Nat.reduceSub, ↓reduceIte, decide_true, decide_false, Bool.true_eq_false, Bool.false_eq_true, Bool.not_true, Bool.not_false, if_true, if_false, and_true, true_and, memE, celE, w64, Nat.zero_add, Nat.add_zero, Nat.mul_one, putL, and_self, ldn, iada0, iada1, iada2]
  exact ext_ansV ((((Ext.refl m).one _ _).app nr).one _ _) rfl
end Go.Proofs.Ytamhhicnfpemeaa.Ab
end
section
namespace Go.Proofs.Ytamhhicnfpemeaa
set_option linter.unusedVariables false
set_option linter.unusedSimpArgs false
theorem sumTo_g (l : List Int) (k : Nat) : sumTo l (k + 1) = sumTo l k + l.getD k 0 := by
  by_cases h : k < l.length
  · rw [sumTo_succ (List.getElem?_eq_getElem h), List.getD_eq_getElem?_getD, List.getElem?_eq_getElem h]; rfl
  · rw [sumTo_all (by omega), sumTo_all (by omega), List.getD_eq_getElem?_getD, List.getElem?_eq_none (by omega)]; simp
def sumR (l : List Int) (i j : Nat) : Int := sumTo l j - sumTo l i
theorem sumR_self (l : List Int) (i : Nat) : sumR l i i = 0 := by unfold sumR; omega
theorem sumR_s (l : List Int) (i j : Nat) : sumR l i (j + 1) = sumR l i j + l.getD j 0 := by unfold sumR; rw [sumTo_g]; omega
theorem sumR_h (l : List Int) (i j : Nat) : sumR l i j = l.getD i 0 + sumR l (i + 1) j := by unfold sumR; rw [sumTo_g]; omega
theorem sumR_add (l : List Int) (i j h : Nat) : sumR l i j + sumR l j h = sumR l i h := by unfold sumR; omega
theorem sumR_in {l : List Int} {m : Int} (hm : 0 ≤ m) (h : ∀ x ∈ l, 0 ≤ x ∧ x ≤ m) (i d : Nat) : 0 ≤ sumR l i (i + d) ∧ sumR l i (i + d) ≤ m * d := by
  induction d with
  | zero => rw [Nat.add_zero, sumR_self]; simp
  | succ d ih =>
    have := getD_bound hm h (i + d)
    rw [← Nat.add_assoc, sumR_s]
    have : m * ((d + 1 : Nat) : Int) = m * d + m := by rw [Int.natCast_add, Int.mul_add]; simp
    omega
theorem sumR_nn {l : List Int} {m : Int} (hm : 0 ≤ m) (h : ∀ x ∈ l, 0 ≤ x ∧ x ≤ m) {i j : Nat} (hij : i ≤ j) : 0 ≤ sumR l i j := by
  have := (sumR_in hm h i (j - i)).1
  rwa [Nat.add_sub_cancel' hij] at this
theorem sumR_le8 {l : List Int} {m : Int} (hm : 0 ≤ m) (h : ∀ x ∈ l, 0 ≤ x ∧ x ≤ m) {i j : Nat} (hij : i ≤ j) (h8 : j ≤ 8) : sumR l i j ≤ m * 8 := by
  have := (sumR_in hm h i (j - i)).2
  rw [Nat.add_sub_cancel' hij] at this
  have h2 : m * ((j - i : Nat) : Int) ≤ m * 8 := Int.mul_le_mul_of_nonneg_left (by omega) hm
  omega

def rateF (k : Cs) (i t : Nat) : Int := k.unit.getD i 0 + sumR k.hold i t
theorem rateF_in {k : Cs} (hg : Good k) {i t : Nat} (hit : i ≤ t) (h8 : t ≤ 8) : 0 ≤ rateF k i t ∧ rateF k i t ≤ 81 := by
  have h1 := getD_bound (m := 9) (by omega) hg.unit i
  have h2 := sumR_nn (m := 9) (by omega) hg.hold hit
  have h3 := sumR_le8 (m := 9) (by omega) hg.hold hit h8
  unfold rateF
  omega
theorem nr_in {k : Cs} (hg : Good k) {i t : Nat} (hit : i ≤ t) (h8 : t ≤ 8) : 0 ≤ k.need.getD t 0 * rateF k i t ∧ k.need.getD t 0 * rateF k i t ≤ 1620 := by
  have h1 := getD_bound (m := 20) (by omega) hg.need t
  have h2 := rateF_in hg hit h8
  have := mul_bound h1.1 h1.2 h2.1 h2.2
  omega
def spanS (k : Cs) (i : Nat) : Nat → Int
  | 0 => 0
  | t + 1 => if i ≤ t then spanS k i t + k.need.getD t 0 * rateF k i t else 0
theorem spanS_self (k : Cs) (i : Nat) : spanS k i i = 0 := by
  cases i with
  | zero => rfl
  | succ i => rw [spanS, if_neg (by omega)]
theorem spanS_s (k : Cs) {i t : Nat} (h : i ≤ t) : spanS k i (t + 1) = spanS k i t + k.need.getD t 0 * rateF k i t := by rw [spanS, if_pos h]
theorem spanS_in {k : Cs} (hg : Good k) (i d : Nat) (h8 : i + d ≤ 8) : 0 ≤ spanS k i (i + d) ∧ spanS k i (i + d) ≤ 1620 * d := by
  induction d with
  | zero => rw [Nat.add_zero, spanS_self]; simp
  | succ d ih =>
    have h1 := nr_in hg (i := i) (t := i + d) (by omega) (by omega)
    have := ih (by omega)
    rw [← Nat.add_assoc, spanS_s k (by omega)]
    omega
theorem spanS_in' {k : Cs} (hg : Good k) {i j : Nat} (hij : i ≤ j) (h8 : j ≤ 8) : 0 ≤ spanS k i j ∧ spanS k i j ≤ 12960 := by
  have := spanS_in hg i (j - i) (by omega)
  rw [Nat.add_sub_cancel' hij] at this
  omega
def spanF (k : Cs) (i j : Nat) : Int := if 0 < sumR k.need i j then k.setup.getD i 0 + spanS k i j else 0
theorem spanF_in {k : Cs} (hg : Good k) {i j : Nat} (hij : i ≤ j) (h8 : j ≤ 8) : 0 ≤ spanF k i j ∧ spanF k i j ≤ 13059 := by
  have h1 := spanS_in' hg hij h8
  have h2 := getD_bound (m := 99) (by omega) hg.setup i
  unfold spanF
  split <;> omega
def holdS (k : Cs) (i j : Nat) : Nat → Int
  | 0 => 0
  | t + 1 => if i ≤ t then holdS k i j t + k.hold.getD t 0 * sumR k.need (t + 1) j else 0
theorem holdS_self (k : Cs) (i j : Nat) : holdS k i j i = 0 := by
  cases i with
  | zero => rfl
  | succ i => rw [holdS, if_neg (by omega)]
theorem holdS_s (k : Cs) {i j t : Nat} (h : i ≤ t) : holdS k i j (t + 1) = holdS k i j t + k.hold.getD t 0 * sumR k.need (t + 1) j := by rw [holdS, if_pos h]
theorem holdS_span (k : Cs) (i j d : Nat) : holdS k i j (i + d) = spanS k i (i + d) - k.unit.getD i 0 * sumR k.need i (i + d) + sumR k.hold i (i + d) * sumR k.need (i + d) j := by
  induction d with
  | zero => rw [Nat.add_zero, holdS_self, spanS_self, sumR_self, sumR_self]; simp
  | succ d ih =>
    rw [← Nat.add_assoc, holdS_s k (by omega), spanS_s k (by omega), ih, sumR_s k.need, sumR_s k.hold, sumR_h k.need (i + d) j]
    unfold rateF
    generalize sumR k.need (i + d + 1) j = A
    generalize sumR k.need i (i + d) = B
    generalize sumR k.hold i (i + d) = C
    generalize k.need.getD (i + d) 0 = x
    generalize k.hold.getD (i + d) 0 = y
    generalize k.unit.getD i 0 = u
    generalize spanS k i (i + d) = S
    simp only [Int.mul_add, Int.add_mul]
    rw [Int.mul_comm x u, Int.mul_comm x C]
    omega
theorem spanF_order (k : Cs) {i j : Nat} (hij : i ≤ j) (hpos : 0 < sumR k.need i j) : spanF k i j = k.setup.getD i 0 + k.unit.getD i 0 * sumR k.need i j + holdS k i j j := by
  have := holdS_span k i j (j - i)
  rw [Nat.add_sub_cancel' hij, sumR_self, Int.mul_zero] at this
  unfold spanF
  rw [if_pos hpos, this]
  omega
theorem spanF_zero (k : Cs) {i j : Nat} (h : sumR k.need i j = 0) : spanF k i j = 0 := by unfold spanF; rw [h]; rfl
theorem holdS_in {k : Cs} (hg : Good k) (i j d : Nat) (h1 : i + d ≤ j) (h8 : j ≤ 8) : 0 ≤ holdS k i j (i + d) ∧ holdS k i j (i + d) ≤ 1440 * d := by
  induction d with
  | zero => rw [Nat.add_zero, holdS_self]; simp
  | succ d ih =>
    have b1 := getD_bound (m := 9) (by omega) hg.hold (i + d)
    have b2 := sumR_nn (m := 20) (by omega) hg.need (i := i + d + 1) (j := j) (by omega)
    have b3 := sumR_le8 (m := 20) (by omega) hg.need (i := i + d + 1) (j := j) (by omega) h8
    have := mul_bound b1.1 b1.2 b2 b3
    have := ih (by omega)
    rw [← Nat.add_assoc, holdS_s k (by omega)]
    omega
theorem holdS_in' {k : Cs} (hg : Good k) {i j t : Nat} (h0 : i ≤ t) (h1 : t ≤ j) (h8 : j ≤ 8) : 0 ≤ holdS k i j t ∧ holdS k i j t ≤ 11520 := by
  have := holdS_in hg i j (t - i) (by omega) h8
  rw [Nat.add_sub_cancel' h0] at this
  omega

end Go.Proofs.Ytamhhicnfpemeaa
end
section
namespace Go.Proofs.Ytamhhicnfpemeaa.Ab
open Go Go.RowKit
set_option linter.unusedVariables false
set_option linter.unusedSimpArgs false
theorem sumTo_cut {l : List Int} {lo hi : Nat} (h1 : lo ≤ hi) (h2 : hi ≤ l.length) (k : Nat) (hk : k ≤ hi - lo) : sumTo (cutL l lo hi) k = sumR l lo (lo + k) := by
  induction k with
  | zero => rw [Nat.add_zero, sumR_self]; rfl
  | succ k ih => rw [sumTo_g, ih (by omega), ← Nat.add_assoc, sumR_s, cutL_at (by omega)]
theorem sumTo_cut' {l : List Int} {lo hi : Nat} (h1 : lo ≤ hi) (h2 : hi ≤ l.length) : sumTo (cutL l lo hi) (cutL l lo hi).length = sumR l lo hi := by
  rw [cutL_len h2, sumTo_cut h1 h2 _ (Nat.le_refl _), Nat.add_sub_cancel' h1]
theorem sumOf_cut_rc (m : Mem) (v' : Value) (l : List Int) {lo hi : Nat} {b : Int} (h : IntsA m v' (cutL l lo hi)) (h1 : lo ≤ hi) (h2 : hi ≤ l.length) (hb0 : 0 ≤ b) (hb1 : b ≤ 1000000) (hb : ∀ x ∈ l, 0 ≤ x ∧ x ≤ b) (h8 : l.length ≤ 1000) :
    RC Try.prog 80 [v'] m fun r new => r = .int .i64 (sumR l lo hi) ∧ new = [] := by
  have hc := cutL_len h2 (lo := lo)
  have := sumOf_rc m v' (cutL l lo hi) h fun k hk => by
    rw [hc] at hk
    rw [sumTo_cut h1 h2 k hk]
    have := sumR_in hb0 hb lo k
    have h3 : b * (k : Int) ≤ 1000000 * (k : Int) := Int.mul_le_mul_of_nonneg_right hb1 (by omega)
    omega
  rw [sumTo_cut' h1 h2] at this
  exact this
theorem Grow.box4 {m M : Mem} {e : TypeId} {v1 v2 v3 v4 : Value} (h : Grow (roM m ++ [⟨.own, e, [v1, v2, v3, v4]⟩]) M) :
    rdc M m.length 0 = some v1 ∧ rdc M m.length 1 = some v2 ∧ rdc M m.length 2 = some v3 ∧ rdc M m.length 3 = some v4 ∧ m.length < M.length := by
  have hl := h.len
  simp only [List.length_append, List.length_cons, List.length_nil, roM_len] at hl
  refine ⟨h.rd ?_, h.rd ?_, h.rd ?_, h.rd ?_, by omega⟩ <;> (rw [rdc_box (roM_len m).symm]; rfl)
theorem Grow.ext {m M : Mem} {e : TypeId} {cs : List Value} (h : Grow (roM m ++ [⟨.own, e, cs⟩]) M) : Ext m M := ((Ext.refl m).one _ _).grow h
theorem Grow.caseV {m M : Mem} {e : TypeId} {cs : List Value} {v : Value} {k : Cs} (h : Grow (roM m ++ [⟨.own, e, cs⟩]) M) (hk : CaseA (roM m) v k) : CaseA M v k := h.case (hk.ext _)
theorem Grow.intsV {m M : Mem} {e : TypeId} {cs : List Value} {v : Value} {l : List Int} (h : Grow (roM m ++ [⟨.own, e, cs⟩]) M) (hk : IntsA (roM m) v l) : IntsA M v l := h.ints (hk.ext _)
end Go.Proofs.Ytamhhicnfpemeaa.Ab
end
section
namespace Go.Proofs.Ytamhhicnfpemeaa.Ab
open Go Go.RowKit
set_option linter.unusedVariables false
set_option linter.unusedSimpArgs false
theorem app_cons {M : Mem} {l : List Int} {x : Int} {v : Value} {id : Nat} (hi : IntsA M v l) (hb : l.length ≤ 1000) (hid : id = M.length) :
    appP (M ++ [⟨.own, 3, [.int .i64 x]⟩]) 3 1 8 (.slice (some ⟨id, 0, none⟩) 1 1) v = some (.slice (some ⟨id + 1, 0, none⟩) (1 + l.length) 1, M ++ [deadB] ++ [⟨.own, 3, (x :: l).map (Value.int .i64)⟩]) := by
  subst hid
  have h := app_all (l0 := [x]) (OwnR.at_end M [x]) (hi.ext [⟨.own, 3, [x].map (Value.int .i64)⟩]) (by simp; omega)
  simpa using h
end Go.Proofs.Ytamhhicnfpemeaa.Ab
end
section
namespace Go.Proofs.Ytamhhicnfpemeaa
set_option linter.unusedVariables false
set_option linter.unusedSimpArgs false
structure Rising (ps : List Int) (n : Nat) : Prop where
  bd : ∀ i, i < ps.length → 0 ≤ ps.getD i 0 ∧ ps.getD i 0 < n
  up : ∀ i, i + 1 < ps.length → ps.getD i 0 < ps.getD (i + 1) 0
def nxtP (n : Nat) (ps : List Int) (i : Nat) : Nat := if i + 1 < ps.length then (ps.getD (i + 1) 0).toNat else n
theorem nxtP_in {n : Nat} {ps : List Int} (h : Rising ps n) {i : Nat} (hi : i < ps.length) : (ps.getD i 0).toNat ≤ nxtP n ps i ∧ nxtP n ps i ≤ n := by
  have h1 := h.bd i hi
  unfold nxtP
  by_cases h2 : i + 1 < ps.length
  · rw [if_pos h2]
    have := h.bd (i + 1) h2
    have := h.up i h2
    omega
  · rw [if_neg h2]; omega
def fromI (need ps : List Int) : Nat → List Int
  | 0 => List.replicate need.length 0
  | i + 1 => (fromI need ps i).set (ps.getD i 0).toNat (sumR need (ps.getD i 0).toNat (nxtP need.length ps i))
def fromL (need ps : List Int) : List Int := fromI need ps ps.length
theorem fromI_len (need ps : List Int) (i : Nat) : (fromI need ps i).length = need.length := by
  induction i with
  | zero => simp [fromI]
  | succ i ih => rw [fromI, List.length_set, ih]
theorem fromI_in {need ps : List Int} (hn : ∀ x ∈ need, 0 ≤ x ∧ x ≤ 20) (h8 : need.length ≤ 8) (h : Rising ps need.length) (i : Nat) (hi : i ≤ ps.length) : ∀ x ∈ fromI need ps i, 0 ≤ x ∧ x ≤ 160 := by
  induction i with
  | zero => intro x hx; rw [fromI] at hx; have := List.eq_of_mem_replicate hx; omega
  | succ i ih =>
    intro x hx
    rw [fromI] at hx
    have h1 := nxtP_in h (i := i) (by omega)
    rcases List.mem_or_eq_of_mem_set hx with h2 | h2
    · exact ih (by omega) x h2
    · have a := sumR_nn (m := 20) (by omega) hn h1.1
      have b := sumR_le8 (m := 20) (by omega) hn h1.1 (by omega)
      omega
theorem fromL_len (need ps : List Int) : (fromL need ps).length = need.length := fromI_len _ _ _
theorem fromL_in {need ps : List Int} (hn : ∀ x ∈ need, 0 ≤ x ∧ x ≤ 20) (h8 : need.length ≤ 8) (h : Rising ps need.length) : ∀ x ∈ fromL need ps, 0 ≤ x ∧ x ≤ 160 := fromI_in hn h8 h _ (Nat.le_refl _)
def covers (need ps : List Int) : Bool := decide (∀ t, t < need.length → (t : Int) < ps.headD need.length → need.getD t 0 ≤ 0)
theorem covers_yes {need ps : List Int} {t : Nat} (ht : t ≤ need.length) (h : ∀ j, j < t → need.getD j 0 ≤ 0) (he : t = need.length ∨ (0 < ps.length ∧ ps.getD 0 0 ≤ t)) : covers need ps = true := by
  refine decide_eq_true fun j hj hl => ?_
  rcases he with he | ⟨h1, h2⟩
  · exact h j (by omega)
  · refine h j ?_
    cases ps with
    | nil => simp at h1
    | cons p ps =>
      have a : p ≤ t := h2
      have b : (j : Int) < p := hl
      omega
theorem covers_no {need ps : List Int} {t : Nat} (ht : t < need.length) (hn : 0 < need.getD t 0) (hf : ¬ (0 < ps.length ∧ ps.getD 0 0 ≤ t)) : covers need ps = false := by
  refine decide_eq_false fun h => ?_
  have := h t ht ?_
  · omega
  · cases ps with
    | nil => show (t : Int) < need.length; omega
    | cons p ps => exact Int.not_le.1 fun hh => hf ⟨by simp, hh⟩
def bitsL (c : Nat) : Nat → List Int
  | 0 => []
  | x + 1 => if c / 2 ^ x % 2 = 1 then bitsL c x ++ [(x : Int)] else bitsL c x
theorem bitsL_len (c x : Nat) : (bitsL c x).length ≤ x := by
  induction x with
  | zero => simp [bitsL]
  | succ x ih =>
    rw [bitsL]
    split
    · rw [List.length_append]; simp only [List.length_cons, List.length_nil]; omega
    · omega
theorem bitsL_mem (c x : Nat) : ∀ y ∈ bitsL c x, 0 ≤ y ∧ y < (x : Int) := by
  induction x with
  | zero => intro y hy; simp [bitsL] at hy
  | succ x ih =>
    intro y hy
    rw [bitsL] at hy
    split at hy
    · rcases List.mem_append.1 hy with h | h
      · have := ih y h; omega
      · simp at h; omega
    · have := ih y hy; omega
theorem getD_app_l (l r : List Int) {i : Nat} (h : i < l.length) : (l ++ r).getD i 0 = l.getD i 0 := by
  rw [List.getD_eq_getElem?_getD, List.getElem?_append_left h, ← List.getD_eq_getElem?_getD]
theorem getD_app_one (l : List Int) (x : Int) : (l ++ [x]).getD l.length 0 = x := by simp [List.getD_eq_getElem?_getD]
theorem getD_mem {l : List Int} {i : Nat} (h : i < l.length) : l.getD i 0 ∈ l := by
  rw [List.getD_eq_getElem?_getD, List.getElem?_eq_getElem h]; exact List.getElem_mem h
theorem bitsL_rising (c x : Nat) : Rising (bitsL c x) x := by
  refine ⟨fun i hi => bitsL_mem c x _ (getD_mem hi), ?_⟩
  induction x with
  | zero => intro i hi; simp [bitsL] at hi
  | succ x ih =>
    intro i hi
    rw [bitsL] at hi ⊢
    by_cases hb : c / 2 ^ x % 2 = 1
    · rw [if_pos hb] at hi ⊢
      simp only [List.length_append, List.length_cons, List.length_nil] at hi
      rw [getD_app_l _ _ (by omega)]
      by_cases h2 : i + 1 < (bitsL c x).length
      · rw [getD_app_l _ _ h2]; exact ih i h2
      · have e : i + 1 = (bitsL c x).length := by omega
        rw [e, getD_app_one]
        exact (bitsL_mem c x _ (getD_mem (by omega))).2
    · rw [if_neg hb] at hi ⊢; exact ih i hi
def lexB : List Int → List Int → Bool
  | x :: xs, y :: ys => if x = y then lexB xs ys else decide (x < y)
  | _, _ => false
def beforeB (a b : List Int) : Bool := if a.length = b.length then lexB a b else decide (a.length < b.length)
theorem lexB_drop {a b : List Int} {i : Nat} (ha : i < a.length) (hb : i < b.length) : lexB (a.drop i) (b.drop i) = if a.getD i 0 = b.getD i 0 then lexB (a.drop (i + 1)) (b.drop (i + 1)) else decide (a.getD i 0 < b.getD i 0) := by
  rw [List.drop_eq_getElem_cons ha, List.drop_eq_getElem_cons hb, lexB]
  simp [List.getD_eq_getElem?_getD, ha, hb]
def stepB (k : Cs) (b : List Int × Int) (ps : List Int) : List Int × Int :=
  if covers k.need ps then
    (if b.2 < 0 ∨ costOf k (fromL k.need ps) < b.2 ∨ (costOf k (fromL k.need ps) = b.2 ∧ beforeB ps b.1 = true) then (ps, costOf k (fromL k.need ps)) else b)
  else b
def bestC (k : Cs) : Nat → List Int × Int
  | 0 => ([], -1)
  | c + 1 => stepB k (bestC k c) (bitsL c k.need.length)
def bestL (k : Cs) : List Int := (bestC k (2 ^ k.need.length)).1
theorem bestC_rising (k : Cs) (c : Nat) : Rising (bestC k c).1 k.need.length := by
  induction c with
  | zero => exact ⟨fun i hi => absurd hi (by simp [bestC]), fun i hi => absurd hi (by simp [bestC])⟩
  | succ c ih =>
    rw [bestC, stepB]
    split
    · split
      · exact bitsL_rising _ _
      · exact ih
    · exact ih
theorem bestC_len (k : Cs) (c : Nat) : (bestC k c).1.length ≤ k.need.length := by
  induction c with
  | zero => simp [bestC]
  | succ c ih =>
    rw [bestC, stepB]
    split
    · split
      · exact bitsL_len _ _
      · exact ih
    · exact ih
def bestCost (k : Cs) : Int := costOf k (fromL k.need (bestL k))

def beg (n : Nat) (ps : List Int) (i : Nat) : Nat := if i < ps.length then (ps.getD i 0).toNat else n
theorem nxt_beg (n : Nat) (ps : List Int) (i : Nat) : nxtP n ps i = beg n ps (i + 1) := rfl
theorem Rising.lt {ps : List Int} {n : Nat} (h : Rising ps n) {i j : Nat} (hij : i < j) (hj : j < ps.length) : ps.getD i 0 < ps.getD j 0 := by
  induction j with
  | zero => omega
  | succ j ih =>
    have := h.up j hj
    by_cases e : i = j
    · subst e; exact this
    · have := ih (by omega) (by omega); omega
theorem Rising.nil (n : Nat) : Rising [] n := ⟨fun i hi => absurd hi (by simp), fun i hi => absurd hi (by simp)⟩
theorem beg_le {n : Nat} {ps : List Int} (h : Rising ps n) (i : Nat) : beg n ps i ≤ n := by
  unfold beg
  split
  · have := h.bd i ‹_›; omega
  · omega
theorem beg_nil (n i : Nat) : beg n [] i = n := by simp [beg]
theorem beg_cons0 (n : Nat) (p : Int) (r : List Int) : beg n (p :: r) 0 = p.toNat := by simp [beg]
theorem beg_cons (n : Nat) (p : Int) (r : List Int) (i : Nat) : beg n (p :: r) (i + 1) = beg n r i := by
  unfold beg
  by_cases h : i < r.length
  · rw [if_pos (by simpa using h), if_pos h]; rfl
  · rw [if_neg (by simpa using h), if_neg h]
theorem Rising.tail {p : Int} {r : List Int} {n : Nat} (h : Rising (p :: r) n) : Rising r n ∧ 0 ≤ p ∧ p.toNat < beg n r 0 := by
  have h0 := h.bd 0 (by simp)
  simp only [List.getD_cons_zero] at h0
  refine ⟨⟨fun i hi => ?_, fun i hi => ?_⟩, h0.1, ?_⟩
  · have := h.bd (i + 1) (by simpa using hi); simpa using this
  · have := h.up (i + 1) (by simpa using hi); simpa using this
  · unfold beg
    split
    · rename_i hl
      have := h.up 0 (by simpa using hl)
      simp only [List.getD_cons_zero, Nat.zero_add, List.getD_cons_succ] at this
      omega
    · omega
theorem Rising.cons {p : Int} {r : List Int} {n : Nat} (h : Rising r n) (h0 : 0 ≤ p) (hp : p.toNat < beg n r 0) : Rising (p :: r) n := by
  have hb := beg_le h 0
  refine ⟨fun i hi => ?_, fun i hi => ?_⟩
  · cases i with
    | zero => simp only [List.getD_cons_zero]; omega
    | succ i => have := h.bd i (by simpa using hi); simpa using this
  · cases i with
    | zero =>
      simp only [List.getD_cons_zero, Nat.zero_add, List.getD_cons_succ]
      have hl : 0 < r.length := by simpa using hi
      unfold beg at hp
      rw [if_pos hl] at hp
      omega
    | succ i => have := h.up i (by simpa using hi); simpa using this

def costI (k : Cs) (n : Nat) (ps : List Int) : Nat → Int
  | 0 => 0
  | i + 1 => costI k n ps i + spanF k (beg n ps i) (beg n ps (i + 1))
def costL (k : Cs) (n : Nat) (ps : List Int) : Int := costI k n ps ps.length
theorem costI_cons (k : Cs) (n : Nat) (p : Int) (r : List Int) (i : Nat) : costI k n (p :: r) (i + 1) = spanF k p.toNat (beg n r 0) + costI k n r i := by
  induction i with
  | zero => rw [costI, costI, costI, beg_cons0, beg_cons]; omega
  | succ i ih => rw [costI, ih, beg_cons, beg_cons, costI]; omega
theorem costL_nil (k : Cs) (n : Nat) : costL k n [] = 0 := rfl
theorem costL_cons (k : Cs) (n : Nat) (p : Int) (r : List Int) : costL k n (p :: r) = spanF k p.toNat (beg n r 0) + costL k n r := costI_cons k n p r r.length
theorem beg_mono {n : Nat} {ps : List Int} (h : Rising ps n) (i : Nat) (hi : i < ps.length) : beg n ps i < beg n ps (i + 1) ∨ (beg n ps i ≤ n ∧ beg n ps (i + 1) = n ∧ beg n ps i < n) := by
  have h1 := h.bd i hi
  unfold beg
  rw [if_pos hi]
  split
  · have := h.up i ‹_›; have := h.bd (i + 1) ‹_›; left; omega
  · right; omega
theorem beg_lt {n : Nat} {ps : List Int} (h : Rising ps n) {i : Nat} (hi : i < ps.length) : beg n ps i < beg n ps (i + 1) := by
  rcases beg_mono h i hi with h | ⟨_, h1, h2⟩ <;> omega
theorem costI_in {k : Cs} (hg : Good k) {ps : List Int} (h : Rising ps k.need.length) (i : Nat) (hi : i ≤ ps.length) : 0 ≤ costI k k.need.length ps i ∧ costI k k.need.length ps i ≤ 13059 * i := by
  induction i with
  | zero => simp [costI]
  | succ i ih =>
    have h1 := beg_lt h (i := i) (by omega)
    have h2 := beg_le h (i + 1)
    have h3 := hg.n8
    have := spanF_in hg (Nat.le_of_lt h1) (by omega)
    have := ih (by omega)
    rw [costI]
    omega
theorem Rising.len {n : Nat} : ∀ {ps : List Int}, Rising ps n → ps.length + beg n ps 0 ≤ n := by
  intro ps
  induction ps with
  | nil => intro h; rw [beg_nil]; simp
  | cons p r ih =>
    intro h
    obtain ⟨h1, h2, h3⟩ := h.tail
    have := ih h1
    rw [beg_cons0, List.length_cons]
    omega
theorem costL_in {k : Cs} (hg : Good k) {ps : List Int} (h : Rising ps k.need.length) : 0 ≤ costL k k.need.length ps ∧ costL k k.need.length ps ≤ 104472 := by
  have h1 := costI_in hg h ps.length (Nat.le_refl _)
  have h2 := h.len
  have h3 := hg.n8
  unfold costL
  omega
theorem fromI_no {need ps : List Int} (h : Rising ps need.length) {t : Nat} : ∀ i, i ≤ ps.length → (∀ j, j < i → ps.getD j 0 ≠ t) → (fromI need ps i).getD t 0 = 0 := by
  intro i
  induction i with
  | zero => intro _ _; rw [fromI, List.getD_eq_getElem?_getD, List.getElem?_replicate]; split <;> rfl
  | succ i ih =>
    intro hi hne
    have h1 := h.bd i (by omega)
    have h2 := hne i (by omega)
    rw [fromI, List.getD_eq_getElem?_getD, List.getElem?_set_ne (by omega), ← List.getD_eq_getElem?_getD]
    exact ih (by omega) fun j hj => hne j (by omega)
theorem fromI_at {need ps : List Int} (h : Rising ps need.length) {j : Nat} : ∀ i, i ≤ ps.length → j < i → (fromI need ps i).getD (beg need.length ps j) 0 = sumR need (beg need.length ps j) (beg need.length ps (j + 1)) := by
  intro i
  induction i with
  | zero => intro _ hj; omega
  | succ i ih =>
    intro hi hj
    have h1 := h.bd i (by omega)
    have hbi : beg need.length ps i = (ps.getD i 0).toNat := by unfold beg; rw [if_pos (by omega)]
    have hbj : beg need.length ps j = (ps.getD j 0).toNat := by unfold beg; rw [if_pos (by omega)]
    rw [fromI]
    by_cases e : j = i
    · subst e
      rw [nxt_beg, ← hbi, List.getD_eq_getElem?_getD, List.getElem?_set_self (by rw [fromI_len, hbi]; omega)]
      rfl
    · have h2 := h.lt (i := j) (j := i) (by omega) (by omega)
      have h3 := h.bd j (by omega)
      rw [List.getD_eq_getElem?_getD, List.getElem?_set_ne (by omega), ← List.getD_eq_getElem?_getD]
      exact ih (by omega) (by omega)
def cT (k : Cs) (plan : List Int) (t : Nat) : Int := cSet k plan t + cUnit k plan t + cHold k plan t
theorem seg_cost {k : Cs} (hg : Good k) {plan : List Int} {p e : Nat} (hpe : p < e) (hs : sumTo plan p = sumTo k.need p) (ha : plan.getD p 0 = sumR k.need p e) (hz : ∀ t, p < t → t < e → plan.getD t 0 = 0) (d : Nat) (hd : p + d + 1 ≤ e) :
    sumTo plan (p + d + 1) = sumTo k.need e ∧ cT k plan (p + d + 1) = cT k plan p + (if 0 < sumR k.need p e then k.setup.getD p 0 else 0) + k.unit.getD p 0 * sumR k.need p e + holdS k p e (p + d + 1) := by
  induction d with
  | zero =>
    have h1 : sumTo plan (p + 1) = sumTo k.need e := by rw [sumTo_g, ha, hs]; unfold sumR; omega
    refine ⟨h1, ?_⟩
    have h2 : stk plan k.need p = sumR k.need (p + 1) e := by unfold stk sumR; rw [h1]
    rw [Nat.add_zero, holdS_s k (Nat.le_refl _), holdS_self]
    unfold cT
    rw [cSet, cUnit, cHold, ha, h2]
    split <;> omega
  | succ d ih =>
    obtain ⟨i1, i2⟩ := ih (by omega)
    have hz' := hz (p + d + 1) (by omega) (by omega)
    have h1 : sumTo plan (p + d + 1 + 1) = sumTo k.need e := by rw [sumTo_g, hz', i1]; omega
    refine ⟨h1, ?_⟩
    have h2 : stk plan k.need (p + d + 1) = sumR k.need (p + d + 1 + 1) e := by unfold stk sumR; rw [h1]
    rw [show p + (d + 1) + 1 = p + d + 1 + 1 by omega, holdS_s k (by omega)]
    unfold cT at i2 ⊢
    rw [cSet, cUnit, cHold, hz', h2, if_neg (by omega), Int.mul_zero]
    omega
theorem holdS_none {k : Cs} (hg : Good k) {p e : Nat} (h : sumR k.need p e = 0) (d : Nat) (hd : p + d ≤ e) : holdS k p e (p + d) = 0 := by
  induction d with
  | zero => exact holdS_self k p e
  | succ d ih =>
    have h1 := sumR_nn (m := 20) (by omega) hg.need (i := p) (j := p + d + 1) (by omega)
    have h2 := sumR_nn (m := 20) (by omega) hg.need (i := p + d + 1) (j := e) (by omega)
    have h3 := sumR_add k.need p (p + d + 1) e
    have h4 : sumR k.need (p + d + 1) e = 0 := by omega
    rw [← Nat.add_assoc, holdS_s k (by omega), ih (by omega), h4]
    simp
theorem seg_span {k : Cs} (hg : Good k) {plan : List Int} {p e : Nat} (hpe : p < e) (hs : sumTo plan p = sumTo k.need p) (ha : plan.getD p 0 = sumR k.need p e) (hz : ∀ t, p < t → t < e → plan.getD t 0 = 0) :
    sumTo plan e = sumTo k.need e ∧ cT k plan e = cT k plan p + spanF k p e := by
  obtain ⟨h1, h2⟩ := seg_cost hg hpe hs ha hz (e - p - 1) (by omega)
  rw [show p + (e - p - 1) + 1 = e by omega] at h1 h2
  refine ⟨h1, ?_⟩
  have hnn := sumR_nn (m := 20) (by omega) hg.need (i := p) (j := e) (by omega)
  by_cases h0 : 0 < sumR k.need p e
  · rw [h2, spanF_order k (by omega) h0, if_pos h0]; omega
  · have hz0 : sumR k.need p e = 0 := by omega
    have hh := holdS_none hg hz0 (e - p) (by omega)
    rw [show p + (e - p) = e by omega] at hh
    rw [h2, hh, spanF_zero k hz0, hz0, Int.mul_zero]
    simp
theorem cov_zero {k : Cs} (hg : Good k) {ps : List Int} (hr : Rising ps k.need.length) (hc : covers k.need ps = true) (t : Nat) (ht : t < beg k.need.length ps 0) : k.need.getD t 0 = 0 := by
  have hb := beg_le hr 0
  have hn := getD_bound (m := 20) (by omega) hg.need t
  have h := of_decide_eq_true hc t (by omega) ?_
  · omega
  · cases ps with
    | nil => simp [beg] at ht; exact Int.ofNat_lt.2 ht
    | cons p r =>
      rw [beg_cons0] at ht
      show (t : Int) < p
      omega
theorem fromL_cost {k : Cs} (hg : Good k) {ps : List Int} (hr : Rising ps k.need.length) (hc : covers k.need ps = true) : costOf k (fromL k.need ps) = costL k k.need.length ps := by
  obtain ⟨plan, hplan⟩ : ∃ plan, plan = fromL k.need ps := ⟨_, rfl⟩
  have hno : ∀ t : Nat, (∀ j, j < ps.length → ps.getD j 0 ≠ (t : Int)) → plan.getD t 0 = 0 := fun t h => by rw [hplan]; exact fromI_no hr _ (Nat.le_refl _) h
  have hat : ∀ j, j < ps.length → plan.getD (beg k.need.length ps j) 0 = sumR k.need (beg k.need.length ps j) (beg k.need.length ps (j + 1)) := fun j h => by rw [hplan]; exact fromI_at hr _ (Nat.le_refl _) h
  have hbj : ∀ j, j < ps.length → (beg k.need.length ps j : Int) = ps.getD j 0 := fun j hj => by
    have := hr.bd j hj
    unfold beg; rw [if_pos hj]; omega
  have start : ∀ t, t ≤ beg k.need.length ps 0 → sumTo plan t = sumTo k.need t ∧ cT k plan t = 0 := by
    intro t
    induction t with
    | zero => intro _; exact ⟨rfl, rfl⟩
    | succ t ih =>
      intro ht
      obtain ⟨i1, i2⟩ := ih (by omega)
      have hz := cov_zero hg hr hc t (by omega)
      have hp : plan.getD t 0 = 0 := hno t fun j hj he => by
        have h0 : 0 < ps.length := by omega
        have := hbj 0 h0
        rcases Nat.eq_zero_or_pos j with e | e
        · subst e; omega
        · have := hr.lt (i := 0) (j := j) e hj; omega
      have s1 : sumTo plan (t + 1) = sumTo k.need (t + 1) := by rw [sumTo_g, sumTo_g, i1, hp, hz]
      refine ⟨s1, ?_⟩
      have s2 : stk plan k.need t = 0 := by unfold stk; omega
      unfold cT at i2 ⊢
      rw [cSet, cUnit, cHold, hp, s2, if_neg (by omega), Int.mul_zero, Int.mul_zero]
      omega
  have main : ∀ i, i ≤ ps.length → sumTo plan (beg k.need.length ps i) = sumTo k.need (beg k.need.length ps i) ∧ cT k plan (beg k.need.length ps i) = costI k k.need.length ps i := by
    intro i
    induction i with
    | zero => intro _; exact start _ (Nat.le_refl _)
    | succ i ih =>
      intro hi
      obtain ⟨i1, i2⟩ := ih (by omega)
      obtain ⟨s1, s2⟩ := seg_span hg (beg_lt hr (by omega)) i1 (hat i (by omega)) fun t h1 h2 => hno t fun j hj he => by
        have h3 := hbj i (by omega)
        have h4 := hbj j hj
        by_cases hlt : j ≤ i
        · rcases Nat.lt_or_eq_of_le hlt with h | h
          · have := hr.lt h (by omega); omega
          · subst h; omega
        · have h5 := hbj (i + 1) (by omega)
          rcases Nat.lt_or_eq_of_le (show i + 1 ≤ j by omega) with h | h
          · have := hr.lt h hj; omega
          · subst h; omega
      exact ⟨s1, by rw [s2, i2, costI]⟩
  have hend := (main ps.length (Nat.le_refl _)).2
  have hl : beg k.need.length ps ps.length = k.need.length := by unfold beg; rw [if_neg (by omega)]
  rw [hl] at hend
  have hpl : plan.length = k.need.length := by rw [hplan]; exact fromL_len _ _
  rw [← hplan]
  unfold costOf costL
  rw [hpl]
  exact hend

theorem lexB_irr (a : List Int) : lexB a a = false := by
  induction a with
  | nil => rfl
  | cons x a ih => rw [lexB, if_pos rfl, ih]
theorem lexB_trans : ∀ {a b c : List Int}, lexB a b = true → lexB b c = true → lexB a c = true := by
  intro a
  induction a with
  | nil => intro b c h; simp [lexB] at h
  | cons x a ih =>
    intro b c h1 h2
    cases b with
    | nil => simp [lexB] at h1
    | cons y b =>
      cases c with
      | nil => simp [lexB] at h2
      | cons z c =>
        rw [lexB] at h1 h2 ⊢
        by_cases e1 : x = y
        · rw [if_pos e1] at h1
          by_cases e2 : y = z
          · rw [if_pos e2] at h2
            rw [if_pos (e1.trans e2)]
            exact ih h1 h2
          · rw [if_neg e2] at h2
            rw [if_neg (fun e => e2 (e1.symm.trans e)), e1]
            exact h2
        · rw [if_neg e1] at h1
          have l1 := of_decide_eq_true h1
          by_cases e2 : y = z
          · rw [if_neg (fun e => e1 (e.trans e2.symm))]
            exact decide_eq_true (by omega)
          · rw [if_neg e2] at h2
            have l2 := of_decide_eq_true h2
            rw [if_neg (by omega)]
            exact decide_eq_true (by omega)
theorem lexB_tot : ∀ {a b : List Int}, a.length = b.length → a = b ∨ lexB a b = true ∨ lexB b a = true := by
  intro a
  induction a with
  | nil => intro b h; left; exact (List.eq_nil_of_length_eq_zero (by rw [← h]; rfl)).symm
  | cons x a ih =>
    intro b h
    cases b with
    | nil => simp at h
    | cons y b =>
      rw [lexB, lexB]
      by_cases e : x = y
      · subst e
        rw [if_pos rfl, if_pos rfl]
        rcases ih (b := b) (by simpa using h) with h | h | h
        · left; rw [h]
        · right; left; exact h
        · right; right; exact h
      · rw [if_neg e, if_neg (Ne.symm e)]
        rcases Int.lt_or_gt_of_ne e with h | h
        · right; left; exact decide_eq_true h
        · right; right; exact decide_eq_true h
theorem beforeB_irr (a : List Int) : beforeB a a = false := by unfold beforeB; rw [if_pos rfl, lexB_irr]
theorem beforeB_trans {a b c : List Int} (h1 : beforeB a b = true) (h2 : beforeB b c = true) : beforeB a c = true := by
  unfold beforeB at *
  by_cases e1 : a.length = b.length
  · rw [if_pos e1] at h1
    by_cases e2 : b.length = c.length
    · rw [if_pos e2] at h2
      rw [if_pos (e1.trans e2)]
      exact lexB_trans h1 h2
    · rw [if_neg e2] at h2
      rw [if_neg (by omega), e1]; exact h2
  · rw [if_neg e1] at h1
    have l1 := of_decide_eq_true h1
    by_cases e2 : b.length = c.length
    · rw [if_neg (by omega)]; exact decide_eq_true (by omega)
    · rw [if_neg e2] at h2
      have l2 := of_decide_eq_true h2
      rw [if_neg (by omega)]; exact decide_eq_true (by omega)
theorem beforeB_tot (a b : List Int) : a = b ∨ beforeB a b = true ∨ beforeB b a = true := by
  unfold beforeB
  by_cases e : a.length = b.length
  · rw [if_pos e, if_pos e.symm]; exact lexB_tot e
  · rw [if_neg e, if_neg (Ne.symm e)]
    rcases Nat.lt_or_gt_of_ne e with h | h
    · right; left; exact decide_eq_true h
    · right; right; exact decide_eq_true h
def bef (a b : Int × List Int) : Bool := if a.1 = b.1 then beforeB a.2 b.2 else decide (a.1 < b.1)
theorem bef_irr (a : Int × List Int) : bef a a = false := by unfold bef; rw [if_pos rfl, beforeB_irr]
theorem bef_trans {a b c : Int × List Int} (h1 : bef a b = true) (h2 : bef b c = true) : bef a c = true := by
  unfold bef at *
  by_cases e1 : a.1 = b.1
  · rw [if_pos e1] at h1
    by_cases e2 : b.1 = c.1
    · rw [if_pos e2] at h2
      rw [if_pos (e1.trans e2)]
      exact beforeB_trans h1 h2
    · rw [if_neg e2] at h2
      rw [if_neg (fun e => e2 (e1.symm.trans e)), e1]; exact h2
  · rw [if_neg e1] at h1
    have l1 := of_decide_eq_true h1
    by_cases e2 : b.1 = c.1
    · rw [if_neg (by omega)]; exact decide_eq_true (by omega)
    · rw [if_neg e2] at h2
      have l2 := of_decide_eq_true h2
      rw [if_neg (by omega)]; exact decide_eq_true (by omega)
theorem bef_tot (f : List Int → Int) (a b : List Int) : a = b ∨ bef (f a, a) (f b, b) = true ∨ bef (f b, b) (f a, a) = true := by
  unfold bef
  by_cases e : f a = f b
  · simp only [if_pos e, if_pos e.symm]; exact beforeB_tot a b
  · simp only [if_neg e, if_neg (Ne.symm e)]
    rcases Int.lt_or_gt_of_ne e with h | h
    · right; left; exact decide_eq_true h
    · right; right; exact decide_eq_true h
theorem bef_asymm {a b : Int × List Int} (h : bef a b = true) : bef b a = false := by
  cases hb : bef b a with
  | false => rfl
  | true => have := bef_trans h hb; rw [bef_irr] at this; cases this

def IsMin (S : List Int → Prop) (f : List Int → Int) (b : List Int) : Prop := S b ∧ ∀ y, S y → y = b ∨ bef (f b, b) (f y, y) = true
theorem IsMin.uniq {S : List Int → Prop} {f : List Int → Int} {a b : List Int} (ha : IsMin S f a) (hb : IsMin S f b) : a = b := by
  rcases ha.2 b hb.1 with h | h
  · exact h.symm
  · rcases hb.2 a ha.1 with h' | h'
    · exact h'
    · rw [bef_asymm h] at h'; cases h'
theorem IsMin.congr {S T : List Int → Prop} {f : List Int → Int} {a : List Int} (ha : IsMin S f a) (h : ∀ y, T y ↔ S y) : IsMin T f a :=
  ⟨(h a).2 ha.1, fun y hy => ha.2 y ((h y).1 hy)⟩
theorem IsMin.union {S T : List Int → Prop} {f : List Int → Int} {a b : List Int} (ha : IsMin S f a) (hb : IsMin T f b) :
    IsMin (fun y => S y ∨ T y) f (if bef (f b, b) (f a, a) = true then b else a) := by
  by_cases h : bef (f b, b) (f a, a) = true
  · rw [if_pos h]
    refine ⟨.inr hb.1, fun y hy => ?_⟩
    rcases hy with hy | hy
    · rcases ha.2 y hy with e | e
      · rw [e]; exact .inr h
      · exact .inr (bef_trans h e)
    · exact hb.2 y hy
  · rw [if_neg h]
    refine ⟨.inl ha.1, fun y hy => ?_⟩
    rcases hy with hy | hy
    · exact ha.2 y hy
    · have hab : a = b ∨ bef (f a, a) (f b, b) = true := by
        rcases bef_tot f a b with e | e | e
        · exact .inl e
        · exact .inr e
        · exact absurd e h
      rcases hb.2 y hy with e | e
      · rcases hab with g | g
        · left; rw [e, g]
        · right; rw [e]; exact g
      · rcases hab with g | g
        · right; rw [g]; exact e
        · exact .inr (bef_trans g e)

def dpLoop (k : Cs) (n first : Nat) (g : Nat → List Int) : Nat → List Int
  | 0 => [(first : Int)]
  | m + 1 => if bef (costL k n ((first : Int) :: g (first + 1 + m)), (first : Int) :: g (first + 1 + m)) (costL k n (dpLoop k n first g m), dpLoop k n first g m) = true
      then (first : Int) :: g (first + 1 + m) else dpLoop k n first g m
def dpF (k : Cs) (n : Nat) : Nat → Nat → List Int
  | 0, _ => []
  | f + 1, first => if first < n then dpLoop k n first (dpF k n f) (n - 1 - first) else []
def dp (k : Cs) (n first : Nat) : List Int := dpF k n (n - first) first
theorem dpLoop_congr (k : Cs) (n first : Nat) {g g' : Nat → List Int} (m : Nat) (h : ∀ j, first < j → j ≤ first + m → g j = g' j) : dpLoop k n first g m = dpLoop k n first g' m := by
  induction m with
  | zero => rfl
  | succ m ih =>
    rw [dpLoop, dpLoop, ih fun j h1 h2 => h j h1 (by omega), h (first + 1 + m) (by omega) (by omega)]
theorem dpF_fuel (k : Cs) (n : Nat) : ∀ (f f' first : Nat), n - first ≤ f → n - first ≤ f' → dpF k n f first = dpF k n f' first := by
  intro f
  induction f with
  | zero =>
    intro f' first h1 h2
    cases f' with
    | zero => rfl
    | succ f' => rw [dpF, dpF, if_neg (by omega)]
  | succ f ih =>
    intro f' first h1 h2
    cases f' with
    | zero => rw [dpF, dpF, if_neg (by omega)]
    | succ f' =>
      rw [dpF, dpF]
      by_cases h : first < n
      · rw [if_pos h, if_pos h]
        exact dpLoop_congr k n first _ fun j h3 h4 => ih f' j (by omega) (by omega)
      · rw [if_neg h, if_neg h]
theorem dp_end (k : Cs) {n first : Nat} (h : n ≤ first) : dp k n first = [] := by
  unfold dp
  rw [show n - first = 0 by omega]; rfl
theorem dp_loop (k : Cs) {n first : Nat} (h : first < n) : dp k n first = dpLoop k n first (dp k n) (n - 1 - first) := by
  obtain ⟨f, hf⟩ : ∃ f, n - first = f + 1 := ⟨n - first - 1, by omega⟩
  unfold dp
  rw [hf, dpF, if_pos h]
  exact dpLoop_congr k n first _ fun j h1 h2 => dpF_fuel k n f (n - j) j (by omega) (by omega)
def Firsts (n first : Nat) (ps : List Int) : Prop := Rising ps n ∧ beg n ps 0 = first
theorem firsts_cons {n first : Nat} {ps : List Int} (h : Firsts n first ps) (hf : first < n) : ∃ r, ps = (first : Int) :: r ∧ Firsts n (beg n r 0) r ∧ first < beg n r 0 ∧ beg n r 0 ≤ n := by
  obtain ⟨h1, h2⟩ := h
  cases ps with
  | nil => rw [beg_nil] at h2; omega
  | cons p r =>
    obtain ⟨t1, t2, t3⟩ := h1.tail
    rw [beg_cons0] at h2
    refine ⟨r, by rw [← h2]; congr 1; omega, ⟨t1, rfl⟩, by omega, beg_le t1 0⟩
theorem bef_cons (k : Cs) {n first : Nat} {r r' : List Int} (he : beg n r 0 = beg n r' 0) (h : bef (costL k n r, r) (costL k n r', r') = true) :
    bef (costL k n ((first : Int) :: r), (first : Int) :: r) (costL k n ((first : Int) :: r'), (first : Int) :: r') = true := by
  rw [costL_cons, costL_cons, he]
  unfold bef at *
  by_cases e : costL k n r = costL k n r'
  · simp only [if_pos e] at h
    simp only [e, if_true]
    unfold beforeB at *
    simp only [List.length_cons, Nat.add_right_cancel_iff, Nat.add_lt_add_iff_right]
    by_cases e2 : r.length = r'.length
    · rw [if_pos e2] at h ⊢
      rw [lexB, if_pos rfl]; exact h
    · rw [if_neg e2] at h ⊢; exact h
  · simp only [if_neg e] at h
    have := of_decide_eq_true h
    simp only []
    rw [if_neg (by omega)]
    exact decide_eq_true (by omega)
theorem dp_min (k : Cs) (n : Nat) : ∀ (d first : Nat), first + d = n → IsMin (Firsts n first) (costL k n) (dp k n first) := by
  intro d
  induction d using Nat.strongRecOn with
  | _ d ih =>
    intro first hfd
    rcases Nat.eq_zero_or_pos d with h0 | h0
    · rw [dp_end k (by omega)]
      refine ⟨⟨Rising.nil n, by rw [beg_nil]; omega⟩, fun y hy => .inl ?_⟩
      obtain ⟨h1, h2⟩ := hy
      cases y with
      | nil => rfl
      | cons p r =>
        have := h1.tail
        have := beg_le this.1 0
        rw [beg_cons0] at h2
        omega
    · rw [dp_loop k (by omega)]
      have loop : ∀ m, m ≤ n - 1 - first → IsMin (fun ps => Firsts n first ps ∧ (beg n ps.tail 0 = n ∨ beg n ps.tail 0 < first + 1 + m)) (costL k n) (dpLoop k n first (dp k n) m) := by
        intro m
        induction m with
        | zero =>
          intro _
          rw [dpLoop]
          refine ⟨⟨⟨(Rising.nil n).cons (by omega) (by rw [beg_nil]; omega), by rw [beg_cons0]; omega⟩, .inl (beg_nil n 0)⟩, fun y hy => .inl ?_⟩
          obtain ⟨hy1, hy2⟩ := hy
          obtain ⟨r, rfl, hr1, hr2, hr3⟩ := firsts_cons hy1 (by omega)
          simp only [List.tail_cons] at hy2
          have e : beg n r 0 = n := by omega
          cases r with
          | nil => rfl
          | cons p r =>
            have := hr1.1.tail
            have := beg_le this.1 0
            rw [beg_cons0] at e
            omega
        | succ m ihm =>
          intro hm
          have a := ihm (by omega)
          have b := ih (n - (first + 1 + m)) (by omega) (first + 1 + m) (by omega)
          have hcons : ∀ r, Firsts n (first + 1 + m) r → Firsts n first ((first : Int) :: r) := fun r hr =>
            ⟨hr.1.cons (by omega) (by rw [hr.2]; omega), by rw [beg_cons0]; omega⟩
          have b2 : IsMin (fun ps => Firsts n first ps ∧ beg n ps.tail 0 = first + 1 + m) (costL k n) ((first : Int) :: dp k n (first + 1 + m)) := by
            refine ⟨⟨hcons _ b.1, b.1.2⟩, fun y hy => ?_⟩
            obtain ⟨hy1, hy2⟩ := hy
            obtain ⟨r, rfl, hr1, hr2, hr3⟩ := firsts_cons hy1 (by omega)
            simp only [List.tail_cons] at hy2
            rw [hy2] at hr1
            rcases b.2 r hr1 with e | e
            · left; rw [e]
            · right; exact bef_cons k (by rw [b.1.2, hy2]) e
          refine (a.union b2).congr fun y => ?_
          constructor
          · rintro ⟨h1, h2⟩
            by_cases e : beg n y.tail 0 = first + 1 + m
            · exact .inr ⟨h1, e⟩
            · exact .inl ⟨h1, by omega⟩
          · rintro (⟨h1, h2⟩ | ⟨h1, h2⟩)
            · exact ⟨h1, by omega⟩
            · exact ⟨h1, .inr (by omega)⟩
      refine (loop _ (Nat.le_refl _)).congr fun y => ⟨fun hy => ⟨hy, ?_⟩, fun hy => hy.1⟩
      obtain ⟨r, rfl, hr1, hr2, hr3⟩ := firsts_cons hy (by omega)
      simp only [List.tail_cons]
      omega

def blF (k : Cs) (n : Nat) : Nat → List Int
  | 0 => dp k n 0
  | t + 1 => if bef (costL k n (dp k n (t + 1)), dp k n (t + 1)) (costL k n (blF k n t), blF k n t) = true then dp k n (t + 1) else blF k n t
theorem blF_min (k : Cs) (n t : Nat) (ht : t ≤ n) : IsMin (fun ps => Rising ps n ∧ beg n ps 0 ≤ t) (costL k n) (blF k n t) := by
  induction t with
  | zero => exact (dp_min k n n 0 (by omega)).congr fun y => ⟨fun h => ⟨h.1, by omega⟩, fun h => ⟨h.1, by have := h.2; omega⟩⟩
  | succ t ih =>
    refine ((ih (by omega)).union (dp_min k n (n - (t + 1)) (t + 1) (by omega))).congr fun y => ?_
    constructor
    · rintro ⟨h1, h2⟩
      by_cases e : beg n y 0 = t + 1
      · exact .inr ⟨h1, e⟩
      · exact .inl ⟨h1, by omega⟩
    · rintro (⟨h1, h2⟩ | ⟨h1, h2⟩)
      · exact ⟨h1, by omega⟩
      · exact ⟨h1, by omega⟩
theorem cov_iff {k : Cs} (hg : Good k) {ps : List Int} (hr : Rising ps k.need.length) {T : Nat} (hz : ∀ j, j < T → k.need.getD j 0 = 0) (hT : T = k.need.length ∨ (T < k.need.length ∧ k.need.getD T 0 ≠ 0)) :
    covers k.need ps = true ↔ beg k.need.length ps 0 ≤ T := by
  constructor
  · intro hc
    have hb := beg_le hr 0
    by_cases h : beg k.need.length ps 0 ≤ T
    · exact h
    · exfalso
      have := cov_zero hg hr hc T (by omega)
      omega
  · intro h
    refine decide_eq_true fun t ht hl => ?_
    have : t < beg k.need.length ps 0 := by
      cases ps with
      | nil => rw [beg_nil]; exact ht
      | cons p r =>
        rw [beg_cons0]
        have : (t : Int) < p := hl
        omega
    rw [hz t (by omega)]; omega
theorem bits_all : ∀ (n : Nat) (ps : List Int), Rising ps n → ∃ c, c < 2 ^ n ∧ ps = bitsL c n := by
  intro n
  induction n with
  | zero =>
    intro ps h
    cases ps with
    | nil => exact ⟨0, by simp, rfl⟩
    | cons p r => have := h.bd 0 (by simp); simp at this; omega
  | succ n ih =>
    intro ps h
    have low : ∀ (c x : Nat), x ≤ n → bitsL (c + 2 ^ n) x = bitsL c x := by
      intro c x hx
      induction x with
      | zero => rfl
      | succ x ihx =>
        have e : (c + 2 ^ n) / 2 ^ x % 2 = c / 2 ^ x % 2 := by
          have h1 : 2 ^ n = 2 ^ x * (2 * 2 ^ (n - x - 1)) := by
            rw [← Nat.pow_succ', ← Nat.pow_add]; congr 1; omega
          rw [h1, Nat.add_mul_div_left _ _ (Nat.two_pow_pos x), Nat.add_mul_mod_self_left]
        rw [bitsL, bitsL, e, ihx (by omega)]
    by_cases hl : 0 < ps.length ∧ ps.getD (ps.length - 1) 0 = n
    · have hd : ps = ps.dropLast ++ [(n : Int)] := by
        have hne : ps ≠ [] := by intro e; rw [e] at hl; simp at hl
        have := List.dropLast_concat_getLast hne
        rw [← this]
        congr 1
        · simp
        · congr 1
          have h2 := hl.2
          rw [List.getD_eq_getElem?_getD, List.getElem?_eq_getElem (by omega)] at h2
          rw [List.getLast_eq_getElem]
          simpa using h2
      have hlen : ps.dropLast.length = ps.length - 1 := List.length_dropLast
      have hget : ∀ i, i < ps.length - 1 → ps.dropLast.getD i 0 = ps.getD i 0 := fun i hi => by
        rw [List.getD_eq_getElem?_getD, List.getD_eq_getElem?_getD, List.getElem?_dropLast, if_pos hi]
      have hr : Rising ps.dropLast n := by
        refine ⟨fun i hi => ?_, fun i hi => ?_⟩
        · rw [hget i (by omega)]
          have h1 := h.bd i (by omega)
          have h2 := h.lt (i := i) (j := ps.length - 1) (by omega) (by omega)
          rw [hl.2] at h2
          omega
        · rw [hget i (by omega), hget (i + 1) (by omega)]
          exact h.up i (by omega)
      obtain ⟨c, hc, he⟩ := ih _ hr
      refine ⟨c + 2 ^ n, by rw [Nat.pow_succ]; omega, ?_⟩
      have hbit : (c + 2 ^ n) / 2 ^ n % 2 = 1 := by
        rw [Nat.add_div_right _ (Nat.two_pow_pos n), Nat.div_eq_of_lt hc]
      rw [bitsL, if_pos hbit, low c n (Nat.le_refl _), ← he]
      exact hd
    · have hr : Rising ps n := by
        refine ⟨fun i hi => ?_, h.up⟩
        have h1 := h.bd i hi
        refine ⟨h1.1, ?_⟩
        by_cases e : i = ps.length - 1
        · have : ps.getD i 0 ≠ n := fun e2 => hl ⟨by omega, by rw [← e]; exact e2⟩
          omega
        · have := h.lt (i := i) (j := ps.length - 1) (by omega) (by omega)
          have := (h.bd (ps.length - 1) (by omega)).2
          omega
      obtain ⟨c, hc, he⟩ := ih _ hr
      refine ⟨c, by rw [Nat.pow_succ]; omega, ?_⟩
      rw [bitsL, Nat.div_eq_of_lt hc, if_neg (by simp)]
      exact he
theorem bestC_min {k : Cs} (hg : Good k) (c : Nat) : ((bestC k c).2 < 0 ∧ ∀ c', c' < c → covers k.need (bitsL c' k.need.length) = false) ∨
    (IsMin (fun ps => ∃ c', c' < c ∧ ps = bitsL c' k.need.length ∧ covers k.need ps = true) (costL k k.need.length) (bestC k c).1 ∧ (bestC k c).2 = costL k k.need.length (bestC k c).1) := by
  induction c with
  | zero => exact .inl ⟨by simp [bestC], fun c' h => by omega⟩
  | succ c ih =>
    obtain ⟨ps, hps⟩ : ∃ ps, ps = bitsL c k.need.length := ⟨_, rfl⟩
    have hr : Rising ps k.need.length := by rw [hps]; exact bitsL_rising _ _
    rw [bestC, ← hps, stepB]
    cases hcv : covers k.need ps with
    | false =>
      rw [if_neg (by simp)]
      rcases ih with ⟨h1, h2⟩ | ⟨h1, h2⟩
      · refine .inl ⟨h1, fun c' h => ?_⟩
        by_cases e : c' = c
        · rw [e, ← hps]; exact hcv
        · exact h2 c' (by omega)
      · refine .inr ⟨h1.congr fun y => ⟨?_, ?_⟩, h2⟩
        · rintro ⟨c', g1, g2, g3⟩
          by_cases e : c' = c
          · rw [g2, e, ← hps, hcv] at g3; cases g3
          · exact ⟨c', by omega, g2, g3⟩
        · rintro ⟨c', g1, g2, g3⟩
          exact ⟨c', by omega, g2, g3⟩
    | true =>
      rw [if_pos rfl, fromL_cost hg hr hcv]
      have hnn := (costL_in hg hr).1
      have one : IsMin (fun y => y = ps) (costL k k.need.length) ps := ⟨rfl, fun y hy => .inl hy⟩
      rcases ih with ⟨h1, h2⟩ | ⟨h1, h2⟩
      · rw [if_pos (.inl h1)]
        refine .inr ⟨one.congr fun y => ⟨?_, ?_⟩, rfl⟩
        · rintro ⟨c', g1, g2, g3⟩
          by_cases e : c' = c
          · rw [g2, e, ← hps]
          · rw [g2, h2 c' (by omega)] at g3; cases g3
        · rintro rfl
          exact ⟨c, by omega, hps, hcv⟩
      · have hb0 : ¬ ((bestC k c).2 < 0) := by
          obtain ⟨⟨c', g1, g2, g3⟩, _⟩ := h1
          rw [h2]
          have := (costL_in hg (bestC_rising k c)).1
          omega
        have hu := h1.union one
        have hset : ∀ y, (∃ c', c' < c + 1 ∧ y = bitsL c' k.need.length ∧ covers k.need y = true) ↔ ((∃ c', c' < c ∧ y = bitsL c' k.need.length ∧ covers k.need y = true) ∨ y = ps) := by
          intro y
          constructor
          · rintro ⟨c', g1, g2, g3⟩
            by_cases e : c' = c
            · right; rw [g2, e, ← hps]
            · exact .inl ⟨c', by omega, g2, g3⟩
          · rintro (⟨c', g1, g2, g3⟩ | rfl)
            · exact ⟨c', by omega, g2, g3⟩
            · exact ⟨c, by omega, hps, hcv⟩
        have hcond : ((bestC k c).2 < 0 ∨ costL k k.need.length ps < (bestC k c).2 ∨ (costL k k.need.length ps = (bestC k c).2 ∧ beforeB ps (bestC k c).1 = true)) ↔
            bef (costL k k.need.length ps, ps) (costL k k.need.length (bestC k c).1, (bestC k c).1) = true := by
          rw [← h2]
          unfold bef
          by_cases e : costL k k.need.length ps = (bestC k c).2
          · rw [if_pos e]
            constructor
            · rintro (g | g | g)
              · exact absurd g hb0
              · omega
              · exact g.2
            · intro g; exact .inr (.inr ⟨e, g⟩)
          · rw [if_neg e]
            constructor
            · rintro (g | g | g)
              · exact absurd g hb0
              · exact decide_eq_true g
              · exact absurd g.1 e
            · intro g; exact .inr (.inl (of_decide_eq_true g))
        right
        by_cases hbf : bef (costL k k.need.length ps, ps) (costL k k.need.length (bestC k c).1, (bestC k c).1) = true
        · rw [if_pos hbf] at hu
          rw [if_pos (hcond.2 hbf)]
          exact ⟨hu.congr hset, rfl⟩
        · rw [if_neg hbf] at hu
          rw [if_neg (fun g => hbf (hcond.1 g))]
          exact ⟨hu.congr hset, h2⟩
theorem bestL_dp {k : Cs} (hg : Good k) {T : Nat} (hTn : T ≤ k.need.length) (hz : ∀ j, j < T → k.need.getD j 0 = 0) (hT : T = k.need.length ∨ (T < k.need.length ∧ k.need.getD T 0 ≠ 0)) :
    bestL k = blF k k.need.length T ∧ bestCost k = costL k k.need.length (blF k k.need.length T) := by
  have hbl := (blF_min k k.need.length T hTn).congr (T := fun ps => ∃ c', c' < 2 ^ k.need.length ∧ ps = bitsL c' k.need.length ∧ covers k.need ps = true) fun y => by
    constructor
    · rintro ⟨c', g1, g2, g3⟩
      have hr : Rising y k.need.length := by rw [g2]; exact bitsL_rising _ _
      exact ⟨hr, (cov_iff hg hr hz hT).1 g3⟩
    · rintro ⟨g1, g2⟩
      obtain ⟨c', h1, h2⟩ := bits_all _ y g1
      exact ⟨c', h1, h2, (cov_iff hg g1 hz hT).2 g2⟩
  have e : bestL k = blF k k.need.length T := by
    rcases bestC_min hg (2 ^ k.need.length) with ⟨_, h2⟩ | ⟨h1, _⟩
    · obtain ⟨⟨c', g1, g2, g3⟩, _⟩ := hbl
      rw [g2, h2 c' g1] at g3
      cases g3
    · exact h1.uniq hbl
  refine ⟨e, ?_⟩
  unfold bestCost
  have hcv : covers k.need (bestL k) = true := by
    rw [e]
    obtain ⟨⟨c', g1, g2, g3⟩, _⟩ := hbl
    exact g3
  rw [fromL_cost hg (show Rising (bestL k) k.need.length from bestC_rising k _) hcv, e]
end Go.Proofs.Ytamhhicnfpemeaa
end
section
namespace Go.Proofs.Ytamhhicnfpemeaa.Ab
open Go Go.RowKit
set_option linter.unusedVariables false
set_option linter.unusedSimpArgs false
theorem l2Covers_rc (m : Mem) (v u : Value) (k : Cs) (ps : List Int) (h : CaseA m v k) (h' : IntsA m u ps) (hg : Good k) (hl : ps.length ≤ 1048576) :
    RC Try.prog 144 [v, u] m (AnsV (.bool (covers k.need ps))) := by
  refine rc_of_run mixed ok_spec_l2Covers (by simp) (go_start _ _ _ ?_)
  obtain ⟨v1, v2, v3, v4, rfl, h1, h2, h3, h4⟩ := h.ro.ok
  have hu := h'.ro
  have h8 := hg.n8
  have hx : Grow (roM m ++ [⟨.own, 30, [v1, v2, v3, v4]⟩]) (roM m ++ [⟨.own, 30, [v1, v2, v3, v4]⟩]) := Grow.refl _
  obtain ⟨r0, r1, r2, r3, hlM⟩ := hx.box4
  have i1 := hx.intsV h1
  have iu := hx.intsV hu
  simp (config := {implicitDefEqProofs := false, maxDischargeDepth := 20}) (disch := first | omega | (simp only [lenE]; done) | (simp only [lenE]; omega) | rfl | (simp only [lenE, markR_len]; done) | (simp only [lenE, markR_len]; omega)) only [runE, mapE, listE, initT_5, initT_6, initT_7, initT_8, resV, oneV, binA, unA, reduceCtorEq, Nat.reduceEqDiff, Nat.reduceAdd, Nat.reduceLT, Nat.reduceLeDiff, Nat.reduceMul, Nat.reduceSub, ↓reduceIte, decide_true, decide_false, Bool.true_eq_false, Bool.false_eq_true, Bool.not_true, Bool.not_false, if_true, if_false, and_true, true_and, memE, celE, w64, Nat.zero_add, Nat.add_zero, Nat.mul_one, putL, and_self, ldn, c_spec_l2Covers, r_spec_l2Covers]
  refine loop_inv mixed (fun s => ∃ t : Nat, t ≤ k.need.length ∧ (∀ j, j < t → k.need.getD j 0 ≤ 0) ∧ s.t 1 = u ∧ s.t 2 = .pointer (some ⟨m.length, 0, none⟩) ∧ s.t 5 = .int .i64 t ∧ s.m = roM m ++ [⟨.own, 30, [v1, v2, v3, v4]⟩]) (fun s => k.need.length - (intOf (s.t 5)).toNat)
    ⟨0, by omega, fun j hj => absurd hj (by omega), rfl, rfl, rfl, rfl⟩ ?_
  rintro s ⟨t, hk, hall, t1, t2, t5, tm⟩
  by_cases hlt : t < k.need.length
  · have hlt' : (t : Int) < k.need.length := by omega
    have go : ∀ hf : ¬ (0 < ps.length ∧ ps.getD 0 0 ≤ t), True := fun _ => trivial
    by_cases hp : 0 < ps.length
    · have hp' : (0 : Int) < ps.length := by omega
      have a0 : iadA 1 u (.int .i64 0) = some (pAt u 0) := iu.at_ 0 hp
      have l0 := iu.ld 0 hp
      by_cases hq : ps.getD 0 0 ≤ t
      · simp (config := {implicitDefEqProofs := false, maxDischargeDepth := 20}) (disch := first | omega | (simp only [lenE]; done) | (simp only [lenE]; omega) | rfl | (simp only [lenE, markR_len]; done) | (simp only [lenE, markR_len]; omega)) only [runE, mapE, listE, initT_5, initT_6, initT_7, initT_8, resV, oneV, binA, unA, reduceCtorEq, Nat.reduceEqDiff, Nat.reduceAdd, Nat.reduceLT, Nat.reduceLeDiff, Nat.reduceMul, Nat.reduceSub, ↓reduceIte, decide_true, decide_false, Bool.true_eq_false, Bool.false_eq_true, Bool.not_true, Bool.not_false, if_true, if_false, and_true, true_and, memE, celE, w64, Nat.zero_add, Nat.add_zero, Nat.mul_one, putL, and_self, ldn, t1, t2, t5, tm, r0, i1.len, hlt', hu.len, gt_iff_lt, hp', a0, l0, hq]
        rw [covers_yes hk hall (.inr ⟨hp, hq⟩)]
        exact ext_ansV hx.ext rfl
      · by_cases hn : 0 < k.need.getD t 0
        · simp (config := {implicitDefEqProofs := false, maxDischargeDepth := 20}) (disch := first | omega | (simp only [lenE]; done) | (simp only [lenE]; omega) | rfl | (simp only [lenE, markR_len]; done) | (simp only [lenE, markR_len]; omega)) only [runE, mapE, listE, initT_5, initT_6, initT_7, initT_8, resV, oneV, binA, unA, reduceCtorEq, Nat.reduceEqDiff, Nat.reduceAdd, Nat.reduceLT, Nat.reduceLeDiff, Nat.reduceMul, Nat.reduceSub, ↓reduceIte, decide_true, decide_false, Bool.true_eq_false, Bool.false_eq_true, Bool.not_true, Bool.not_false, if_true, if_false, and_true, true_and, memE, celE, w64, Nat.zero_add, Nat.add_zero, Nat.mul_one, putL, and_self, ldn, t1, t2, t5, tm, r0, i1.len, hlt', hu.len, gt_iff_lt, hp', a0, l0, hq, i1.at_ t hlt, i1.ld t hlt, hn]
          rw [covers_no hlt hn fun hh => hq hh.2]
          exact ext_ansV hx.ext rfl
        · simp (config := {implicitDefEqProofs := false, maxDischargeDepth := 20}) (disch := first | omega | (simp only [lenE]; done) | (simp only [lenE]; omega) | rfl | (simp only [lenE, markR_len]; done) | (simp only [lenE, markR_len]; omega)) only [runE, mapE, listE, initT_5, initT_6, initT_7, initT_8, resV, oneV, binA, unA, reduceCtorEq, Nat.reduceEqDiff, Nat.reduceAdd, Nat.reduceLT, Nat.reduceLeDiff, Nat.reduceMul, Nat.reduceSub, ↓reduceIte, decide_true, decide_false, Bool.true_eq_false, Bool.false_eq_true, Bool.not_true, Bool.not_false, if_true, if_false, and_true, true_and, memE, celE, w64, Nat.zero_add, Nat.add_zero, Nat.mul_one, putL, and_self, ldn, t1, t2, t5, tm, r0, i1.len, hlt', hu.len, gt_iff_lt, hp', a0, l0, hq, i1.at_ t hlt, i1.ld t hlt, hn]
          refine ⟨⟨t + 1, by omega, fun j hj => ?_, by simp⟩, by simp [intOf]; omega⟩
          by_cases e : j < t
          · exact hall j e
          · have : j = t := by omega
            rw [this]; omega
    · have hp' : ¬ ((0 : Int) < ps.length) := by omega
      by_cases hn : 0 < k.need.getD t 0
      · simp (config := {implicitDefEqProofs := false, maxDischargeDepth := 20}) (disch := first | omega | (simp only [lenE]; done) | (simp only [lenE]; omega) | rfl | (simp only [lenE, markR_len]; done) | (simp only [lenE, markR_len]; omega)) only [runE, mapE, listE, initT_5, initT_6, initT_7, initT_8, resV, oneV, binA, unA, reduceCtorEq, Nat.reduceEqDiff, Nat.reduceAdd, Nat.reduceLT, Nat.reduceLeDiff, Nat.reduceMul, Nat.reduceSub, ↓reduceIte, decide_true, decide_false, Bool.true_eq_false, Bool.false_eq_true, Bool.not_true, Bool.not_false, if_true, if_false, and_true, true_and, memE, celE, w64, Nat.zero_add, Nat.add_zero, Nat.mul_one, putL, and_self, ldn, t1, t2, t5, tm, r0, i1.len, hlt', hu.len, gt_iff_lt, hp', i1.at_ t hlt, i1.ld t hlt, hn]
        rw [covers_no hlt hn fun hh => hp hh.1]
        exact ext_ansV hx.ext rfl
      · simp (config := {implicitDefEqProofs := false, maxDischargeDepth := 20}) (disch := first | omega | (simp only [lenE]; done) | (simp only [lenE]; omega) | rfl | (simp only [lenE, markR_len]; done) | (simp only [lenE, markR_len]; omega)) only [runE, mapE, listE, initT_5, initT_6, initT_7, initT_8, resV, oneV, binA, unA, reduceCtorEq, Nat.reduceEqDiff, Nat.reduceAdd, Nat.reduceLT, Nat.reduceLeDiff, Nat.reduceMul, Nat.reduceSub, ↓reduceIte, decide_true, decide_false, Bool.true_eq_false, Bool.false_eq_true, Bool.not_true, Bool.not_false, if_true, if_false, and_true, true_and, memE, celE, w64, Nat.zero_add, Nat.add_zero, Nat.mul_one, putL, and_self, ldn, t1, t2, t5, tm, r0, i1.len, hlt', hu.len, gt_iff_lt, hp', i1.at_ t hlt, i1.ld t hlt, hn]
        refine ⟨⟨t + 1, by omega, fun j hj => ?_, by simp⟩, by simp [intOf]; omega⟩
        by_cases e : j < t
        · exact hall j e
        · have : j = t := by omega
          rw [this]; omega
  · have hlt' : ¬ ((t : Int) < k.need.length) := by omega
    have e : t = k.need.length := by omega
    simp (config := {implicitDefEqProofs := false, maxDischargeDepth := 20}) (disch := first | omega | (simp only [lenE]; done) | (simp only [lenE]; omega) | rfl | (simp only [lenE, markR_len]; done) | (simp only [lenE, markR_len]; omega)) only [runE, mapE, listE, initT_5, initT_6, initT_7, initT_8, resV, oneV, binA, unA, reduceCtorEq, Nat.reduceEqDiff, Nat.reduceAdd, Nat.reduceLT, Nat.reduceLeDiff, Nat.reduceMul, Nat.reduceSub, ↓reduceIte, decide_true, decide_false, Bool.true_eq_false, Bool.false_eq_true, Bool.not_true, Bool.not_false, if_true, if_false, and_true, true_and, memE, celE, w64, Nat.zero_add, Nat.add_zero, Nat.mul_one, putL, and_self, ldn, t1, t2, t5, tm, r0, i1.len, hlt']
    rw [covers_yes hk hall (.inl e)]
    exact ext_ansV hx.ext rfl

theorem l2From_rc (m : Mem) (v u : Value) (k : Cs) (ps : List Int) (h : CaseA m v k) (h' : IntsA m u ps) (hg : Good k) (hr : Rising ps k.need.length) (hl : ps.length ≤ 1048576) :
    RC Try.prog 113 [v, u] m (AnsR m (fromL k.need ps)) := by
  refine rc_of_run mixed ok_spec_l2From (by simp) (go_start _ _ _ ?_)
  obtain ⟨v1, v2, v3, v4, rfl, h1, h2, h3, h4⟩ := h.ro.ok
  have hu := h'.ro
  have h8 := hg.n8
  obtain ⟨n, hn⟩ : ∃ n, n = k.need.length := ⟨_, rfl⟩
  have mk : ∀ M : Mem, mksA M 3 8 [.int .i64 0] (.int .i64 (n : Int)) (.int .i64 (n : Int)) = some (.slice (some ⟨M.length, 0, none⟩) n 1, M ++ [⟨.own, 3, List.replicate n (.int .i64 0)⟩]) := fun M => mksA_eq rfl (by omega)
  have l1 := h1.len
  rw [← hn] at l1 hr h8
  simp (config := {implicitDefEqProofs := false, maxDischargeDepth := 20}) (disch := first | omega | (simp only [lenE]; done) | (simp only [lenE]; omega) | rfl | (simp only [lenE, markR_len]; done) | (simp only [lenE, markR_len]; omega)) only [runE, mapE, listE, initT_5, initT_6, initT_7, initT_8, resV, oneV, binA, unA, reduceCtorEq, Nat.reduceEqDiff, Nat.reduceAdd, Nat.reduceLT, Nat.reduceLeDiff, Nat.reduceMul, Nat.reduceSub, ↓reduceIte, decide_true, decide_false, Bool.true_eq_false, Bool.false_eq_true, Bool.not_true, Bool.not_false, if_true, if_false, and_true, true_and, memE, celE, w64, Nat.zero_add, Nat.add_zero, Nat.mul_one, putL, and_self, ldn, c_spec_l2From, r_spec_l2From, l1, mk]
  have hx : Grow (roM m ++ [⟨.own, 30, [v1, v2, v3, v4]⟩]) (roM m ++ [⟨.own, 30, [v1, v2, v3, v4]⟩] ++ [⟨.own, 3, List.replicate n (.int .i64 0)⟩]) := (Grow.refl _).one _ _
  have o0 : OwnR (roM m ++ [⟨.own, 30, [v1, v2, v3, v4]⟩] ++ [⟨.own, 3, List.replicate n (.int .i64 0)⟩]) (m.length + 1) (List.replicate n 0) := OwnR.zeros (by simp [roM_len])
  refine loop_inv mixed (fun s => ∃ (i : Nat) (M : Mem), i ≤ ps.length ∧ s.t 1 = u ∧ s.t 2 = .pointer (some ⟨m.length, 0, none⟩) ∧ s.t 5 = .slice (some ⟨m.length + 1, 0, none⟩) n 1 ∧ s.t 6 = .int .i64 i ∧ s.m = M ∧ Grow (roM m ++ [⟨.own, 30, [v1, v2, v3, v4]⟩]) M ∧ OwnR M (m.length + 1) (fromI k.need ps i)) (fun s => ps.length - (intOf (s.t 6)).toNat)
    ⟨0, _, by omega, rfl, rfl, by simp only [put_t, put_t', put_m, putT_t, putT_t', putT_m, init_t, init_m, initT_0, initT_1, initT_2, initT_3, initT_4, initT_5, initT_6, initT_7, initT_8, Nat.reduceEqDiff, ↓reduceIte], rfl, rfl, hx, by rw [fromI, ← hn]; exact o0⟩ ?_
  rintro s ⟨i, M, hk, t1, t2, t5, t6, tm, hxM, oM⟩
  obtain ⟨r0, r1, r2, r3, hlM⟩ := hxM.box4
  have i1 := hxM.intsV h1
  have iu := hxM.intsV hu
  have l1 := i1.len
  rw [← hn] at l1
  by_cases hlt : i < ps.length
  · have hlt' : (i : Int) < ps.length := by omega
    have hb := hr.bd i hlt
    obtain ⟨p, hp⟩ : ∃ p : Nat, ps.getD i 0 = (p : Int) := ⟨(ps.getD i 0).toNat, by omega⟩
    have hnx := nxtP_in hr hlt
    have hpn : (ps.getD i 0).toNat = p := by omega
    rw [hpn] at hnx
    obtain ⟨c1, e1, d1⟩ := i1.cut hnx.1 (by omega)
    have li := iu.ld i hlt
    rw [hp] at li
    have hfl := fromI_len k.need ps i
    have hxp : p < (fromI k.need ps i).length := by omega
    have fin : ∀ x : Int, x = sumR k.need p (nxtP n ps i) → OwnR (M.set (m.length + 1) (rowB ((fromI k.need ps i).set p x))) (m.length + 1) (fromI k.need ps (i + 1)) := fun x hx => by
      have := OwnR.set_self (L' := (fromI k.need ps i).set p x) oM
      rw [fromI, hpn, ← hn, ← hx]; exact this
    by_cases h2 : i + 1 < ps.length
    · have h2' : (i : Int) + 1 < ps.length := by omega
      have a2 := iu.at_ (i + 1) h2
      have l2 := iu.ld (i + 1) h2
      have ee : ps.getD (i + 1) 0 = (nxtP n ps i : Int) := by unfold nxtP; rw [if_pos h2]; have := hr.bd (i + 1) h2; omega
      rw [ee] at l2
      have cast1 : ((i + 1 : Nat) : Int) = (i : Int) + 1 := by omega
      rw [cast1] at a2
      simp (config := {implicitDefEqProofs := false, maxDischargeDepth := 20}) (disch := first | omega | (simp only [lenE]; done) | (simp only [lenE]; omega) | rfl | (simp only [lenE, markR_len]; done) | (simp only [lenE, markR_len]; omega)) only [runE, mapE, listE, initT_5, initT_6, initT_7, initT_8, resV, oneV, binA, unA, reduceCtorEq, Nat.reduceEqDiff, Nat.reduceAdd, Nat.reduceLT, Nat.reduceLeDiff, Nat.reduceMul, Nat.reduceSub, ↓reduceIte, decide_true, decide_false, Bool.true_eq_false, Bool.false_eq_true, Bool.not_true, Bool.not_false, if_true, if_false, and_true, true_and, memE, celE, w64, Nat.zero_add, Nat.add_zero, Nat.mul_one, putL, and_self, ldn, t1, t2, t5, t6, tm, hu.len, hlt', r0, l1, h2', a2, l2, iu.at_ i hlt, li, e1]
      refine rcallH_rc (l2Sum_rc _ _ (cutL k.need p (nxtP n ps i)) d1 fun q hq => ?_) ?_
      · rw [cutL_len (by omega)] at hq
        rw [sumTo_cut hnx.1 (by omega) q hq]
        have := sumR_in (m := 20) (by omega) hg.need p q
        omega
      rintro r new ⟨rfl, rfl⟩
      rw [sumTo_cut' hnx.1 (by omega)]
      have w := oM.st (off := p) (x := sumR k.need p (nxtP n ps i)) hxp
      simp (config := {implicitDefEqProofs := false, maxDischargeDepth := 20}) (disch := first | omega | (simp only [lenE]; done) | (simp only [lenE]; omega) | rfl | (simp only [lenE, markR_len]; done) | (simp only [lenE, markR_len]; omega)) only [runE, mapE, listE, initT_5, initT_6, initT_7, initT_8, resV, oneV, binA, unA, reduceCtorEq, Nat.reduceEqDiff, Nat.reduceAdd, Nat.reduceLT, Nat.reduceLeDiff, Nat.reduceMul, Nat.reduceSub, ↓reduceIte, decide_true, decide_false, Bool.true_eq_false, Bool.false_eq_true, Bool.not_true, Bool.not_false, if_true, if_false, and_true, true_and, memE, celE, w64, Nat.zero_add, Nat.add_zero, Nat.mul_one, putL, and_self, ldn, t1, t2, t5, t6, tm, iadA_in (show p < n by omega), w]
      exact ⟨⟨i + 1, _, by omega, by simp, rfl, hxM.put (id := m.length + 1) (by simp [roM_len]) _ _, fin _ rfl⟩, by simp [intOf]; omega⟩
    · have h2' : ¬ ((i : Int) + 1 < ps.length) := by omega
      have ee : (n : Int) = (nxtP n ps i : Int) := by unfold nxtP; rw [if_neg h2]
      simp (config := {implicitDefEqProofs := false, maxDischargeDepth := 20}) (disch := first | omega | (simp only [lenE]; done) | (simp only [lenE]; omega) | rfl | (simp only [lenE, markR_len]; done) | (simp only [lenE, markR_len]; omega)) only [runE, mapE, listE, initT_5, initT_6, initT_7, initT_8, resV, oneV, binA, unA, reduceCtorEq, Nat.reduceEqDiff, Nat.reduceAdd, Nat.reduceLT, Nat.reduceLeDiff, Nat.reduceMul, Nat.reduceSub, ↓reduceIte, decide_true, decide_false, Bool.true_eq_false, Bool.false_eq_true, Bool.not_true, Bool.not_false, if_true, if_false, and_true, true_and, memE, celE, w64, Nat.zero_add, Nat.add_zero, Nat.mul_one, putL, and_self, ldn, t1, t2, t5, t6, tm, hu.len, hlt', r0, l1, h2', iu.at_ i hlt, li, ee, e1]
      refine rcallH_rc (l2Sum_rc _ _ (cutL k.need p (nxtP n ps i)) d1 fun q hq => ?_) ?_
      · rw [cutL_len (by omega)] at hq
        rw [sumTo_cut hnx.1 (by omega) q hq]
        have := sumR_in (m := 20) (by omega) hg.need p q
        omega
      rintro r new ⟨rfl, rfl⟩
      rw [sumTo_cut' hnx.1 (by omega)]
      have w := oM.st (off := p) (x := sumR k.need p (nxtP n ps i)) hxp
      simp (config := {implicitDefEqProofs := false, maxDischargeDepth := 20}) (disch := first | omega | (simp only [lenE]; done) | (simp only [lenE]; omega) | rfl | (simp only [lenE, markR_len]; done) | (simp only [lenE, markR_len]; omega)) only [runE, mapE, listE, initT_5, initT_6, initT_7, initT_8, resV, oneV, binA, unA, reduceCtorEq, Nat.reduceEqDiff, Nat.reduceAdd, Nat.reduceLT, Nat.reduceLeDiff, Nat.reduceMul, Nat.reduceSub, ↓reduceIte, decide_true, decide_false, Bool.true_eq_false, Bool.false_eq_true, Bool.not_true, Bool.not_false, if_true, if_false, and_true, true_and, memE, celE, w64, Nat.zero_add, Nat.add_zero, Nat.mul_one, putL, and_self, ldn, t1, t2, t5, t6, tm, iadA_in (show p < n by omega), w]
      exact ⟨⟨i + 1, _, by omega, by simp, rfl, hxM.put (id := m.length + 1) (by simp [roM_len]) _ _, fin _ rfl⟩, by simp [intOf]; omega⟩
  · have hlt' : ¬ ((i : Int) < ps.length) := by omega
    have e : i = ps.length := by omega
    subst e
    simp (config := {implicitDefEqProofs := false, maxDischargeDepth := 20}) (disch := first | omega | (simp only [lenE]; done) | (simp only [lenE]; omega) | rfl | (simp only [lenE, markR_len]; done) | (simp only [lenE, markR_len]; omega)) only [runE, mapE, listE, initT_5, initT_6, initT_7, initT_8, resV, oneV, binA, unA, reduceCtorEq, Nat.reduceEqDiff, Nat.reduceAdd, Nat.reduceLT, Nat.reduceLeDiff, Nat.reduceMul, Nat.reduceSub, ↓reduceIte, decide_true, decide_false, Bool.true_eq_false, Bool.false_eq_true, Bool.not_true, Bool.not_false, if_true, if_false, and_true, true_and, memE, celE, w64, Nat.zero_add, Nat.add_zero, Nat.mul_one, putL, and_self, ldn, t1, t2, t5, t6, tm, hu.len, hlt']
    exact ext_ansR hxM.ext (show OwnR M (m.length + 1) (fromL k.need ps) from oM) (by omega) (by rw [fromL_len, hn]) (by rw [fromL_len]; omega)

theorem and1 (x : Nat) : (BitVec.ofInt 64 (x : Int) &&& BitVec.ofInt 64 1).toNat = x % 2 := by
  rw [show (BitVec.ofInt 64 (1 : Int)) = 1#64 from rfl]
  rw [BitVec.toNat_and, BitVec.toNat_ofInt]
  simp [Nat.and_one_is_mod]
  omega
theorem and1w (x : Nat) (h : x ≤ 1000) : IntKind.wrap .i64 (((BitVec.ofInt IntKind.i64.bits (x : Int) &&& BitVec.ofInt IntKind.i64.bits 1).toNat : Nat) : Int) = ((x % 2 : Nat) : Int) := by
  rw [show ((BitVec.ofInt IntKind.i64.bits (x : Int) &&& BitVec.ofInt IntKind.i64.bits 1).toNat) = x % 2 from and1 x]
  exact w64 ⟨by omega, by omega⟩
theorem shr_code {c x : Nat} (h : x ≤ 63) : (c : Int).fdiv (2 ^ (min ((x : Nat) : Int).toNat IntKind.i64.bits)) = ((c / 2 ^ x : Nat) : Int) := by
  have : min ((x : Nat) : Int).toNat IntKind.i64.bits = x := by
    have : IntKind.i64.bits = 64 := rfl
    rw [this]; omega
  rw [this]
  have e : (2 : Int) ^ x = ((2 ^ x : Nat) : Int) := by simp
  rw [e, Int.natCast_ediv]
  exact Int.fdiv_eq_ediv_of_nonneg _ (Int.natCast_nonneg _)

theorem l2Bits_rc (m : Mem) (n c : Nat) (hn : n ≤ 8) (hc : c ≤ 256) :
    RC Try.prog 86 [.int .i64 n, .int .i64 c] m (AnsR m (bitsL c n)) := by
  refine rc_of_run mixed ok_spec_l2Bits (by simp) (go_start _ _ _ ?_)
  simp (config := {implicitDefEqProofs := false, maxDischargeDepth := 20}) (disch := first | omega | (simp only [lenE]; done) | (simp only [lenE]; omega) | rfl | (simp only [lenE, markR_len]; done) | (simp only [lenE, markR_len]; omega)) only [runE, mapE, listE, initT_5, initT_6, initT_7, initT_8, resV, oneV, binA, unA, reduceCtorEq, Nat.reduceEqDiff, Nat.reduceAdd, Nat.reduceLT, Nat.reduceLeDiff, Nat.reduceMul, Nat.reduceSub, ↓reduceIte, decide_true, decide_false, Bool.true_eq_false, Bool.false_eq_true, Bool.not_true, Bool.not_false, if_true, if_false, and_true, true_and, memE, celE, w64, Nat.zero_add, Nat.add_zero, Nat.mul_one, putL, and_self, ldn, c_spec_l2Bits, r_spec_l2Bits, bsl_none]
  refine loop_inv mixed (fun s => ∃ (x : Nat) (M : Mem) (id : Nat), x ≤ n ∧ s.t 0 = .int .i64 n ∧ s.t 1 = .int .i64 c ∧ s.t 5 = .slice (some ⟨id, 0, none⟩) (bitsL c x).length 1 ∧ s.t 6 = .int .i64 x ∧ s.m = M ∧ Ext m M ∧ OwnR M id (bitsL c x) ∧ m.length ≤ id) (fun s => n - (intOf (s.t 6)).toNat)
    ⟨0, _, m.length, by omega, rfl, rfl, by simp only [put_t, put_t', put_m, putT_t, putT_t', putT_m, init_t, init_m, initT_0, initT_1, initT_2, initT_3, initT_4, initT_5, initT_6, initT_7, initT_8, Nat.reduceEqDiff, ↓reduceIte]; rfl, rfl, rfl, (Ext.refl m).one _ _, OwnR.end' (l := []) (by simp [roM_len]), Nat.le_refl _⟩ ?_
  rintro s ⟨x, M, id, hk, t0, t1, t5, t6, tm, hx, oM, lid⟩
  by_cases hlt : x < n
  · have hlt' : (x : Int) < n := by omega
    have hx0 : ¬ ((x : Int) < 0) := by omega
    have hd : c / 2 ^ x ≤ 1000 := Nat.le_trans (Nat.div_le_self _ _) (by omega)
    have aw := and1w (c / 2 ^ x) hd
    have bl := bitsL_len c x
    by_cases hb : c / 2 ^ x % 2 = 1
    · have hb' : (((c / 2 ^ x % 2 : Nat) : Int) == 1) = true := by rw [hb]; rfl
      simp (config := {implicitDefEqProofs := false, maxDischargeDepth := 20}) (disch := first | omega | (simp only [lenE]; done) | (simp only [lenE]; omega) | rfl | (simp only [lenE, markR_len]; done) | (simp only [lenE, markR_len]; omega)) only [runE, mapE, listE, initT_5, initT_6, initT_7, initT_8, resV, oneV, binA, unA, reduceCtorEq, Nat.reduceEqDiff, Nat.reduceAdd, Nat.reduceLT, Nat.reduceLeDiff, Nat.reduceMul, Nat.reduceSub, ↓reduceIte, decide_true, decide_false, Bool.true_eq_false, Bool.false_eq_true, Bool.not_true, Bool.not_false, if_true, if_false, and_true, true_and, memE, celE, w64, Nat.zero_add, Nat.add_zero, Nat.mul_one, putL, and_self, ldn, t0, t1, t5, t6, tm, hlt', hx0, shr_code (c := c) (show x ≤ 63 by omega), aw, hb', bsl_one, app_gen oM (by omega)]
      refine ⟨⟨x + 1, _, M.length + 1, by omega, by rw [bitsL, if_pos hb]; simp, by simp, rfl, ((hx.dead lid).one _ _).one _ _, ?_, by have := hx.len; omega⟩, by simp [intOf]; omega⟩
      rw [bitsL, if_pos hb]
      have := OwnR.at_end (M.set id deadB ++ [⟨.own, 3, [.int .i64 (x : Int)]⟩]) (bitsL c x ++ [(x : Int)])
      simpa using this
    · have hb' : (((c / 2 ^ x % 2 : Nat) : Int) == 1) = false := by
        have : c / 2 ^ x % 2 = 0 := by omega
        rw [this]; rfl
      simp (config := {implicitDefEqProofs := false, maxDischargeDepth := 20}) (disch := first | omega | (simp only [lenE]; done) | (simp only [lenE]; omega) | rfl | (simp only [lenE, markR_len]; done) | (simp only [lenE, markR_len]; omega)) only [runE, mapE, listE, initT_5, initT_6, initT_7, initT_8, resV, oneV, binA, unA, reduceCtorEq, Nat.reduceEqDiff, Nat.reduceAdd, Nat.reduceLT, Nat.reduceLeDiff, Nat.reduceMul, Nat.reduceSub, ↓reduceIte, decide_true, decide_false, Bool.true_eq_false, Bool.false_eq_true, Bool.not_true, Bool.not_false, if_true, if_false, and_true, true_and, memE, celE, w64, Nat.zero_add, Nat.add_zero, Nat.mul_one, putL, and_self, ldn, t0, t1, t5, t6, tm, hlt', hx0, shr_code (c := c) (show x ≤ 63 by omega), aw, hb']
      exact ⟨⟨x + 1, M, id, by omega, by rw [bitsL, if_neg hb], by simp, rfl, hx, by rw [bitsL, if_neg hb]; exact oM, lid⟩, by simp [intOf]; omega⟩
  · have hlt' : ¬ ((x : Int) < n) := by omega
    have e : x = n := by omega
    subst e
    have := bitsL_len c x
    simp (config := {implicitDefEqProofs := false, maxDischargeDepth := 20}) (disch := first | omega | (simp only [lenE]; done) | (simp only [lenE]; omega) | rfl | (simp only [lenE, markR_len]; done) | (simp only [lenE, markR_len]; omega)) only [runE, mapE, listE, initT_5, initT_6, initT_7, initT_8, resV, oneV, binA, unA, reduceCtorEq, Nat.reduceEqDiff, Nat.reduceAdd, Nat.reduceLT, Nat.reduceLeDiff, Nat.reduceMul, Nat.reduceSub, ↓reduceIte, decide_true, decide_false, Bool.true_eq_false, Bool.false_eq_true, Bool.not_true, Bool.not_false, if_true, if_false, and_true, true_and, memE, celE, w64, Nat.zero_add, Nat.add_zero, Nat.mul_one, putL, and_self, ldn, t0, t1, t5, t6, tm, hlt']
    exact ext_ansR hx oM (by omega) rfl (by omega)

theorem l2Before_rc (m : Mem) (v u : Value) (a b : List Int) (h : IntsA m v a) (h' : IntsA m u b) :
    RC Try.prog 145 [v, u] m (AnsV (.bool (beforeB a b))) := by
  refine rc_of_run mixed ok_spec_l2Before (by simp) (go_start _ _ _ ?_)
  have hv := h.ro
  have hu := h'.ro
  have hbd := hv.bd
  by_cases hl : a.length = b.length
  · have hl' : ((a.length : Int) != (b.length : Int)) = false := by rw [hl]; simp
    have eB : beforeB a b = lexB (a.drop 0) (b.drop 0) := by unfold beforeB; rw [if_pos hl]; rfl
    simp (config := {implicitDefEqProofs := false, maxDischargeDepth := 20}) (disch := first | omega | (simp only [lenE]; done) | (simp only [lenE]; omega) | rfl | (simp only [lenE, markR_len]; done) | (simp only [lenE, markR_len]; omega)) only [runE, mapE, listE, initT_5, initT_6, initT_7, initT_8, resV, oneV, binA, unA, reduceCtorEq, Nat.reduceEqDiff, Nat.reduceAdd, Nat.reduceLT, Nat.reduceLeDiff, Nat.reduceMul, Nat.reduceSub, ↓reduceIte, decide_true, decide_false, Bool.true_eq_false, Bool.false_eq_true, Bool.not_true, Bool.not_false, if_true, if_false, and_true, true_and, memE, celE, w64, Nat.zero_add, Nat.add_zero, Nat.mul_one, putL, and_self, ldn, c_spec_l2Before, r_spec_l2Before, hv.len, hu.len, hl']
    refine loop_inv mixed (fun s => ∃ i : Nat, i ≤ a.length ∧ beforeB a b = lexB (a.drop i) (b.drop i) ∧ s.t 0 = v ∧ s.t 1 = u ∧ s.t 5 = .int .i64 i ∧ s.m = roM m) (fun s => a.length - (intOf (s.t 5)).toNat)
      ⟨0, by omega, eB, rfl, rfl, rfl, rfl⟩ ?_
    rintro s ⟨i, hk, he, t0, t1, t5, tm⟩
    by_cases hlt : i < a.length
    · have hlt' : (i : Int) < a.length := by omega
      rw [lexB_drop hlt (by omega)] at he
      by_cases hq : a.getD i 0 = b.getD i 0
      · have hq' : (a.getD i 0 != b.getD i 0) = false := by rw [hq]; simp
        rw [if_pos hq] at he
        simp (config := {implicitDefEqProofs := false, maxDischargeDepth := 20}) (disch := first | omega | (simp only [lenE]; done) | (simp only [lenE]; omega) | rfl | (simp only [lenE, markR_len]; done) | (simp only [lenE, markR_len]; omega)) only [runE, mapE, listE, initT_5, initT_6, initT_7, initT_8, resV, oneV, binA, unA, reduceCtorEq, Nat.reduceEqDiff, Nat.reduceAdd, Nat.reduceLT, Nat.reduceLeDiff, Nat.reduceMul, Nat.reduceSub, ↓reduceIte, decide_true, decide_false, Bool.true_eq_false, Bool.false_eq_true, Bool.not_true, Bool.not_false, if_true, if_false, and_true, true_and, memE, celE, w64, Nat.zero_add, Nat.add_zero, Nat.mul_one, putL, and_self, ldn, t0, t1, t5, tm, hv.len, hlt', hv.at_ i hlt, hv.ld i hlt, hu.at_ i (by omega), hu.ld i (by omega), hq']
        exact ⟨⟨i + 1, by omega, he, by simp⟩, by simp [intOf]; omega⟩
      · have hq' : (a.getD i 0 != b.getD i 0) = true := by simpa using hq
        rw [if_neg hq] at he
        simp (config := {implicitDefEqProofs := false, maxDischargeDepth := 20}) (disch := first | omega | (simp only [lenE]; done) | (simp only [lenE]; omega) | rfl | (simp only [lenE, markR_len]; done) | (simp only [lenE, markR_len]; omega)) only [runE, mapE, listE, initT_5, initT_6, initT_7, initT_8, resV, oneV, binA, unA, reduceCtorEq, Nat.reduceEqDiff, Nat.reduceAdd, Nat.reduceLT, Nat.reduceLeDiff, Nat.reduceMul, Nat.reduceSub, ↓reduceIte, decide_true, decide_false, Bool.true_eq_false, Bool.false_eq_true, Bool.not_true, Bool.not_false, if_true, if_false, and_true, true_and, memE, celE, w64, Nat.zero_add, Nat.add_zero, Nat.mul_one, putL, and_self, ldn, t0, t1, t5, tm, hv.len, hlt', hv.at_ i hlt, hv.ld i hlt, hu.at_ i (by omega), hu.ld i (by omega), hq']
        rw [he]
        exact ext_ansV (Ext.refl m) rfl
    · have hlt' : ¬ ((i : Int) < a.length) := by omega
      have e : i = a.length := by omega
      have : lexB (a.drop i) (b.drop i) = false := by rw [e, List.drop_length]; rfl
      rw [this] at he
      simp (config := {implicitDefEqProofs := false, maxDischargeDepth := 20}) (disch := first | omega | (simp only [lenE]; done) | (simp only [lenE]; omega) | rfl | (simp only [lenE, markR_len]; done) | (simp only [lenE, markR_len]; omega)) only [runE, mapE, listE, initT_5, initT_6, initT_7, initT_8, resV, oneV, binA, unA, reduceCtorEq, Nat.reduceEqDiff, Nat.reduceAdd, Nat.reduceLT, Nat.reduceLeDiff, Nat.reduceMul, Nat.reduceSub, ↓reduceIte, decide_true, decide_false, Bool.true_eq_false, Bool.false_eq_true, Bool.not_true, Bool.not_false, if_true, if_false, and_true, true_and, memE, celE, w64, Nat.zero_add, Nat.add_zero, Nat.mul_one, putL, and_self, ldn, t0, t1, t5, tm, hv.len, hlt']
      rw [he]
      exact ext_ansV (Ext.refl m) rfl
  · have hl' : ((a.length : Int) != (b.length : Int)) = true := by
      have : (a.length : Int) ≠ b.length := by omega
      simpa using this
    have eB : beforeB a b = decide ((a.length : Int) < b.length) := by unfold beforeB; rw [if_neg hl]; simp
    simp (config := {implicitDefEqProofs := false, maxDischargeDepth := 20}) (disch := first | omega | (simp only [lenE]; done) | (simp only [lenE]; omega) | rfl | (simp only [lenE, markR_len]; done) | (simp only [lenE, markR_len]; omega)) only [runE, mapE, listE, initT_5, initT_6, initT_7, initT_8, resV, oneV, binA, unA, reduceCtorEq, Nat.reduceEqDiff, Nat.reduceAdd, Nat.reduceLT, Nat.reduceLeDiff, Nat.reduceMul, Nat.reduceSub, ↓reduceIte, decide_true, decide_false, Bool.true_eq_false, Bool.false_eq_true, Bool.not_true, Bool.not_false, if_true, if_false, and_true, true_and, memE, celE, w64, Nat.zero_add, Nat.add_zero, Nat.mul_one, putL, and_self, ldn, c_spec_l2Before, r_spec_l2Before, hv.len, hu.len, hl']
    rw [eB]
    exact ext_ansV (Ext.refl m) rfl

theorem shl1 {n : Nat} (h : n ≤ 8) : IntKind.wrap .i64 (1 * 2 ^ (min ((n : Nat) : Int).toNat IntKind.i64.bits)) = ((2 ^ n : Nat) : Int) := by
  have : min ((n : Nat) : Int).toNat IntKind.i64.bits = n := by
    have : IntKind.i64.bits = 64 := rfl
    rw [this]; omega
  rw [this]
  have e : (2 : Int) ^ n = ((2 ^ n : Nat) : Int) := by simp
  have h2 : 2 ^ n ≤ 2 ^ 8 := Nat.pow_le_pow_right (by omega) h
  rw [e, Int.one_mul]
  have h3 : ((2 ^ n : Nat) : Int) ≤ 256 := by omega
  exact w64 ⟨by have := Int.natCast_nonneg (2 ^ n); omega, by omega⟩

theorem l2Best_rc (m : Mem) (v : Value) (k : Cs) (h : CaseA m v k) (hg : Good k) :
    RC Try.prog 114 [v] m (AnsR m (bestL k)) := by
  refine rc_of_run mixed ok_spec_l2Best (by simp) (go_start _ _ _ ?_)
  obtain ⟨v1, v2, v3, v4, rfl, h1, h2, h3, h4⟩ := h.ro.ok
  have hc : CaseA (roM m) (.agg #[v1, v2, v3, v4]) k := ⟨_, _, _, _, rfl, h1, h2, h3, h4⟩
  have h8 := hg.n8
  obtain ⟨n, hn⟩ : ∃ n, n = k.need.length := ⟨_, rfl⟩
  rw [← hn] at h8
  have sh := shl1 h8
  obtain ⟨N, hN⟩ : ∃ N : Nat, N = 2 ^ n := ⟨_, rfl⟩
  rw [← hN] at sh
  have hN8 : N ≤ 256 := by rw [hN]; exact Nat.pow_le_pow_right (by omega) (show n ≤ 8 from h8)
  have hn0 : ¬ ((n : Int) < 0) := by omega
  simp (config := {implicitDefEqProofs := false, maxDischargeDepth := 20}) (disch := first | omega | (simp only [lenE]; done) | (simp only [lenE]; omega) | rfl | (simp only [lenE, markR_len]; done) | (simp only [lenE, markR_len]; omega)) only [runE, mapE, listE, initT_5, initT_6, initT_7, initT_8, resV, oneV, binA, unA, reduceCtorEq, Nat.reduceEqDiff, Nat.reduceAdd, Nat.reduceLT, Nat.reduceLeDiff, Nat.reduceMul, Nat.reduceSub, ↓reduceIte, decide_true, decide_false, Bool.true_eq_false, Bool.false_eq_true, Bool.not_true, Bool.not_false, if_true, if_false, and_true, true_and, memE, celE, w64, Nat.zero_add, Nat.add_zero, Nat.mul_one, putL, and_self, ldn, c_spec_l2Best, r_spec_l2Best, bsl_none]
  have hx : Grow (roM m ++ [⟨.own, 30, [v1, v2, v3, v4]⟩]) (roM m ++ [⟨.own, 30, [v1, v2, v3, v4]⟩] ++ [⟨.own, 3, []⟩]) := (Grow.refl _).one _ _
  have o0 : OwnR (roM m ++ [⟨.own, 30, [v1, v2, v3, v4]⟩] ++ [⟨.own, 3, []⟩]) (m.length + 1) [] := OwnR.end' (l := []) (by simp [roM_len])
  refine loop_inv mixed (fun s => ∃ (c : Nat) (M : Mem) (id fl : Nat), c ≤ N ∧ s.t 1 = .pointer (some ⟨m.length, 0, none⟩) ∧ s.t 3 = .slice (some ⟨id, 0, none⟩) (bestC k c).1.length fl ∧ s.t 4 = .int .i64 (bestC k c).2 ∧ s.t 5 = .int .i64 c ∧ s.m = M ∧ Grow (roM m ++ [⟨.own, 30, [v1, v2, v3, v4]⟩]) M ∧ OwnR M id (bestC k c).1 ∧ m.length ≤ id) (fun s => N - (intOf (s.t 5)).toNat)
    ⟨0, _, m.length + 1, 1, by omega, rfl, rfl, rfl, rfl, rfl, hx, o0, by omega⟩ ?_
  rintro s ⟨c, M, id, fl, hk, t1, t3, t4, t5, tm, hxM, oM, lid⟩
  obtain ⟨r0, r1, r2, r3, hlM⟩ := hxM.box4
  have i1 := hxM.intsV h1
  have l1 := i1.len
  rw [← hn] at l1
  have bl := bestC_len k c
  by_cases hlt : c < N
  · have hlt' : (c : Int) < N := by omega
    simp (config := {implicitDefEqProofs := false, maxDischargeDepth := 20}) (disch := first | omega | (simp only [lenE]; done) | (simp only [lenE]; omega) | rfl | (simp only [lenE, markR_len]; done) | (simp only [lenE, markR_len]; omega)) only [runE, mapE, listE, initT_5, initT_6, initT_7, initT_8, resV, oneV, binA, unA, reduceCtorEq, Nat.reduceEqDiff, Nat.reduceAdd, Nat.reduceLT, Nat.reduceLeDiff, Nat.reduceMul, Nat.reduceSub, ↓reduceIte, decide_true, decide_false, Bool.true_eq_false, Bool.false_eq_true, Bool.not_true, Bool.not_false, if_true, if_false, and_true, true_and, memE, celE, w64, Nat.zero_add, Nat.add_zero, Nat.mul_one, putL, and_self, ldn, t1, t3, t4, t5, tm, r0, l1, hn0, sh, hlt']
    refine callH_rc (l2Bits_rc _ n c h8 (by omega)) ?_
    intro r new hA
    obtain ⟨bid, bf, rfl, bge, oB, ble, nrB⟩ := hA.row
    have hri := bitsL_rising c n
    have hst : bestC k (c + 1) = stepB k (bestC k c) (bitsL c n) := by rw [hn]; rfl
    obtain ⟨ps, hps⟩ : ∃ ps, ps = bitsL c n := ⟨_, rfl⟩
    rw [← hps] at oB ble hri hst ⊢
    rw [hn] at hri
    have hxB := hxM.app nrB
    obtain ⟨M2, hM2⟩ : ∃ M2, M2 = M ++ new := ⟨_, rfl⟩
    rw [← hM2] at oB hxB ⊢
    obtain ⟨q0, q1, q2, q3, hlM2⟩ := hxB.box4
    have oM2 : OwnR M2 id (bestC k c).1 := by rw [hM2]; exact oM.ext new
    have iB := oB.ints (by omega) bf
    simp (config := {implicitDefEqProofs := false, maxDischargeDepth := 20}) (disch := first | omega | (simp only [lenE]; done) | (simp only [lenE]; omega) | rfl | (simp only [lenE, markR_len]; done) | (simp only [lenE, markR_len]; omega)) only [runE, mapE, listE, initT_5, initT_6, initT_7, initT_8, resV, oneV, binA, unA, reduceCtorEq, Nat.reduceEqDiff, Nat.reduceAdd, Nat.reduceLT, Nat.reduceLeDiff, Nat.reduceMul, Nat.reduceSub, ↓reduceIte, decide_true, decide_false, Bool.true_eq_false, Bool.false_eq_true, Bool.not_true, Bool.not_false, if_true, if_false, and_true, true_and, memE, celE, w64, Nat.zero_add, Nat.add_zero, Nat.mul_one, putL, and_self, ldn, t1, t3, t4, t5, q0, q1, q2, q3]
    refine callH_rc (l2Covers_rc _ _ _ k ps (hxB.caseV hc) iB hg ble) ?_
    rintro r new3 ⟨rfl, nr3⟩
    have hx3 := hxB.app nr3
    obtain ⟨bc, hbc⟩ : ∃ bc, bc = bestC k c := ⟨_, rfl⟩
    rw [← hbc] at hst bl oM2 t3 t4
    obtain ⟨b1, b2⟩ := bc
    simp only at hst bl oM2 t3 t4
    cases hcv : covers k.need ps with
    | false =>
      have e : bestC k (c + 1) = (b1, b2) := by rw [hst, stepB, hcv]; rfl
      simp (config := {implicitDefEqProofs := false, maxDischargeDepth := 20}) (disch := first | omega | (simp only [lenE]; done) | (simp only [lenE]; omega) | rfl | (simp only [lenE, markR_len]; done) | (simp only [lenE, markR_len]; omega)) only [runE, mapE, listE, initT_5, initT_6, initT_7, initT_8, resV, oneV, binA, unA, reduceCtorEq, Nat.reduceEqDiff, Nat.reduceAdd, Nat.reduceLT, Nat.reduceLeDiff, Nat.reduceMul, Nat.reduceSub, ↓reduceIte, decide_true, decide_false, Bool.true_eq_false, Bool.false_eq_true, Bool.not_true, Bool.not_false, if_true, if_false, and_true, true_and, memE, celE, w64, Nat.zero_add, Nat.add_zero, Nat.mul_one, putL, and_self, ldn, t1, t3, t4, t5]
      exact ⟨⟨c + 1, _, id, fl, by omega, by rw [e], by rw [e], by simp, rfl, hx3, by rw [e]; exact oM2.ext _, lid⟩, by simp [intOf]; omega⟩
    | true =>
      obtain ⟨M3, hM3⟩ : ∃ M3, M3 = M2 ++ new3 := ⟨_, rfl⟩
      rw [← hM3] at hx3 ⊢
      have oB3 : OwnR M3 bid ps := by rw [hM3]; exact oB.ext new3
      have oM3 : OwnR M3 id b1 := by rw [hM3]; exact oM2.ext new3
      obtain ⟨q0, q1, q2, q3, hlM3⟩ := hx3.box4
      have iB3 := oB3.ints (by omega) bf
      simp (config := {implicitDefEqProofs := false, maxDischargeDepth := 20}) (disch := first | omega | (simp only [lenE]; done) | (simp only [lenE]; omega) | rfl | (simp only [lenE, markR_len]; done) | (simp only [lenE, markR_len]; omega)) only [runE, mapE, listE, initT_5, initT_6, initT_7, initT_8, resV, oneV, binA, unA, reduceCtorEq, Nat.reduceEqDiff, Nat.reduceAdd, Nat.reduceLT, Nat.reduceLeDiff, Nat.reduceMul, Nat.reduceSub, ↓reduceIte, decide_true, decide_false, Bool.true_eq_false, Bool.false_eq_true, Bool.not_true, Bool.not_false, if_true, if_false, and_true, true_and, memE, celE, w64, Nat.zero_add, Nat.add_zero, Nat.mul_one, putL, and_self, ldn, t1, t3, t4, t5, q0, q1, q2, q3]
      refine rcallH_rc (l2From_rc _ _ _ k ps (hx3.caseV hc) iB3 hg hri ble) ?_
      intro r new4 hA4
      obtain ⟨pid, pf, rfl, pge, oP, ple, nrP⟩ := hA4.row
      have hx4 := hx3.app nrP
      have iP := oP.ints (by omega) pf
      simp (config := {implicitDefEqProofs := false, maxDischargeDepth := 20}) (disch := first | omega | (simp only [lenE]; done) | (simp only [lenE]; omega) | rfl | (simp only [lenE, markR_len]; done) | (simp only [lenE, markR_len]; omega)) only [runE, mapE, listE, initT_5, initT_6, initT_7, initT_8, resV, oneV, binA, unA, reduceCtorEq, Nat.reduceEqDiff, Nat.reduceAdd, Nat.reduceLT, Nat.reduceLeDiff, Nat.reduceMul, Nat.reduceSub, ↓reduceIte, decide_true, decide_false, Bool.true_eq_false, Bool.false_eq_true, Bool.not_true, Bool.not_false, if_true, if_false, and_true, true_and, memE, celE, w64, Nat.zero_add, Nat.add_zero, Nat.mul_one, putL, and_self, ldn]
      refine rcallH_rc (l2Cost_rc _ _ _ k (fromL k.need ps) (hx4.caseV hc) iP hg (fromL_len _ _) (fromL_in hg.need hg.n8 hri)) ?_
      rintro r new5 ⟨rfl, nr5⟩
      have hx5 := hx4.app nr5
      obtain ⟨M5, hM5⟩ : ∃ M5, M5 = M3 ++ new4 ++ new5 := ⟨_, rfl⟩
      rw [← hM5] at hx5 ⊢
      have oB5 : OwnR M5 bid ps := by rw [hM5]; exact (oB3.ext _).ext _
      have oM5 : OwnR M5 id b1 := by rw [hM5]; exact (oM3.ext _).ext _
      obtain ⟨cost, hcost⟩ : ∃ cost, cost = costOf k (fromL k.need ps) := ⟨_, rfl⟩
      rw [← hcost]
      have bidl : m.length ≤ bid := by have := hxM.ext.len; omega
      have yes : (b2 < 0 ∨ cost < b2 ∨ (cost = b2 ∧ beforeB ps b1 = true)) → bestC k (c + 1) = (ps, cost) := fun hh => by rw [hst, stepB, hcv, ← hcost, if_pos rfl, if_pos hh]
      have no : ¬ (b2 < 0 ∨ cost < b2 ∨ (cost = b2 ∧ beforeB ps b1 = true)) → bestC k (c + 1) = (b1, b2) := fun hh => by rw [hst, stepB, hcv, ← hcost, if_pos rfl, if_neg hh]
      by_cases d1 : b2 < 0
      · have e := yes (.inl d1)
        simp (config := {implicitDefEqProofs := false, maxDischargeDepth := 20}) (disch := first | omega | (simp only [lenE]; done) | (simp only [lenE]; omega) | rfl | (simp only [lenE, markR_len]; done) | (simp only [lenE, markR_len]; omega)) only [runE, mapE, listE, initT_5, initT_6, initT_7, initT_8, resV, oneV, binA, unA, reduceCtorEq, Nat.reduceEqDiff, Nat.reduceAdd, Nat.reduceLT, Nat.reduceLeDiff, Nat.reduceMul, Nat.reduceSub, ↓reduceIte, decide_true, decide_false, Bool.true_eq_false, Bool.false_eq_true, Bool.not_true, Bool.not_false, if_true, if_false, and_true, true_and, memE, celE, w64, Nat.zero_add, Nat.add_zero, Nat.mul_one, putL, and_self, ldn, t1, t3, t4, t5, d1, goG_undef]
        exact ⟨⟨c + 1, M5, bid, bf, by omega, by rw [e], by rw [e], by simp, rfl, hx5, by rw [e]; exact oB5, bidl⟩, by simp [intOf]; omega⟩
      · by_cases d2 : cost < b2
        · have e := yes (.inr (.inl d2))
          simp (config := {implicitDefEqProofs := false, maxDischargeDepth := 20}) (disch := first | omega | (simp only [lenE]; done) | (simp only [lenE]; omega) | rfl | (simp only [lenE, markR_len]; done) | (simp only [lenE, markR_len]; omega)) only [runE, mapE, listE, initT_5, initT_6, initT_7, initT_8, resV, oneV, binA, unA, reduceCtorEq, Nat.reduceEqDiff, Nat.reduceAdd, Nat.reduceLT, Nat.reduceLeDiff, Nat.reduceMul, Nat.reduceSub, ↓reduceIte, decide_true, decide_false, Bool.true_eq_false, Bool.false_eq_true, Bool.not_true, Bool.not_false, if_true, if_false, and_true, true_and, memE, celE, w64, Nat.zero_add, Nat.add_zero, Nat.mul_one, putL, and_self, ldn, t1, t3, t4, t5, d1, d2, goG_undef]
          exact ⟨⟨c + 1, M5, bid, bf, by omega, by rw [e], by rw [e], by simp, rfl, hx5, by rw [e]; exact oB5, bidl⟩, by simp [intOf]; omega⟩
        · by_cases d3 : cost = b2
          · have d3' : (cost == b2) = true := by rw [d3]; simp
            have iB5 := oB5.ints (by omega) bf
            have iM5 := oM5.ints (by omega) fl
            simp (config := {implicitDefEqProofs := false, maxDischargeDepth := 20}) (disch := first | omega | (simp only [lenE]; done) | (simp only [lenE]; omega) | rfl | (simp only [lenE, markR_len]; done) | (simp only [lenE, markR_len]; omega)) only [runE, mapE, listE, initT_5, initT_6, initT_7, initT_8, resV, oneV, binA, unA, reduceCtorEq, Nat.reduceEqDiff, Nat.reduceAdd, Nat.reduceLT, Nat.reduceLeDiff, Nat.reduceMul, Nat.reduceSub, ↓reduceIte, decide_true, decide_false, Bool.true_eq_false, Bool.false_eq_true, Bool.not_true, Bool.not_false, if_true, if_false, and_true, true_and, memE, celE, w64, Nat.zero_add, Nat.add_zero, Nat.mul_one, putL, and_self, ldn, t1, t3, t4, t5, d1, d2, d3']
            refine callH_rc (l2Before_rc _ _ _ ps b1 iB5 iM5) ?_
            rintro r new6 ⟨rfl, nr6⟩
            have hx6 := hx5.app nr6
            cases hbf : beforeB ps b1 with
            | true =>
              have e := yes (.inr (.inr ⟨d3, hbf⟩))
              simp (config := {implicitDefEqProofs := false, maxDischargeDepth := 20}) (disch := first | omega | (simp only [lenE]; done) | (simp only [lenE]; omega) | rfl | (simp only [lenE, markR_len]; done) | (simp only [lenE, markR_len]; omega)) only [runE, mapE, listE, initT_5, initT_6, initT_7, initT_8, resV, oneV, binA, unA, reduceCtorEq, Nat.reduceEqDiff, Nat.reduceAdd, Nat.reduceLT, Nat.reduceLeDiff, Nat.reduceMul, Nat.reduceSub, ↓reduceIte, decide_true, decide_false, Bool.true_eq_false, Bool.false_eq_true, Bool.not_true, Bool.not_false, if_true, if_false, and_true, true_and, memE, celE, w64, Nat.zero_add, Nat.add_zero, Nat.mul_one, putL, and_self, ldn, t1, t3, t4, t5]
              exact ⟨⟨c + 1, M5 ++ new6, bid, bf, by omega, by rw [e], by rw [e], by simp, rfl, hx6, by rw [e]; exact oB5.ext _, bidl⟩, by simp [intOf]; omega⟩
            | false =>
              have e := no (fun hh => by rcases hh with hh | hh | hh; exact d1 hh; exact d2 hh; rw [hbf] at hh; exact absurd hh.2 (by simp))
              simp (config := {implicitDefEqProofs := false, maxDischargeDepth := 20}) (disch := first | omega | (simp only [lenE]; done) | (simp only [lenE]; omega) | rfl | (simp only [lenE, markR_len]; done) | (simp only [lenE, markR_len]; omega)) only [runE, mapE, listE, initT_5, initT_6, initT_7, initT_8, resV, oneV, binA, unA, reduceCtorEq, Nat.reduceEqDiff, Nat.reduceAdd, Nat.reduceLT, Nat.reduceLeDiff, Nat.reduceMul, Nat.reduceSub, ↓reduceIte, decide_true, decide_false, Bool.true_eq_false, Bool.false_eq_true, Bool.not_true, Bool.not_false, if_true, if_false, and_true, true_and, memE, celE, w64, Nat.zero_add, Nat.add_zero, Nat.mul_one, putL, and_self, ldn, t1, t3, t4, t5]
              exact ⟨⟨c + 1, M5 ++ new6, id, fl, by omega, by rw [e], by rw [e], by simp, rfl, hx6, by rw [e]; exact oM5.ext _, lid⟩, by simp [intOf]; omega⟩
          · have d3' : (cost == b2) = false := by simpa using d3
            have e := no (fun hh => by rcases hh with hh | hh | hh; exact d1 hh; exact d2 hh; exact d3 hh.1)
            simp (config := {implicitDefEqProofs := false, maxDischargeDepth := 20}) (disch := first | omega | (simp only [lenE]; done) | (simp only [lenE]; omega) | rfl | (simp only [lenE, markR_len]; done) | (simp only [lenE, markR_len]; omega)) only [runE, mapE, listE, initT_5, initT_6, initT_7, initT_8, resV, oneV, binA, unA, reduceCtorEq, Nat.reduceEqDiff, Nat.reduceAdd, Nat.reduceLT, Nat.reduceLeDiff, Nat.reduceMul, Nat.reduceSub, ↓reduceIte, decide_true, decide_false, Bool.true_eq_false, Bool.false_eq_true, Bool.not_true, Bool.not_false, if_true, if_false, and_true, true_and, memE, celE, w64, Nat.zero_add, Nat.add_zero, Nat.mul_one, putL, and_self, ldn, t1, t3, t4, t5, d1, d2, d3', goG_undef]
            exact ⟨⟨c + 1, M5, id, fl, by omega, by rw [e], by rw [e], by simp, rfl, hx5, by rw [e]; exact oM5, lid⟩, by simp [intOf]; omega⟩
  · have hlt' : ¬ ((c : Int) < N) := by omega
    have e : c = N := by omega
    subst e
    have eb : (bestC k c).1 = bestL k := by unfold bestL; rw [← hn, ← hN]
    simp (config := {implicitDefEqProofs := false, maxDischargeDepth := 20}) (disch := first | omega | (simp only [lenE]; done) | (simp only [lenE]; omega) | rfl | (simp only [lenE, markR_len]; done) | (simp only [lenE, markR_len]; omega)) only [runE, mapE, listE, initT_5, initT_6, initT_7, initT_8, resV, oneV, binA, unA, reduceCtorEq, Nat.reduceEqDiff, Nat.reduceAdd, Nat.reduceLT, Nat.reduceLeDiff, Nat.reduceMul, Nat.reduceSub, ↓reduceIte, decide_true, decide_false, Bool.true_eq_false, Bool.false_eq_true, Bool.not_true, Bool.not_false, if_true, if_false, and_true, true_and, memE, celE, w64, Nat.zero_add, Nat.add_zero, Nat.mul_one, putL, and_self, ldn, t1, t3, t4, t5, tm, r0, l1, hn0, sh, hlt']
    rw [eb] at oM bl ⊢
    exact ext_ansR hxM.ext oM lid rfl (by omega)
end Go.Proofs.Ytamhhicnfpemeaa.Ab
end
section
namespace Go.Proofs.Ytamhhicnfpemeaa.Ab
open Go Go.RowKit
set_option linter.unusedVariables false
set_option linter.unusedSimpArgs false
theorem bestL_rising (k : Cs) : Rising (bestL k) k.need.length := bestC_rising k _
def bestCA (k : Cs) : Int := if k.good then bestCost k else 0
theorem bestCA_no {k : Cs} (h : k.good = false) : bestCA k = 0 := by unfold bestCA; rw [h]; rfl
theorem bestCA_yes {k : Cs} (h : k.good = true) : bestCA k = bestCost k := by unfold bestCA; rw [h]; rfl

theorem l2Least_rc (m : Mem) (v : Value) (k : Cs) (h : CaseA m v k) (hg : Good k) :
    RC Try.prog 111 [v] m (AnsV (.int .i64 (bestCost k))) := by
  refine rc_of_run mixed ok_spec_l2Least (by simp) (go_start _ _ _ ?_)
  obtain ⟨v1, v2, v3, v4, rfl, h1, h2, h3, h4⟩ := h.ro.ok
  have hc : CaseA (roM m) (.agg #[v1, v2, v3, v4]) k := ⟨_, _, _, _, rfl, h1, h2, h3, h4⟩
  have h8 := hg.n8
  have hx : Grow (roM m ++ [⟨.own, 30, [v1, v2, v3, v4]⟩]) (roM m ++ [⟨.own, 30, [v1, v2, v3, v4]⟩]) := Grow.refl _
  obtain ⟨r0, r1, r2, r3, hlM⟩ := hx.box4
  simp (config := {implicitDefEqProofs := false, maxDischargeDepth := 20}) (disch := first | omega | (simp only [lenE]; done) | (simp only [lenE]; omega) | rfl | (simp only [lenE, markR_len]; done) | (simp only [lenE, markR_len]; omega)) only [runE, mapE, listE, initT_5, initT_6, initT_7, initT_8, resV, oneV, binA, unA, reduceCtorEq, Nat.reduceEqDiff, Nat.reduceAdd, Nat.reduceLT, Nat.reduceLeDiff, Nat.reduceMul, Nat.reduceSub, ↓reduceIte, decide_true, decide_false, Bool.true_eq_false, Bool.false_eq_true, Bool.not_true, Bool.not_false, if_true, if_false, and_true, true_and, memE, celE, w64, Nat.zero_add, Nat.add_zero, Nat.mul_one, putL, and_self, ldn, c_spec_l2Least, r_spec_l2Least]
  refine rcallH_rc (l2Best_rc _ _ k (hx.caseV hc) hg) ?_
  intro r new2 hA
  obtain ⟨id, fl, rfl, hge, ho, hle, nr2⟩ := hA.row
  have hx2 := hx.app nr2
  have io := ho.ints (by omega) fl
  simp (config := {implicitDefEqProofs := false, maxDischargeDepth := 20}) (disch := first | omega | (simp only [lenE]; done) | (simp only [lenE]; omega) | rfl | (simp only [lenE, markR_len]; done) | (simp only [lenE, markR_len]; omega)) only [runE, mapE, listE, initT_5, initT_6, initT_7, initT_8, resV, oneV, binA, unA, reduceCtorEq, Nat.reduceEqDiff, Nat.reduceAdd, Nat.reduceLT, Nat.reduceLeDiff, Nat.reduceMul, Nat.reduceSub, ↓reduceIte, decide_true, decide_false, Bool.true_eq_false, Bool.false_eq_true, Bool.not_true, Bool.not_false, if_true, if_false, and_true, true_and, memE, celE, w64, Nat.zero_add, Nat.add_zero, Nat.mul_one, putL, and_self, ldn]
  refine rcallH_rc (l2From_rc _ _ _ k (bestL k) (hx2.caseV hc) io hg (bestL_rising k) hle) ?_
  intro r new4 hA4
  obtain ⟨pid, pf, rfl, pge, oP, ple, nrP⟩ := hA4.row
  have hx4 := hx2.app nrP
  have iP := oP.ints (by omega) pf
  simp (config := {implicitDefEqProofs := false, maxDischargeDepth := 20}) (disch := first | omega | (simp only [lenE]; done) | (simp only [lenE]; omega) | rfl | (simp only [lenE, markR_len]; done) | (simp only [lenE, markR_len]; omega)) only [runE, mapE, listE, initT_5, initT_6, initT_7, initT_8, resV, oneV, binA, unA, reduceCtorEq, Nat.reduceEqDiff, Nat.reduceAdd, Nat.reduceLT, Nat.reduceLeDiff, Nat.reduceMul, Nat.reduceSub, ↓reduceIte, decide_true, decide_false, Bool.true_eq_false, Bool.false_eq_true, Bool.not_true, Bool.not_false, if_true, if_false, and_true, true_and, memE, celE, w64, Nat.zero_add, Nat.add_zero, Nat.mul_one, putL, and_self, ldn]
  refine rcallH_rc (l2Cost_rc _ _ _ k (fromL k.need (bestL k)) (hx4.caseV hc) iP hg (fromL_len _ _) (fromL_in hg.need hg.n8 (bestL_rising k))) ?_
  rintro r new5 ⟨rfl, nr5⟩
  simp (config := {implicitDefEqProofs := false, maxDischargeDepth := 20}) (disch := first | omega | (simp only [lenE]; done) | (simp only [lenE]; omega) | rfl | (simp only [lenE, markR_len]; done) | (simp only [lenE, markR_len]; omega)) only [runE, mapE, listE, initT_5, initT_6, initT_7, initT_8, resV, oneV, binA, unA, reduceCtorEq, Nat.reduceEqDiff, Nat.reduceAdd, Nat.reduceLT, Nat.reduceLeDiff, Nat.reduceMul, Nat.reduceSub, ↓reduceIte, decide_true, decide_false, Bool.true_eq_false, Bool.false_eq_true, Bool.not_true, Bool.not_false, if_true, if_false, and_true, true_and, memE, celE, w64, Nat.zero_add, Nat.add_zero, Nat.mul_one, putL, and_self, ldn]
  exact ext_ansV (hx4.app nr5).ext rfl

end Go.Proofs.Ytamhhicnfpemeaa.Ab
end
section
namespace Go.Proofs.Ytamhhicnfpemeaa.Ab
open Go
def backI (need ps : List Int) : Nat → List Int
  | 0 => List.replicate need.length 0
  | k + 1 => (backI need ps k).set (ps.getD (ps.length - 1 - k) 0).toNat (sumR need (ps.getD (ps.length - 1 - k) 0).toNat (nxtP need.length ps (ps.length - 1 - k)))
def endB (n : Nat) (ps : List Int) (k : Nat) : Nat := if k = 0 then n else (ps.getD (ps.length - k) 0).toNat
end Go.Proofs.Ytamhhicnfpemeaa.Ab
end
section
namespace Go.Proofs.Ytamhhicnfpemeaa.Ab
open Go Go.RowKit
set_option linter.unusedVariables false
set_option linter.unusedSimpArgs false
structure FI (M0 : Mem) (a b c d n : Nat) (need ps : List Int) (u : Value) (k : Nat) (M : Mem) : Prop where
  g : Grow M0 M
  row : OwnR M a (backI need ps k)
  pb : M[b]? = some ⟨.own, 24, [.slice (some ⟨a, 0, none⟩) n 1]⟩
  pc : OwnR M c [(endB n ps k : Int)]
  pd : M[d]? = some ⟨.own, 24, [u]⟩
end Go.Proofs.Ytamhhicnfpemeaa.Ab
end
section
namespace Go.Proofs.Ytamhhicnfpemeaa.Ab
open Go Go.RowKit
set_option linter.unusedVariables false
set_option linter.unusedSimpArgs false
theorem stage_good {c : Ch} (hg : GoodCh c) {s : Nat} (hs : s < c.setup.length) : (c.stage s).good = true := by
  have n6 := hg.n6
  have he := hg.ech hs
  have hb := getD_bound (m := 99) (by omega) hg.setup s
  refine good_iff.2 ⟨by show c.need.length ≤ 8; omega, hg.need, ?_, ?_, ?_, by simp [Ch.stage, evenC], by simp [Ch.stage, evenC], by simp [Ch.stage, evenC]⟩
  · intro x hx; rw [List.eq_of_mem_replicate hx]; exact hb
  · intro x hx; rw [List.eq_of_mem_replicate hx]; omega
  · intro x hx; rw [List.eq_of_mem_replicate hx]; exact he
end Go.Proofs.Ytamhhicnfpemeaa.Ab
end
section
namespace Go.Proofs.Ytamhhicnfpemeaa.Ab
open Go Go.RowKit
set_option linter.unusedVariables false
set_option linter.unusedSimpArgs false
structure PT (N k lo lb : Nat) (W : Nat → List Int) (M : Mem) (id : Nat) (R F : Nat → Nat) : Prop where
  cells : OwnB M id 24 ((List.range N).map fun j => if j + k < N then .slice none 0 0 else .slice (some ⟨R j, 0, none⟩) (W j).length (F j))
  lid : lo ≤ id ∧ id < lb
  rows : ∀ j, N ≤ j + k → j < N → lb ≤ R j ∧ R j < M.length ∧ OwnR M (R j) (W j)
  inj : ∀ i j, N ≤ i + k → i < N → N ≤ j + k → j < N → R i = R j → i = j
end Go.Proofs.Ytamhhicnfpemeaa.Ab
end
section
namespace Go.Proofs.Ytamhhicnfpemeaa.Ab
open Go Go.RowKit
set_option linter.unusedVariables false
set_option linter.unusedSimpArgs false
theorem orderCost_rc (m : Mem) (v : Value) (k : Cs) (i j : Nat) (h : CaseA m v k) (hg : Good k) (hij : i < j) (hj : j ≤ k.need.length) :
    RC Try.prog 156 [v, .int .i64 i, .int .i64 j] m (AnsV (.int .i64 (spanF k i j))) := by
  refine rc_of_run mixed ok_impl_orderCost (by simp) (go_start _ _ _ ?_)
  obtain ⟨v1, v2, v3, v4, rfl, h1, h2, h3, h4⟩ := h.ro.ok
  have h8 := hg.n8
  have g0 := hg.ls
  have g1 := hg.lu
  have g2 := hg.lh
  obtain ⟨c1, e1, d1⟩ := (h1.ext [⟨.own, 30, [v1, v2, v3, v4]⟩]).cut (Nat.le_of_lt hij) hj
  simp (config := {implicitDefEqProofs := false, maxDischargeDepth := 20}) (disch := first | omega | (simp only [lenE]; done) | (simp only [lenE]; omega) | rfl | (simp only [lenE, markR_len]; done) | (simp only [lenE, markR_len]; omega)) only [runE, mapE, listE, initT_5, initT_6, initT_7, initT_8, resV, oneV, binA, unA, reduceCtorEq, Nat.reduceEqDiff, Nat.reduceAdd, Nat.reduceLT, Nat.reduceLeDiff, Nat.reduceMul, Nat.reduceSub, ↓reduceIte, decide_true, decide_false, Bool.true_eq_false, Bool.false_eq_true, Bool.not_true, Bool.not_false, if_true, if_false, and_true, true_and, memE, celE, w64, Nat.zero_add, Nat.add_zero, Nat.mul_one, putL, and_self, ldn, c_impl_orderCost, r_impl_orderCost, e1]
  refine callH_rc (sumOf_cut_rc _ _ k.need (b := 20) d1 (by omega) hj (by omega) (by omega) hg.need (by omega)) ?_
  rintro r new ⟨rfl, rfl⟩
  have s0 := sumR_nn (m := 20) (by omega) hg.need (i := i) (j := j) (by omega)
  have s1 := sumR_le8 (m := 20) (by omega) hg.need (i := i) (j := j) (by omega) (by omega)
  by_cases hz : sumR k.need i j = 0
  · have hz' : (sumR k.need i j == 0) = true := by simp [hz]
    simp (config := {implicitDefEqProofs := false, maxDischargeDepth := 20}) (disch := first | omega | (simp only [lenE]; done) | (simp only [lenE]; omega) | rfl | (simp only [lenE, markR_len]; done) | (simp only [lenE, markR_len]; omega)) only [runE, mapE, listE, initT_5, initT_6, initT_7, initT_8, resV, oneV, binA, unA, reduceCtorEq, Nat.reduceEqDiff, Nat.reduceAdd, Nat.reduceLT, Nat.reduceLeDiff, Nat.reduceMul, Nat.reduceSub, ↓reduceIte, decide_true, decide_false, Bool.true_eq_false, Bool.false_eq_true, Bool.not_true, Bool.not_false, if_true, if_false, and_true, true_and, memE, celE, w64, Nat.zero_add, Nat.add_zero, Nat.mul_one, putL, and_self, ldn, hz']
    exact ext_ansV ((Ext.refl m).one _ _) (by rw [spanF_zero k hz])
  · have hz' : (sumR k.need i j == 0) = false := by simp [hz]
    have u0 := getD_bound (m := 9) (by omega) hg.unit i
    have u1 := mul_bound u0.1 u0.2 s0 s1
    have u2 := getD_bound (m := 99) (by omega) hg.setup i
    have i2 := h2.ext [⟨.own, 30, [v1, v2, v3, v4]⟩]
    have i3 := h3.ext [⟨.own, 30, [v1, v2, v3, v4]⟩]
    have i1 := h1.ext [⟨.own, 30, [v1, v2, v3, v4]⟩]
    have i4 := h4.ext [⟨.own, 30, [v1, v2, v3, v4]⟩]
    have so := spanF_order k (Nat.le_of_lt hij) (by omega : 0 < sumR k.need i j)
    simp (config := {implicitDefEqProofs := false, maxDischargeDepth := 20}) (disch := first | omega | (simp only [lenE]; done) | (simp only [lenE]; omega) | rfl | (simp only [lenE, markR_len]; done) | (simp only [lenE, markR_len]; omega)) only [runE, mapE, listE, initT_5, initT_6, initT_7, initT_8, resV, oneV, binA, unA, reduceCtorEq, Nat.reduceEqDiff, Nat.reduceAdd, Nat.reduceLT, Nat.reduceLeDiff, Nat.reduceMul, Nat.reduceSub, ↓reduceIte, decide_true, decide_false, Bool.true_eq_false, Bool.false_eq_true, Bool.not_true, Bool.not_false, if_true, if_false, and_true, true_and, memE, celE, w64, Nat.zero_add, Nat.add_zero, Nat.mul_one, putL, and_self, ldn, hz', i2.at_ i (by omega), i2.ld i (by omega), i3.at_ i (by omega), i3.ld i (by omega)]
    refine loop_inv mixed (fun s => ∃ x : Nat, i ≤ x ∧ x ≤ j ∧ s.t 2 = .int .i64 j ∧ s.t 3 = .pointer (some ⟨m.length, 0, none⟩) ∧ s.t 7 = .int .i64 (sumR k.need x j) ∧ s.t 8 = .int .i64 (k.setup.getD i 0 + k.unit.getD i 0 * sumR k.need i j + holdS k i j x) ∧ s.t 9 = .int .i64 x ∧ s.m = roM m ++ [⟨.own, 30, [v1, v2, v3, v4]⟩]) (fun s => j - (intOf (s.t 9)).toNat)
      ⟨i, Nat.le_refl _, by omega, rfl, rfl, rfl, by rw [holdS_self, Int.add_zero]; rfl, rfl, rfl⟩ ?_
    rintro s ⟨x, hix, hxj, t2, t3, t7, t8, t9, tm⟩
    by_cases hlt : x < j
    · have hlt' : (x : Int) < j := by omega
      have w0 := sumR_h k.need x j
      have w1 := sumR_nn (m := 20) (by omega) hg.need (i := x + 1) (j := j) (by omega)
      have w2 := sumR_le8 (m := 20) (by omega) hg.need (i := x + 1) (j := j) (by omega) (by omega)
      have w3 := getD_bound (m := 9) (by omega) hg.hold x
      have w4 := mul_bound w3.1 w3.2 w1 w2
      have w5 := getD_bound (m := 20) (by omega) hg.need x
      have w6 := holdS_in' hg hix hxj (by omega)
      have w7 : sumR k.need x j - k.need.getD x 0 = sumR k.need (x + 1) j := by omega
      have w8 := holdS_s k (j := j) hix
      simp (config := {implicitDefEqProofs := false, maxDischargeDepth := 20}) (disch := first | omega | (simp only [lenE]; done) | (simp only [lenE]; omega) | rfl | (simp only [lenE, markR_len]; done) | (simp only [lenE, markR_len]; omega)) only [runE, mapE, listE, initT_5, initT_6, initT_7, initT_8, resV, oneV, binA, unA, reduceCtorEq, Nat.reduceEqDiff, Nat.reduceAdd, Nat.reduceLT, Nat.reduceLeDiff, Nat.reduceMul, Nat.reduceSub, ↓reduceIte, decide_true, decide_false, Bool.true_eq_false, Bool.false_eq_true, Bool.not_true, Bool.not_false, if_true, if_false, and_true, true_and, memE, celE, w64, Nat.zero_add, Nat.add_zero, Nat.mul_one, putL, and_self, ldn, t2, t3, t7, t8, t9, tm, hlt', i1.at_ x (by omega), i1.ld x (by omega), i4.at_ x (by omega), i4.ld x (by omega), w7]
      exact ⟨⟨x + 1, by omega, by omega, rfl, by rw [w8]; congr 1; omega, by simp⟩, by simp [intOf]; omega⟩
    · have hlt' : ¬ ((x : Int) < j) := by omega
      have e : x = j := by omega
      subst e
      simp (config := {implicitDefEqProofs := false, maxDischargeDepth := 20}) (disch := first | omega | (simp only [lenE]; done) | (simp only [lenE]; omega) | rfl | (simp only [lenE, markR_len]; done) | (simp only [lenE, markR_len]; omega)) only [runE, mapE, listE, initT_5, initT_6, initT_7, initT_8, resV, oneV, binA, unA, reduceCtorEq, Nat.reduceEqDiff, Nat.reduceAdd, Nat.reduceLT, Nat.reduceLeDiff, Nat.reduceMul, Nat.reduceSub, ↓reduceIte, decide_true, decide_false, Bool.true_eq_false, Bool.false_eq_true, Bool.not_true, Bool.not_false, if_true, if_false, and_true, true_and, memE, celE, w64, Nat.zero_add, Nat.add_zero, Nat.mul_one, putL, and_self, ldn, t2, t3, t7, t8, t9, tm, hlt']
      exact ext_ansV ((Ext.refl m).one _ _) (by rw [so])

end Go.Proofs.Ytamhhicnfpemeaa.Ab
end
section
namespace Go.Proofs.Ytamhhicnfpemeaa.Ab
open Go Go.RowKit
set_option linter.unusedVariables false
set_option linter.unusedSimpArgs false
theorem isNaN_rc (m : Mem) (x : Int) : RC Try.prog 157 [.int .i64 x] m fun r new => r = .bool false ∧ new = [] := by
  refine rc_of_run mixed ok_cmp_isNaN (by simp) (go_start _ _ _ ?_)
  simp (config := {implicitDefEqProofs := false, maxDischargeDepth := 20}) (disch := first | omega | (simp only [lenE]; done) | (simp only [lenE]; omega) | rfl | (simp only [lenE, markR_len]; done) | (simp only [lenE, markR_len]; omega)) only [runE, mapE, listE, initT_5, initT_6, initT_7, initT_8, resV, oneV, binA, unA, reduceCtorEq, Nat.reduceEqDiff, Nat.reduceAdd, Nat.reduceLT, Nat.reduceLeDiff, Nat.reduceMul, Nat.reduceSub, ↓reduceIte, decide_true, decide_false, Bool.true_eq_false, Bool.false_eq_true, Bool.not_true, Bool.not_false, if_true, if_false, and_true, true_and, memE, celE, w64, Nat.zero_add, Nat.add_zero, Nat.mul_one, putL, and_self, ldn, c_cmp_isNaN, r_cmp_isNaN, bne_self_eq_false]
  exact newQ_nil ⟨rfl, rfl⟩
def cmpI (a b : Int) : Int := if a < b then -1 else if b < a then 1 else 0
theorem cmpI_rc (m : Mem) (a b : Int) : RC Try.prog 150 [.int .i64 a, .int .i64 b] m fun r new => r = .int .i64 (cmpI a b) ∧ new = [] := by
  refine rc_of_run mixed ok_cmp_Compare (by simp) (go_start _ _ _ ?_)
  simp (config := {implicitDefEqProofs := false, maxDischargeDepth := 20}) (disch := first | omega | (simp only [lenE]; done) | (simp only [lenE]; omega) | rfl | (simp only [lenE, markR_len]; done) | (simp only [lenE, markR_len]; omega)) only [runE, mapE, listE, initT_5, initT_6, initT_7, initT_8, resV, oneV, binA, unA, reduceCtorEq, Nat.reduceEqDiff, Nat.reduceAdd, Nat.reduceLT, Nat.reduceLeDiff, Nat.reduceMul, Nat.reduceSub, ↓reduceIte, decide_true, decide_false, Bool.true_eq_false, Bool.false_eq_true, Bool.not_true, Bool.not_false, if_true, if_false, and_true, true_and, memE, celE, w64, Nat.zero_add, Nat.add_zero, Nat.mul_one, putL, and_self, ldn, c_cmp_Compare, r_cmp_Compare]
  refine callH_rc (isNaN_rc _ a) ?_
  rintro r new ⟨rfl, rfl⟩
  simp (config := {implicitDefEqProofs := false, maxDischargeDepth := 20}) (disch := first | omega | (simp only [lenE]; done) | (simp only [lenE]; omega) | rfl | (simp only [lenE, markR_len]; done) | (simp only [lenE, markR_len]; omega)) only [runE, mapE, listE, initT_5, initT_6, initT_7, initT_8, resV, oneV, binA, unA, reduceCtorEq, Nat.reduceEqDiff, Nat.reduceAdd, Nat.reduceLT, Nat.reduceLeDiff, Nat.reduceMul, Nat.reduceSub, ↓reduceIte, decide_true, decide_false, Bool.true_eq_false, Bool.false_eq_true, Bool.not_true, Bool.not_false, if_true, if_false, and_true, true_and, memE, celE, w64, Nat.zero_add, Nat.add_zero, Nat.mul_one, putL, and_self, ldn]
  refine callH_rc (isNaN_rc _ b) ?_
  rintro r new ⟨rfl, rfl⟩
  unfold cmpI
  by_cases h1 : a < b
  · simp (config := {implicitDefEqProofs := false, maxDischargeDepth := 20}) (disch := first | omega | (simp only [lenE]; done) | (simp only [lenE]; omega) | rfl | (simp only [lenE, markR_len]; done) | (simp only [lenE, markR_len]; omega)) only [runE, mapE, listE, initT_5, initT_6, initT_7, initT_8, resV, oneV, binA, unA, reduceCtorEq, Nat.reduceEqDiff, Nat.reduceAdd, Nat.reduceLT, Nat.reduceLeDiff, Nat.reduceMul, Nat.reduceSub, ↓reduceIte, decide_true, decide_false, Bool.true_eq_false, Bool.false_eq_true, Bool.not_true, Bool.not_false, if_true, if_false, and_true, true_and, memE, celE, w64, Nat.zero_add, Nat.add_zero, Nat.mul_one, putL, and_self, ldn, h1]
    exact newQ_nil ⟨rfl, rfl⟩
  · by_cases h2 : b < a
    · simp (config := {implicitDefEqProofs := false, maxDischargeDepth := 20}) (disch := first | omega | (simp only [lenE]; done) | (simp only [lenE]; omega) | rfl | (simp only [lenE, markR_len]; done) | (simp only [lenE, markR_len]; omega)) only [runE, mapE, listE, initT_5, initT_6, initT_7, initT_8, resV, oneV, binA, unA, reduceCtorEq, Nat.reduceEqDiff, Nat.reduceAdd, Nat.reduceLT, Nat.reduceLeDiff, Nat.reduceMul, Nat.reduceSub, ↓reduceIte, decide_true, decide_false, Bool.true_eq_false, Bool.false_eq_true, Bool.not_true, Bool.not_false, if_true, if_false, and_true, true_and, memE, celE, w64, Nat.zero_add, Nat.add_zero, Nat.mul_one, putL, and_self, ldn, h1, gt_iff_lt, h2]
      exact newQ_nil ⟨rfl, rfl⟩
    · simp (config := {implicitDefEqProofs := false, maxDischargeDepth := 20}) (disch := first | omega | (simp only [lenE]; done) | (simp only [lenE]; omega) | rfl | (simp only [lenE, markR_len]; done) | (simp only [lenE, markR_len]; omega)) only [runE, mapE, listE, initT_5, initT_6, initT_7, initT_8, resV, oneV, binA, unA, reduceCtorEq, Nat.reduceEqDiff, Nat.reduceAdd, Nat.reduceLT, Nat.reduceLeDiff, Nat.reduceMul, Nat.reduceSub, ↓reduceIte, decide_true, decide_false, Bool.true_eq_false, Bool.false_eq_true, Bool.not_true, Bool.not_false, if_true, if_false, and_true, true_and, memE, celE, w64, Nat.zero_add, Nat.add_zero, Nat.mul_one, putL, and_self, ldn, h1, gt_iff_lt, h2]
      exact newQ_nil ⟨rfl, rfl⟩
def cmpL : List Int → List Int → Int
  | [], [] => 0
  | [], _ :: _ => -1
  | _ :: _, [] => 1
  | x :: a, y :: b => if cmpI x y = 0 then cmpL a b else cmpI x y
theorem cmpL_drop {a b : List Int} {i : Nat} (ha : i < a.length) (hb : i < b.length) : cmpL (a.drop i) (b.drop i) = if cmpI (a.getD i 0) (b.getD i 0) = 0 then cmpL (a.drop (i + 1)) (b.drop (i + 1)) else cmpI (a.getD i 0) (b.getD i 0) := by
  rw [List.drop_eq_getElem_cons ha, List.drop_eq_getElem_cons hb, cmpL]
  simp [List.getD_eq_getElem?_getD, ha, hb]
theorem slCompare_rc (m : Mem) (v u : Value) (a b : List Int) (h : IntsA m v a) (h' : IntsA m u b) :
    RC Try.prog 154 [v, u] m (AnsV (.int .i64 (cmpL a b))) := by
  refine rc_of_run mixed ok_slices_Compare (by simp) (go_start _ _ _ ?_)
  have hv := h.ro
  have hu := h'.ro
  have hbd := hv.bd
  simp (config := {implicitDefEqProofs := false, maxDischargeDepth := 20}) (disch := first | omega | (simp only [lenE]; done) | (simp only [lenE]; omega) | rfl | (simp only [lenE, markR_len]; done) | (simp only [lenE, markR_len]; omega)) only [runE, mapE, listE, initT_5, initT_6, initT_7, initT_8, resV, oneV, binA, unA, reduceCtorEq, Nat.reduceEqDiff, Nat.reduceAdd, Nat.reduceLT, Nat.reduceLeDiff, Nat.reduceMul, Nat.reduceSub, ↓reduceIte, decide_true, decide_false, Bool.true_eq_false, Bool.false_eq_true, Bool.not_true, Bool.not_false, if_true, if_false, and_true, true_and, memE, celE, w64, Nat.zero_add, Nat.add_zero, Nat.mul_one, putL, and_self, ldn, c_slices_Compare, r_slices_Compare, hv.len]
  refine loop_inv mixed (fun s => ∃ i : Nat, i ≤ a.length ∧ i ≤ b.length ∧ cmpL a b = cmpL (a.drop i) (b.drop i) ∧ s.t 0 = v ∧ s.t 1 = u ∧ s.t 9 = v ∧ s.t 10 = .int .i64 a.length ∧ s.t 11 = .int .i64 i ∧ s.m = roM m) (fun s => a.length - (intOf (s.t 11)).toNat)
    ⟨0, by omega, by omega, rfl, rfl, rfl, rfl, rfl, rfl, rfl⟩ ?_
  rintro s ⟨i, hk, hk2, he, t0, t1, t9, t10, t11, tm⟩
  by_cases hlt : i < a.length
  · have hlt' : (i : Int) < a.length := by omega
    by_cases hlb : i < b.length
    · have hlb' : ¬ ((b.length : Int) ≤ i) := by omega
      rw [cmpL_drop hlt hlb] at he
      simp (config := {implicitDefEqProofs := false, maxDischargeDepth := 20}) (disch := first | omega | (simp only [lenE]; done) | (simp only [lenE]; omega) | rfl | (simp only [lenE, markR_len]; done) | (simp only [lenE, markR_len]; omega)) only [runE, mapE, listE, initT_5, initT_6, initT_7, initT_8, resV, oneV, binA, unA, reduceCtorEq, Nat.reduceEqDiff, Nat.reduceAdd, Nat.reduceLT, Nat.reduceLeDiff, Nat.reduceMul, Nat.reduceSub, ↓reduceIte, decide_true, decide_false, Bool.true_eq_false, Bool.false_eq_true, Bool.not_true, Bool.not_false, if_true, if_false, and_true, true_and, memE, celE, w64, Nat.zero_add, Nat.add_zero, Nat.mul_one, putL, and_self, ldn, t0, t1, t9, t10, t11, tm, hlt', hv.at_ i hlt, hv.ld i hlt, hu.len, ge_iff_le, hlb', hu.at_ i hlb, hu.ld i hlb]
      refine callH_rc (cmpI_rc _ (a.getD i 0) (b.getD i 0)) ?_
      rintro r new ⟨rfl, rfl⟩
      by_cases hq : cmpI (a.getD i 0) (b.getD i 0) = 0
      · have hq' : (cmpI (a.getD i 0) (b.getD i 0) != 0) = false := by rw [hq]; rfl
        rw [if_pos hq] at he
        simp (config := {implicitDefEqProofs := false, maxDischargeDepth := 20}) (disch := first | omega | (simp only [lenE]; done) | (simp only [lenE]; omega) | rfl | (simp only [lenE, markR_len]; done) | (simp only [lenE, markR_len]; omega)) only [runE, mapE, listE, initT_5, initT_6, initT_7, initT_8, resV, oneV, binA, unA, reduceCtorEq, Nat.reduceEqDiff, Nat.reduceAdd, Nat.reduceLT, Nat.reduceLeDiff, Nat.reduceMul, Nat.reduceSub, ↓reduceIte, decide_true, decide_false, Bool.true_eq_false, Bool.false_eq_true, Bool.not_true, Bool.not_false, if_true, if_false, and_true, true_and, memE, celE, w64, Nat.zero_add, Nat.add_zero, Nat.mul_one, putL, and_self, ldn, t0, t1, t9, t10, t11, tm, hq']
        exact ⟨⟨i + 1, by omega, by omega, he, by simp⟩, by simp [intOf]; omega⟩
      · have hq' : (cmpI (a.getD i 0) (b.getD i 0) != 0) = true := by simpa using hq
        rw [if_neg hq] at he
        simp (config := {implicitDefEqProofs := false, maxDischargeDepth := 20}) (disch := first | omega | (simp only [lenE]; done) | (simp only [lenE]; omega) | rfl | (simp only [lenE, markR_len]; done) | (simp only [lenE, markR_len]; omega)) only [runE, mapE, listE, initT_5, initT_6, initT_7, initT_8, resV, oneV, binA, unA, reduceCtorEq, Nat.reduceEqDiff, Nat.reduceAdd, Nat.reduceLT, Nat.reduceLeDiff, Nat.reduceMul, Nat.reduceSub, ↓reduceIte, decide_true, decide_false, Bool.true_eq_false, Bool.false_eq_true, Bool.not_true, Bool.not_false, if_true, if_false, and_true, true_and, memE, celE, w64, Nat.zero_add, Nat.add_zero, Nat.mul_one, putL, and_self, ldn, t0, t1, t9, t10, t11, tm, hq']
        rw [he]
        exact ext_ansV (Ext.refl m) rfl
    · have hlb' : (b.length : Int) ≤ i := by omega
      have e : cmpL (a.drop i) (b.drop i) = 1 := by
        rw [show b.drop i = [] from List.drop_eq_nil_of_le (by omega), List.drop_eq_getElem_cons hlt]; rfl
      simp (config := {implicitDefEqProofs := false, maxDischargeDepth := 20}) (disch := first | omega | (simp only [lenE]; done) | (simp only [lenE]; omega) | rfl | (simp only [lenE, markR_len]; done) | (simp only [lenE, markR_len]; omega)) only [runE, mapE, listE, initT_5, initT_6, initT_7, initT_8, resV, oneV, binA, unA, reduceCtorEq, Nat.reduceEqDiff, Nat.reduceAdd, Nat.reduceLT, Nat.reduceLeDiff, Nat.reduceMul, Nat.reduceSub, ↓reduceIte, decide_true, decide_false, Bool.true_eq_false, Bool.false_eq_true, Bool.not_true, Bool.not_false, if_true, if_false, and_true, true_and, memE, celE, w64, Nat.zero_add, Nat.add_zero, Nat.mul_one, putL, and_self, ldn, t0, t1, t9, t10, t11, tm, hlt', hv.at_ i hlt, hv.ld i hlt, hu.len, ge_iff_le, hlb']
      rw [he, e]
      exact ext_ansV (Ext.refl m) rfl
  · have hlt' : ¬ ((i : Int) < a.length) := by omega
    have e : i = a.length := by omega
    by_cases hlb : a.length < b.length
    · have hlb' : (a.length : Int) < b.length := by omega
      have e2 : cmpL (a.drop i) (b.drop i) = -1 := by
        rw [e, List.drop_length, List.drop_eq_getElem_cons hlb]; rfl
      simp (config := {implicitDefEqProofs := false, maxDischargeDepth := 20}) (disch := first | omega | (simp only [lenE]; done) | (simp only [lenE]; omega) | rfl | (simp only [lenE, markR_len]; done) | (simp only [lenE, markR_len]; omega)) only [runE, mapE, listE, initT_5, initT_6, initT_7, initT_8, resV, oneV, binA, unA, reduceCtorEq, Nat.reduceEqDiff, Nat.reduceAdd, Nat.reduceLT, Nat.reduceLeDiff, Nat.reduceMul, Nat.reduceSub, ↓reduceIte, decide_true, decide_false, Bool.true_eq_false, Bool.false_eq_true, Bool.not_true, Bool.not_false, if_true, if_false, and_true, true_and, memE, celE, w64, Nat.zero_add, Nat.add_zero, Nat.mul_one, putL, and_self, ldn, t0, t1, t9, t10, t11, tm, hlt', hv.len, hu.len, hlb']
      rw [he, e2]
      exact ext_ansV (Ext.refl m) rfl
    · have hlb' : ¬ ((a.length : Int) < b.length) := by omega
      have e2 : cmpL (a.drop i) (b.drop i) = 0 := by
        rw [e, List.drop_length, show b.drop a.length = [] from List.drop_eq_nil_of_le (by omega)]; rfl
      simp (config := {implicitDefEqProofs := false, maxDischargeDepth := 20}) (disch := first | omega | (simp only [lenE]; done) | (simp only [lenE]; omega) | rfl | (simp only [lenE, markR_len]; done) | (simp only [lenE, markR_len]; omega)) only [runE, mapE, listE, initT_5, initT_6, initT_7, initT_8, resV, oneV, binA, unA, reduceCtorEq, Nat.reduceEqDiff, Nat.reduceAdd, Nat.reduceLT, Nat.reduceLeDiff, Nat.reduceMul, Nat.reduceSub, ↓reduceIte, decide_true, decide_false, Bool.true_eq_false, Bool.false_eq_true, Bool.not_true, Bool.not_false, if_true, if_false, and_true, true_and, memE, celE, w64, Nat.zero_add, Nat.add_zero, Nat.mul_one, putL, and_self, ldn, t0, t1, t9, t10, t11, tm, hlt', hv.len, hu.len, hlb']
      rw [he, e2]
      exact ext_ansV (Ext.refl m) rfl
def orL : List Int → Int
  | [] => 0
  | x :: l => if x = 0 then orL l else x
theorem orL_drop {a : List Int} {i : Nat} (ha : i < a.length) : orL (a.drop i) = if a.getD i 0 = 0 then orL (a.drop (i + 1)) else a.getD i 0 := by
  rw [List.drop_eq_getElem_cons ha, orL]
  simp [List.getD_eq_getElem?_getD, ha]
theorem cmpOr_rc (m : Mem) (v : Value) (a : List Int) (h : IntsA m v a) : RC Try.prog 149 [v] m (AnsV (.int .i64 (orL a))) := by
  refine rc_of_run mixed ok_cmp_Or (by simp) (go_start _ _ _ ?_)
  have hv := h.ro
  have hbd := hv.bd
  simp (config := {implicitDefEqProofs := false, maxDischargeDepth := 20}) (disch := first | omega | (simp only [lenE]; done) | (simp only [lenE]; omega) | rfl | (simp only [lenE, markR_len]; done) | (simp only [lenE, markR_len]; omega)) only [runE, mapE, listE, initT_5, initT_6, initT_7, initT_8, resV, oneV, binA, unA, reduceCtorEq, Nat.reduceEqDiff, Nat.reduceAdd, Nat.reduceLT, Nat.reduceLeDiff, Nat.reduceMul, Nat.reduceSub, ↓reduceIte, decide_true, decide_false, Bool.true_eq_false, Bool.false_eq_true, Bool.not_true, Bool.not_false, if_true, if_false, and_true, true_and, memE, celE, w64, Nat.zero_add, Nat.add_zero, Nat.mul_one, putL, and_self, ldn, c_cmp_Or, r_cmp_Or, hv.len]
  refine loop_inv mixed (fun s => ∃ i : Nat, i ≤ a.length ∧ orL a = orL (a.drop i) ∧ s.t 3 = .int .i64 0 ∧ s.t 6 = v ∧ s.t 7 = .int .i64 a.length ∧ s.t 8 = .int .i64 i ∧ s.m = roM m) (fun s => a.length - (intOf (s.t 8)).toNat)
    ⟨0, by omega, rfl, rfl, rfl, rfl, rfl, rfl⟩ ?_
  rintro s ⟨i, hk, he, t3, t6, t7, t8, tm⟩
  by_cases hlt : i < a.length
  · have hlt' : (i : Int) < a.length := by omega
    rw [orL_drop hlt] at he
    by_cases hq : a.getD i 0 = 0
    · have hq' : (a.getD i 0 != 0) = false := by rw [hq]; rfl
      rw [if_pos hq] at he
      simp (config := {implicitDefEqProofs := false, maxDischargeDepth := 20}) (disch := first | omega | (simp only [lenE]; done) | (simp only [lenE]; omega) | rfl | (simp only [lenE, markR_len]; done) | (simp only [lenE, markR_len]; omega)) only [runE, mapE, listE, initT_5, initT_6, initT_7, initT_8, resV, oneV, binA, unA, reduceCtorEq, Nat.reduceEqDiff, Nat.reduceAdd, Nat.reduceLT, Nat.reduceLeDiff, Nat.reduceMul, Nat.reduceSub, ↓reduceIte, decide_true, decide_false, Bool.true_eq_false, Bool.false_eq_true, Bool.not_true, Bool.not_false, if_true, if_false, and_true, true_and, memE, celE, w64, Nat.zero_add, Nat.add_zero, Nat.mul_one, putL, and_self, ldn, t3, t6, t7, t8, tm, hlt', hv.at_ i hlt, hv.ld i hlt, hq']
      exact ⟨⟨i + 1, by omega, he, by simp⟩, by simp [intOf]; omega⟩
    · have hq' : (a.getD i 0 != 0) = true := by simpa using hq
      rw [if_neg hq] at he
      simp (config := {implicitDefEqProofs := false, maxDischargeDepth := 20}) (disch := first | omega | (simp only [lenE]; done) | (simp only [lenE]; omega) | rfl | (simp only [lenE, markR_len]; done) | (simp only [lenE, markR_len]; omega)) only [runE, mapE, listE, initT_5, initT_6, initT_7, initT_8, resV, oneV, binA, unA, reduceCtorEq, Nat.reduceEqDiff, Nat.reduceAdd, Nat.reduceLT, Nat.reduceLeDiff, Nat.reduceMul, Nat.reduceSub, ↓reduceIte, decide_true, decide_false, Bool.true_eq_false, Bool.false_eq_true, Bool.not_true, Bool.not_false, if_true, if_false, and_true, true_and, memE, celE, w64, Nat.zero_add, Nat.add_zero, Nat.mul_one, putL, and_self, ldn, t3, t6, t7, t8, tm, hlt', hv.at_ i hlt, hv.ld i hlt, hq']
      rw [he]
      exact ext_ansV (Ext.refl m) rfl
  · have hlt' : ¬ ((i : Int) < a.length) := by omega
    have e : i = a.length := by omega
    rw [e, List.drop_length] at he
    simp (config := {implicitDefEqProofs := false, maxDischargeDepth := 20}) (disch := first | omega | (simp only [lenE]; done) | (simp only [lenE]; omega) | rfl | (simp only [lenE, markR_len]; done) | (simp only [lenE, markR_len]; omega)) only [runE, mapE, listE, initT_5, initT_6, initT_7, initT_8, resV, oneV, binA, unA, reduceCtorEq, Nat.reduceEqDiff, Nat.reduceAdd, Nat.reduceLT, Nat.reduceLeDiff, Nat.reduceMul, Nat.reduceSub, ↓reduceIte, decide_true, decide_false, Bool.true_eq_false, Bool.false_eq_true, Bool.not_true, Bool.not_false, if_true, if_false, and_true, true_and, memE, celE, w64, Nat.zero_add, Nat.add_zero, Nat.mul_one, putL, and_self, ldn, t3, t6, t7, t8, tm, hlt']
    rw [he]
    exact ext_ansV (Ext.refl m) rfl
theorem cmpL_lex : ∀ {a b : List Int}, a.length = b.length → decide (cmpL a b < 0) = lexB a b := by
  intro a
  induction a with
  | nil => intro b h; cases b with
    | nil => rfl
    | cons y b => simp at h
  | cons x a ih =>
    intro b h
    cases b with
    | nil => simp at h
    | cons y b =>
      rw [cmpL, lexB]
      unfold cmpI
      by_cases e : x = y
      · subst e
        simp only [Int.lt_irrefl, if_false, if_true]
        exact ih (by simpa using h)
      · rw [if_neg e]
        by_cases h1 : x < y
        · simp [h1]
        · have h2 : y < x := by omega
          simp [h1, h2]
theorem or_bef (c1 c2 : Int) (l1 l2 : List Int) : decide (orL [cmpI c1 c2, cmpI l1.length l2.length, cmpL l1 l2] < 0) = bef (c1, l1) (c2, l2) := by
  unfold bef beforeB
  simp only [orL]
  unfold cmpI
  by_cases e : c1 = c2
  · subst e
    simp only [Int.lt_irrefl, if_false, if_true]
    by_cases e2 : l1.length = l2.length
    · rw [if_pos e2, ← cmpL_lex e2, e2]
      simp only [Int.lt_irrefl, if_false, if_true]
      by_cases h0 : cmpL l1 l2 = 0
      · rw [h0]; simp
      · rw [if_neg h0]
    · rw [if_neg e2]
      by_cases h1 : l1.length < l2.length
      · have h1' : (l1.length : Int) < l2.length := by omega
        simp [h1]
      · have h2 : l2.length < l1.length := by omega
        simp [h1, h2]
  · rw [if_neg e]
    by_cases h1 : c1 < c2
    · simp [h1]
    · have h2 : c2 < c1 := by omega
      simp [h1, h2]
theorem comesBefore_rc (m : Mem) (c1 c2 : Int) (v u : Value) (a b : List Int) (h : IntsA m v a) (h' : IntsA m u b) :
    RC Try.prog 127 [.agg #[.int .i64 c1, v], .agg #[.int .i64 c2, u]] m (AnsV (.bool (bef (c1, a) (c2, b)))) := by
  refine rc_of_run mixed ok_impl_comesBefore (by simp) (go_start _ _ _ ?_)
  have hv := h.ro
  have hu := h'.ro
  have l1 := hv.len
  have l2 := hu.len
  simp (config := {implicitDefEqProofs := false, maxDischargeDepth := 20}) (disch := first | omega | (simp only [lenE]; done) | (simp only [lenE]; omega) | rfl | (simp only [lenE, markR_len]; done) | (simp only [lenE, markR_len]; omega)) only [runE, mapE, listE, initT_5, initT_6, initT_7, initT_8, resV, oneV, binA, unA, reduceCtorEq, Nat.reduceEqDiff, Nat.reduceAdd, Nat.reduceLT, Nat.reduceLeDiff, Nat.reduceMul, Nat.reduceSub, ↓reduceIte, decide_true, decide_false, Bool.true_eq_false, Bool.false_eq_true, Bool.not_true, Bool.not_false, if_true, if_false, and_true, true_and, memE, celE, w64, Nat.zero_add, Nat.add_zero, Nat.mul_one, putL, and_self, ldn, c_impl_comesBefore, r_impl_comesBefore, l1, l2]
  refine rcallH_rc (cmpI_rc _ c1 c2) ?_
  rintro r new ⟨rfl, rfl⟩
  simp (config := {implicitDefEqProofs := false, maxDischargeDepth := 20}) (disch := first | omega | (simp only [lenE]; done) | (simp only [lenE]; omega) | rfl | (simp only [lenE, markR_len]; done) | (simp only [lenE, markR_len]; omega)) only [runE, mapE, listE, initT_5, initT_6, initT_7, initT_8, resV, oneV, binA, unA, reduceCtorEq, Nat.reduceEqDiff, Nat.reduceAdd, Nat.reduceLT, Nat.reduceLeDiff, Nat.reduceMul, Nat.reduceSub, ↓reduceIte, decide_true, decide_false, Bool.true_eq_false, Bool.false_eq_true, Bool.not_true, Bool.not_false, if_true, if_false, and_true, true_and, memE, celE, w64, Nat.zero_add, Nat.add_zero, Nat.mul_one, putL, and_self, ldn]
  refine rcallH_rc (cmpI_rc _ (a.length : Int) (b.length : Int)) ?_
  rintro r new ⟨rfl, rfl⟩
  simp (config := {implicitDefEqProofs := false, maxDischargeDepth := 20}) (disch := first | omega | (simp only [lenE]; done) | (simp only [lenE]; omega) | rfl | (simp only [lenE, markR_len]; done) | (simp only [lenE, markR_len]; omega)) only [runE, mapE, listE, initT_5, initT_6, initT_7, initT_8, resV, oneV, binA, unA, reduceCtorEq, Nat.reduceEqDiff, Nat.reduceAdd, Nat.reduceLT, Nat.reduceLeDiff, Nat.reduceMul, Nat.reduceSub, ↓reduceIte, decide_true, decide_false, Bool.true_eq_false, Bool.false_eq_true, Bool.not_true, Bool.not_false, if_true, if_false, and_true, true_and, memE, celE, w64, Nat.zero_add, Nat.add_zero, Nat.mul_one, putL, and_self, ldn]
  refine rcallH_rc (slCompare_rc _ v u a b ((hv.ext _).ext _) ((hu.ext _).ext _)) ?_
  rintro r new ⟨rfl, nr⟩
  have b3 : ∀ (M : Mem) (x y z : Int), bslA M 3 1 3 [.int .i64 0, .int .i64 0, .int .i64 0] [(0, 1, .int .i64 x), (1, 1, .int .i64 y), (2, 1, .int .i64 z)] = some (.slice (some ⟨M.length, 0, none⟩) 3 1, M ++ [⟨.own, 3, [x, y, z].map (Value.int .i64)⟩]) := fun M x y z => rfl
  simp (config := {implicitDefEqProofs := false, maxDischargeDepth := 20}) (disch := first | omega | (simp only [lenE]; done) | (simp only [lenE]; omega) | rfl | (simp only [lenE, markR_len]; done) | (simp only [lenE, markR_len]; omega)) only [runE, mapE, listE, initT_5, initT_6, initT_7, initT_8, resV, oneV, binA, unA, reduceCtorEq, Nat.reduceEqDiff, Nat.reduceAdd, Nat.reduceLT, Nat.reduceLeDiff, Nat.reduceMul, Nat.reduceSub, ↓reduceIte, decide_true, decide_false, Bool.true_eq_false, Bool.false_eq_true, Bool.not_true, Bool.not_false, if_true, if_false, and_true, true_and, memE, celE, w64, Nat.zero_add, Nat.add_zero, Nat.mul_one, putL, and_self, ldn, b3]
  have o3 := fun M : Mem => OwnR.at_end M [cmpI c1 c2, cmpI (a.length : Int) (b.length : Int), cmpL a b]
  refine rcallH_rc (cmpOr_rc _ _ [cmpI c1 c2, cmpI (a.length : Int) (b.length : Int), cmpL a b] ((OwnR.end' (l := [cmpI c1 c2, cmpI (a.length : Int) (b.length : Int), cmpL a b]) (by simp [roM_len]; omega)).ints (by simp) 1)) ?_
  rintro r new2 ⟨rfl, nr2⟩
  simp (config := {implicitDefEqProofs := false, maxDischargeDepth := 20}) (disch := first | omega | (simp only [lenE]; done) | (simp only [lenE]; omega) | rfl | (simp only [lenE, markR_len]; done) | (simp only [lenE, markR_len]; omega)) only [runE, mapE, listE, initT_5, initT_6, initT_7, initT_8, resV, oneV, binA, unA, reduceCtorEq, Nat.reduceEqDiff, Nat.reduceAdd, Nat.reduceLT, Nat.reduceLeDiff, Nat.reduceMul, Nat.reduceSub, ↓reduceIte, decide_true, decide_false, Bool.true_eq_false, Bool.false_eq_true, Bool.not_true, Bool.not_false, if_true, if_false, and_true, true_and, memE, celE, w64, Nat.zero_add, Nat.add_zero, Nat.mul_one, putL, and_self, ldn]
  rw [or_bef]
  exact ext_ansV ((((((Ext.refl m).one _ _).one _ _).app nr).one _ _).app nr2) rfl
end Go.Proofs.Ytamhhicnfpemeaa.Ab
end
section
namespace Go.Proofs.Ytamhhicnfpemeaa.Ab
open Go Go.RowKit
set_option linter.unusedVariables false
set_option linter.unusedSimpArgs false
structure Gw (mid : Nat) (m m' : Mem) : Prop where
  len : m.length ≤ m'.length
  old : ∀ id, id < m.length → id ≠ mid → m'[id]? = m[id]?
  new : ∀ id b, m.length ≤ id → m'[id]? = some b → b.kd ≠ .ro
  at_ : ∀ b, m'[mid]? = some b → b.kd ≠ .ro
theorem Gw.refl {mid : Nat} {m : Mem} (h : ∀ b, m[mid]? = some b → b.kd ≠ .ro) : Gw mid m m :=
  ⟨Nat.le_refl _, fun _ _ _ => rfl, fun id b h1 h2 => absurd (List.getElem?_eq_some_iff.1 h2).1 (by omega), h⟩
theorem Gw.app {mid : Nat} {m m' new : Mem} (h : Gw mid m m') (hn : NoRo new) : Gw mid m (m' ++ new) := by
  have key : ∀ (id : Nat) (b : Blk), (m' ++ new)[id]? = some b → m'[id]? = some b ∨ b.kd ≠ .ro := by
    intro id b hb
    by_cases hi : id < m'.length
    · rw [List.getElem?_append_left hi] at hb; exact .inl hb
    · rw [List.getElem?_append_right (by omega)] at hb; exact .inr (hn b (List.mem_of_getElem? hb))
  refine ⟨by rw [List.length_append]; have := h.len; omega, fun id h1 h2 => ?_, fun id b h1 h2 => ?_, fun b h2 => ?_⟩
  · rw [List.getElem?_append_left (by have := h.len; omega)]; exact h.old id h1 h2
  · rcases key id b h2 with h3 | h3
    · exact h.new id b h1 h3
    · exact h3
  · rcases key mid b h2 with h3 | h3
    · exact h.at_ b h3
    · exact h3
theorem Gw.one {mid : Nat} {m m' : Mem} (h : Gw mid m m') (e : TypeId) (cs : List Value) : Gw mid m (m' ++ [⟨.own, e, cs⟩]) := h.app (noRo_own noRo_nil)
theorem Gw.set {mid : Nat} {m m' : Mem} (h : Gw mid m m') {id : Nat} {b : Blk} (hid : m.length ≤ id ∨ id = mid) (hb : b.kd ≠ .ro) : Gw mid m (m'.set id b) := by
  refine ⟨by rw [List.length_set]; exact h.len, fun i h1 h2 => ?_, fun i b2 h1 h2 => ?_, fun b2 h2 => ?_⟩
  · rw [List.getElem?_set_ne (by omega)]; exact h.old i h1 h2
  · rcases at_set h2 with ⟨_, h3⟩ | ⟨_, h3, _⟩
    · exact h.new i b2 h1 h3
    · rw [← h3]; exact hb
  · rcases at_set h2 with ⟨_, h3⟩ | ⟨_, h3, _⟩
    · exact h.at_ b2 h3
    · rw [← h3]; exact hb
theorem Gw.trans {mid : Nat} {a b c : Mem} (h : Gw mid a b) (h' : Gw mid b c) : Gw mid a c := by
  have l1 := h.len
  have l2 := h'.len
  refine ⟨by omega, fun i h1 h2 => (h'.old i (by omega) h2).trans (h.old i h1 h2), fun i x h1 h2 => ?_, h'.at_⟩
  by_cases e : i = mid
  · subst e; exact h'.at_ x h2
  · by_cases hi : i < b.length
    · rw [h'.old i hi e] at h2; exact h.new i x h1 h2
    · exact h'.new i x (by omega) h2
theorem Gw.blk {mid : Nat} {m m' : Mem} (h : Gw mid m m') {id : Nat} {b : Blk} (hb : m[id]? = some b) (hne : id ≠ mid) : m'[id]? = some b := by
  rw [h.old id (List.getElem?_eq_some_iff.1 hb).1 hne]; exact hb
theorem rdc_blk {m : Mem} {id k : Nat} {v : Value} (h : rdc m id k = some v) : ∃ b, m[id]? = some b ∧ b.kd ≠ .dead := by
  unfold rdc at h
  cases hm : m[id]? with
  | none => rw [hm] at h; cases h
  | some b =>
    rw [hm] at h
    refine ⟨b, rfl, fun e => ?_⟩
    simp only [e, if_true] at h
    cases h
theorem Gw.rd {mid : Nat} {m m' : Mem} (h : Gw mid m m') {e : TypeId} {cs : List Value} (hd : m[mid]? = some ⟨.dead, e, cs⟩) {id k : Nat} {v : Value} (hv : rdc m id k = some v) : rdc m' id k = some v := by
  obtain ⟨b, hb, hk⟩ := rdc_blk hv
  have hne : id ≠ mid := fun e => by subst e; rw [hd] at hb; cases hb; exact hk rfl
  unfold rdc at hv ⊢
  rw [h.old id (List.getElem?_eq_some_iff.1 hb).1 hne]; exact hv
theorem IntsA.of_at {m m' : Mem} {id off n fl : Nat} {l : List Int} (h : IntsA m (.slice (some ⟨id, off, none⟩) n fl) l) (e : m'[id]? = m[id]?) : IntsA m' (.slice (some ⟨id, off, none⟩) n fl) l := by
  refine ⟨h.len, h.bd, h.at_, fun k hk => ?_, ?_⟩
  · have := h.ld k hk
    simp only [pAt, ldA, rdc] at this ⊢
    rw [e]; exact this
  · have := h.src
    simp only [slR, rdl] at this ⊢
    rw [e]; exact this
theorem Gw.ints {mid : Nat} {m m' : Mem} (h : Gw mid m m') {e : TypeId} {cs : List Value} (hd : m[mid]? = some ⟨.dead, e, cs⟩) {v : Value} {l : List Int} (hi : IntsA m v l) : IntsA m' v l := by
  rcases hi.form with ⟨rfl, rfl⟩ | ⟨id, off, fl, rfl⟩
  · exact IntsA.nil m'
  · have hs := hi.src
    simp only [slR, rdl] at hs
    cases hb : m[id]? with
    | none => rw [hb] at hs; cases hs
    | some b =>
      rw [hb] at hs
      refine hi.of_at (h.old id (List.getElem?_eq_some_iff.1 hb).1 fun e2 => ?_)
      subst e2
      rw [hd] at hb
      cases hb
      simp at hs
theorem Gw.case {mid : Nat} {m m' : Mem} (h : Gw mid m m') {e : TypeId} {cs : List Value} (hd : m[mid]? = some ⟨.dead, e, cs⟩) {v : Value} {k : Cs} (hk : CaseA m v k) : CaseA m' v k := by
  obtain ⟨v1, v2, v3, v4, e0, h1, h2, h3, h4⟩ := hk.ok
  exact ⟨v1, v2, v3, v4, e0, h.ints hd h1, h.ints hd h2, h.ints hd h3, h.ints hd h4⟩
theorem Gw.own {mid : Nat} {m m' : Mem} (h : Gw mid m m') {e : TypeId} {cs : List Value} (hd : m[mid]? = some ⟨.dead, e, cs⟩) {id : Nat} {l : List Int} (ho : OwnR m id l) : OwnR m' id l := by
  refine h.blk ho fun e2 => ?_
  subst e2
  have : m[id]? = some (rowB l) := ho
  rw [hd] at this
  cases this
def RowV (M : Mem) (v : Value) (l : List Int) : Prop := (v = .slice none 0 0 ∧ l = []) ∨ ∃ id fl, v = .slice (some ⟨id, 0, none⟩) l.length fl ∧ OwnR M id l ∧ l.length ≤ 1048576
theorem RowV.ints {M : Mem} {v : Value} {l : List Int} (h : RowV M v l) : IntsA M v l := by
  rcases h with ⟨rfl, rfl⟩ | ⟨id, fl, rfl, ho, hl⟩
  · exact IntsA.nil M
  · exact ho.ints (by omega) fl
theorem RowV.keep {M M' : Mem} {v : Value} {l : List Int} (h : RowV M v l) (hk : ∀ id l, OwnR M id l → OwnR M' id l) : RowV M' v l := by
  rcases h with h | ⟨id, fl, h1, ho, hl⟩
  · exact .inl h
  · exact .inr ⟨id, fl, h1, hk id l ho, hl⟩
def LotV (M : Mem) (v : Value) (c : Int) (l : List Int) : Prop := ∃ A ln cp, v = .agg #[.int .i64 c, .slice A ln cp] ∧ RowV M (.slice A ln cp) l
theorem LotV.keep {M M' : Mem} {v : Value} {c : Int} {l : List Int} (h : LotV M v c l) (hk : ∀ id l, OwnR M id l → OwnR M' id l) : LotV M' v c l := by
  obtain ⟨A, ln, cp, h1, h2⟩ := h
  exact ⟨A, ln, cp, h1, h2.keep hk⟩
structure MG (k : Cs) (mid : Nat) (e : TypeId) (es : List Value) (M : Mem) : Prop where
  mp : M[mid]? = some ⟨.dead, e, .bool true :: es⟩
  ok : ∀ x v, lkE es x = some v → ∃ j : Nat, x = j ∧ j ≤ k.need.length ∧ LotV M v (costL k k.need.length (dp k k.need.length j)) (dp k k.need.length j)
  end_ : (lkE es k.need.length).isSome = true
theorem MG.keep {k : Cs} {mid : Nat} {e : TypeId} {es : List Value} {M M' : Mem} (h : MG k mid e es M) (hm : M'[mid]? = M[mid]?) (hk : ∀ id l, OwnR M id l → OwnR M' id l) : MG k mid e es M' :=
  ⟨hm.trans h.mp, fun x v hv => by obtain ⟨j, h1, h2, h3⟩ := h.ok x v hv; exact ⟨j, h1, h2, h3.keep hk⟩, h.end_⟩
theorem MG.app {k : Cs} {mid : Nat} {e : TypeId} {es : List Value} {M : Mem} (h : MG k mid e es M) (R : Mem) : MG k mid e es (M ++ R) :=
  h.keep (List.getElem?_append_left (List.getElem?_eq_some_iff.1 h.mp).1) fun id l ho => ho.ext R
theorem MG.box {k : Cs} {mid : Nat} {e : TypeId} {es : List Value} {M : Mem} (h : MG k mid e es M) {id : Nat} {t : TypeId} {cs : List Value} {b : Blk} (hb : M[id]? = some ⟨.own, t, cs⟩) (ht : t ≠ 3) : MG k mid e es (M.set id b) := by
  refine h.keep (List.getElem?_set_ne fun e2 => ?_) fun i l ho => ho.set_ne fun e2 => ?_
  · subst e2; have := h.mp; rw [hb] at this; cases this
  · subst e2
    have : M[id]? = some (rowB l) := ho
    rw [hb] at this
    cases this
    exact ht rfl
structure LEnv (k : Cs) (v1 v2 v3 v4 : Value) (kb cb nb fb mid : Nat) (e : TypeId) (es : List Value) (m : Mem) : Prop where
  rk : rdc m kb 0 = some (.map (some mid))
  c0 : rdc m cb 0 = some v1
  c1 : rdc m cb 1 = some v2
  c2 : rdc m cb 2 = some v3
  c3 : rdc m cb 3 = some v4
  hc : CaseA m (.agg #[v1, v2, v3, v4]) k
  rn : rdc m nb 0 = some (.int .i64 k.need.length)
  rf : rdc m fb 0 = some (.func (.func 155) #[] #[.pointer (some ⟨kb, 0, none⟩), .pointer (some ⟨cb, 0, none⟩), .pointer (some ⟨nb, 0, none⟩), .pointer (some ⟨fb, 0, none⟩)])
  g : MG k mid e es m
theorem LEnv.gw {k : Cs} {v1 v2 v3 v4 : Value} {kb cb nb fb mid : Nat} {e : TypeId} {es es' : List Value} {m m' : Mem} (h : LEnv k v1 v2 v3 v4 kb cb nb fb mid e es m) (hg : Gw mid m m') (h2 : MG k mid e es' m') :
    LEnv k v1 v2 v3 v4 kb cb nb fb mid e es' m' :=
  ⟨hg.rd h.g.mp h.rk, hg.rd h.g.mp h.c0, hg.rd h.g.mp h.c1, hg.rd h.g.mp h.c2, hg.rd h.g.mp h.c3, hg.case h.g.mp h.hc, hg.rd h.g.mp h.rn, hg.rd h.g.mp h.rf, h2⟩
theorem rdc_lt {m : Mem} {id k : Nat} {v : Value} (h : rdc m id k = some v) : id < m.length := by
  obtain ⟨b, hb, _⟩ := rdc_blk h
  exact (List.getElem?_eq_some_iff.1 hb).1
theorem lkA_mp {M : Mem} {mid : Nat} {e : TypeId} {es : List Value} (h : M[mid]? = some ⟨.dead, e, .bool true :: es⟩) (z : Value) (x : Int) : lkA M true z (.map (some mid)) (.int .i64 x) = some (.tuple #[(lkE es x).getD z, .bool (lkE es x).isSome]) := by
  simp [lkA, mapOf, mapB, h]
theorem mupA_mp {M : Mem} {mid : Nat} {e : TypeId} {es : List Value} (h : M[mid]? = some ⟨.dead, e, .bool true :: es⟩) {x : Int} (hx : lkE es x = none) (v : Value) : mupA M (.map (some mid)) (.int .i64 x) v = some (M.set mid ⟨.dead, e, .bool true :: (es ++ [.tuple #[.int .i64 x, v]])⟩) := by
  simp [mupA, mapOf, mapB, h, hx]
theorem lkE_app : ∀ (es : List Value) (x y : Int) (v : Value), lkE (es ++ [.tuple #[.int .i64 y, v]]) x = match lkE es x with
    | some u => some u
    | none => if y = x then some v else none := by
  intro es
  induction es with
  | nil => intro x y v; simp [lkE]
  | cons a es ih =>
    intro x y v
    rw [List.cons_append]
    cases a with
    | tuple q =>
      simp only [lkE]
      split
      · split
        · rfl
        · exact ih x y v
      · exact ih x y v
    | _ => exact ih x y v
theorem rd_own {M : Mem} {id k : Nat} {t : TypeId} {cs : List Value} (h : M[id]? = some ⟨.own, t, cs⟩) : rdc M id k = cs[k]? := by
  simp [rdc, h]
theorem st2_own {M : Mem} {id : Nat} {t : TypeId} {a b : Value} (h : M[id]? = some ⟨.own, t, [a, b]⟩) (x : Int) (A : Option Addr) (ln cp : Nat) : stA M id 0 [.int .i64 x, .slice A ln cp] = some (M.set id ⟨.own, t, [.int .i64 x, .slice A ln cp]⟩) := by
  simp [stA, h, onesB, Value.oneCell', putL]
theorem dp_beg {k : Cs} {n nx : Nat} (h : nx ≤ n) : beg n (dp k n nx) 0 = nx := ((dp_min k n (n - nx) nx (by omega)).1).2
theorem dp_rising {k : Cs} {n nx : Nat} (h : nx ≤ n) : Rising (dp k n nx) n := ((dp_min k n (n - nx) nx (by omega)).1).1
end Go.Proofs.Ytamhhicnfpemeaa.Ab
end
section
namespace Go.Proofs.Ytamhhicnfpemeaa.Ab
open Go Go.RowKit
set_option linter.unusedVariables false
set_option linter.unusedSimpArgs false
theorem bld2 (x : Int) (A : Option Addr) (ln cp : Nat) : bldA [.int .i64 0, .slice none 0 0] [(0, 1, .int .i64 x), (1, 1, .slice A ln cp)] = some (.agg #[.int .i64 x, .slice A ln cp]) := rfl
theorem from_ac (k : Cs) (hg : Good k) (v1 v2 v3 v4 : Value) (kb cb nb fb mid : Nat) (e : TypeId) : ∀ (d first : Nat) (m : Mem) (es : List Value), first + d = k.need.length → LEnv k v1 v2 v3 v4 kb cb nb fb mid e es m →
    AC Try.prog 155 [.int .i64 first, .pointer (some ⟨kb, 0, none⟩), .pointer (some ⟨cb, 0, none⟩), .pointer (some ⟨nb, 0, none⟩), .pointer (some ⟨fb, 0, none⟩)] m fun r m' =>
      ∃ es', Gw mid m m' ∧ LEnv k v1 v2 v3 v4 kb cb nb fb mid e es' m' ∧ (∀ x : Int, x < first → lkE es' x = lkE es x) ∧ LotV m' r (costL k k.need.length (dp k k.need.length first)) (dp k k.need.length first) := by
  intro d
  induction d using Nat.strongRecOn with
  | _ d ih =>
    intro first m es hfd hE
    refine ac_of_run mixed ok_impl_lotsFrom_1 (by simp) (go_start _ _ _ ?_)
    have h8 := hg.n8
    obtain ⟨n, hn⟩ : ∃ n, n = k.need.length := ⟨_, rfl⟩
    have hkb := rdc_lt hE.rk
    have hcb := rdc_lt hE.c0
    have hnb := rdc_lt hE.rn
    have hfb := rdc_lt hE.rf
    have hmid := (List.getElem?_eq_some_iff.1 hE.g.mp).1
    have rk := hE.rk
    have c0 := hE.c0
    have c1 := hE.c1
    have c2 := hE.c2
    have c3 := hE.c3
    have rn := hE.rn
    rw [← hn] at h8 rn hfd
    have lk : ∀ R : Mem, lkA (m ++ R) true (.agg #[.int .i64 0, .slice none 0 0]) (.map (some mid)) (.int .i64 first) = some (.tuple #[(lkE es first).getD (.agg #[.int .i64 0, .slice none 0 0]), .bool (lkE es first).isSome]) := fun R => lkA_mp (hE.g.app R).mp _ _
    have g0 : Gw mid m m := Gw.refl fun b hb => by rw [hE.g.mp] at hb; cases hb; simp
    cases hl : lkE es first with
    | some v =>
      obtain ⟨j, hj, hjn, A, ln, cp, rfl, hrow⟩ := hE.g.ok _ _ hl
      have hj' : first = j := by omega
      subst hj'
      simp only [hl, Option.getD_some, Option.isSome_some] at lk
      simp (config := {implicitDefEqProofs := false, maxDischargeDepth := 20}) (disch := first | omega | (simp only [lenE]; done) | (simp only [lenE]; omega) | rfl | (simp only [lenE, markR_len]; done) | (simp only [lenE, markR_len]; omega)) only [runE, mapE, listE, initT_5, initT_6, initT_7, initT_8, resV, oneV, binA, unA, reduceCtorEq, Nat.reduceEqDiff, Nat.reduceAdd, Nat.reduceLT, Nat.reduceLeDiff, Nat.reduceMul, Nat.reduceSub, ↓reduceIte, decide_true, decide_false, Bool.true_eq_false, Bool.false_eq_true, Bool.not_true, Bool.not_false, if_true, if_false, and_true, true_and, memE, celE, w64, Nat.zero_add, Nat.add_zero, Nat.mul_one, putL, and_self, ldn, c_impl_lotsFrom_1, r_impl_lotsFrom_1, rk, lk, ext_2_0, ext_2_1, stP_aggL]
      have gw := (g0.one 103 [.int .i64 (costL k k.need.length (dp k k.need.length first)), .slice A ln cp]).one 103 [.int .i64 (costL k k.need.length (dp k k.need.length first)), .slice A ln cp]
      exact ⟨es, gw, hE.gw gw ((hE.g.app _).app _), fun x _ => rfl, A, ln, cp, rfl, hrow.keep fun id l ho => (ho.ext _).ext _⟩
    | none =>
      have hlt : first < n := by
        have := hE.g.end_
        rw [← hn] at this
        rcases Nat.lt_or_ge first n with h | h
        · exact h
        · have e1 : first = n := by omega
          rw [← e1, hl] at this
          cases this
      simp only [hl, Option.getD_none, Option.isSome_none] at lk
      simp (config := {implicitDefEqProofs := false, maxDischargeDepth := 20}) (disch := first | omega | (simp only [lenE]; done) | (simp only [lenE]; omega) | rfl | (simp only [lenE, markR_len]; done) | (simp only [lenE, markR_len]; omega)) only [runE, mapE, listE, initT_5, initT_6, initT_7, initT_8, resV, oneV, binA, unA, reduceCtorEq, Nat.reduceEqDiff, Nat.reduceAdd, Nat.reduceLT, Nat.reduceLeDiff, Nat.reduceMul, Nat.reduceSub, ↓reduceIte, decide_true, decide_false, Bool.true_eq_false, Bool.false_eq_true, Bool.not_true, Bool.not_false, if_true, if_false, and_true, true_and, memE, celE, w64, Nat.zero_add, Nat.add_zero, Nat.mul_one, putL, and_self, ldn, c_impl_lotsFrom_1, r_impl_lotsFrom_1, rk, lk, ext_2_0, ext_2_1, stP_aggL, c0, c1, c2, c3, rn]
      refine callH_rc (orderCost_rc _ _ k first n ((hE.hc.ext _).ext _) hg hlt (by omega)) ?_
      rintro r new ⟨rfl, nr⟩
      simp (config := {implicitDefEqProofs := false, maxDischargeDepth := 20}) (disch := first | omega | (simp only [lenE]; done) | (simp only [lenE]; omega) | rfl | (simp only [lenE, markR_len]; done) | (simp only [lenE, markR_len]; omega)) only [runE, mapE, listE, initT_5, initT_6, initT_7, initT_8, resV, oneV, binA, unA, reduceCtorEq, Nat.reduceEqDiff, Nat.reduceAdd, Nat.reduceLT, Nat.reduceLeDiff, Nat.reduceMul, Nat.reduceSub, ↓reduceIte, decide_true, decide_false, Bool.true_eq_false, Bool.false_eq_true, Bool.not_true, Bool.not_false, if_true, if_false, and_true, true_and, memE, celE, w64, Nat.zero_add, Nat.add_zero, Nat.mul_one, putL, and_self, ldn, bsl_one, stP_aggL, bld2]
      obtain ⟨M1, hM1⟩ : ∃ M1, M1 = m ++ [⟨.own, 103, [.int .i64 0, .slice none 0 0]⟩] ++ [⟨.own, 103, [.int .i64 0, .slice none 0 0]⟩] ++ new := ⟨_, rfl⟩
      have L1 : M1.length = m.length + 1 + 1 + new.length := by rw [hM1]; simp; omega
      have gw1 : Gw mid m M1 := by rw [hM1]; exact ((g0.one _ _).one _ _).app nr
      have mg1 : MG k mid e es M1 := by rw [hM1]; exact ((hE.g.app _).app _).app _
      have b61 : M1[m.length]? = some ⟨.own, 103, [.int .i64 0, .slice none 0 0]⟩ := by rw [hM1]; simp
      have o1 := OwnR.at_end M1 [(first : Int)]
      have hrow0 : RowV (M1 ++ [⟨.own, 3, [(first : Int)].map (Value.int .i64)⟩] ++ [⟨.own, 103, [.int .i64 (spanF k first n), .slice (some ⟨M1.length, 0, none⟩) 1 1]⟩]) (.slice (some ⟨M1.length, 0, none⟩) 1 1) [(first : Int)] :=
        .inr ⟨M1.length, 1, rfl, o1.ext _, by simp⟩
      have hb90 : (M1 ++ [⟨.own, 3, [(first : Int)].map (Value.int .i64)⟩] ++ [⟨.own, 103, [.int .i64 (spanF k first n), .slice (some ⟨M1.length, 0, none⟩) 1 1]⟩])[M1.length + 1]? = some ⟨.own, 103, [.int .i64 (spanF k first n), .slice (some ⟨M1.length, 0, none⟩) 1 1]⟩ := by simp
      have hc0 : spanF k first n = costL k n (dpLoop k n first (dp k n) (first + 1 - 1 - first)) := by
        rw [show first + 1 - 1 - first = 0 by omega, dpLoop, costL_cons, beg_nil, costL_nil]; simp
      have hl0 : [(first : Int)] = dpLoop k n first (dp k n) (first + 1 - 1 - first) := by
        rw [show first + 1 - 1 - first = 0 by omega, dpLoop]
      rw [← hM1, ← L1]
      refine loop_inv mixed (fun s => ∃ (nx : Nat) (M : Mem) (es1 : List Value) (A : Option Addr) (ln cp : Nat), first < nx ∧ nx ≤ n ∧ s.t 0 = .int .i64 first ∧ s.t 1 = .pointer (some ⟨kb, 0, none⟩) ∧ s.t 2 = .pointer (some ⟨cb, 0, none⟩) ∧ s.t 3 = .pointer (some ⟨nb, 0, none⟩) ∧ s.t 4 = .pointer (some ⟨fb, 0, none⟩) ∧ s.t 6 = .pointer (some ⟨m.length, 0, none⟩) ∧ s.t 9 = .pointer (some ⟨M1.length + 1, 0, none⟩) ∧ s.t 10 = .int .i64 nx ∧ s.m = M ∧
          Gw mid m M ∧ MG k mid e es1 M ∧ (∀ x : Int, x ≤ first → lkE es1 x = lkE es x) ∧ M[m.length]? = some ⟨.own, 103, [.int .i64 0, .slice none 0 0]⟩ ∧
          M[M1.length + 1]? = some ⟨.own, 103, [.int .i64 (costL k n (dpLoop k n first (dp k n) (nx - 1 - first))), .slice A ln cp]⟩ ∧ RowV M (.slice A ln cp) (dpLoop k n first (dp k n) (nx - 1 - first))) (fun s => n - (intOf (s.t 10)).toNat)
        ⟨first + 1, _, es, some ⟨M1.length, 0, none⟩, 1, 1, by omega, by omega, rfl, rfl, rfl, rfl, rfl, rfl, rfl, by simp only [put_t, put_t', put_m, putT_t, putT_t', putT_m, init_t, init_m, initT_0, initT_1, initT_2, initT_3, initT_4, initT_5, initT_6, initT_7, initT_8, Nat.reduceEqDiff, ↓reduceIte]; simp, rfl, (gw1.one _ _).one _ _, (mg1.app _).app _, fun x _ => rfl, ?_, ?_, ?_⟩ ?_
      · simp only [put_t, put_t', put_m, putT_t, putT_t', putT_m, init_t, init_m, initT_0, initT_1, initT_2, initT_3, initT_4, initT_5, initT_6, initT_7, initT_8, Nat.reduceEqDiff, ↓reduceIte]
        have := (List.getElem?_eq_some_iff.1 b61).1
        rw [List.getElem?_append_left (by simp; omega), List.getElem?_append_left (by omega)]; exact b61
      · rw [← hc0]; exact hb90
      · rw [← hl0]; exact hrow0
      rintro s ⟨nx, M, es1, A, ln, cp, hnx, hnn, t0, t1, t2, t3, t4, t6, t9, t10, tm, gw, mg, hpre, b6, b9, hrow⟩
      have hE1 := hE.gw gw mg
      have rk := hE1.rk
      have c0 := hE1.c0
      have c1 := hE1.c1
      have c2 := hE1.c2
      have c3 := hE1.c3
      have rn := hE1.rn
      have rf := hE1.rf
      rw [← hn] at rn
      have h6l := (List.getElem?_eq_some_iff.1 b6).1
      have h9l := (List.getElem?_eq_some_iff.1 b9).1
      by_cases hlt2 : nx < n
      · have hlt2' : (nx : Int) < n := by omega
        simp (config := {implicitDefEqProofs := false, maxDischargeDepth := 20}) (disch := first | omega | (simp only [lenE]; done) | (simp only [lenE]; omega) | rfl | (simp only [lenE, markR_len]; done) | (simp only [lenE, markR_len]; omega)) only [runE, mapE, listE, initT_5, initT_6, initT_7, initT_8, resV, oneV, binA, unA, reduceCtorEq, Nat.reduceEqDiff, Nat.reduceAdd, Nat.reduceLT, Nat.reduceLeDiff, Nat.reduceMul, Nat.reduceSub, ↓reduceIte, decide_true, decide_false, Bool.true_eq_false, Bool.false_eq_true, Bool.not_true, Bool.not_false, if_true, if_false, and_true, true_and, memE, celE, w64, Nat.zero_add, Nat.add_zero, Nat.mul_one, putL, and_self, ldn, t0, t1, t2, t3, t4, t6, t9, t10, tm, rn, hlt2', rf]
        refine callH_ac (ih (n - nx) (by omega) nx M es1 (by omega) hE1) ?_
        rintro r M2 ⟨es2, gw2, hE2, hpre2, A2, ln2, cp2, rfl, hrow2⟩
        rw [← hn] at hrow2 ⊢
        have gwt := gw.trans gw2
        have hne6 : m.length ≠ mid := by omega
        have hne9 : M1.length + 1 ≠ mid := by omega
        have b62 := gw2.blk b6 hne6
        have b92 := gw2.blk b9 hne9
        have hrow9 := hrow.keep fun id l ho => gw2.own hE1.g.mp ho
        have c0 := hE2.c0
        have c1 := hE2.c1
        have c2 := hE2.c2
        have c3 := hE2.c3
        have l2c := rdc_lt hE2.c0
        have h9l2 := (List.getElem?_eq_some_iff.1 b92).1
        have h6l2 := (List.getElem?_eq_some_iff.1 b62).1
        have hpre3 : ∀ x : Int, x ≤ first → lkE es2 x = lkE es x := fun x hx => (hpre2 x (by omega)).trans (hpre x hx)
        have hris := dp_rising (k := k) hnn
        have hdl := hris.len
        have ap := app_cons (x := (first : Int)) (id := M2.length + 1) (hrow2.ints.ext [⟨.own, 103, [.int .i64 (costL k n (dp k n nx)), .slice A2 ln2 cp2]⟩]) (by omega) (by simp)
        rw [Nat.add_comm 1, List.map_cons] at ap
        have hcl : spanF k first nx + costL k n (dp k n nx) = costL k n ((first : Int) :: dp k n nx) := by rw [costL_cons, dp_beg hnn]; simp
        have hri1 : Rising ((first : Int) :: dp k n nx) n := hris.cons (by omega) (by rw [dp_beg hnn]; omega)
        have cb0 := costL_in hg (ps := (first : Int) :: dp k n nx) (by rw [← hn]; exact hri1)
        rw [← hn] at cb0
        have hc3 := hE2.hc
        simp (config := {implicitDefEqProofs := false, maxDischargeDepth := 20}) (disch := first | omega | (simp only [lenE]; done) | (simp only [lenE]; omega) | rfl | (simp only [lenE, markR_len]; done) | (simp only [lenE, markR_len]; omega)) only [runE, mapE, listE, initT_5, initT_6, initT_7, initT_8, resV, oneV, binA, unA, reduceCtorEq, Nat.reduceEqDiff, Nat.reduceAdd, Nat.reduceLT, Nat.reduceLeDiff, Nat.reduceMul, Nat.reduceSub, ↓reduceIte, decide_true, decide_false, Bool.true_eq_false, Bool.false_eq_true, Bool.not_true, Bool.not_false, if_true, if_false, and_true, true_and, memE, celE, w64, Nat.zero_add, Nat.add_zero, Nat.mul_one, putL, and_self, ldn, t0, t1, t2, t3, t4, t6, t9, t10, bld2, stP_aggL, bsl_one, ap, c0, c1, c2, c3]
        obtain ⟨M3, hM3⟩ : ∃ M3, M3 = M2 ++ [⟨.own, 103, [.int .i64 (costL k n (dp k n nx)), .slice A2 ln2 cp2]⟩] ++ [deadB] ++ [⟨.own, 3, .int .i64 first :: (dp k n nx).map (Value.int .i64)⟩] := ⟨_, rfl⟩
        have L3 : M3.length = M2.length + 1 + 1 + 1 := by rw [hM3]; simp
        have hc3 : CaseA M3 (.agg #[v1, v2, v3, v4]) k := by rw [hM3]; exact ((hc3.ext _).ext _).ext _
        have facts : ∀ X : Mem, NoRo X → Gw mid m (M3 ++ X) ∧ MG k mid e es2 (M3 ++ X) ∧ (M3 ++ X)[m.length]? = some ⟨.own, 103, [.int .i64 0, .slice none 0 0]⟩ ∧
            (M3 ++ X)[M1.length + 1]? = some ⟨.own, 103, [.int .i64 (costL k n (dpLoop k n first (dp k n) (nx - 1 - first))), .slice A ln cp]⟩ ∧ RowV (M3 ++ X) (.slice A ln cp) (dpLoop k n first (dp k n) (nx - 1 - first)) ∧ OwnR (M3 ++ X) (M2.length + 1 + 1) ((first : Int) :: dp k n nx) := by
          intro X hX
          have hR : M3 ++ X = M2 ++ ([⟨.own, 103, [.int .i64 (costL k n (dp k n nx)), .slice A2 ln2 cp2]⟩] ++ [deadB] ++ [⟨.own, 3, .int .i64 first :: (dp k n nx).map (Value.int .i64)⟩] ++ X) := by rw [hM3]; simp
          refine ⟨?_, ?_, ?_, ?_, ?_, ?_⟩
          · rw [hM3]; exact (((gwt.one _ _).app (noRo_dead noRo_nil)).one _ _).app hX
          · rw [hR]; exact hE2.g.app _
          · rw [hR, List.getElem?_append_left h6l2]; exact b62
          · rw [hR, List.getElem?_append_left h9l2]; exact b92
          · rw [hR]; exact hrow9.keep fun id l ho => ho.ext _
          · rw [hM3]
            exact (OwnR.end' (l := (first : Int) :: dp k n nx) (by simp)).ext X
        rw [← hM3]
        have dls : dpLoop k n first (dp k n) (nx + 1 - 1 - first) = if bef (costL k n ((first : Int) :: dp k n nx), (first : Int) :: dp k n nx) (costL k n (dpLoop k n first (dp k n) (nx - 1 - first)), dpLoop k n first (dp k n) (nx - 1 - first)) = true then (first : Int) :: dp k n nx else dpLoop k n first (dp k n) (nx - 1 - first) := by
          rw [show nx + 1 - 1 - first = (nx - 1 - first) + 1 by omega, dpLoop, show first + 1 + (nx - 1 - first) = nx by omega]
        have done : ∀ (M6 : Mem) (X : Mem), NoRo X → M6 = M3 ++ X → ∀ b, bef (costL k n ((first : Int) :: dp k n nx), (first : Int) :: dp k n nx) (costL k n (dpLoop k n first (dp k n) (nx - 1 - first)), dpLoop k n first (dp k n) (nx - 1 - first)) = b →
            (b = false → Gw mid m M6 ∧ MG k mid e es2 M6 ∧ M6[m.length]? = some ⟨.own, 103, [.int .i64 0, .slice none 0 0]⟩ ∧ M6[M1.length + 1]? = some ⟨.own, 103, [.int .i64 (costL k n (dpLoop k n first (dp k n) (nx + 1 - 1 - first))), .slice A ln cp]⟩ ∧ RowV M6 (.slice A ln cp) (dpLoop k n first (dp k n) (nx + 1 - 1 - first))) ∧
            (b = true → ∀ M7, M7 = M6.set (M1.length + 1) ⟨.own, 103, [.int .i64 (costL k n ((first : Int) :: dp k n nx)), .slice (some ⟨M2.length + 1 + 1, 0, none⟩) ((dp k n nx).length + 1) 1]⟩ → Gw mid m M7 ∧ MG k mid e es2 M7 ∧ M7[m.length]? = some ⟨.own, 103, [.int .i64 0, .slice none 0 0]⟩ ∧ M7[M1.length + 1]? = some ⟨.own, 103, [.int .i64 (costL k n (dpLoop k n first (dp k n) (nx + 1 - 1 - first))), .slice (some ⟨M2.length + 1 + 1, 0, none⟩) ((dp k n nx).length + 1) 1]⟩ ∧ RowV M7 (.slice (some ⟨M2.length + 1 + 1, 0, none⟩) ((dp k n nx).length + 1) 1) (dpLoop k n first (dp k n) (nx + 1 - 1 - first))) := by
          intro M6 X hX h6 b hb
          obtain ⟨f1, f2, f3, f4, f5, f6⟩ := facts X hX
          rw [← h6] at f1 f2 f3 f4 f5 f6
          refine ⟨fun hbf => ?_, fun hbt M7 h7 => ?_⟩
          · rw [dls, hb, hbf, if_neg (by simp)]
            exact ⟨f1, f2, f3, f4, f5⟩
          · rw [dls, hb, hbt, if_pos rfl, h7]
            refine ⟨f1.set (.inl (by omega)) (by simp), f2.box f4 (by decide), ?_, ?_, .inr ⟨_, 1, rfl, ?_, by simp; omega⟩⟩
            · rw [List.getElem?_set_ne (by omega)]; exact f3
            · rw [List.getElem?_set_self (List.getElem?_eq_some_iff.1 f4).1]
            · refine f6.set_ne fun e2 => ?_
              have : M6[M2.length + 1 + 1]? = some (rowB ((first : Int) :: dp k n nx)) := f6
              rw [← e2, f4] at this
              cases this
        refine ⟨?_, ?_⟩
        · refine rcallH_rc (orderCost_rc _ _ k first nx hc3 hg hnx (by omega)) ?_
          rintro r new3 ⟨rfl, nr3⟩
          obtain ⟨f1, f2, f3, f4, f5, f6⟩ := facts new3 nr3
          have q0 := rd_own (k := 0) f4
          have q1 := rd_own (k := 1) f4
          have hl9 := (List.getElem?_eq_some_iff.1 f4).1
          obtain ⟨M4, hM4⟩ : ∃ M4, M4 = M3 ++ new3 := ⟨_, rfl⟩
          rw [← hM4] at f1 f2 f3 f4 f5 f6 q0 q1 hl9 ⊢
          simp (config := {implicitDefEqProofs := false, maxDischargeDepth := 20}) (disch := first | omega | (simp only [lenE]; done) | (simp only [lenE]; omega) | rfl | (simp only [lenE, markR_len]; done) | (simp only [lenE, markR_len]; omega)) only [runE, mapE, listE, initT_5, initT_6, initT_7, initT_8, resV, oneV, binA, unA, reduceCtorEq, Nat.reduceEqDiff, Nat.reduceAdd, Nat.reduceLT, Nat.reduceLeDiff, Nat.reduceMul, Nat.reduceSub, ↓reduceIte, decide_true, decide_false, Bool.true_eq_false, Bool.false_eq_true, Bool.not_true, Bool.not_false, if_true, if_false, and_true, true_and, memE, celE, w64, Nat.zero_add, Nat.add_zero, Nat.mul_one, putL, and_self, ldn, t0, t1, t2, t3, t4, t6, t9, t10, hcl, bld2, stP_aggL, q0, q1]
          obtain ⟨M5, hM5⟩ : ∃ M5, M5 = M4 ++ [⟨.own, 103, [.int .i64 (costL k n ((first : Int) :: dp k n nx)), .slice (some ⟨M2.length + 1 + 1, 0, none⟩) ((dp k n nx).length + 1) 1]⟩] := ⟨_, rfl⟩
          have hsh : ∃ X, NoRo X ∧ M5 = M3 ++ X := ⟨new3 ++ [⟨.own, 103, [.int .i64 (costL k n ((first : Int) :: dp k n nx)), .slice (some ⟨M2.length + 1 + 1, 0, none⟩) ((dp k n nx).length + 1) 1]⟩], noRo_app nr3 (noRo_own noRo_nil), by rw [hM5, hM4, List.append_assoc]⟩
          have L4 : M4.length = M3.length + new3.length := by rw [hM4]; simp
          obtain ⟨b13, hb13⟩ : ∃ b13, b13 = M4.length := ⟨_, rfl⟩
          have b13e : M5[b13]? = some ⟨.own, 103, [.int .i64 (costL k n ((first : Int) :: dp k n nx)), .slice (some ⟨M2.length + 1 + 1, 0, none⟩) ((dp k n nx).length + 1) 1]⟩ := by rw [hM5, hb13]; simp
          rw [← hM5, ← hb13]
          obtain ⟨p1, p2, p3, p4, p5, p6⟩ := (by obtain ⟨X, hX, h5⟩ := hsh; rw [h5]; exact facts X hX : Gw mid m M5 ∧ MG k mid e es2 M5 ∧ M5[m.length]? = some ⟨.own, 103, [.int .i64 0, .slice none 0 0]⟩ ∧
            M5[M1.length + 1]? = some ⟨.own, 103, [.int .i64 (costL k n (dpLoop k n first (dp k n) (nx - 1 - first))), .slice A ln cp]⟩ ∧ RowV M5 (.slice A ln cp) (dpLoop k n first (dp k n) (nx - 1 - first)) ∧ OwnR M5 (M2.length + 1 + 1) ((first : Int) :: dp k n nx))
          have iz : IntsA M5 (.slice (some ⟨M2.length + 1 + 1, 0, none⟩) ((dp k n nx).length + 1) 1) ((first : Int) :: dp k n nx) := p6.ints (by simp; omega) 1
          refine callH_rc (comesBefore_rc _ _ _ _ _ ((first : Int) :: dp k n nx) (dpLoop k n first (dp k n) (nx - 1 - first)) iz p5.ints) ?_
          rintro r new6 ⟨rfl, nr6⟩
          obtain ⟨M6, hM6⟩ : ∃ M6, M6 = M5 ++ new6 := ⟨_, rfl⟩
          have b136 : M6[b13]? = some ⟨.own, 103, [.int .i64 (costL k n ((first : Int) :: dp k n nx)), .slice (some ⟨M2.length + 1 + 1, 0, none⟩) ((dp k n nx).length + 1) 1]⟩ := by rw [hM6, List.getElem?_append_left (List.getElem?_eq_some_iff.1 b13e).1]; exact b13e
          have s0 := rd_own (k := 0) b136
          have s1 := rd_own (k := 1) b136
          rw [← hM6]
          have p46 : M6[M1.length + 1]? = some ⟨.own, 103, [.int .i64 (costL k n (dpLoop k n first (dp k n) (nx - 1 - first))), .slice A ln cp]⟩ := by rw [hM6, List.getElem?_append_left (List.getElem?_eq_some_iff.1 p4).1]; exact p4
          have w6 := st2_own p46 (costL k n ((first : Int) :: dp k n nx)) (some ⟨M2.length + 1 + 1, 0, none⟩) ((dp k n nx).length + 1) 1
          obtain ⟨M7, hM7⟩ : ∃ M7, M7 = M6.set (M1.length + 1) ⟨.own, 103, [.int .i64 (costL k n ((first : Int) :: dp k n nx)), .slice (some ⟨M2.length + 1 + 1, 0, none⟩) ((dp k n nx).length + 1) 1]⟩ := ⟨_, rfl⟩
          rw [← hM7] at w6
          obtain ⟨X, hX, hX5⟩ := hsh
          have dn := done M6 (X ++ new6) (noRo_app hX nr6) (by rw [hM6, hX5, List.append_assoc])
          cases hb : bef (costL k n ((first : Int) :: dp k n nx), (first : Int) :: dp k n nx) (costL k n (dpLoop k n first (dp k n) (nx - 1 - first)), dpLoop k n first (dp k n) (nx - 1 - first)) with
          | false =>
            obtain ⟨z1, z2, z3, z4, z5⟩ := (dn false hb).1 rfl
            simp (config := {implicitDefEqProofs := false, maxDischargeDepth := 20}) (disch := first | omega | (simp only [lenE]; done) | (simp only [lenE]; omega) | rfl | (simp only [lenE, markR_len]; done) | (simp only [lenE, markR_len]; omega)) only [runE, mapE, listE, initT_5, initT_6, initT_7, initT_8, resV, oneV, binA, unA, reduceCtorEq, Nat.reduceEqDiff, Nat.reduceAdd, Nat.reduceLT, Nat.reduceLeDiff, Nat.reduceMul, Nat.reduceSub, ↓reduceIte, decide_true, decide_false, Bool.true_eq_false, Bool.false_eq_true, Bool.not_true, Bool.not_false, if_true, if_false, and_true, true_and, memE, celE, w64, Nat.zero_add, Nat.add_zero, Nat.mul_one, putL, and_self, ldn, t0, t1, t2, t3, t4, t6, t9, t10]
            exact ⟨⟨nx + 1, M6, es2, A, ln, cp, by omega, by omega, by simp, rfl, z1, z2, hpre3, z3, z4, z5⟩, by simp [intOf]; omega⟩
          | true =>
            obtain ⟨z1, z2, z3, z4, z5⟩ := (dn true hb).2 rfl M7 hM7
            simp (config := {implicitDefEqProofs := false, maxDischargeDepth := 20}) (disch := first | omega | (simp only [lenE]; done) | (simp only [lenE]; omega) | rfl | (simp only [lenE, markR_len]; done) | (simp only [lenE, markR_len]; omega)) only [runE, mapE, listE, initT_5, initT_6, initT_7, initT_8, resV, oneV, binA, unA, reduceCtorEq, Nat.reduceEqDiff, Nat.reduceAdd, Nat.reduceLT, Nat.reduceLeDiff, Nat.reduceMul, Nat.reduceSub, ↓reduceIte, decide_true, decide_false, Bool.true_eq_false, Bool.false_eq_true, Bool.not_true, Bool.not_false, if_true, if_false, and_true, true_and, memE, celE, w64, Nat.zero_add, Nat.add_zero, Nat.mul_one, putL, and_self, ldn, t0, t1, t2, t3, t4, t6, t9, t10, s0, s1, stP_aggL, w6]
            exact ⟨⟨nx + 1, M7, es2, _, _, _, by omega, by omega, by simp, rfl, z1, z2, hpre3, z3, z4, z5⟩, by simp [intOf]; omega⟩
        · obtain ⟨f1, f2, f3, f4, f5, f6⟩ := facts [] noRo_nil
          rw [List.append_nil] at f1 f2 f3 f4 f5 f6
          obtain ⟨M4, hM4⟩ : ∃ M4, M4 = M3 ++ [⟨.own, 103, [.int .i64 0, .slice none 0 0]⟩] := ⟨_, rfl⟩
          have hc4 : CaseA M4 (.agg #[v1, v2, v3, v4]) k := by rw [hM4]; exact hc3.ext _
          rw [← hM4]
          refine rcallH_rc (orderCost_rc _ _ k first nx hc4 hg hnx (by omega)) ?_
          rintro r new3 ⟨rfl, nr3⟩
          have b130 : (M4 ++ new3)[M3.length]? = some ⟨.own, 103, [.int .i64 0, .slice none 0 0]⟩ := by rw [hM4, List.append_assoc]; simp
          have w3 := st2_own b130 (costL k n ((first : Int) :: dp k n nx)) (some ⟨M2.length + 1 + 1, 0, none⟩) ((dp k n nx).length + 1) 1
          obtain ⟨M5, hM5⟩ : ∃ M5, M5 = (M4 ++ new3).set M3.length ⟨.own, 103, [.int .i64 (costL k n ((first : Int) :: dp k n nx)), .slice (some ⟨M2.length + 1 + 1, 0, none⟩) ((dp k n nx).length + 1) 1]⟩ := ⟨_, rfl⟩
          rw [← hM5] at w3
          have hsh : ∃ X, NoRo X ∧ M5 = M3 ++ X := ⟨[⟨.own, 103, [.int .i64 (costL k n ((first : Int) :: dp k n nx)), .slice (some ⟨M2.length + 1 + 1, 0, none⟩) ((dp k n nx).length + 1) 1]⟩] ++ new3, noRo_app (noRo_own noRo_nil) nr3, by rw [hM5, hM4, List.append_assoc, List.set_append_right _ _ (Nat.le_refl _), Nat.sub_self]; rfl⟩
          obtain ⟨b13, hb13⟩ : ∃ b13, b13 = M3.length := ⟨_, rfl⟩
          have b13e : M5[b13]? = some ⟨.own, 103, [.int .i64 (costL k n ((first : Int) :: dp k n nx)), .slice (some ⟨M2.length + 1 + 1, 0, none⟩) ((dp k n nx).length + 1) 1]⟩ := by rw [hM5, hb13, List.getElem?_set_self (List.getElem?_eq_some_iff.1 b130).1]
          obtain ⟨p1, p2, p3, p4, p5, p6⟩ := (by obtain ⟨X, hX, h5⟩ := hsh; rw [h5]; exact facts X hX : Gw mid m M5 ∧ MG k mid e es2 M5 ∧ M5[m.length]? = some ⟨.own, 103, [.int .i64 0, .slice none 0 0]⟩ ∧
            M5[M1.length + 1]? = some ⟨.own, 103, [.int .i64 (costL k n (dpLoop k n first (dp k n) (nx - 1 - first))), .slice A ln cp]⟩ ∧ RowV M5 (.slice A ln cp) (dpLoop k n first (dp k n) (nx - 1 - first)) ∧ OwnR M5 (M2.length + 1 + 1) ((first : Int) :: dp k n nx))
          have q0 := rd_own (k := 0) p4
          have q1 := rd_own (k := 1) p4
          have q2 := rd_own (k := 0) b13e
          have q3 := rd_own (k := 1) b13e
          obtain ⟨M45, hM45⟩ : ∃ M45, M45 = M4 ++ new3 := ⟨_, rfl⟩
          rw [← hM45] at w3 ⊢
          have hb13' : b13 = M2.length + 1 + 1 + 1 := by rw [hb13, L3]
          rw [← hb13] at w3
          rw [← hb13']
          simp (config := {implicitDefEqProofs := false, maxDischargeDepth := 20}) (disch := first | omega | (simp only [lenE]; done) | (simp only [lenE]; omega) | rfl | (simp only [lenE, markR_len]; done) | (simp only [lenE, markR_len]; omega)) only [runE, mapE, listE, initT_5, initT_6, initT_7, initT_8, resV, oneV, binA, unA, reduceCtorEq, Nat.reduceEqDiff, Nat.reduceAdd, Nat.reduceLT, Nat.reduceLeDiff, Nat.reduceMul, Nat.reduceSub, ↓reduceIte, decide_true, decide_false, Bool.true_eq_false, Bool.false_eq_true, Bool.not_true, Bool.not_false, if_true, if_false, and_true, true_and, memE, celE, w64, Nat.zero_add, Nat.add_zero, Nat.mul_one, putL, and_self, ldn, t0, t1, t2, t3, t4, t6, t9, t10, hcl, bld2, stP_aggL, w3, q0, q1, q2, q3]
          have iz : IntsA M5 (.slice (some ⟨M2.length + 1 + 1, 0, none⟩) ((dp k n nx).length + 1) 1) ((first : Int) :: dp k n nx) := p6.ints (by simp; omega) 1
          refine callH_rc (comesBefore_rc _ _ _ _ _ ((first : Int) :: dp k n nx) (dpLoop k n first (dp k n) (nx - 1 - first)) iz p5.ints) ?_
          rintro r new6 ⟨rfl, nr6⟩
          obtain ⟨M6, hM6⟩ : ∃ M6, M6 = M5 ++ new6 := ⟨_, rfl⟩
          have b136 : M6[b13]? = some ⟨.own, 103, [.int .i64 (costL k n ((first : Int) :: dp k n nx)), .slice (some ⟨M2.length + 1 + 1, 0, none⟩) ((dp k n nx).length + 1) 1]⟩ := by rw [hM6, List.getElem?_append_left (List.getElem?_eq_some_iff.1 b13e).1]; exact b13e
          have s0 := rd_own (k := 0) b136
          have s1 := rd_own (k := 1) b136
          rw [← hM6]
          have p46 : M6[M1.length + 1]? = some ⟨.own, 103, [.int .i64 (costL k n (dpLoop k n first (dp k n) (nx - 1 - first))), .slice A ln cp]⟩ := by rw [hM6, List.getElem?_append_left (List.getElem?_eq_some_iff.1 p4).1]; exact p4
          have w6 := st2_own p46 (costL k n ((first : Int) :: dp k n nx)) (some ⟨M2.length + 1 + 1, 0, none⟩) ((dp k n nx).length + 1) 1
          obtain ⟨M7, hM7⟩ : ∃ M7, M7 = M6.set (M1.length + 1) ⟨.own, 103, [.int .i64 (costL k n ((first : Int) :: dp k n nx)), .slice (some ⟨M2.length + 1 + 1, 0, none⟩) ((dp k n nx).length + 1) 1]⟩ := ⟨_, rfl⟩
          rw [← hM7] at w6
          obtain ⟨X, hX, hX5⟩ := hsh
          have dn := done M6 (X ++ new6) (noRo_app hX nr6) (by rw [hM6, hX5, List.append_assoc])
          cases hb : bef (costL k n ((first : Int) :: dp k n nx), (first : Int) :: dp k n nx) (costL k n (dpLoop k n first (dp k n) (nx - 1 - first)), dpLoop k n first (dp k n) (nx - 1 - first)) with
          | false =>
            obtain ⟨z1, z2, z3, z4, z5⟩ := (dn false hb).1 rfl
            simp (config := {implicitDefEqProofs := false, maxDischargeDepth := 20}) (disch := first | omega | (simp only [lenE]; done) | (simp only [lenE]; omega) | rfl | (simp only [lenE, markR_len]; done) | (simp only [lenE, markR_len]; omega)) only [runE, mapE, listE, initT_5, initT_6, initT_7, initT_8, resV, oneV, binA, unA, reduceCtorEq, Nat.reduceEqDiff, Nat.reduceAdd, Nat.reduceLT, Nat.reduceLeDiff, Nat.reduceMul, Nat.reduceSub, ↓reduceIte, decide_true, decide_false, Bool.true_eq_false, Bool.false_eq_true, Bool.not_true, Bool.not_false, if_true, if_false, and_true, true_and, memE, celE, w64, Nat.zero_add, Nat.add_zero, Nat.mul_one, putL, and_self, ldn, t0, t1, t2, t3, t4, t6, t9, t10]
            exact ⟨⟨nx + 1, M6, es2, A, ln, cp, by omega, by omega, by simp, rfl, z1, z2, hpre3, z3, z4, z5⟩, by simp [intOf]; omega⟩
          | true =>
            obtain ⟨z1, z2, z3, z4, z5⟩ := (dn true hb).2 rfl M7 hM7
            simp (config := {implicitDefEqProofs := false, maxDischargeDepth := 20}) (disch := first | omega | (simp only [lenE]; done) | (simp only [lenE]; omega) | rfl | (simp only [lenE, markR_len]; done) | (simp only [lenE, markR_len]; omega)) only [runE, mapE, listE, initT_5, initT_6, initT_7, initT_8, resV, oneV, binA, unA, reduceCtorEq, Nat.reduceEqDiff, Nat.reduceAdd, Nat.reduceLT, Nat.reduceLeDiff, Nat.reduceMul, Nat.reduceSub, ↓reduceIte, decide_true, decide_false, Bool.true_eq_false, Bool.false_eq_true, Bool.not_true, Bool.not_false, if_true, if_false, and_true, true_and, memE, celE, w64, Nat.zero_add, Nat.add_zero, Nat.mul_one, putL, and_self, ldn, t0, t1, t2, t3, t4, t6, t9, t10, s0, s1, stP_aggL, w6]
            exact ⟨⟨nx + 1, M7, es2, _, _, _, by omega, by omega, by simp, rfl, z1, z2, hpre3, z3, z4, z5⟩, by simp [intOf]; omega⟩
      · have hlt2' : ¬ ((nx : Int) < n) := by omega
        have e0 : nx = n := by omega
        subst e0
        have hes : lkE es1 first = none := by rw [hpre _ (Int.le_refl _)]; exact hl
        have dl := dp_loop k hlt
        rw [← dl] at hrow b9
        obtain ⟨M8, hM8⟩ : ∃ M8, M8 = M.set mid ⟨.dead, e, .bool true :: (es1 ++ [.tuple #[.int .i64 first, .agg #[.int .i64 (costL k nx (dp k nx first)), .slice A ln cp]]])⟩ := ⟨_, rfl⟩
        have mu := mupA_mp mg.mp hes (.agg #[.int .i64 (costL k nx (dp k nx first)), .slice A ln cp])
        rw [← hM8] at mu
        have hne6 : mid ≠ m.length := by omega
        have hne9 : mid ≠ M1.length + 1 := by omega
        have r90 := rd_own (k := 0) b9
        have r91 := rd_own (k := 1) b9
        have b98 : M8[M1.length + 1]? = some ⟨.own, 103, [.int .i64 (costL k nx (dp k nx first)), .slice A ln cp]⟩ := by rw [hM8, List.getElem?_set_ne hne9]; exact b9
        have b68 : M8[m.length]? = some ⟨.own, 103, [.int .i64 0, .slice none 0 0]⟩ := by rw [hM8, List.getElem?_set_ne hne6]; exact b6
        have r80 := rd_own (k := 0) b98
        have r81 := rd_own (k := 1) b98
        have w8 := st2_own b68 (costL k nx (dp k nx first)) A ln cp
        obtain ⟨M9, hM9⟩ : ∃ M9, M9 = M8.set m.length ⟨.own, 103, [.int .i64 (costL k nx (dp k nx first)), .slice A ln cp]⟩ := ⟨_, rfl⟩
        rw [← hM9] at w8
        have b99 : M9[m.length]? = some ⟨.own, 103, [.int .i64 (costL k nx (dp k nx first)), .slice A ln cp]⟩ := by rw [hM9, List.getElem?_set_self (List.getElem?_eq_some_iff.1 b68).1]
        have s90 := rd_own (k := 0) b99
        have s91 := rd_own (k := 1) b99
        simp (config := {implicitDefEqProofs := false, maxDischargeDepth := 20}) (disch := first | omega | (simp only [lenE]; done) | (simp only [lenE]; omega) | rfl | (simp only [lenE, markR_len]; done) | (simp only [lenE, markR_len]; omega)) only [runE, mapE, listE, initT_5, initT_6, initT_7, initT_8, resV, oneV, binA, unA, reduceCtorEq, Nat.reduceEqDiff, Nat.reduceAdd, Nat.reduceLT, Nat.reduceLeDiff, Nat.reduceMul, Nat.reduceSub, ↓reduceIte, decide_true, decide_false, Bool.true_eq_false, Bool.false_eq_true, Bool.not_true, Bool.not_false, if_true, if_false, and_true, true_and, memE, celE, w64, Nat.zero_add, Nat.add_zero, Nat.mul_one, putL, and_self, ldn, t0, t1, t2, t3, t4, t6, t9, t10, tm, rn, hlt2', rk, r90, r91, mu, stP_aggL, r80, r81, w8, s90, s91]
        have hml : mid < M.length := (List.getElem?_eq_some_iff.1 mg.mp).1
        have keepO : ∀ id l, OwnR M id l → OwnR M9 id l := fun id l ho => by
          rw [hM9, hM8]
          refine (ho.set_ne fun e2 => ?_).set_ne fun e2 => ?_
          · subst e2
            have : M[mid]? = some (rowB l) := ho
            rw [mg.mp] at this
            cases this
          · subst e2
            have : M[m.length]? = some (rowB l) := ho
            rw [b6] at this
            cases this
        have gw9 : Gw mid m M9 := by rw [hM9, hM8]; exact (gw.set (.inr rfl) (by simp)).set (.inl (Nat.le_refl _)) (by simp)
        have mid9 : M9[mid]? = some ⟨.dead, e, .bool true :: (es1 ++ [.tuple #[.int .i64 first, .agg #[.int .i64 (costL k nx (dp k nx first)), .slice A ln cp]]])⟩ := by
          rw [hM9, List.getElem?_set_ne (Ne.symm hne6), hM8, List.getElem?_set_self hml]
        rw [← hn]
        refine ⟨_, gw9, hE.gw gw9 ⟨mid9, fun x v hv => ?_, ?_⟩, fun x hx => ?_, A, ln, cp, rfl, hrow.keep keepO⟩
        · rw [lkE_app] at hv
          cases hx : lkE es1 x with
          | some u =>
            rw [hx] at hv
            cases hv
            obtain ⟨j, h1, h2, h3⟩ := mg.ok x _ hx
            exact ⟨j, h1, h2, h3.keep keepO⟩
          | none =>
            rw [hx] at hv
            simp only [] at hv
            split at hv
            · rename_i hfx
              cases hv
              refine ⟨first, hfx.symm, by omega, ?_⟩
              rw [← hn]
              exact ⟨A, ln, cp, rfl, hrow.keep keepO⟩
            · cases hv
        · rw [lkE_app]
          have := mg.end_
          cases hx : lkE es1 k.need.length with
          | some u => rfl
          | none => rw [hx] at this; cases this
        · rw [lkE_app, hpre x (by omega)]
          cases lkE es x with
          | some u => rfl
          | none => rw [if_neg (by omega)]
end Go.Proofs.Ytamhhicnfpemeaa.Ab
end
