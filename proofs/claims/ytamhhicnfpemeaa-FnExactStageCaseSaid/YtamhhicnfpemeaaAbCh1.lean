/- Chains: what a chain is, by both programs; echelon holds. -/
import Derived.Test.YtamhhicnfpemeaaAbChain
import Derived.Test.YtamhhicnfpemeaaAbObj2
namespace Go.Proofs.Ytamhhicnfpemeaa.Ab
open Go Go.RowKit
set_option linter.unusedVariables false
set_option linter.unusedSimpArgs false

theorem ext_ansV4 {m M : Mem} {x v : Value} (h : Ext m M) (hv : v = x) : newQ m (AnsV x) v M := ext_ansV h hv
/-- The numbers from k on are in order. -/
def sortFrom (l : List Int) (k : Nat) : Prop := ∀ i, k ≤ i + 1 → i + 1 < l.length → l.getD i 0 ≤ l.getD (i + 1) 0
def sortTo (l : List Int) (k : Nat) : Prop := ∀ i, i + 1 < k → l.getD i 0 ≤ l.getD (i + 1) 0
theorem isNaN7_rc (m : Mem) (x : Int) : RC Try.prog 157 [.int .i64 x] m fun r new => r = .bool false ∧ new = [] := by
  refine rc_of_run mixed ok_cmp_isNaN (by simp) (go_start _ _ _ ?_)
  simp (config := {implicitDefEqProofs := false, maxDischargeDepth := 20}) (disch := first | omega | (simp only [lenE]; done) | (simp only [lenE]; omega) | rfl | (simp only [lenE, markR_len]; done) | (simp only [lenE, markR_len]; omega)) only [runE, mapE, listE, initT_5, initT_6, initT_7, initT_8, resV, oneV, binA, unA, reduceCtorEq, Nat.reduceEqDiff, Nat.reduceAdd, Nat.reduceLT, Nat.reduceLeDiff, Nat.reduceMul, Nat.reduceSub, ↓reduceIte, decide_true, decide_false, Bool.true_eq_false, Bool.false_eq_true, Bool.not_true, Bool.not_false, if_true, if_false, and_true, true_and, memE, celE, w64, Nat.zero_add, Nat.add_zero, Nat.mul_one, putL, and_self, ldn, c_cmp_isNaN, r_cmp_isNaN, bne_self_eq_false]
  exact newQ_nil ⟨rfl, rfl⟩
theorem cmpLess_rc (m : Mem) (x y : Int) : RC Try.prog 128 [.int .i64 x, .int .i64 y] m fun r new => r = .bool (decide (x < y)) ∧ new = [] := by
  refine rc_of_run mixed ok_cmp_Less (by simp) (go_start _ _ _ ?_)
  simp (config := {implicitDefEqProofs := false, maxDischargeDepth := 20}) (disch := first | omega | (simp only [lenE]; done) | (simp only [lenE]; omega) | rfl | (simp only [lenE, markR_len]; done) | (simp only [lenE, markR_len]; omega)) only [runE, mapE, listE, initT_5, initT_6, initT_7, initT_8, resV, oneV, binA, unA, reduceCtorEq, Nat.reduceEqDiff, Nat.reduceAdd, Nat.reduceLT, Nat.reduceLeDiff, Nat.reduceMul, Nat.reduceSub, ↓reduceIte, decide_true, decide_false, Bool.true_eq_false, Bool.false_eq_true, Bool.not_true, Bool.not_false, if_true, if_false, and_true, true_and, memE, celE, w64, Nat.zero_add, Nat.add_zero, Nat.mul_one, putL, and_self, ldn, c_cmp_Less, r_cmp_Less]
  refine callH_rc (isNaN7_rc _ x) ?_
  rintro r new ⟨rfl, rfl⟩
  simp (config := {implicitDefEqProofs := false, maxDischargeDepth := 20}) (disch := first | omega | (simp only [lenE]; done) | (simp only [lenE]; omega) | rfl | (simp only [lenE, markR_len]; done) | (simp only [lenE, markR_len]; omega)) only [runE, mapE, listE, initT_5, initT_6, initT_7, initT_8, resV, oneV, binA, unA, reduceCtorEq, Nat.reduceEqDiff, Nat.reduceAdd, Nat.reduceLT, Nat.reduceLeDiff, Nat.reduceMul, Nat.reduceSub, ↓reduceIte, decide_true, decide_false, Bool.true_eq_false, Bool.false_eq_true, Bool.not_true, Bool.not_false, if_true, if_false, and_true, true_and, memE, celE, w64, Nat.zero_add, Nat.add_zero, Nat.mul_one, putL, and_self, ldn, List.append_nil]
  exact newQ_nil ⟨rfl, rfl⟩
theorem isSorted_rc (m : Mem) (v : Value) (l : List Int) (h : IntsA m v l) : RC Try.prog 96 [v] m fun r new => r = .bool (sortB l) ∧ new = [] := by
  refine rc_of_run mixed ok_slices_IsSorted (by simp) (go_start _ _ _ ?_)
  have hr := h.ro
  have hb := hr.bd
  simp (config := {implicitDefEqProofs := false, maxDischargeDepth := 20}) (disch := first | omega | (simp only [lenE]; done) | (simp only [lenE]; omega) | rfl | (simp only [lenE, markR_len]; done) | (simp only [lenE, markR_len]; omega)) only [runE, mapE, listE, initT_5, initT_6, initT_7, initT_8, resV, oneV, binA, unA, reduceCtorEq, Nat.reduceEqDiff, Nat.reduceAdd, Nat.reduceLT, Nat.reduceLeDiff, Nat.reduceMul, Nat.reduceSub, ↓reduceIte, decide_true, decide_false, Bool.true_eq_false, Bool.false_eq_true, Bool.not_true, Bool.not_false, if_true, if_false, and_true, true_and, memE, celE, w64, Nat.zero_add, Nat.add_zero, Nat.mul_one, putL, and_self, ldn, c_slices_IsSorted, r_slices_IsSorted, hr.len]
  refine loop_inv mixed (fun s => ∃ k : Nat, k ≤ l.length ∧ s.m = roM m ∧ s.t 0 = v ∧ s.t 3 = .int .i64 ((k : Int) - 1) ∧ sortFrom l k) (fun s => (intOf (s.t 3)).toNat)
    ⟨l.length, by omega, rfl, rfl, rfl, fun i h1 h2 => absurd h2 (by omega)⟩ ?_
  rintro s ⟨k, hk, tm, t0, t3, hall⟩
  by_cases hp : 0 < (k : Int) - 1
  · obtain ⟨j, hj⟩ : ∃ j : Nat, k = j + 2 := ⟨k - 2, by omega⟩
    subst hj
    have e1 : ((j + 2 : Nat) : Int) - 1 = ((j + 1 : Nat) : Int) := by omega
    have e2 : ((j + 1 : Nat) : Int) - 1 = ((j : Nat) : Int) := by omega
    rw [e1] at t3 hp
    simp (config := {implicitDefEqProofs := false, maxDischargeDepth := 20}) (disch := first | omega | (simp only [lenE]; done) | (simp only [lenE]; omega) | rfl | (simp only [lenE, markR_len]; done) | (simp only [lenE, markR_len]; omega)) only [runE, mapE, listE, initT_5, initT_6, initT_7, initT_8, resV, oneV, binA, unA, reduceCtorEq, Nat.reduceEqDiff, Nat.reduceAdd, Nat.reduceLT, Nat.reduceLeDiff, Nat.reduceMul, Nat.reduceSub, ↓reduceIte, decide_true, decide_false, Bool.true_eq_false, Bool.false_eq_true, Bool.not_true, Bool.not_false, if_true, if_false, and_true, true_and, memE, celE, w64, Nat.zero_add, Nat.add_zero, Nat.mul_one, putL, and_self, ldn, tm, t0, t3, gt_iff_lt, hp, hr.at_ (j + 1) (by omega), hr.ld (j + 1) (by omega), e2, hr.at_ j (by omega), hr.ld j (by omega)]
    refine rcallH_rc (cmpLess_rc _ _ _) ?_
    rintro r new ⟨rfl, rfl⟩
    rw [List.append_nil]
    by_cases hlt : l.getD (j + 1) 0 < l.getD j 0
    · simp (config := {implicitDefEqProofs := false, maxDischargeDepth := 20}) (disch := first | omega | (simp only [lenE]; done) | (simp only [lenE]; omega) | rfl | (simp only [lenE, markR_len]; done) | (simp only [lenE, markR_len]; omega)) only [runE, mapE, listE, initT_5, initT_6, initT_7, initT_8, resV, oneV, binA, unA, reduceCtorEq, Nat.reduceEqDiff, Nat.reduceAdd, Nat.reduceLT, Nat.reduceLeDiff, Nat.reduceMul, Nat.reduceSub, ↓reduceIte, decide_true, decide_false, Bool.true_eq_false, Bool.false_eq_true, Bool.not_true, Bool.not_false, if_true, if_false, and_true, true_and, memE, celE, w64, Nat.zero_add, Nat.add_zero, Nat.mul_one, putL, and_self, ldn, tm, t0, t3, hlt]
      refine newQ_nil ⟨?_, rfl⟩
      cases hs : sortB l with
      | false => rfl
      | true => have := sortB_iff.1 hs j (by omega); omega
    · simp (config := {implicitDefEqProofs := false, maxDischargeDepth := 20}) (disch := first | omega | (simp only [lenE]; done) | (simp only [lenE]; omega) | rfl | (simp only [lenE, markR_len]; done) | (simp only [lenE, markR_len]; omega)) only [runE, mapE, listE, initT_5, initT_6, initT_7, initT_8, resV, oneV, binA, unA, reduceCtorEq, Nat.reduceEqDiff, Nat.reduceAdd, Nat.reduceLT, Nat.reduceLeDiff, Nat.reduceMul, Nat.reduceSub, ↓reduceIte, decide_true, decide_false, Bool.true_eq_false, Bool.false_eq_true, Bool.not_true, Bool.not_false, if_true, if_false, and_true, true_and, memE, celE, w64, Nat.zero_add, Nat.add_zero, Nat.mul_one, putL, and_self, ldn, tm, t0, t3, hlt]
      refine ⟨⟨j + 1, by omega, by congr 1 <;> omega, fun i h1 h2 => ?_⟩, ?_⟩
      · by_cases e : i = j
        · subst e; omega
        · exact hall i (by omega) h2
      · simp [intOf]
  · simp (config := {implicitDefEqProofs := false, maxDischargeDepth := 20}) (disch := first | omega | (simp only [lenE]; done) | (simp only [lenE]; omega) | rfl | (simp only [lenE, markR_len]; done) | (simp only [lenE, markR_len]; omega)) only [runE, mapE, listE, initT_5, initT_6, initT_7, initT_8, resV, oneV, binA, unA, reduceCtorEq, Nat.reduceEqDiff, Nat.reduceAdd, Nat.reduceLT, Nat.reduceLeDiff, Nat.reduceMul, Nat.reduceSub, ↓reduceIte, decide_true, decide_false, Bool.true_eq_false, Bool.false_eq_true, Bool.not_true, Bool.not_false, if_true, if_false, and_true, true_and, memE, celE, w64, Nat.zero_add, Nat.add_zero, Nat.mul_one, putL, and_self, ldn, tm, t0, t3, gt_iff_lt, hp]
    refine newQ_nil ⟨?_, rfl⟩
    have : sortB l = true := sortB_iff.2 fun i hi => hall i (by omega) hi
    rw [this]
theorem l7Good_rc (m : Mem) (v : Value) (c : Ch) (h : ChA m v c) : RC Try.prog 72 [v] m (AnsV (.bool c.good)) := by
  refine rc_of_run mixed ok_spec_l7Good (by simp) (go_start _ _ _ ?_)
  obtain ⟨a, b, d, rfl, ha, hb, hd⟩ := h.ro
  unfold Ch.good
  by_cases g0 : c.need.length ≤ 6
  · have g0' : ¬ (6 < (c.need.length : Int)) := by omega
    simp (config := {implicitDefEqProofs := false, maxDischargeDepth := 20}) (disch := first | omega | (simp only [lenE]; done) | (simp only [lenE]; omega) | rfl | (simp only [lenE, markR_len]; done) | (simp only [lenE, markR_len]; omega)) only [runE, mapE, listE, initT_5, initT_6, initT_7, initT_8, resV, oneV, binA, unA, reduceCtorEq, Nat.reduceEqDiff, Nat.reduceAdd, Nat.reduceLT, Nat.reduceLeDiff, Nat.reduceMul, Nat.reduceSub, ↓reduceIte, decide_true, decide_false, Bool.true_eq_false, Bool.false_eq_true, Bool.not_true, Bool.not_false, if_true, if_false, and_true, true_and, memE, celE, w64, Nat.zero_add, Nat.add_zero, Nat.mul_one, putL, and_self, ldn, c_spec_l7Good, r_spec_l7Good, ha.len, gt_iff_lt, g0']
    refine callH_rc (l2Row_rc _ a c.need c.need.length 20 (ha.ext _)) ?_
    rintro r new ⟨rfl, rfl⟩
    cases b1 : Go.Proofs.Ytamhhicnfpemeaa.rowB c.need c.need.length 20 with
    | false =>
      simp (config := {implicitDefEqProofs := false, maxDischargeDepth := 20}) (disch := first | omega | (simp only [lenE]; done) | (simp only [lenE]; omega) | rfl | (simp only [lenE, markR_len]; done) | (simp only [lenE, markR_len]; omega)) only [runE, mapE, listE, initT_5, initT_6, initT_7, initT_8, resV, oneV, binA, unA, reduceCtorEq, Nat.reduceEqDiff, Nat.reduceAdd, Nat.reduceLT, Nat.reduceLeDiff, Nat.reduceMul, Nat.reduceSub, ↓reduceIte, decide_true, decide_false, Bool.true_eq_false, Bool.false_eq_true, Bool.not_true, Bool.not_false, if_true, if_false, and_true, true_and, memE, celE, w64, Nat.zero_add, Nat.add_zero, Nat.mul_one, putL, and_self, ldn]
      try simp only [List.append_assoc, List.cons_append, List.nil_append, List.append_nil]
      exact ⟨_, rfl, by (repeat (first | exact noRo_nil | assumption | apply noRo_own | apply noRo_dead | apply noRo_app)), by simp, by (repeat (first | exact noRo_nil | assumption | apply noRo_own | apply noRo_dead | apply noRo_app))⟩
    | true =>
    simp (config := {implicitDefEqProofs := false, maxDischargeDepth := 20}) (disch := first | omega | (simp only [lenE]; done) | (simp only [lenE]; omega) | rfl | (simp only [lenE, markR_len]; done) | (simp only [lenE, markR_len]; omega)) only [runE, mapE, listE, initT_5, initT_6, initT_7, initT_8, resV, oneV, binA, unA, reduceCtorEq, Nat.reduceEqDiff, Nat.reduceAdd, Nat.reduceLT, Nat.reduceLeDiff, Nat.reduceMul, Nat.reduceSub, ↓reduceIte, decide_true, decide_false, Bool.true_eq_false, Bool.false_eq_true, Bool.not_true, Bool.not_false, if_true, if_false, and_true, true_and, memE, celE, w64, Nat.zero_add, Nat.add_zero, Nat.mul_one, putL, and_self, ldn, hb.len]
    refine callH_rc (l1In_rc _ _ _ _) ?_
    rintro r new ⟨rfl, rfl⟩
    cases b2 : (decide ((1 : Int) ≤ (c.setup.length : Int)) && decide ((c.setup.length : Int) ≤ 3)) with
    | false =>
      simp (config := {implicitDefEqProofs := false, maxDischargeDepth := 20}) (disch := first | omega | (simp only [lenE]; done) | (simp only [lenE]; omega) | rfl | (simp only [lenE, markR_len]; done) | (simp only [lenE, markR_len]; omega)) only [runE, mapE, listE, initT_5, initT_6, initT_7, initT_8, resV, oneV, binA, unA, reduceCtorEq, Nat.reduceEqDiff, Nat.reduceAdd, Nat.reduceLT, Nat.reduceLeDiff, Nat.reduceMul, Nat.reduceSub, ↓reduceIte, decide_true, decide_false, Bool.true_eq_false, Bool.false_eq_true, Bool.not_true, Bool.not_false, if_true, if_false, and_true, true_and, memE, celE, w64, Nat.zero_add, Nat.add_zero, Nat.mul_one, putL, and_self, ldn]
      try simp only [List.append_assoc, List.cons_append, List.nil_append, List.append_nil]
      have : (decide (1 ≤ c.setup.length) && decide (c.setup.length ≤ 3)) = false := by simp at b2 ⊢; omega
      exact ⟨_, rfl, by (repeat (first | exact noRo_nil | assumption | apply noRo_own | apply noRo_dead | apply noRo_app)), by rw [this]; simp, by (repeat (first | exact noRo_nil | assumption | apply noRo_own | apply noRo_dead | apply noRo_app))⟩
    | true =>
    have b2' : (decide (1 ≤ c.setup.length) && decide (c.setup.length ≤ 3)) = true := by simp at b2 ⊢; omega
    simp (config := {implicitDefEqProofs := false, maxDischargeDepth := 20}) (disch := first | omega | (simp only [lenE]; done) | (simp only [lenE]; omega) | rfl | (simp only [lenE, markR_len]; done) | (simp only [lenE, markR_len]; omega)) only [runE, mapE, listE, initT_5, initT_6, initT_7, initT_8, resV, oneV, binA, unA, reduceCtorEq, Nat.reduceEqDiff, Nat.reduceAdd, Nat.reduceLT, Nat.reduceLeDiff, Nat.reduceMul, Nat.reduceSub, ↓reduceIte, decide_true, decide_false, Bool.true_eq_false, Bool.false_eq_true, Bool.not_true, Bool.not_false, if_true, if_false, and_true, true_and, memE, celE, w64, Nat.zero_add, Nat.add_zero, Nat.mul_one, putL, and_self, ldn, hb.len]
    refine callH_rc (l2Row_rc _ b c.setup c.setup.length 99 (hb.ext _)) ?_
    rintro r new ⟨rfl, rfl⟩
    cases b3 : Go.Proofs.Ytamhhicnfpemeaa.rowB c.setup c.setup.length 99 with
    | false =>
      simp (config := {implicitDefEqProofs := false, maxDischargeDepth := 20}) (disch := first | omega | (simp only [lenE]; done) | (simp only [lenE]; omega) | rfl | (simp only [lenE, markR_len]; done) | (simp only [lenE, markR_len]; omega)) only [runE, mapE, listE, initT_5, initT_6, initT_7, initT_8, resV, oneV, binA, unA, reduceCtorEq, Nat.reduceEqDiff, Nat.reduceAdd, Nat.reduceLT, Nat.reduceLeDiff, Nat.reduceMul, Nat.reduceSub, ↓reduceIte, decide_true, decide_false, Bool.true_eq_false, Bool.false_eq_true, Bool.not_true, Bool.not_false, if_true, if_false, and_true, true_and, memE, celE, w64, Nat.zero_add, Nat.add_zero, Nat.mul_one, putL, and_self, ldn]
      try simp only [List.append_assoc, List.cons_append, List.nil_append, List.append_nil]
      exact ⟨_, rfl, by (repeat (first | exact noRo_nil | assumption | apply noRo_own | apply noRo_dead | apply noRo_app)), by simp, by (repeat (first | exact noRo_nil | assumption | apply noRo_own | apply noRo_dead | apply noRo_app))⟩
    | true =>
    simp (config := {implicitDefEqProofs := false, maxDischargeDepth := 20}) (disch := first | omega | (simp only [lenE]; done) | (simp only [lenE]; omega) | rfl | (simp only [lenE, markR_len]; done) | (simp only [lenE, markR_len]; omega)) only [runE, mapE, listE, initT_5, initT_6, initT_7, initT_8, resV, oneV, binA, unA, reduceCtorEq, Nat.reduceEqDiff, Nat.reduceAdd, Nat.reduceLT, Nat.reduceLeDiff, Nat.reduceMul, Nat.reduceSub, ↓reduceIte, decide_true, decide_false, Bool.true_eq_false, Bool.false_eq_true, Bool.not_true, Bool.not_false, if_true, if_false, and_true, true_and, memE, celE, w64, Nat.zero_add, Nat.add_zero, Nat.mul_one, putL, and_self, ldn, hb.len]
    refine callH_rc (l2Row_rc _ d c.hold c.setup.length 9 (hd.ext _)) ?_
    rintro r new ⟨rfl, rfl⟩
    cases b4 : Go.Proofs.Ytamhhicnfpemeaa.rowB c.hold c.setup.length 9 with
    | false =>
      simp (config := {implicitDefEqProofs := false, maxDischargeDepth := 20}) (disch := first | omega | (simp only [lenE]; done) | (simp only [lenE]; omega) | rfl | (simp only [lenE, markR_len]; done) | (simp only [lenE, markR_len]; omega)) only [runE, mapE, listE, initT_5, initT_6, initT_7, initT_8, resV, oneV, binA, unA, reduceCtorEq, Nat.reduceEqDiff, Nat.reduceAdd, Nat.reduceLT, Nat.reduceLeDiff, Nat.reduceMul, Nat.reduceSub, ↓reduceIte, decide_true, decide_false, Bool.true_eq_false, Bool.false_eq_true, Bool.not_true, Bool.not_false, if_true, if_false, and_true, true_and, memE, celE, w64, Nat.zero_add, Nat.add_zero, Nat.mul_one, putL, and_self, ldn]
      try simp only [List.append_assoc, List.cons_append, List.nil_append, List.append_nil]
      exact ⟨_, rfl, by (repeat (first | exact noRo_nil | assumption | apply noRo_own | apply noRo_dead | apply noRo_app)), by simp, by (repeat (first | exact noRo_nil | assumption | apply noRo_own | apply noRo_dead | apply noRo_app))⟩
    | true =>
    have hl := (rowB_iff.1 b4).2
    have l3 : c.hold.length ≤ 3 := by simp at b2'; omega
    have hX := (Ext.refl m).one 26 [a, b, d]
    simp (config := {implicitDefEqProofs := false, maxDischargeDepth := 20}) (disch := first | omega | (simp only [lenE]; done) | (simp only [lenE]; omega) | rfl | (simp only [lenE, markR_len]; done) | (simp only [lenE, markR_len]; omega)) only [runE, mapE, listE, initT_5, initT_6, initT_7, initT_8, resV, oneV, binA, unA, reduceCtorEq, Nat.reduceEqDiff, Nat.reduceAdd, Nat.reduceLT, Nat.reduceLeDiff, Nat.reduceMul, Nat.reduceSub, ↓reduceIte, decide_true, decide_false, Bool.true_eq_false, Bool.false_eq_true, Bool.not_true, Bool.not_false, if_true, if_false, and_true, true_and, memE, celE, w64, Nat.zero_add, Nat.add_zero, Nat.mul_one, putL, and_self, ldn]
    refine loop_inv mixed (fun s => ∃ k : Nat, 1 ≤ k ∧ s.m = roM m ++ [⟨.own, 26, [a, b, d]⟩] ∧ s.t 1 = .pointer (some ⟨m.length, 0, none⟩) ∧ s.t 3 = .int .i64 (k : Int) ∧ (k ≤ c.hold.length ∨ k = 1) ∧ sortTo c.hold k) (fun s => (c.hold.length - intOf (s.t 3)).toNat)
      ⟨1, by omega, rfl, rfl, rfl, .inr rfl, fun i hi => absurd hi (by omega)⟩ ?_
    rintro s ⟨k, h1, tm, t1, t3, hk, hall⟩
    by_cases hp : (k : Int) < c.hold.length
    · obtain ⟨j, hj⟩ : ∃ j : Nat, k = j + 1 := ⟨k - 1, by omega⟩
      subst hj
      have e2 : ((j + 1 : Nat) : Int) - 1 = ((j : Nat) : Int) := by omega
      have hd1 := hd.ext [⟨.own, 26, [a, b, d]⟩]
      by_cases hlt : c.hold.getD (j + 1) 0 < c.hold.getD j 0
      · simp (config := {implicitDefEqProofs := false, maxDischargeDepth := 20}) (disch := first | omega | (simp only [lenE]; done) | (simp only [lenE]; omega) | rfl | (simp only [lenE, markR_len]; done) | (simp only [lenE, markR_len]; omega)) only [runE, mapE, listE, initT_5, initT_6, initT_7, initT_8, resV, oneV, binA, unA, reduceCtorEq, Nat.reduceEqDiff, Nat.reduceAdd, Nat.reduceLT, Nat.reduceLeDiff, Nat.reduceMul, Nat.reduceSub, ↓reduceIte, decide_true, decide_false, Bool.true_eq_false, Bool.false_eq_true, Bool.not_true, Bool.not_false, if_true, if_false, and_true, true_and, memE, celE, w64, Nat.zero_add, Nat.add_zero, Nat.mul_one, putL, and_self, ldn, tm, t1, t3, hp, hd.len, hd.at_ (j + 1) (by omega), hd1.ld (j + 1) (by omega), e2, hd.at_ j (by omega), hd1.ld j (by omega), hlt]
        refine ext_ansV hX ?_
        cases hs : sortB c.hold with
        | false => simp
        | true => have := sortB_iff.1 hs j (by omega); omega
      · simp (config := {implicitDefEqProofs := false, maxDischargeDepth := 20}) (disch := first | omega | (simp only [lenE]; done) | (simp only [lenE]; omega) | rfl | (simp only [lenE, markR_len]; done) | (simp only [lenE, markR_len]; omega)) only [runE, mapE, listE, initT_5, initT_6, initT_7, initT_8, resV, oneV, binA, unA, reduceCtorEq, Nat.reduceEqDiff, Nat.reduceAdd, Nat.reduceLT, Nat.reduceLeDiff, Nat.reduceMul, Nat.reduceSub, ↓reduceIte, decide_true, decide_false, Bool.true_eq_false, Bool.false_eq_true, Bool.not_true, Bool.not_false, if_true, if_false, and_true, true_and, memE, celE, w64, Nat.zero_add, Nat.add_zero, Nat.mul_one, putL, and_self, ldn, tm, t1, t3, hp, hd.len, hd.at_ (j + 1) (by omega), hd1.ld (j + 1) (by omega), e2, hd.at_ j (by omega), hd1.ld j (by omega), hlt]
        refine ⟨⟨j + 2, by omega, by simp; omega, by omega, fun i h2 => ?_⟩, ?_⟩
        · by_cases e : i = j
          · subst e; omega
          · exact hall i (by omega)
        · simp [intOf]; omega
    · simp (config := {implicitDefEqProofs := false, maxDischargeDepth := 20}) (disch := first | omega | (simp only [lenE]; done) | (simp only [lenE]; omega) | rfl | (simp only [lenE, markR_len]; done) | (simp only [lenE, markR_len]; omega)) only [runE, mapE, listE, initT_5, initT_6, initT_7, initT_8, resV, oneV, binA, unA, reduceCtorEq, Nat.reduceEqDiff, Nat.reduceAdd, Nat.reduceLT, Nat.reduceLeDiff, Nat.reduceMul, Nat.reduceSub, ↓reduceIte, decide_true, decide_false, Bool.true_eq_false, Bool.false_eq_true, Bool.not_true, Bool.not_false, if_true, if_false, and_true, true_and, memE, celE, w64, Nat.zero_add, Nat.add_zero, Nat.mul_one, putL, and_self, ldn, tm, t1, t3, hp, hd.len]
      refine ext_ansV hX ?_
      have : sortB c.hold = true := sortB_iff.2 fun i hi => hall i (by omega)
      rw [this, b2']
      simp [g0]
  · have g0' : 6 < (c.need.length : Int) := by omega
    simp (config := {implicitDefEqProofs := false, maxDischargeDepth := 20}) (disch := first | omega | (simp only [lenE]; done) | (simp only [lenE]; omega) | rfl | (simp only [lenE, markR_len]; done) | (simp only [lenE, markR_len]; omega)) only [runE, mapE, listE, initT_5, initT_6, initT_7, initT_8, resV, oneV, binA, unA, reduceCtorEq, Nat.reduceEqDiff, Nat.reduceAdd, Nat.reduceLT, Nat.reduceLeDiff, Nat.reduceMul, Nat.reduceSub, ↓reduceIte, decide_true, decide_false, Bool.true_eq_false, Bool.false_eq_true, Bool.not_true, Bool.not_false, if_true, if_false, and_true, true_and, memE, celE, w64, Nat.zero_add, Nat.add_zero, Nat.mul_one, putL, and_self, ldn, c_spec_l7Good, r_spec_l7Good, ha.len, gt_iff_lt, g0']
    try simp only [List.append_assoc, List.cons_append, List.nil_append, List.append_nil]
    exact ⟨_, rfl, by (repeat (first | exact noRo_nil | assumption | apply noRo_own | apply noRo_dead | apply noRo_app)), by simp [g0], by (repeat (first | exact noRo_nil | assumption | apply noRo_own | apply noRo_dead | apply noRo_app))⟩
theorem areStages_rc (m : Mem) (a b d : Value) (c : Ch) (ha : IntsA m a c.need) (hb : IntsA m b c.setup) (hd : IntsA m d c.hold) :
    RC Try.prog 79 [a, b, d] m (AnsV (.bool (decide (c.need.length ≤ 6) && Go.Proofs.Ytamhhicnfpemeaa.rowB c.need c.need.length 20 && (decide (1 ≤ c.setup.length) && decide (c.setup.length ≤ 3)) && Go.Proofs.Ytamhhicnfpemeaa.rowB c.setup c.setup.length 99 && Go.Proofs.Ytamhhicnfpemeaa.rowB c.hold c.setup.length 9))) := by
  refine rc_of_run mixed ok_impl_areStages (by simp) (go_start _ _ _ ?_)
  have ha' := ha.ro
  have hb' := hb.ro
  have hd' := hd.ro
  by_cases g0 : 0 < (c.setup.length : Int)
  · by_cases g1 : (c.setup.length : Int) ≤ 3
    · simp (config := {implicitDefEqProofs := false, maxDischargeDepth := 20}) (disch := first | omega | (simp only [lenE]; done) | (simp only [lenE]; omega) | rfl | (simp only [lenE, markR_len]; done) | (simp only [lenE, markR_len]; omega)) only [runE, mapE, listE, initT_5, initT_6, initT_7, initT_8, resV, oneV, binA, unA, reduceCtorEq, Nat.reduceEqDiff, Nat.reduceAdd, Nat.reduceLT, Nat.reduceLeDiff, Nat.reduceMul, Nat.reduceSub, ↓reduceIte, decide_true, decide_false, Bool.true_eq_false, Bool.false_eq_true, Bool.not_true, Bool.not_false, if_true, if_false, and_true, true_and, memE, celE, w64, Nat.zero_add, Nat.add_zero, Nat.mul_one, putL, and_self, ldn, c_impl_areStages, r_impl_areStages, hb'.len, gt_iff_lt, g0, g1]
      refine callH_rc (isRow_rc _ b c.setup c.setup.length 99 hb') ?_
      rintro r n1 ⟨rfl, nr1⟩
      cases b3 : Go.Proofs.Ytamhhicnfpemeaa.rowB c.setup c.setup.length 99 with
      | false =>
        simp (config := {implicitDefEqProofs := false, maxDischargeDepth := 20}) (disch := first | omega | (simp only [lenE]; done) | (simp only [lenE]; omega) | rfl | (simp only [lenE, markR_len]; done) | (simp only [lenE, markR_len]; omega)) only [runE, mapE, listE, initT_5, initT_6, initT_7, initT_8, resV, oneV, binA, unA, reduceCtorEq, Nat.reduceEqDiff, Nat.reduceAdd, Nat.reduceLT, Nat.reduceLeDiff, Nat.reduceMul, Nat.reduceSub, ↓reduceIte, decide_true, decide_false, Bool.true_eq_false, Bool.false_eq_true, Bool.not_true, Bool.not_false, if_true, if_false, and_true, true_and, memE, celE, w64, Nat.zero_add, Nat.add_zero, Nat.mul_one, putL, and_self, ldn]
        try simp only [List.append_assoc, List.cons_append, List.nil_append, List.append_nil]
        exact ⟨_, rfl, by (repeat (first | exact noRo_nil | assumption | apply noRo_own | apply noRo_dead | apply noRo_app)), by simp, by (repeat (first | exact noRo_nil | assumption | apply noRo_own | apply noRo_dead | apply noRo_app))⟩
      | true =>
      simp (config := {implicitDefEqProofs := false, maxDischargeDepth := 20}) (disch := first | omega | (simp only [lenE]; done) | (simp only [lenE]; omega) | rfl | (simp only [lenE, markR_len]; done) | (simp only [lenE, markR_len]; omega)) only [runE, mapE, listE, initT_5, initT_6, initT_7, initT_8, resV, oneV, binA, unA, reduceCtorEq, Nat.reduceEqDiff, Nat.reduceAdd, Nat.reduceLT, Nat.reduceLeDiff, Nat.reduceMul, Nat.reduceSub, ↓reduceIte, decide_true, decide_false, Bool.true_eq_false, Bool.false_eq_true, Bool.not_true, Bool.not_false, if_true, if_false, and_true, true_and, memE, celE, w64, Nat.zero_add, Nat.add_zero, Nat.mul_one, putL, and_self, ldn]
      refine callH_rc (isRow_rc _ d c.hold c.setup.length 9 (hd'.ext _)) ?_
      rintro r n2 ⟨rfl, nr2⟩
      cases b4 : Go.Proofs.Ytamhhicnfpemeaa.rowB c.hold c.setup.length 9 with
      | false =>
        simp (config := {implicitDefEqProofs := false, maxDischargeDepth := 20}) (disch := first | omega | (simp only [lenE]; done) | (simp only [lenE]; omega) | rfl | (simp only [lenE, markR_len]; done) | (simp only [lenE, markR_len]; omega)) only [runE, mapE, listE, initT_5, initT_6, initT_7, initT_8, resV, oneV, binA, unA, reduceCtorEq, Nat.reduceEqDiff, Nat.reduceAdd, Nat.reduceLT, Nat.reduceLeDiff, Nat.reduceMul, Nat.reduceSub, ↓reduceIte, decide_true, decide_false, Bool.true_eq_false, Bool.false_eq_true, Bool.not_true, Bool.not_false, if_true, if_false, and_true, true_and, memE, celE, w64, Nat.zero_add, Nat.add_zero, Nat.mul_one, putL, and_self, ldn]
        try simp only [List.append_assoc, List.cons_append, List.nil_append, List.append_nil]
        exact ⟨_, rfl, by (repeat (first | exact noRo_nil | assumption | apply noRo_own | apply noRo_dead | apply noRo_app)), by simp, by (repeat (first | exact noRo_nil | assumption | apply noRo_own | apply noRo_dead | apply noRo_app))⟩
      | true =>
      by_cases g2 : (c.need.length : Int) ≤ 6
      · simp (config := {implicitDefEqProofs := false, maxDischargeDepth := 20}) (disch := first | omega | (simp only [lenE]; done) | (simp only [lenE]; omega) | rfl | (simp only [lenE, markR_len]; done) | (simp only [lenE, markR_len]; omega)) only [runE, mapE, listE, initT_5, initT_6, initT_7, initT_8, resV, oneV, binA, unA, reduceCtorEq, Nat.reduceEqDiff, Nat.reduceAdd, Nat.reduceLT, Nat.reduceLeDiff, Nat.reduceMul, Nat.reduceSub, ↓reduceIte, decide_true, decide_false, Bool.true_eq_false, Bool.false_eq_true, Bool.not_true, Bool.not_false, if_true, if_false, and_true, true_and, memE, celE, w64, Nat.zero_add, Nat.add_zero, Nat.mul_one, putL, and_self, ldn, ha'.len, g2]
        refine callH_rc (isRow_rc _ a c.need c.need.length 20 ((ha'.ext _).ext _)) ?_
        rintro r n3 ⟨rfl, nr3⟩
        simp (config := {implicitDefEqProofs := false, maxDischargeDepth := 20}) (disch := first | omega | (simp only [lenE]; done) | (simp only [lenE]; omega) | rfl | (simp only [lenE, markR_len]; done) | (simp only [lenE, markR_len]; omega)) only [runE, mapE, listE, initT_5, initT_6, initT_7, initT_8, resV, oneV, binA, unA, reduceCtorEq, Nat.reduceEqDiff, Nat.reduceAdd, Nat.reduceLT, Nat.reduceLeDiff, Nat.reduceMul, Nat.reduceSub, ↓reduceIte, decide_true, decide_false, Bool.true_eq_false, Bool.false_eq_true, Bool.not_true, Bool.not_false, if_true, if_false, and_true, true_and, memE, celE, w64, Nat.zero_add, Nat.add_zero, Nat.mul_one, putL, and_self, ldn]
        try simp only [List.append_assoc, List.cons_append, List.nil_append, List.append_nil]
        have h1 : c.need.length ≤ 6 := by omega
        have h2 : 1 ≤ c.setup.length := by omega
        have h3 : c.setup.length ≤ 3 := by omega
        exact ⟨_, rfl, by (repeat (first | exact noRo_nil | assumption | apply noRo_own | apply noRo_dead | apply noRo_app)), by simp [h1, h2, h3], by (repeat (first | exact noRo_nil | assumption | apply noRo_own | apply noRo_dead | apply noRo_app))⟩
      · simp (config := {implicitDefEqProofs := false, maxDischargeDepth := 20}) (disch := first | omega | (simp only [lenE]; done) | (simp only [lenE]; omega) | rfl | (simp only [lenE, markR_len]; done) | (simp only [lenE, markR_len]; omega)) only [runE, mapE, listE, initT_5, initT_6, initT_7, initT_8, resV, oneV, binA, unA, reduceCtorEq, Nat.reduceEqDiff, Nat.reduceAdd, Nat.reduceLT, Nat.reduceLeDiff, Nat.reduceMul, Nat.reduceSub, ↓reduceIte, decide_true, decide_false, Bool.true_eq_false, Bool.false_eq_true, Bool.not_true, Bool.not_false, if_true, if_false, and_true, true_and, memE, celE, w64, Nat.zero_add, Nat.add_zero, Nat.mul_one, putL, and_self, ldn, ha'.len, g2]
        try simp only [List.append_assoc, List.cons_append, List.nil_append, List.append_nil]
        have h1 : ¬ (c.need.length ≤ 6) := by omega
        exact ⟨_, rfl, by (repeat (first | exact noRo_nil | assumption | apply noRo_own | apply noRo_dead | apply noRo_app)), by simp [h1], by (repeat (first | exact noRo_nil | assumption | apply noRo_own | apply noRo_dead | apply noRo_app))⟩
    · simp (config := {implicitDefEqProofs := false, maxDischargeDepth := 20}) (disch := first | omega | (simp only [lenE]; done) | (simp only [lenE]; omega) | rfl | (simp only [lenE, markR_len]; done) | (simp only [lenE, markR_len]; omega)) only [runE, mapE, listE, initT_5, initT_6, initT_7, initT_8, resV, oneV, binA, unA, reduceCtorEq, Nat.reduceEqDiff, Nat.reduceAdd, Nat.reduceLT, Nat.reduceLeDiff, Nat.reduceMul, Nat.reduceSub, ↓reduceIte, decide_true, decide_false, Bool.true_eq_false, Bool.false_eq_true, Bool.not_true, Bool.not_false, if_true, if_false, and_true, true_and, memE, celE, w64, Nat.zero_add, Nat.add_zero, Nat.mul_one, putL, and_self, ldn, c_impl_areStages, r_impl_areStages, hb'.len, gt_iff_lt, g0, g1]
      have h1 : ¬ (c.setup.length ≤ 3) := by omega
      exact newQ_nil ⟨by simp [h1], noRo_nil⟩
  · simp (config := {implicitDefEqProofs := false, maxDischargeDepth := 20}) (disch := first | omega | (simp only [lenE]; done) | (simp only [lenE]; omega) | rfl | (simp only [lenE, markR_len]; done) | (simp only [lenE, markR_len]; omega)) only [runE, mapE, listE, initT_5, initT_6, initT_7, initT_8, resV, oneV, binA, unA, reduceCtorEq, Nat.reduceEqDiff, Nat.reduceAdd, Nat.reduceLT, Nat.reduceLeDiff, Nat.reduceMul, Nat.reduceSub, ↓reduceIte, decide_true, decide_false, Bool.true_eq_false, Bool.false_eq_true, Bool.not_true, Bool.not_false, if_true, if_false, and_true, true_and, memE, celE, w64, Nat.zero_add, Nat.add_zero, Nat.mul_one, putL, and_self, ldn, c_impl_areStages, r_impl_areStages, hb'.len, gt_iff_lt, g0]
    have h1 : ¬ (1 ≤ c.setup.length) := by omega
    exact newQ_nil ⟨by simp [h1], noRo_nil⟩
theorem implIsChain_rc (m : Mem) (v : Value) (c : Ch) (h : ChA m v c) : RC Try.prog 32 [v] m (AnsV (.bool c.good)) := by
  refine rc_of_run mixed ok_impl_IsChain (by simp) (go_start _ _ _ ?_)
  obtain ⟨a, b, d, rfl, ha, hb, hd⟩ := h.ro
  simp (config := {implicitDefEqProofs := false, maxDischargeDepth := 20}) (disch := first | omega | (simp only [lenE]; done) | (simp only [lenE]; omega) | rfl | (simp only [lenE, markR_len]; done) | (simp only [lenE, markR_len]; omega)) only [runE, mapE, listE, initT_5, initT_6, initT_7, initT_8, resV, oneV, binA, unA, reduceCtorEq, Nat.reduceEqDiff, Nat.reduceAdd, Nat.reduceLT, Nat.reduceLeDiff, Nat.reduceMul, Nat.reduceSub, ↓reduceIte, decide_true, decide_false, Bool.true_eq_false, Bool.false_eq_true, Bool.not_true, Bool.not_false, if_true, if_false, and_true, true_and, memE, celE, w64, Nat.zero_add, Nat.add_zero, Nat.mul_one, putL, and_self, ldn, c_impl_IsChain, r_impl_IsChain]
  refine callH_rc (areStages_rc _ a b d c (ha.ext _) (hb.ext _) (hd.ext _)) ?_
  rintro r n1 ⟨rfl, nr1⟩
  unfold Ch.good
  obtain ⟨x, hx⟩ : ∃ x, x = (decide (c.need.length ≤ 6) && Go.Proofs.Ytamhhicnfpemeaa.rowB c.need c.need.length 20 && (decide (1 ≤ c.setup.length) && decide (c.setup.length ≤ 3)) && Go.Proofs.Ytamhhicnfpemeaa.rowB c.setup c.setup.length 99 && Go.Proofs.Ytamhhicnfpemeaa.rowB c.hold c.setup.length 9) := ⟨_, rfl⟩
  rw [← hx]
  cases x with
  | false =>
    simp (config := {implicitDefEqProofs := false, maxDischargeDepth := 20}) (disch := first | omega | (simp only [lenE]; done) | (simp only [lenE]; omega) | rfl | (simp only [lenE, markR_len]; done) | (simp only [lenE, markR_len]; omega)) only [runE, mapE, listE, initT_5, initT_6, initT_7, initT_8, resV, oneV, binA, unA, reduceCtorEq, Nat.reduceEqDiff, Nat.reduceAdd, Nat.reduceLT, Nat.reduceLeDiff, Nat.reduceMul, Nat.reduceSub, ↓reduceIte, decide_true, decide_false, Bool.true_eq_false, Bool.false_eq_true, Bool.not_true, Bool.not_false, if_true, if_false, and_true, true_and, memE, celE, w64, Nat.zero_add, Nat.add_zero, Nat.mul_one, putL, and_self, ldn]
    try simp only [List.append_assoc, List.cons_append, List.nil_append, List.append_nil]
    exact ⟨_, rfl, by (repeat (first | exact noRo_nil | assumption | apply noRo_own | apply noRo_dead | apply noRo_app)), rfl, by (repeat (first | exact noRo_nil | assumption | apply noRo_own | apply noRo_dead | apply noRo_app))⟩
  | true =>
    simp (config := {implicitDefEqProofs := false, maxDischargeDepth := 20}) (disch := first | omega | (simp only [lenE]; done) | (simp only [lenE]; omega) | rfl | (simp only [lenE, markR_len]; done) | (simp only [lenE, markR_len]; omega)) only [runE, mapE, listE, initT_5, initT_6, initT_7, initT_8, resV, oneV, binA, unA, reduceCtorEq, Nat.reduceEqDiff, Nat.reduceAdd, Nat.reduceLT, Nat.reduceLeDiff, Nat.reduceMul, Nat.reduceSub, ↓reduceIte, decide_true, decide_false, Bool.true_eq_false, Bool.false_eq_true, Bool.not_true, Bool.not_false, if_true, if_false, and_true, true_and, memE, celE, w64, Nat.zero_add, Nat.add_zero, Nat.mul_one, putL, and_self, ldn]
    refine callH_rc (isSorted_rc _ d c.hold ((hd.ext _).ext _)) ?_
    rintro r n2 ⟨rfl, rfl⟩
    simp (config := {implicitDefEqProofs := false, maxDischargeDepth := 20}) (disch := first | omega | (simp only [lenE]; done) | (simp only [lenE]; omega) | rfl | (simp only [lenE, markR_len]; done) | (simp only [lenE, markR_len]; omega)) only [runE, mapE, listE, initT_5, initT_6, initT_7, initT_8, resV, oneV, binA, unA, reduceCtorEq, Nat.reduceEqDiff, Nat.reduceAdd, Nat.reduceLT, Nat.reduceLeDiff, Nat.reduceMul, Nat.reduceSub, ↓reduceIte, decide_true, decide_false, Bool.true_eq_false, Bool.false_eq_true, Bool.not_true, Bool.not_false, if_true, if_false, and_true, true_and, memE, celE, w64, Nat.zero_add, Nat.add_zero, Nat.mul_one, putL, and_self, ldn]
    try simp only [List.append_assoc, List.cons_append, List.nil_append, List.append_nil]
    exact ⟨_, rfl, by (repeat (first | exact noRo_nil | assumption | apply noRo_own | apply noRo_dead | apply noRo_app)), rfl, by (repeat (first | exact noRo_nil | assumption | apply noRo_own | apply noRo_dead | apply noRo_app))⟩
theorem specIsChain_rc (m : Mem) (v : Value) (c : Ch) (h : ChA m v c) : RC Try.prog 30 [v] m (AnsV (.bool c.good)) := by
  refine rc_of_run mixed ok_spec_IsChain (by simp) (go_start _ _ _ ?_)
  obtain ⟨a, b, d, rfl, ha, hb, hd⟩ := h.ro
  simp (config := {implicitDefEqProofs := false, maxDischargeDepth := 20}) (disch := first | omega | (simp only [lenE]; done) | (simp only [lenE]; omega) | rfl | (simp only [lenE, markR_len]; done) | (simp only [lenE, markR_len]; omega)) only [runE, mapE, listE, initT_5, initT_6, initT_7, initT_8, resV, oneV, binA, unA, reduceCtorEq, Nat.reduceEqDiff, Nat.reduceAdd, Nat.reduceLT, Nat.reduceLeDiff, Nat.reduceMul, Nat.reduceSub, ↓reduceIte, decide_true, decide_false, Bool.true_eq_false, Bool.false_eq_true, Bool.not_true, Bool.not_false, if_true, if_false, and_true, true_and, memE, celE, w64, Nat.zero_add, Nat.add_zero, Nat.mul_one, putL, and_self, ldn, c_spec_IsChain, r_spec_IsChain]
  refine callH_rc (l7Good_rc _ _ c (ChA.mk (ha.ext _) (hb.ext _) (hd.ext _))) ?_
  rintro r n1 ⟨rfl, nr1⟩
  simp (config := {implicitDefEqProofs := false, maxDischargeDepth := 20}) (disch := first | omega | (simp only [lenE]; done) | (simp only [lenE]; omega) | rfl | (simp only [lenE, markR_len]; done) | (simp only [lenE, markR_len]; omega)) only [runE, mapE, listE, initT_5, initT_6, initT_7, initT_8, resV, oneV, binA, unA, reduceCtorEq, Nat.reduceEqDiff, Nat.reduceAdd, Nat.reduceLT, Nat.reduceLeDiff, Nat.reduceMul, Nat.reduceSub, ↓reduceIte, decide_true, decide_false, Bool.true_eq_false, Bool.false_eq_true, Bool.not_true, Bool.not_false, if_true, if_false, and_true, true_and, memE, celE, w64, Nat.zero_add, Nat.add_zero, Nat.mul_one, putL, and_self, ldn]
  try simp only [List.append_assoc, List.cons_append, List.nil_append, List.append_nil]
  exact ⟨_, rfl, by (repeat (first | exact noRo_nil | assumption | apply noRo_own | apply noRo_dead | apply noRo_app)), rfl, by (repeat (first | exact noRo_nil | assumption | apply noRo_own | apply noRo_dead | apply noRo_app))⟩
theorem l7Echelon_rc (m : Mem) (v : Value) (c : Ch) (s : Nat) (z : Int) (hz : z = s) (h : ChA m v c) (hg : GoodCh c) (hs : s < c.hold.length) : RC Try.prog 75 [v, .int .i64 z] m (AnsV (.int .i64 (c.ech s))) := by
  subst hz
  refine rc_of_run mixed ok_spec_l7Echelon (by simp) (go_start _ _ _ ?_)
  obtain ⟨a, b, d, rfl, ha, hb, hd⟩ := h.ro
  have hd1 := hd.ext [⟨.own, 26, [a, b, d]⟩]
  have bd := fun k => getD_bound (m := 9) (by omega) hg.hold k
  have lh := hg.lh
  have l3 := hg.s3
  have hX := (Ext.refl m).one 26 [a, b, d]
  unfold Ch.ech
  by_cases e : s = 0
  · subst e
    have e1 : (((0 : Nat) : Int) == 0) = true := by decide
    have z0 : ((0 : Nat) : Int) = 0 := rfl
    have a0 := hd.at_ 0 hs
    rw [z0] at a0
    simp (config := {implicitDefEqProofs := false, maxDischargeDepth := 20}) (disch := first | omega | (simp only [lenE]; done) | (simp only [lenE]; omega) | rfl | (simp only [lenE, markR_len]; done) | (simp only [lenE, markR_len]; omega)) only [runE, mapE, listE, initT_5, initT_6, initT_7, initT_8, resV, oneV, binA, unA, reduceCtorEq, Nat.reduceEqDiff, Nat.reduceAdd, Nat.reduceLT, Nat.reduceLeDiff, Nat.reduceMul, Nat.reduceSub, ↓reduceIte, decide_true, decide_false, Bool.true_eq_false, Bool.false_eq_true, Bool.not_true, Bool.not_false, if_true, if_false, and_true, true_and, memE, celE, w64, Nat.zero_add, Nat.add_zero, Nat.mul_one, putL, and_self, ldn, c_spec_l7Echelon, r_spec_l7Echelon, e1, a0, hd1.ld 0 hs]
    exact ext_ansV hX rfl
  · have e1 : ((s : Int) == 0) = false := by rw [beq_eq_false_iff_ne]; omega
    obtain ⟨j, hj⟩ : ∃ j : Nat, s = j + 1 := ⟨s - 1, by omega⟩
    subst hj
    have e2 : ((j + 1 : Nat) : Int) - 1 = ((j : Nat) : Int) := by omega
    have b1 := bd (j + 1)
    have b2 := bd j
    simp (config := {implicitDefEqProofs := false, maxDischargeDepth := 20}) (disch := first | omega | (simp only [lenE]; done) | (simp only [lenE]; omega) | rfl | (simp only [lenE, markR_len]; done) | (simp only [lenE, markR_len]; omega)) only [runE, mapE, listE, initT_5, initT_6, initT_7, initT_8, resV, oneV, binA, unA, reduceCtorEq, Nat.reduceEqDiff, Nat.reduceAdd, Nat.reduceLT, Nat.reduceLeDiff, Nat.reduceMul, Nat.reduceSub, ↓reduceIte, decide_true, decide_false, Bool.true_eq_false, Bool.false_eq_true, Bool.not_true, Bool.not_false, if_true, if_false, and_true, true_and, memE, celE, w64, Nat.zero_add, Nat.add_zero, Nat.mul_one, putL, and_self, ldn, c_spec_l7Echelon, r_spec_l7Echelon, e1, hd.at_ (j + 1) hs, hd1.ld (j + 1) hs, e2, hd.at_ j (by omega), hd1.ld j (by omega)]
    refine ext_ansV hX ?_
    rfl
theorem echelonHold_rc (m : Mem) (v : Value) (c : Ch) (s : Nat) (z : Int) (hz : z = s) (h : ChA m v c) (hg : GoodCh c) (hs : s < c.hold.length) : RC Try.prog 103 [v, .int .i64 z] m (AnsV (.int .i64 (c.ech s))) := by
  subst hz
  refine rc_of_run mixed ok_impl_echelonHold (by simp) (go_start _ _ _ ?_)
  obtain ⟨a, b, d, rfl, ha, hb, hd⟩ := h.ro
  have hd1 := hd.ext [⟨.own, 26, [a, b, d]⟩]
  have bd := fun k => getD_bound (m := 9) (by omega) hg.hold k
  have lh := hg.lh
  have l3 := hg.s3
  have hX := (Ext.refl m).one 26 [a, b, d]
  unfold Ch.ech
  by_cases e : s = 0
  · subst e
    have e1 : (((0 : Nat) : Int) == 0) = true := by decide
    have z0 : ((0 : Nat) : Int) = 0 := rfl
    have a0 := hd.at_ 0 hs
    rw [z0] at a0
    simp (config := {implicitDefEqProofs := false, maxDischargeDepth := 20}) (disch := first | omega | (simp only [lenE]; done) | (simp only [lenE]; omega) | rfl | (simp only [lenE, markR_len]; done) | (simp only [lenE, markR_len]; omega)) only [runE, mapE, listE, initT_5, initT_6, initT_7, initT_8, resV, oneV, binA, unA, reduceCtorEq, Nat.reduceEqDiff, Nat.reduceAdd, Nat.reduceLT, Nat.reduceLeDiff, Nat.reduceMul, Nat.reduceSub, ↓reduceIte, decide_true, decide_false, Bool.true_eq_false, Bool.false_eq_true, Bool.not_true, Bool.not_false, if_true, if_false, and_true, true_and, memE, celE, w64, Nat.zero_add, Nat.add_zero, Nat.mul_one, putL, and_self, ldn, c_impl_echelonHold, r_impl_echelonHold, e1, a0, hd1.ld 0 hs]
    exact ext_ansV hX rfl
  · have e1 : ((s : Int) == 0) = false := by rw [beq_eq_false_iff_ne]; omega
    obtain ⟨j, hj⟩ : ∃ j : Nat, s = j + 1 := ⟨s - 1, by omega⟩
    subst hj
    have e2 : ((j + 1 : Nat) : Int) - 1 = ((j : Nat) : Int) := by omega
    have b1 := bd (j + 1)
    have b2 := bd j
    simp (config := {implicitDefEqProofs := false, maxDischargeDepth := 20}) (disch := first | omega | (simp only [lenE]; done) | (simp only [lenE]; omega) | rfl | (simp only [lenE, markR_len]; done) | (simp only [lenE, markR_len]; omega)) only [runE, mapE, listE, initT_5, initT_6, initT_7, initT_8, resV, oneV, binA, unA, reduceCtorEq, Nat.reduceEqDiff, Nat.reduceAdd, Nat.reduceLT, Nat.reduceLeDiff, Nat.reduceMul, Nat.reduceSub, ↓reduceIte, decide_true, decide_false, Bool.true_eq_false, Bool.false_eq_true, Bool.not_true, Bool.not_false, if_true, if_false, and_true, true_and, memE, celE, w64, Nat.zero_add, Nat.add_zero, Nat.mul_one, putL, and_self, ldn, c_impl_echelonHold, r_impl_echelonHold, e1, hd.at_ (j + 1) hs, hd1.ld (j + 1) hs, e2, hd.at_ j (by omega), hd1.ld j (by omega)]
    refine ext_ansV hX ?_
    rfl
/-- The first k echelon holds. -/
def echsTo (c : Ch) (k : Nat) : List Int := (List.range k).map c.ech
theorem echsTo_s (c : Ch) (k : Nat) : echsTo c (k + 1) = echsTo c k ++ [c.ech k] := by simp [echsTo, List.range_succ]
theorem echsTo_len (c : Ch) (k : Nat) : (echsTo c k).length = k := by simp [echsTo]
def echsA (c : Ch) : List Int := if c.good then echsTo c c.hold.length else []
theorem ext_ints {m M : Mem} {l : List Int} {id n fl : Nat} {f : Value → Value} (h : Ext m M) (ho : OwnR M id l) (hid : m.length ≤ id) (hn : n = l.length) (hl : l.length ≤ 1048576) :
    newQ m (AnsO m (IntsO l) f) (f (.slice (some ⟨id, 0, none⟩) n fl)) M := by
  subst hn
  exact ext_ansO h fun M' hM => IntsA.ownO (ho.at_ (hM _ hid ho.lt)) hl hid ho.lt
theorem specEchHolds_rc (m : Mem) (v : Value) (c : Ch) (h : ChA m v c) : RC Try.prog 46 [v] m (AnsO m (IntsO (echsA c)) fun v => .tuple #[v, .bool c.good]) := by
  refine rc_of_run mixed ok_spec_EchelonHolds (by simp) (go_start _ _ _ ?_)
  obtain ⟨a, b, d, rfl, ha, hb, hd⟩ := h.ro
  have hX := ((Ext.refl m).one 26 [a, b, d]).one 3 (([] : List Int).map (Value.int .i64))
  have hr0 : OwnR (roM m ++ [⟨.own, 26, [a, b, d]⟩] ++ [⟨.own, 3, ([] : List Int).map (Value.int .i64)⟩]) (m.length + 1) [] := OwnR.end' (by simp [roM_len])
  have hb0 : OwnB (roM m ++ [⟨.own, 26, [a, b, d]⟩] ++ [⟨.own, 3, ([] : List Int).map (Value.int .i64)⟩]) m.length 26 [a, b, d] := (OwnB.here (roM_len m).symm).ext _
  simp (config := {implicitDefEqProofs := false, maxDischargeDepth := 20}) (disch := first | omega | (simp only [lenE]; done) | (simp only [lenE]; omega) | rfl | (simp only [lenE, markR_len]; done) | (simp only [lenE, markR_len]; omega)) only [runE, mapE, listE, initT_5, initT_6, initT_7, initT_8, resV, oneV, binA, unA, reduceCtorEq, Nat.reduceEqDiff, Nat.reduceAdd, Nat.reduceLT, Nat.reduceLeDiff, Nat.reduceMul, Nat.reduceSub, ↓reduceIte, decide_true, decide_false, Bool.true_eq_false, Bool.false_eq_true, Bool.not_true, Bool.not_false, if_true, if_false, and_true, true_and, memE, celE, w64, Nat.zero_add, Nat.add_zero, Nat.mul_one, putL, and_self, ldn, c_spec_EchelonHolds, r_spec_EchelonHolds, bsl_none]
  refine callH_rc (l7Good_rc _ _ c (ChA.mk ((ha.ext _).ext _) ((hb.ext _).ext _) ((hd.ext _).ext _))) ?_
  rintro r n1 ⟨rfl, nr1⟩
  unfold echsA
  cases hg : c.good with
  | false =>
    simp (config := {implicitDefEqProofs := false, maxDischargeDepth := 20}) (disch := first | omega | (simp only [lenE]; done) | (simp only [lenE]; omega) | rfl | (simp only [lenE, markR_len]; done) | (simp only [lenE, markR_len]; omega)) only [runE, mapE, listE, initT_5, initT_6, initT_7, initT_8, resV, oneV, binA, unA, reduceCtorEq, Nat.reduceEqDiff, Nat.reduceAdd, Nat.reduceLT, Nat.reduceLeDiff, Nat.reduceMul, Nat.reduceSub, ↓reduceIte, decide_true, decide_false, Bool.true_eq_false, Bool.false_eq_true, Bool.not_true, Bool.not_false, if_true, if_false, and_true, true_and, memE, celE, w64, Nat.zero_add, Nat.add_zero, Nat.mul_one, putL, and_self, ldn]
    exact ext_ints (f := fun v => .tuple #[v, .bool false]) (hX.app nr1) (hr0.ext _) (by omega) rfl (by simp)
  | true =>
    have gd := goodCh_iff.1 hg
    have lh := gd.lh
    have l3 := gd.s3
    simp (config := {implicitDefEqProofs := false, maxDischargeDepth := 20}) (disch := first | omega | (simp only [lenE]; done) | (simp only [lenE]; omega) | rfl | (simp only [lenE, markR_len]; done) | (simp only [lenE, markR_len]; omega)) only [runE, mapE, listE, initT_5, initT_6, initT_7, initT_8, resV, oneV, binA, unA, reduceCtorEq, Nat.reduceEqDiff, Nat.reduceAdd, Nat.reduceLT, Nat.reduceLeDiff, Nat.reduceMul, Nat.reduceSub, ↓reduceIte, decide_true, decide_false, Bool.true_eq_false, Bool.false_eq_true, Bool.not_true, Bool.not_false, if_true, if_false, and_true, true_and, memE, celE, w64, Nat.zero_add, Nat.add_zero, Nat.mul_one, putL, and_self, ldn]
    refine loop_inv mixed (fun s => ∃ (k : Nat) (M : Mem) (id : Nat), k ≤ c.hold.length ∧ s.m = M ∧ Ext m M ∧ OwnB M m.length 26 [a, b, d] ∧ m.length < id ∧ OwnR M id (echsTo c k) ∧ s.t 1 = .pointer (some ⟨m.length, 0, none⟩) ∧ s.t 4 = .slice (some ⟨id, 0, none⟩) k 1 ∧ s.t 5 = .int .i64 (k : Int)) (fun s => c.hold.length - (intOf (s.t 5)).toNat)
      ⟨0, _, m.length + 1, by omega, rfl, hX.app nr1, hb0.ext _, by omega, hr0.ext _, rfl, rfl, rfl⟩ ?_
    rintro s ⟨k, M, id, hk, tm, hX, hbx, hid, ho, t1, t4, t5⟩
    by_cases hlt : k < c.hold.length
    · have hlt' : (k : Int) < c.hold.length := by omega
      simp (config := {implicitDefEqProofs := false, maxDischargeDepth := 20}) (disch := first | omega | (simp only [lenE]; done) | (simp only [lenE]; omega) | rfl | (simp only [lenE, markR_len]; done) | (simp only [lenE, markR_len]; omega)) only [runE, mapE, listE, initT_5, initT_6, initT_7, initT_8, resV, oneV, binA, unA, reduceCtorEq, Nat.reduceEqDiff, Nat.reduceAdd, Nat.reduceLT, Nat.reduceLeDiff, Nat.reduceMul, Nat.reduceSub, ↓reduceIte, decide_true, decide_false, Bool.true_eq_false, Bool.false_eq_true, Bool.not_true, Bool.not_false, if_true, if_false, and_true, true_and, memE, celE, w64, Nat.zero_add, Nat.add_zero, Nat.mul_one, putL, and_self, ldn, tm, t1, t4, t5, hbx.rd, hd.len, hlt']
      refine callH_rc (l7Echelon_rc _ _ c k _ rfl (ChA.mk (hX.ints ha) (hX.ints hb) (hX.ints hd)) gd hlt) ?_
      rintro r n2 ⟨rfl, nr2⟩
      have ho2 := ho.ext n2
      have hbx2 := hbx.ext n2
      have hX2 := hX.app nr2
      have happ := app_num (x := c.ech k) (id2 := (M ++ n2).length) (n := k) ho2 (by rw [echsTo_len]; omega) rfl (by rw [echsTo_len])
      obtain ⟨M2, hM2⟩ : ∃ M', M' = M ++ n2 := ⟨_, rfl⟩
      rw [← hM2] at happ ho2 hbx2 hX2 ⊢
      simp (config := {implicitDefEqProofs := false, maxDischargeDepth := 20}) (disch := first | omega | (simp only [lenE]; done) | (simp only [lenE]; omega) | rfl | (simp only [lenE, markR_len]; done) | (simp only [lenE, markR_len]; omega)) only [runE, mapE, listE, initT_5, initT_6, initT_7, initT_8, resV, oneV, binA, unA, reduceCtorEq, Nat.reduceEqDiff, Nat.reduceAdd, Nat.reduceLT, Nat.reduceLeDiff, Nat.reduceMul, Nat.reduceSub, ↓reduceIte, decide_true, decide_false, Bool.true_eq_false, Bool.false_eq_true, Bool.not_true, Bool.not_false, if_true, if_false, and_true, true_and, memE, celE, w64, Nat.zero_add, Nat.add_zero, Nat.mul_one, putL, and_self, ldn, t1, t4, t5, bsl_one, happ]
      have hidl := ho2.lt
      have hl2 := hX2.len
      refine ⟨⟨k + 1, _, M2.length + 1, by omega, rfl, ((hX2.dead (by omega)).one _ _).one _ _, hbx2.at_ (same_gen (by omega) hidl), by omega, ?_, rfl, by simp⟩, ?_⟩
      · rw [echsTo_s]
        exact OwnB.here (by simp)
      · simp [intOf]; omega
    · have hlt' : ¬ ((k : Int) < c.hold.length) := by omega
      have e : k = c.hold.length := by omega
      subst e
      simp (config := {implicitDefEqProofs := false, maxDischargeDepth := 20}) (disch := first | omega | (simp only [lenE]; done) | (simp only [lenE]; omega) | rfl | (simp only [lenE, markR_len]; done) | (simp only [lenE, markR_len]; omega)) only [runE, mapE, listE, initT_5, initT_6, initT_7, initT_8, resV, oneV, binA, unA, reduceCtorEq, Nat.reduceEqDiff, Nat.reduceAdd, Nat.reduceLT, Nat.reduceLeDiff, Nat.reduceMul, Nat.reduceSub, ↓reduceIte, decide_true, decide_false, Bool.true_eq_false, Bool.false_eq_true, Bool.not_true, Bool.not_false, if_true, if_false, and_true, true_and, memE, celE, w64, Nat.zero_add, Nat.add_zero, Nat.mul_one, putL, and_self, ldn, tm, t1, t4, t5, hbx.rd, hd.len, hlt']
      exact ext_ints (f := fun v => .tuple #[v, .bool true]) hX ho (by omega) (by rw [echsTo_len]) (by rw [echsTo_len]; omega)
theorem implEchHolds_rc (m : Mem) (v : Value) (c : Ch) (h : ChA m v c) : RC Try.prog 47 [v] m (AnsO m (IntsO (echsA c)) fun v => .tuple #[v, .bool c.good]) := by
  refine rc_of_run mixed ok_impl_EchelonHolds (by simp) (go_start _ _ _ ?_)
  obtain ⟨a, b, d, rfl, ha, hb, hd⟩ := h.ro
  have hX := (Ext.refl m).one 26 [a, b, d]
  have hb0 : OwnB (roM m ++ [⟨.own, 26, [a, b, d]⟩]) m.length 26 [a, b, d] := OwnB.here (roM_len m).symm
  simp (config := {implicitDefEqProofs := false, maxDischargeDepth := 20}) (disch := first | omega | (simp only [lenE]; done) | (simp only [lenE]; omega) | rfl | (simp only [lenE, markR_len]; done) | (simp only [lenE, markR_len]; omega)) only [runE, mapE, listE, initT_5, initT_6, initT_7, initT_8, resV, oneV, binA, unA, reduceCtorEq, Nat.reduceEqDiff, Nat.reduceAdd, Nat.reduceLT, Nat.reduceLeDiff, Nat.reduceMul, Nat.reduceSub, ↓reduceIte, decide_true, decide_false, Bool.true_eq_false, Bool.false_eq_true, Bool.not_true, Bool.not_false, if_true, if_false, and_true, true_and, memE, celE, w64, Nat.zero_add, Nat.add_zero, Nat.mul_one, putL, and_self, ldn, c_impl_EchelonHolds, r_impl_EchelonHolds]
  refine callH_rc (implIsChain_rc _ _ c (ChA.mk (ha.ext _) (hb.ext _) (hd.ext _))) ?_
  rintro r n1 ⟨rfl, nr1⟩
  unfold echsA
  replace hX := hX.app nr1
  replace hb0 := hb0.ext n1
  obtain ⟨M1, hM1⟩ : ∃ M1, M1 = roM m ++ [⟨.own, 26, [a, b, d]⟩] ++ n1 := ⟨_, rfl⟩
  rw [← hM1] at hX hb0 ⊢
  have hl1 := hX.len
  have hr0 : OwnR (M1 ++ [⟨.own, 3, []⟩]) M1.length [] := OwnB.here rfl
  cases hg : c.good with
  | false =>
    simp (config := {implicitDefEqProofs := false, maxDischargeDepth := 20}) (disch := first | omega | (simp only [lenE]; done) | (simp only [lenE]; omega) | rfl | (simp only [lenE, markR_len]; done) | (simp only [lenE, markR_len]; omega)) only [runE, mapE, listE, initT_5, initT_6, initT_7, initT_8, resV, oneV, binA, unA, reduceCtorEq, Nat.reduceEqDiff, Nat.reduceAdd, Nat.reduceLT, Nat.reduceLeDiff, Nat.reduceMul, Nat.reduceSub, ↓reduceIte, decide_true, decide_false, Bool.true_eq_false, Bool.false_eq_true, Bool.not_true, Bool.not_false, if_true, if_false, and_true, true_and, memE, celE, w64, Nat.zero_add, Nat.add_zero, Nat.mul_one, putL, and_self, ldn, bsl_no]
    exact ext_ints (f := fun v => .tuple #[v, .bool false]) (hX.one _ _) hr0 (by omega) rfl (by simp)
  | true =>
    have gd := goodCh_iff.1 hg
    have lh := gd.lh
    have l3 := gd.s3
    have hbm := hb0.lt
    have hb1 := hb0.ext [⟨.own, 3, []⟩]
    simp (config := {implicitDefEqProofs := false, maxDischargeDepth := 20}) (disch := first | omega | (simp only [lenE]; done) | (simp only [lenE]; omega) | rfl | (simp only [lenE, markR_len]; done) | (simp only [lenE, markR_len]; omega)) only [runE, mapE, listE, initT_5, initT_6, initT_7, initT_8, resV, oneV, binA, unA, reduceCtorEq, Nat.reduceEqDiff, Nat.reduceAdd, Nat.reduceLT, Nat.reduceLeDiff, Nat.reduceMul, Nat.reduceSub, ↓reduceIte, decide_true, decide_false, Bool.true_eq_false, Bool.false_eq_true, Bool.not_true, Bool.not_false, if_true, if_false, and_true, true_and, memE, celE, w64, Nat.zero_add, Nat.add_zero, Nat.mul_one, putL, and_self, ldn, bsl_no, hb1.rd, hd.len]
    refine loop_inv mixed (fun s => ∃ (k : Nat) (M : Mem) (id : Nat), k ≤ c.hold.length ∧ s.m = M ∧ Ext m M ∧ OwnB M m.length 26 [a, b, d] ∧ m.length < id ∧ OwnR M id (echsTo c k) ∧ s.t 1 = .pointer (some ⟨m.length, 0, none⟩) ∧ s.t 4 = .slice (some ⟨id, 0, none⟩) k 1 ∧ s.t 13 = .int .i64 c.hold.length ∧ s.t 14 = .int .i64 (k : Int)) (fun s => c.hold.length - (intOf (s.t 14)).toNat)
      ⟨0, _, M1.length, by omega, rfl, hX.one _ _, hb1, by omega, hr0, rfl, rfl, rfl, rfl⟩ ?_
    rintro s ⟨k, M, id, hk, tm, hX, hbx, hid, ho, t1, t4, t13, t14⟩
    by_cases hlt : k < c.hold.length
    · have hlt' : (k : Int) < c.hold.length := by omega
      simp (config := {implicitDefEqProofs := false, maxDischargeDepth := 20}) (disch := first | omega | (simp only [lenE]; done) | (simp only [lenE]; omega) | rfl | (simp only [lenE, markR_len]; done) | (simp only [lenE, markR_len]; omega)) only [runE, mapE, listE, initT_5, initT_6, initT_7, initT_8, resV, oneV, binA, unA, reduceCtorEq, Nat.reduceEqDiff, Nat.reduceAdd, Nat.reduceLT, Nat.reduceLeDiff, Nat.reduceMul, Nat.reduceSub, ↓reduceIte, decide_true, decide_false, Bool.true_eq_false, Bool.false_eq_true, Bool.not_true, Bool.not_false, if_true, if_false, and_true, true_and, memE, celE, w64, Nat.zero_add, Nat.add_zero, Nat.mul_one, putL, and_self, ldn, tm, t1, t4, t13, t14, hbx.rd, hlt']
      refine callH_rc (echelonHold_rc _ _ c k _ rfl (ChA.mk (hX.ints ha) (hX.ints hb) (hX.ints hd)) gd hlt) ?_
      rintro r n2 ⟨rfl, nr2⟩
      have ho2 := ho.ext n2
      have hbx2 := hbx.ext n2
      have hX2 := hX.app nr2
      have happ := app_num (x := c.ech k) (id2 := (M ++ n2).length) (n := k) ho2 (by rw [echsTo_len]; omega) rfl (by rw [echsTo_len])
      obtain ⟨M2, hM2⟩ : ∃ M', M' = M ++ n2 := ⟨_, rfl⟩
      rw [← hM2] at happ ho2 hbx2 hX2 ⊢
      simp (config := {implicitDefEqProofs := false, maxDischargeDepth := 20}) (disch := first | omega | (simp only [lenE]; done) | (simp only [lenE]; omega) | rfl | (simp only [lenE, markR_len]; done) | (simp only [lenE, markR_len]; omega)) only [runE, mapE, listE, initT_5, initT_6, initT_7, initT_8, resV, oneV, binA, unA, reduceCtorEq, Nat.reduceEqDiff, Nat.reduceAdd, Nat.reduceLT, Nat.reduceLeDiff, Nat.reduceMul, Nat.reduceSub, ↓reduceIte, decide_true, decide_false, Bool.true_eq_false, Bool.false_eq_true, Bool.not_true, Bool.not_false, if_true, if_false, and_true, true_and, memE, celE, w64, Nat.zero_add, Nat.add_zero, Nat.mul_one, putL, and_self, ldn, t1, t4, t13, t14, bsl_one, happ]
      have hidl := ho2.lt
      have hl2 := hX2.len
      refine ⟨⟨k + 1, _, M2.length + 1, by omega, rfl, ((hX2.dead (by omega)).one _ _).one _ _, hbx2.at_ (same_gen (by omega) hidl), by omega, ?_, rfl, by simp⟩, ?_⟩
      · rw [echsTo_s]
        exact OwnB.here (by simp)
      · simp [intOf]; omega
    · have hlt' : ¬ ((k : Int) < c.hold.length) := by omega
      have e : k = c.hold.length := by omega
      subst e
      simp (config := {implicitDefEqProofs := false, maxDischargeDepth := 20}) (disch := first | omega | (simp only [lenE]; done) | (simp only [lenE]; omega) | rfl | (simp only [lenE, markR_len]; done) | (simp only [lenE, markR_len]; omega)) only [runE, mapE, listE, initT_5, initT_6, initT_7, initT_8, resV, oneV, binA, unA, reduceCtorEq, Nat.reduceEqDiff, Nat.reduceAdd, Nat.reduceLT, Nat.reduceLeDiff, Nat.reduceMul, Nat.reduceSub, ↓reduceIte, decide_true, decide_false, Bool.true_eq_false, Bool.false_eq_true, Bool.not_true, Bool.not_false, if_true, if_false, and_true, true_and, memE, celE, w64, Nat.zero_add, Nat.add_zero, Nat.mul_one, putL, and_self, ldn, tm, t1, t4, t13, t14, hbx.rd, hlt']
      exact ext_ints (f := fun v => .tuple #[v, .bool true]) hX ho (by omega) (by rw [echsTo_len]) (by rw [echsTo_len]; omega)
end Go.Proofs.Ytamhhicnfpemeaa.Ab
