/- Policies: powers, floors, what a level, an order and a move cost, the best move; WholeOf. -/
import Derived.Test.YtddnedngjijpoaaAbPol
import Derived.Test.YtddnedngjijpoaaAbBox
namespace Go.Proofs.Ytddnedngjijpoaa.Ab
open Go Go.RowKit
set_option linter.unusedVariables false
set_option linter.unusedSimpArgs false

theorem BoxA.rdk {m : Mem} {id : Nat} {vs : List Value} (h : BoxA m id vs) (k : Nat) : rdc m id k = vs[k]? := by
  obtain ⟨_, h⟩ := h
  simp [rdc, h]
theorem IntsA.xt2 {m M : Mem} {v : Value} {l : List Int} (h : IntsA m v l) (hx : Ext m M) : IntsA M v l := hx.ints h.ro
theorem ProcA.xt {m M : Mem} {v : Value} {p : Pr} (h : ProcA m v p) (hx : Ext m M) : ProcA M v p := by
  obtain ⟨u, rfl, hu⟩ := h
  exact ⟨u, rfl, hu.xt2 hx⟩
theorem ProcA.mk {m : Mem} {u : Value} {p : Pr} (h : IntsA m u p.w) : ProcA m (procV p u) p := ⟨u, rfl, h⟩
theorem ext_ansV2 {m M : Mem} {x : Value} (h : Ext m M) : newQ m (AnsV x) x M := by
  obtain ⟨n0, rfl, h0⟩ := h
  exact ⟨n0, rfl, h0, rfl, h0⟩
theorem ext_ansV3 {m M : Mem} {x y : Value} (h : Ext m M) (e : y = x) : newQ m (AnsV x) y M := by subst e; exact ext_ansV2 h

theorem l1Most6_rc (m : Mem) (a b : Int) : RC Try.prog 137 [.int .i64 a, .int .i64 b] m fun r new => r = .int .i64 (max a b) ∧ new = [] := by
  refine rc_of_run mixed ok_spec_l1Most (by simp) (go_start _ _ _ ?_)
  by_cases h : b < a
  · simp (config := {implicitDefEqProofs := false, maxDischargeDepth := 20}) (disch := first | omega | (simp only [lenE]; done) | (simp only [lenE]; omega) | rfl | (simp only [lenE, markR_len]; done) | (simp only [lenE, markR_len]; omega)) only [runE, mapE, listE, initT_5, initT_6, initT_7, initT_8, resV, oneV, binA, unA, reduceCtorEq, Nat.reduceEqDiff, Nat.reduceAdd, Nat.reduceLT, Nat.reduceLeDiff, Nat.reduceMul, Nat.reduceSub, ↓reduceIte, decide_true, decide_false, Bool.true_eq_false, Bool.false_eq_true, Bool.not_true, Bool.not_false, if_true, if_false, and_true, true_and, memE, celE, w64, Nat.zero_add, Nat.add_zero, Nat.mul_one, putL, and_self, ldn, c_spec_l1Most, r_spec_l1Most, h, gt_iff_lt]
    exact newQ_nil ⟨by congr 1; omega, rfl⟩
  · simp (config := {implicitDefEqProofs := false, maxDischargeDepth := 20}) (disch := first | omega | (simp only [lenE]; done) | (simp only [lenE]; omega) | rfl | (simp only [lenE, markR_len]; done) | (simp only [lenE, markR_len]; omega)) only [runE, mapE, listE, initT_5, initT_6, initT_7, initT_8, resV, oneV, binA, unA, reduceCtorEq, Nat.reduceEqDiff, Nat.reduceAdd, Nat.reduceLT, Nat.reduceLeDiff, Nat.reduceMul, Nat.reduceSub, ↓reduceIte, decide_true, decide_false, Bool.true_eq_false, Bool.false_eq_true, Bool.not_true, Bool.not_false, if_true, if_false, and_true, true_and, memE, celE, w64, Nat.zero_add, Nat.add_zero, Nat.mul_one, putL, and_self, ldn, c_spec_l1Most, r_spec_l1Most, h, gt_iff_lt]
    exact newQ_nil ⟨by congr 1; omega, rfl⟩
theorem p_small {p : Pr} (hg : GoodP p) (k : Nat) (hk : k ≤ p.w.length) : -4611686018427387904 ≤ sumTo p.w k ∧ sumTo p.w k ≤ 4611686018427387904 := by
  have := hg.sum k
  have := hg.len
  omega
theorem l2SumP_rc (m : Mem) (u : Value) (p : Pr) (h : IntsA m u p.w) (hg : GoodP p) : RC Try.prog 86 [u] m fun r new => r = .int .i64 p.whole ∧ new = [] := l2Sum_rc m u p.w h (p_small hg)
theorem sumOfP_rc (m : Mem) (u : Value) (p : Pr) (h : IntsA m u p.w) (hg : GoodP p) : RC Try.prog 84 [u] m fun r new => r = .int .i64 p.whole ∧ new = [] := sumOf_rc m u p.w h (p_small hg)
theorem l6Power_rc (m : Mem) (v : Value) (p : Pr) (x : Int) (n : Nat) (h : ProcA m v p) (hg : GoodP p) (hx : x = n) (hn : n ≤ 5) :
    RC Try.prog 76 [v, .int .i64 x] m (AnsV (.int .i64 (p.pow n))) := by
  subst hx
  refine rc_of_run mixed ok_spec_l6Power (by simp) (go_start _ _ _ ?_)
  obtain ⟨u, rfl, hu⟩ := h.ro
  simp (config := {implicitDefEqProofs := false, maxDischargeDepth := 20}) (disch := first | omega | (simp only [lenE]; done) | (simp only [lenE]; omega) | rfl | (simp only [lenE, markR_len]; done) | (simp only [lenE, markR_len]; omega)) only [runE, mapE, listE, initT_5, initT_6, initT_7, initT_8, resV, oneV, binA, unA, reduceCtorEq, Nat.reduceEqDiff, Nat.reduceAdd, Nat.reduceLT, Nat.reduceLeDiff, Nat.reduceMul, Nat.reduceSub, ↓reduceIte, decide_true, decide_false, Bool.true_eq_false, Bool.false_eq_true, Bool.not_true, Bool.not_false, if_true, if_false, and_true, true_and, memE, celE, w64, Nat.zero_add, Nat.add_zero, Nat.mul_one, putL, and_self, ldn, c_spec_l6Power, r_spec_l6Power]
  refine callH_rc (l2SumP_rc _ u p (hu.ext _) hg) ?_
  rintro r new ⟨rfl, rfl⟩
  simp (config := {implicitDefEqProofs := false, maxDischargeDepth := 20}) (disch := first | omega | (simp only [lenE]; done) | (simp only [lenE]; omega) | rfl | (simp only [lenE, markR_len]; done) | (simp only [lenE, markR_len]; omega)) only [runE, mapE, listE, initT_5, initT_6, initT_7, initT_8, resV, oneV, binA, unA, reduceCtorEq, Nat.reduceEqDiff, Nat.reduceAdd, Nat.reduceLT, Nat.reduceLeDiff, Nat.reduceMul, Nat.reduceSub, ↓reduceIte, decide_true, decide_false, Bool.true_eq_false, Bool.false_eq_true, Bool.not_true, Bool.not_false, if_true, if_false, and_true, true_and, memE, celE, w64, Nat.zero_add, Nat.add_zero, Nat.mul_one, putL, and_self, ldn]
  refine loop_inv mixed (fun s => ∃ (k : Nat) (M : Mem), k ≤ n ∧ s.m = M ∧ Ext m M ∧ s.t 1 = .int .i64 n ∧ s.t 5 = .int .i64 (p.pow k) ∧ s.t 6 = .int .i64 p.whole ∧ s.t 7 = .int .i64 k) (fun s => n - (intOf (s.t 7)).toNat)
    ⟨0, _, by omega, rfl, (Ext.refl m).one _ _, rfl, rfl, rfl, rfl⟩ ?_
  rintro s ⟨k, M, hk, tm, hx, t1, t5, t6, t7⟩
  by_cases hlt : k < n
  · have hlt' : (k : Int) < n := by omega
    have hw : 1 ≤ p.pow k * p.whole ∧ p.pow k * p.whole ≤ 3200000 := hg.pow5 (n := k + 1) (by omega)
    simp (config := {implicitDefEqProofs := false, maxDischargeDepth := 20}) (disch := first | omega | (simp only [lenE]; done) | (simp only [lenE]; omega) | rfl | (simp only [lenE, markR_len]; done) | (simp only [lenE, markR_len]; omega)) only [runE, mapE, listE, initT_5, initT_6, initT_7, initT_8, resV, oneV, binA, unA, reduceCtorEq, Nat.reduceEqDiff, Nat.reduceAdd, Nat.reduceLT, Nat.reduceLeDiff, Nat.reduceMul, Nat.reduceSub, ↓reduceIte, decide_true, decide_false, Bool.true_eq_false, Bool.false_eq_true, Bool.not_true, Bool.not_false, if_true, if_false, and_true, true_and, memE, celE, w64, Nat.zero_add, Nat.add_zero, Nat.mul_one, putL, and_self, ldn, tm, t1, t5, t6, t7, hlt']
    refine ⟨⟨k + 1, _, by omega, rfl, hx, rfl, by simp⟩, ?_⟩
    simp [intOf]; omega
  · have hlt' : ¬ ((k : Int) < n) := by omega
    have e : k = n := by omega
    simp (config := {implicitDefEqProofs := false, maxDischargeDepth := 20}) (disch := first | omega | (simp only [lenE]; done) | (simp only [lenE]; omega) | rfl | (simp only [lenE, markR_len]; done) | (simp only [lenE, markR_len]; omega)) only [runE, mapE, listE, initT_5, initT_6, initT_7, initT_8, resV, oneV, binA, unA, reduceCtorEq, Nat.reduceEqDiff, Nat.reduceAdd, Nat.reduceLT, Nat.reduceLeDiff, Nat.reduceMul, Nat.reduceSub, ↓reduceIte, decide_true, decide_false, Bool.true_eq_false, Bool.false_eq_true, Bool.not_true, Bool.not_false, if_true, if_false, and_true, true_and, memE, celE, w64, Nat.zero_add, Nat.add_zero, Nat.mul_one, putL, and_self, ldn, tm, t1, t5, t6, t7, hlt']
    rw [e]
    exact ext_ansV2 hx
theorem powerFrom_rc (m : Mem) (v : Value) (p : Pr) (x : Int) (n : Nat) (h : ProcA m v p) (hg : GoodP p) (hx : p.turns - x = n) (hn : n ≤ 5) :
    RC Try.prog 85 [v, .int .i64 x] m (AnsV (.int .i64 (p.pow n))) := by
  refine rc_of_run mixed ok_impl_powerFrom (by simp) (go_start _ _ _ ?_)
  obtain ⟨u, rfl, hu⟩ := h.ro
  have ht := hg.turns
  simp (config := {implicitDefEqProofs := false, maxDischargeDepth := 20}) (disch := first | omega | (simp only [lenE]; done) | (simp only [lenE]; omega) | rfl | (simp only [lenE, markR_len]; done) | (simp only [lenE, markR_len]; omega)) only [runE, mapE, listE, initT_5, initT_6, initT_7, initT_8, resV, oneV, binA, unA, reduceCtorEq, Nat.reduceEqDiff, Nat.reduceAdd, Nat.reduceLT, Nat.reduceLeDiff, Nat.reduceMul, Nat.reduceSub, ↓reduceIte, decide_true, decide_false, Bool.true_eq_false, Bool.false_eq_true, Bool.not_true, Bool.not_false, if_true, if_false, and_true, true_and, memE, celE, w64, Nat.zero_add, Nat.add_zero, Nat.mul_one, putL, and_self, ldn, c_impl_powerFrom, r_impl_powerFrom]
  rw [hx]
  refine loop_inv mixed (fun s => ∃ (k : Nat) (M : Mem), k ≤ n ∧ s.m = M ∧ Ext m M ∧ BoxA M m.length [.int .i64 p.turns, u, .int .i64 p.setup, .int .i64 p.unit, .int .i64 p.hold, .int .i64 p.back] ∧ s.t 2 = .pointer (some ⟨m.length, 0, none⟩) ∧ s.t 5 = .int .i64 (p.pow k) ∧ s.t 9 = .int .i64 n ∧ s.t 10 = .int .i64 k) (fun s => n - (intOf (s.t 10)).toNat)
    ⟨0, _, by omega, rfl, (Ext.refl m).one _ _, BoxA.here _ _ _ (roM_len m).symm, rfl, rfl, rfl, rfl⟩ ?_
  rintro s ⟨k, M, hk, tm, hx, hb, t2, t5, t9, t10⟩
  by_cases hlt : k < n
  · have hlt' : (k : Int) < n := by omega
    have hw : 1 ≤ p.pow k * p.whole ∧ p.pow k * p.whole ≤ 3200000 := hg.pow5 (n := k + 1) (by omega)
    simp (config := {implicitDefEqProofs := false, maxDischargeDepth := 20}) (disch := first | omega | (simp only [lenE]; done) | (simp only [lenE]; omega) | rfl | (simp only [lenE, markR_len]; done) | (simp only [lenE, markR_len]; omega)) only [runE, mapE, listE, initT_5, initT_6, initT_7, initT_8, resV, oneV, binA, unA, reduceCtorEq, Nat.reduceEqDiff, Nat.reduceAdd, Nat.reduceLT, Nat.reduceLeDiff, Nat.reduceMul, Nat.reduceSub, ↓reduceIte, decide_true, decide_false, Bool.true_eq_false, Bool.false_eq_true, Bool.not_true, Bool.not_false, if_true, if_false, and_true, true_and, memE, celE, w64, Nat.zero_add, Nat.add_zero, Nat.mul_one, putL, and_self, ldn, tm, t2, t5, t9, t10, hlt', hb.rdk]
    refine callH_rc (sumOfP_rc _ u p (hx.ints hu) hg) ?_
    rintro r new ⟨rfl, rfl⟩
    simp (config := {implicitDefEqProofs := false, maxDischargeDepth := 20}) (disch := first | omega | (simp only [lenE]; done) | (simp only [lenE]; omega) | rfl | (simp only [lenE, markR_len]; done) | (simp only [lenE, markR_len]; omega)) only [runE, mapE, listE, initT_5, initT_6, initT_7, initT_8, resV, oneV, binA, unA, reduceCtorEq, Nat.reduceEqDiff, Nat.reduceAdd, Nat.reduceLT, Nat.reduceLeDiff, Nat.reduceMul, Nat.reduceSub, ↓reduceIte, decide_true, decide_false, Bool.true_eq_false, Bool.false_eq_true, Bool.not_true, Bool.not_false, if_true, if_false, and_true, true_and, memE, celE, w64, Nat.zero_add, Nat.add_zero, Nat.mul_one, putL, and_self, ldn, tm, t2, t5, t9, t10]
    refine ⟨⟨k + 1, _, by omega, rfl, hx, hb, rfl, by simp⟩, ?_⟩
    simp [intOf]; omega
  · have hlt' : ¬ ((k : Int) < n) := by omega
    have e : k = n := by omega
    simp (config := {implicitDefEqProofs := false, maxDischargeDepth := 20}) (disch := first | omega | (simp only [lenE]; done) | (simp only [lenE]; omega) | rfl | (simp only [lenE, markR_len]; done) | (simp only [lenE, markR_len]; omega)) only [runE, mapE, listE, initT_5, initT_6, initT_7, initT_8, resV, oneV, binA, unA, reduceCtorEq, Nat.reduceEqDiff, Nat.reduceAdd, Nat.reduceLT, Nat.reduceLeDiff, Nat.reduceMul, Nat.reduceSub, ↓reduceIte, decide_true, decide_false, Bool.true_eq_false, Bool.false_eq_true, Bool.not_true, Bool.not_false, if_true, if_false, and_true, true_and, memE, celE, w64, Nat.zero_add, Nat.add_zero, Nat.mul_one, putL, and_self, ldn, tm, t2, t5, t9, t10, hlt']
    rw [e]
    exact ext_ansV2 hx
theorem l6Floor_rc (m : Mem) (v : Value) (p : Pr) (h : ProcA m v p) (hg : GoodP p) : RC Try.prog 120 [v] m (AnsV (.int .i64 p.floor)) := by
  refine rc_of_run mixed ok_spec_l6Floor (by simp) (go_start _ _ _ ?_)
  obtain ⟨u, rfl, hu⟩ := h.ro
  have hl := hg.len
  simp (config := {implicitDefEqProofs := false, maxDischargeDepth := 20}) (disch := first | omega | (simp only [lenE]; done) | (simp only [lenE]; omega) | rfl | (simp only [lenE, markR_len]; done) | (simp only [lenE, markR_len]; omega)) only [runE, mapE, listE, initT_5, initT_6, initT_7, initT_8, resV, oneV, binA, unA, reduceCtorEq, Nat.reduceEqDiff, Nat.reduceAdd, Nat.reduceLT, Nat.reduceLeDiff, Nat.reduceMul, Nat.reduceSub, ↓reduceIte, decide_true, decide_false, Bool.true_eq_false, Bool.false_eq_true, Bool.not_true, Bool.not_false, if_true, if_false, and_true, true_and, memE, celE, w64, Nat.zero_add, Nat.add_zero, Nat.mul_one, putL, and_self, ldn, c_spec_l6Floor, r_spec_l6Floor, hu.len]
  try simp only [List.append_assoc, List.cons_append, List.nil_append, List.append_nil]
  exact ⟨_, rfl, by (repeat (first | exact noRo_nil | assumption | apply noRo_own | apply noRo_dead | apply noRo_app)), rfl, by (repeat (first | exact noRo_nil | assumption | apply noRo_own | apply noRo_dead | apply noRo_app))⟩
theorem floorOf_rc (m : Mem) (v : Value) (p : Pr) (h : ProcA m v p) (hg : p.w.length ≤ 5) : RC Try.prog 116 [v] m (AnsV (.int .i64 p.floor)) := by
  refine rc_of_run mixed ok_impl_floorOf (by simp) (go_start _ _ _ ?_)
  obtain ⟨u, rfl, hu⟩ := h.ro
  simp (config := {implicitDefEqProofs := false, maxDischargeDepth := 20}) (disch := first | omega | (simp only [lenE]; done) | (simp only [lenE]; omega) | rfl | (simp only [lenE, markR_len]; done) | (simp only [lenE, markR_len]; omega)) only [runE, mapE, listE, initT_5, initT_6, initT_7, initT_8, resV, oneV, binA, unA, reduceCtorEq, Nat.reduceEqDiff, Nat.reduceAdd, Nat.reduceLT, Nat.reduceLeDiff, Nat.reduceMul, Nat.reduceSub, ↓reduceIte, decide_true, decide_false, Bool.true_eq_false, Bool.false_eq_true, Bool.not_true, Bool.not_false, if_true, if_false, and_true, true_and, memE, celE, w64, Nat.zero_add, Nat.add_zero, Nat.mul_one, putL, and_self, ldn, c_impl_floorOf, r_impl_floorOf, hu.len]
  try simp only [List.append_assoc, List.cons_append, List.nil_append, List.append_nil]
  exact ⟨_, rfl, by (repeat (first | exact noRo_nil | assumption | apply noRo_own | apply noRo_dead | apply noRo_app)), rfl, by (repeat (first | exact noRo_nil | assumption | apply noRo_own | apply noRo_dead | apply noRo_app))⟩
theorem keep_in {p : Pr} (hg : GoodP p) {x : Int} (hx : -10 ≤ x ∧ x ≤ 10) : -90 ≤ p.hold * x ∧ p.hold * x ≤ 90 ∧ -90 ≤ (0 - p.back) * x ∧ (0 - p.back) * x ≤ 90 := by
  have h1 := hg.hold
  have h2 := hg.back
  rcases Int.le_total 0 x with h | h
  · have a := mul_in' (A := 9) (B := 10) h1 (x := x) (by omega)
    have b := mul_in' (A := 9) (B := 10) h2 (x := x) (by omega)
    rw [Int.zero_sub, Int.neg_mul]; omega
  · have a := mul_in' (A := 9) (B := 10) h1 (x := -x) (by omega)
    have b := mul_in' (A := 9) (B := 10) h2 (x := -x) (by omega)
    rw [Int.zero_sub, Int.neg_mul]
    rw [Int.mul_neg] at a b; omega
theorem l6Kept_rc (m : Mem) (v : Value) (p : Pr) (x : Int) (h : ProcA m v p) (hg : GoodP p) (hx : -10 ≤ x ∧ x ≤ 10) : RC Try.prog 110 [v, .int .i64 x] m (AnsV (.int .i64 (p.kept x))) := by
  refine rc_of_run mixed ok_spec_l6Kept (by simp) (go_start _ _ _ ?_)
  obtain ⟨u, rfl, hu⟩ := h.ro
  have hk := keep_in hg hx
  have hb := hg.back
  unfold Pr.kept
  by_cases hp : 0 < x
  · simp (config := {implicitDefEqProofs := false, maxDischargeDepth := 20}) (disch := first | omega | (simp only [lenE]; done) | (simp only [lenE]; omega) | rfl | (simp only [lenE, markR_len]; done) | (simp only [lenE, markR_len]; omega)) only [runE, mapE, listE, initT_5, initT_6, initT_7, initT_8, resV, oneV, binA, unA, reduceCtorEq, Nat.reduceEqDiff, Nat.reduceAdd, Nat.reduceLT, Nat.reduceLeDiff, Nat.reduceMul, Nat.reduceSub, ↓reduceIte, decide_true, decide_false, Bool.true_eq_false, Bool.false_eq_true, Bool.not_true, Bool.not_false, if_true, if_false, and_true, true_and, memE, celE, w64, Nat.zero_add, Nat.add_zero, Nat.mul_one, putL, and_self, ldn, c_spec_l6Kept, r_spec_l6Kept, gt_iff_lt, hp]
    try simp only [List.append_assoc, List.cons_append, List.nil_append, List.append_nil]
    exact ⟨_, rfl, by (repeat (first | exact noRo_nil | assumption | apply noRo_own | apply noRo_dead | apply noRo_app)), rfl, by (repeat (first | exact noRo_nil | assumption | apply noRo_own | apply noRo_dead | apply noRo_app))⟩
  · simp (config := {implicitDefEqProofs := false, maxDischargeDepth := 20}) (disch := first | omega | (simp only [lenE]; done) | (simp only [lenE]; omega) | rfl | (simp only [lenE, markR_len]; done) | (simp only [lenE, markR_len]; omega)) only [runE, mapE, listE, initT_5, initT_6, initT_7, initT_8, resV, oneV, binA, unA, reduceCtorEq, Nat.reduceEqDiff, Nat.reduceAdd, Nat.reduceLT, Nat.reduceLeDiff, Nat.reduceMul, Nat.reduceSub, ↓reduceIte, decide_true, decide_false, Bool.true_eq_false, Bool.false_eq_true, Bool.not_true, Bool.not_false, if_true, if_false, and_true, true_and, memE, celE, w64, Nat.zero_add, Nat.add_zero, Nat.mul_one, putL, and_self, ldn, c_spec_l6Kept, r_spec_l6Kept, gt_iff_lt, hp]
    try simp only [List.append_assoc, List.cons_append, List.nil_append, List.append_nil]
    exact ⟨_, rfl, by (repeat (first | exact noRo_nil | assumption | apply noRo_own | apply noRo_dead | apply noRo_app)), by rw [Int.zero_sub], by (repeat (first | exact noRo_nil | assumption | apply noRo_own | apply noRo_dead | apply noRo_app))⟩
theorem isOwed6_rc (m : Mem) (x : Int) : RC Try.prog 140 [.int .i64 x] m fun r new => r = .bool (decide (x < 0)) ∧ new = [] := by
  refine rc_of_run mixed ok_impl_isOwed (by simp) (go_start _ _ _ ?_)
  simp (config := {implicitDefEqProofs := false, maxDischargeDepth := 20}) (disch := first | omega | (simp only [lenE]; done) | (simp only [lenE]; omega) | rfl | (simp only [lenE, markR_len]; done) | (simp only [lenE, markR_len]; omega)) only [runE, mapE, listE, initT_5, initT_6, initT_7, initT_8, resV, oneV, binA, unA, reduceCtorEq, Nat.reduceEqDiff, Nat.reduceAdd, Nat.reduceLT, Nat.reduceLeDiff, Nat.reduceMul, Nat.reduceSub, ↓reduceIte, decide_true, decide_false, Bool.true_eq_false, Bool.false_eq_true, Bool.not_true, Bool.not_false, if_true, if_false, and_true, true_and, memE, celE, w64, Nat.zero_add, Nat.add_zero, Nat.mul_one, putL, and_self, ldn, c_impl_isOwed, r_impl_isOwed]
  exact newQ_nil ⟨rfl, rfl⟩
theorem levelCost_rc (m : Mem) (v : Value) (p : Pr) (x : Int) (h : ProcA m v p) (hg : GoodP p) (hx : -10 ≤ x ∧ x ≤ 10) : RC Try.prog 113 [v, .int .i64 x] m (AnsV (.int .i64 (p.kept x))) := by
  refine rc_of_run mixed ok_impl_levelCost (by simp) (go_start _ _ _ ?_)
  obtain ⟨u, rfl, hu⟩ := h.ro
  have hk := keep_in hg hx
  have hb := hg.back
  unfold Pr.kept
  simp (config := {implicitDefEqProofs := false, maxDischargeDepth := 20}) (disch := first | omega | (simp only [lenE]; done) | (simp only [lenE]; omega) | rfl | (simp only [lenE, markR_len]; done) | (simp only [lenE, markR_len]; omega)) only [runE, mapE, listE, initT_5, initT_6, initT_7, initT_8, resV, oneV, binA, unA, reduceCtorEq, Nat.reduceEqDiff, Nat.reduceAdd, Nat.reduceLT, Nat.reduceLeDiff, Nat.reduceMul, Nat.reduceSub, ↓reduceIte, decide_true, decide_false, Bool.true_eq_false, Bool.false_eq_true, Bool.not_true, Bool.not_false, if_true, if_false, and_true, true_and, memE, celE, w64, Nat.zero_add, Nat.add_zero, Nat.mul_one, putL, and_self, ldn, c_impl_levelCost, r_impl_levelCost]
  refine callH_rc (isOwed6_rc _ x) ?_
  rintro r new ⟨rfl, rfl⟩
  by_cases hp : x < 0
  · simp (config := {implicitDefEqProofs := false, maxDischargeDepth := 20}) (disch := first | omega | (simp only [lenE]; done) | (simp only [lenE]; omega) | rfl | (simp only [lenE, markR_len]; done) | (simp only [lenE, markR_len]; omega)) only [runE, mapE, listE, initT_5, initT_6, initT_7, initT_8, resV, oneV, binA, unA, reduceCtorEq, Nat.reduceEqDiff, Nat.reduceAdd, Nat.reduceLT, Nat.reduceLeDiff, Nat.reduceMul, Nat.reduceSub, ↓reduceIte, decide_true, decide_false, Bool.true_eq_false, Bool.false_eq_true, Bool.not_true, Bool.not_false, if_true, if_false, and_true, true_and, memE, celE, w64, Nat.zero_add, Nat.add_zero, Nat.mul_one, putL, and_self, ldn, hp]
    try simp only [List.append_assoc, List.cons_append, List.nil_append, List.append_nil]
    exact ⟨_, rfl, by (repeat (first | exact noRo_nil | assumption | apply noRo_own | apply noRo_dead | apply noRo_app)), by rw [if_neg (by omega), Int.zero_sub], by (repeat (first | exact noRo_nil | assumption | apply noRo_own | apply noRo_dead | apply noRo_app))⟩
  · simp (config := {implicitDefEqProofs := false, maxDischargeDepth := 20}) (disch := first | omega | (simp only [lenE]; done) | (simp only [lenE]; omega) | rfl | (simp only [lenE, markR_len]; done) | (simp only [lenE, markR_len]; omega)) only [runE, mapE, listE, initT_5, initT_6, initT_7, initT_8, resV, oneV, binA, unA, reduceCtorEq, Nat.reduceEqDiff, Nat.reduceAdd, Nat.reduceLT, Nat.reduceLeDiff, Nat.reduceMul, Nat.reduceSub, ↓reduceIte, decide_true, decide_false, Bool.true_eq_false, Bool.false_eq_true, Bool.not_true, Bool.not_false, if_true, if_false, and_true, true_and, memE, celE, w64, Nat.zero_add, Nat.add_zero, Nat.mul_one, putL, and_self, ldn, hp]
    try simp only [List.append_assoc, List.cons_append, List.nil_append, List.append_nil]
    refine ⟨_, rfl, by (repeat (first | exact noRo_nil | assumption | apply noRo_own | apply noRo_dead | apply noRo_app)), ?_, by (repeat (first | exact noRo_nil | assumption | apply noRo_own | apply noRo_dead | apply noRo_app))⟩
    by_cases h0 : 0 < x
    · rw [if_pos h0]
    · have : x = 0 := by omega
      subst this
      simp
theorem placeOf_rc (m : Mem) (x : Int) (hx : -10 ≤ x ∧ x ≤ 10) : RC Try.prog 134 [.int .i64 x] m fun r new => r = .int .i64 (x + 10) ∧ new = [] := by
  refine rc_of_run mixed ok_impl_placeOf (by simp) (go_start _ _ _ ?_)
  simp (config := {implicitDefEqProofs := false, maxDischargeDepth := 20}) (disch := first | omega | (simp only [lenE]; done) | (simp only [lenE]; omega) | rfl | (simp only [lenE, markR_len]; done) | (simp only [lenE, markR_len]; omega)) only [runE, mapE, listE, initT_5, initT_6, initT_7, initT_8, resV, oneV, binA, unA, reduceCtorEq, Nat.reduceEqDiff, Nat.reduceAdd, Nat.reduceLT, Nat.reduceLeDiff, Nat.reduceMul, Nat.reduceSub, ↓reduceIte, decide_true, decide_false, Bool.true_eq_false, Bool.false_eq_true, Bool.not_true, Bool.not_false, if_true, if_false, and_true, true_and, memE, celE, w64, Nat.zero_add, Nat.add_zero, Nat.mul_one, putL, and_self, ldn, c_impl_placeOf, r_impl_placeOf]
  exact newQ_nil ⟨rfl, rfl⟩
theorem ord_in {p : Pr} (hg : GoodP p) {x y : Int} (hx : -10 ≤ x) (hy : y ≤ 10) (h : x ≤ y) : 0 ≤ p.unit * (y - x) ∧ p.unit * (y - x) ≤ 180 := mul_in' (A := 9) (B := 20) hg.unit (by omega)
theorem l6Order_rc (m : Mem) (v : Value) (p : Pr) (x y : Int) (h : ProcA m v p) (hg : GoodP p) (hx : -10 ≤ x ∧ x ≤ 10) (hy : -10 ≤ y ∧ y ≤ 10) : RC Try.prog 75 [v, .int .i64 x, .int .i64 y] m (AnsV (.int .i64 (p.ord x y))) := by
  refine rc_of_run mixed ok_spec_l6Order (by simp) (go_start _ _ _ ?_)
  obtain ⟨u, rfl, hu⟩ := h.ro
  have hs := hg.setup
  unfold Pr.ord
  by_cases hp : x < y
  · have ho := ord_in hg (x := x) (y := y) (by omega) (by omega) (by omega)
    simp (config := {implicitDefEqProofs := false, maxDischargeDepth := 20}) (disch := first | omega | (simp only [lenE]; done) | (simp only [lenE]; omega) | rfl | (simp only [lenE, markR_len]; done) | (simp only [lenE, markR_len]; omega)) only [runE, mapE, listE, initT_5, initT_6, initT_7, initT_8, resV, oneV, binA, unA, reduceCtorEq, Nat.reduceEqDiff, Nat.reduceAdd, Nat.reduceLT, Nat.reduceLeDiff, Nat.reduceMul, Nat.reduceSub, ↓reduceIte, decide_true, decide_false, Bool.true_eq_false, Bool.false_eq_true, Bool.not_true, Bool.not_false, if_true, if_false, and_true, true_and, memE, celE, w64, Nat.zero_add, Nat.add_zero, Nat.mul_one, putL, and_self, ldn, c_spec_l6Order, r_spec_l6Order, gt_iff_lt, hp]
    try simp only [List.append_assoc, List.cons_append, List.nil_append, List.append_nil]
    exact ⟨_, rfl, by (repeat (first | exact noRo_nil | assumption | apply noRo_own | apply noRo_dead | apply noRo_app)), rfl, by (repeat (first | exact noRo_nil | assumption | apply noRo_own | apply noRo_dead | apply noRo_app))⟩
  · simp (config := {implicitDefEqProofs := false, maxDischargeDepth := 20}) (disch := first | omega | (simp only [lenE]; done) | (simp only [lenE]; omega) | rfl | (simp only [lenE, markR_len]; done) | (simp only [lenE, markR_len]; omega)) only [runE, mapE, listE, initT_5, initT_6, initT_7, initT_8, resV, oneV, binA, unA, reduceCtorEq, Nat.reduceEqDiff, Nat.reduceAdd, Nat.reduceLT, Nat.reduceLeDiff, Nat.reduceMul, Nat.reduceSub, ↓reduceIte, decide_true, decide_false, Bool.true_eq_false, Bool.false_eq_true, Bool.not_true, Bool.not_false, if_true, if_false, and_true, true_and, memE, celE, w64, Nat.zero_add, Nat.add_zero, Nat.mul_one, putL, and_self, ldn, c_spec_l6Order, r_spec_l6Order, gt_iff_lt, hp]
    try simp only [List.append_assoc, List.cons_append, List.nil_append, List.append_nil]
    exact ⟨_, rfl, by (repeat (first | exact noRo_nil | assumption | apply noRo_own | apply noRo_dead | apply noRo_app)), rfl, by (repeat (first | exact noRo_nil | assumption | apply noRo_own | apply noRo_dead | apply noRo_app))⟩
theorem liftCost_rc (m : Mem) (v : Value) (p : Pr) (x y : Int) (h : ProcA m v p) (hg : GoodP p) (hx : -10 ≤ x ∧ x ≤ 10) (hy : y ≤ 10) (hxy : x ≤ y) : RC Try.prog 112 [v, .int .i64 x, .int .i64 y] m (AnsV (.int .i64 (p.ord x y))) := by
  refine rc_of_run mixed ok_impl_liftCost (by simp) (go_start _ _ _ ?_)
  obtain ⟨u, rfl, hu⟩ := h.ro
  have hs := hg.setup
  have ho := ord_in hg (x := x) (y := y) (by omega) (by omega) hxy
  unfold Pr.ord
  by_cases hp : x < y
  · simp (config := {implicitDefEqProofs := false, maxDischargeDepth := 20}) (disch := first | omega | (simp only [lenE]; done) | (simp only [lenE]; omega) | rfl | (simp only [lenE, markR_len]; done) | (simp only [lenE, markR_len]; omega)) only [runE, mapE, listE, initT_5, initT_6, initT_7, initT_8, resV, oneV, binA, unA, reduceCtorEq, Nat.reduceEqDiff, Nat.reduceAdd, Nat.reduceLT, Nat.reduceLeDiff, Nat.reduceMul, Nat.reduceSub, ↓reduceIte, decide_true, decide_false, Bool.true_eq_false, Bool.false_eq_true, Bool.not_true, Bool.not_false, if_true, if_false, and_true, true_and, memE, celE, w64, Nat.zero_add, Nat.add_zero, Nat.mul_one, putL, and_self, ldn, c_impl_liftCost, r_impl_liftCost, gt_iff_lt, hp]
    try simp only [List.append_assoc, List.cons_append, List.nil_append, List.append_nil]
    exact ⟨_, rfl, by (repeat (first | exact noRo_nil | assumption | apply noRo_own | apply noRo_dead | apply noRo_app)), by rw [Int.add_comm], by (repeat (first | exact noRo_nil | assumption | apply noRo_own | apply noRo_dead | apply noRo_app))⟩
  · have e : y = x := by omega
    subst e
    simp (config := {implicitDefEqProofs := false, maxDischargeDepth := 20}) (disch := first | omega | (simp only [lenE]; done) | (simp only [lenE]; omega) | rfl | (simp only [lenE, markR_len]; done) | (simp only [lenE, markR_len]; omega)) only [runE, mapE, listE, initT_5, initT_6, initT_7, initT_8, resV, oneV, binA, unA, reduceCtorEq, Nat.reduceEqDiff, Nat.reduceAdd, Nat.reduceLT, Nat.reduceLeDiff, Nat.reduceMul, Nat.reduceSub, ↓reduceIte, decide_true, decide_false, Bool.true_eq_false, Bool.false_eq_true, Bool.not_true, Bool.not_false, if_true, if_false, and_true, true_and, memE, celE, w64, Nat.zero_add, Nat.add_zero, Nat.mul_one, putL, and_self, ldn, c_impl_liftCost, r_impl_liftCost, gt_iff_lt, hp]
    try simp only [List.append_assoc, List.cons_append, List.nil_append, List.append_nil]
    exact ⟨_, rfl, by (repeat (first | exact noRo_nil | assumption | apply noRo_own | apply noRo_dead | apply noRo_app)), by simp, by (repeat (first | exact noRo_nil | assumption | apply noRo_own | apply noRo_dead | apply noRo_app))⟩


theorem at_of {m : Mem} {vn : Value} {next : List Int} (hn : IntsA m vn next) (hl : next.length = 21) {z : Int} (h1 : 0 ≤ z) (h2 : z ≤ 20) :
    iadA 1 vn (.int .i64 z) = some (pAt vn z.toNat) ∧ ldA m none (pAt vn z.toNat) = some (.int .i64 (next.getD z.toNat 0)) := by
  have := hn.at_ z.toNat (by omega)
  rw [show ((z.toNat : Nat) : Int) = z by omega] at this
  exact ⟨this, hn.ld _ (by omega)⟩
theorem l6After_rc (m : Mem) (v vn : Value) (p : Pr) (next : List Int) (x y : Int) (n : Nat) (h : ProcA m v p) (hn : IntsA m vn next) (hg : GoodP p) (hl : next.length = 21) (hB : rowIn 30000000000000000 next) (hy : p.may y) (hx : x = (n : Int) + 1) (hn4 : n ≤ 4) :
    RC Try.prog 77 [v, vn, .int .i64 y, .int .i64 x] m (AnsV (.int .i64 (p.after next y n))) := by
  subst hx
  refine rc_of_run mixed ok_spec_l6After (by simp) (go_start _ _ _ ?_)
  obtain ⟨u, rfl, hu⟩ := h.ro
  have hlen := hg.len
  have hpow := hg.pow5 (n := n) (by omega)
  have hfl := hg.floor
  have hy1 := hy.1
  have hy2 := hy.2
  simp (config := {implicitDefEqProofs := false, maxDischargeDepth := 20}) (disch := first | omega | (simp only [lenE]; done) | (simp only [lenE]; omega) | rfl | (simp only [lenE, markR_len]; done) | (simp only [lenE, markR_len]; omega)) only [runE, mapE, listE, initT_5, initT_6, initT_7, initT_8, resV, oneV, binA, unA, reduceCtorEq, Nat.reduceEqDiff, Nat.reduceAdd, Nat.reduceLT, Nat.reduceLeDiff, Nat.reduceMul, Nat.reduceSub, ↓reduceIte, decide_true, decide_false, Bool.true_eq_false, Bool.false_eq_true, Bool.not_true, Bool.not_false, if_true, if_false, and_true, true_and, memE, celE, w64, Nat.zero_add, Nat.add_zero, Nat.mul_one, putL, and_self, ldn, c_spec_l6After, r_spec_l6After]
  refine loop_inv mixed (fun s => ∃ (k : Nat) (M : Mem), k ≤ p.w.length ∧ s.m = M ∧ Ext m M ∧ BoxA M m.length [.int .i64 p.turns, u, .int .i64 p.setup, .int .i64 p.unit, .int .i64 p.hold, .int .i64 p.back] ∧ s.t 1 = vn ∧ s.t 2 = .int .i64 y ∧ s.t 3 = .int .i64 ((n : Int) + 1) ∧ s.t 4 = .pointer (some ⟨m.length, 0, none⟩) ∧ s.t 9 = .int .i64 (wsum p.w (p.part next y n) k) ∧ s.t 10 = .int .i64 k) (fun s => p.w.length - (intOf (s.t 10)).toNat)
    ⟨0, _, by omega, rfl, (Ext.refl m).one _ _, BoxA.here _ _ _ (roM_len m).symm, rfl, rfl, rfl, rfl, rfl, rfl⟩ ?_
  rintro s ⟨k, M, hk, tm, hx, hb, t1, t2, t3, t4, t9, t10⟩
  have hiu := hx.ints hu
  by_cases hlt : k < p.w.length
  · have hlt' : (k : Int) < p.w.length := by omega
    have hin := hn.xt2 hx
    have hd := hy.lv hlt
    obtain ⟨a1, a2⟩ := at_of hin hl (z := y - k + 10) (by omega) (by omega)
    have f1 := hg.part hB hn4 hd.1 hd.2
    have f2 := hg.term hB (by decide) hn4 hd.1 hd.2
    have f3 := hg.wsum hB (by decide) hn4 hy k (by omega)
    have f4 := hg.wsum hB (by decide) hn4 hy (k + 1) (by omega)
    have f5 := hg.kept hd
    rw [wsum_s] at f4
    unfold Pr.part at f1 f2 f4
    simp (config := {implicitDefEqProofs := false, maxDischargeDepth := 20}) (disch := first | omega | (simp only [lenE]; done) | (simp only [lenE]; omega) | rfl | (simp only [lenE, markR_len]; done) | (simp only [lenE, markR_len]; omega)) only [runE, mapE, listE, initT_5, initT_6, initT_7, initT_8, resV, oneV, binA, unA, reduceCtorEq, Nat.reduceEqDiff, Nat.reduceAdd, Nat.reduceLT, Nat.reduceLeDiff, Nat.reduceMul, Nat.reduceSub, ↓reduceIte, decide_true, decide_false, Bool.true_eq_false, Bool.false_eq_true, Bool.not_true, Bool.not_false, if_true, if_false, and_true, true_and, memE, celE, w64, Nat.zero_add, Nat.add_zero, Nat.mul_one, putL, and_self, ldn, tm, t1, t2, t3, t4, t9, t10, hlt', hb.rdk, hiu.len, hiu.at_ k hlt, hiu.ld k hlt, a1, a2]
    refine rcallH_rc (l6Kept_rc M _ p (y - k) (ProcA.mk hiu) hg hd) ?_
    rintro r new ⟨rfl, nr⟩
    have hb2 := hb.ext new
    simp (config := {implicitDefEqProofs := false, maxDischargeDepth := 20}) (disch := first | omega | (simp only [lenE]; done) | (simp only [lenE]; omega) | rfl | (simp only [lenE, markR_len]; done) | (simp only [lenE, markR_len]; omega)) only [runE, mapE, listE, initT_5, initT_6, initT_7, initT_8, resV, oneV, binA, unA, reduceCtorEq, Nat.reduceEqDiff, Nat.reduceAdd, Nat.reduceLT, Nat.reduceLeDiff, Nat.reduceMul, Nat.reduceSub, ↓reduceIte, decide_true, decide_false, Bool.true_eq_false, Bool.false_eq_true, Bool.not_true, Bool.not_false, if_true, if_false, and_true, true_and, memE, celE, w64, Nat.zero_add, Nat.add_zero, Nat.mul_one, putL, and_self, ldn, tm, t1, t2, t3, t4, t9, t10, hb2.rdk]
    refine rcallH_rc (l6Power_rc (M ++ new) _ p _ n (ProcA.mk (hiu.ext new)) hg (by omega) (by omega)) ?_
    rintro r new' ⟨rfl, nr'⟩
    have hb3 := hb2.ext new'
    simp (config := {implicitDefEqProofs := false, maxDischargeDepth := 20}) (disch := first | omega | (simp only [lenE]; done) | (simp only [lenE]; omega) | rfl | (simp only [lenE, markR_len]; done) | (simp only [lenE, markR_len]; omega)) only [runE, mapE, listE, initT_5, initT_6, initT_7, initT_8, resV, oneV, binA, unA, reduceCtorEq, Nat.reduceEqDiff, Nat.reduceAdd, Nat.reduceLT, Nat.reduceLeDiff, Nat.reduceMul, Nat.reduceSub, ↓reduceIte, decide_true, decide_false, Bool.true_eq_false, Bool.false_eq_true, Bool.not_true, Bool.not_false, if_true, if_false, and_true, true_and, memE, celE, w64, Nat.zero_add, Nat.add_zero, Nat.mul_one, putL, and_self, ldn, tm, t1, t2, t3, t4, t9, t10, ldA_ext a2, hb3.rdk]
    refine ⟨⟨k + 1, _, by omega, rfl, (hx.app nr).app nr', hb3, rfl, by simp⟩, ?_⟩
    simp [intOf]; omega
  · have hlt' : ¬ ((k : Int) < p.w.length) := by omega
    have e : k = p.w.length := by omega
    simp (config := {implicitDefEqProofs := false, maxDischargeDepth := 20}) (disch := first | omega | (simp only [lenE]; done) | (simp only [lenE]; omega) | rfl | (simp only [lenE, markR_len]; done) | (simp only [lenE, markR_len]; omega)) only [runE, mapE, listE, initT_5, initT_6, initT_7, initT_8, resV, oneV, binA, unA, reduceCtorEq, Nat.reduceEqDiff, Nat.reduceAdd, Nat.reduceLT, Nat.reduceLeDiff, Nat.reduceMul, Nat.reduceSub, ↓reduceIte, decide_true, decide_false, Bool.true_eq_false, Bool.false_eq_true, Bool.not_true, Bool.not_false, if_true, if_false, and_true, true_and, memE, celE, w64, Nat.zero_add, Nat.add_zero, Nat.mul_one, putL, and_self, ldn, tm, t1, t2, t3, t4, t9, t10, hlt', hb.rdk, hiu.len]
    rw [e]
    exact ext_ansV2 hx
end Go.Proofs.Ytddnedngjijpoaa.Ab
