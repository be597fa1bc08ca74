/- Contracts of markets: the quotient order, contracts in proportion and their pay. -/
import Derived.Test.YtdcheilmjooacaaAbMk4
namespace Go.Proofs.Ytdcheilmjooacaa.Ab
open Go Go.RowKit
set_option linter.unusedVariables false
set_option linter.unusedSimpArgs false

def quoOk (k : Mk) : Bool := k.good && !decide (k.price = k.left)
theorem low_M {k : Mk} {j : Nat} (hj : j + 1 ≤ k.w.length) : low k.w (k.make - k.left) (k.price - k.make) j ↔ sumTo k.w (j + 1) * (k.price - k.left) < tot k.w * (k.price - k.make) := by
  unfold low upF
  rw [Nat.min_eq_left hj, show k.make - k.left + (k.price - k.make) = k.price - k.left by omega, Int.mul_comm (k.price - k.left), Int.mul_comm (k.price - k.make)]
theorem sum36 {k : Mk} (h : GoodM k) {j : Nat} (hj : j ≤ k.w.length) : 0 ≤ sumTo k.w j ∧ sumTo k.w j ≤ 36 := by
  have h1 := sumTo_mono (l := k.w) (fun x hx => (h.wt x hx).1) hj
  have h2 := (sumTo_bound (by decide) h.wt j).1
  have h3 := h.tot
  unfold tot at h3
  omega
theorem specQuotient_rc (m : Mem) (v : Value) (k : Mk) (h : MkA m v k) :
    RC Try.prog 44 [v] m (AnsV (.tuple #[.int .i64 (if quoOk k then (quoO k : Int) else 0), .bool (quoOk k)])) := by
  refine rc_of_run mixed ok_spec_QuotientOrder (by simp) (go_start _ _ _ ?_)
  obtain ⟨u, rfl, hu⟩ := h.ro
  unfold quoOk
  try simp (config := {implicitDefEqProofs := false, maxDischargeDepth := 20}) (disch := first | omega | (simp only [lenE]; done) | (simp only [lenE]; omega) | rfl | (simp only [lenE, markR_len]; done) | (simp only [lenE, markR_len]; omega)) only [runE, mapE, listE, initT_5, initT_6, initT_7, initT_8, resV, oneV, binA, unA, reduceCtorEq, Nat.reduceEqDiff, Nat.reduceAdd, Nat.reduceLT, Nat.reduceLeDiff, Nat.reduceMul, Nat.reduceSub, ↓reduceIte, decide_true, decide_false, Bool.true_eq_false, Bool.false_eq_true, Bool.not_true, Bool.not_false, if_true, if_false, and_true, true_and, memE, celE, w64, Nat.zero_add, Nat.add_zero, Nat.mul_one, putL, and_self, ldn, c_spec_QuotientOrder, r_spec_QuotientOrder]
  obtain ⟨E, hE⟩ : ∃ M', M' = roM m ++ [⟨.own, 27, [u, .int .i64 k.price, .int .i64 k.make, .int .i64 k.left]⟩] := ⟨_, rfl⟩
  rw [← hE]
  have hX : Ext m E := by rw [hE]; exact ((Ext.refl m).one _ _)
  have LE : E.length = m.length + 1 := by rw [hE]; simp [roM_len]
  have oM : OwnB E (m.length) 27 [u, .int .i64 k.price, .int .i64 k.make, .int .i64 k.left] := by rw [hE]; exact (OwnB.here (by simp [roM_len]))
  clear hE
  try simp (config := {implicitDefEqProofs := false, maxDischargeDepth := 20}) (disch := first | omega | (simp only [lenE]; done) | (simp only [lenE]; omega) | rfl | (simp only [lenE, markR_len]; done) | (simp only [lenE, markR_len]; omega)) only [runE, mapE, listE, initT_5, initT_6, initT_7, initT_8, resV, oneV, binA, unA, reduceCtorEq, Nat.reduceEqDiff, Nat.reduceAdd, Nat.reduceLT, Nat.reduceLeDiff, Nat.reduceMul, Nat.reduceSub, ↓reduceIte, decide_true, decide_false, Bool.true_eq_false, Bool.false_eq_true, Bool.not_true, Bool.not_false, if_true, if_false, and_true, true_and, memE, celE, w64, Nat.zero_add, Nat.add_zero, Nat.mul_one, putL, and_self, ldn, oM.mk4]
  first | refine callH_rc (l10Market_rc _ _ k ⟨u, rfl, hX.ints hu⟩) ?_ | refine rcallH_rc (l10Market_rc _ _ k ⟨u, rfl, hX.ints hu⟩) ?_
  rintro r n1 ⟨rfl, nr1⟩
  obtain ⟨E1, hE1⟩ : ∃ M', M' = E ++ n1 := ⟨_, rfl⟩
  rw [← hE1]
  replace hX : Ext m E1 := by rw [hE1]; exact hX.app nr1
  replace oM := oM.ext n1
  rw [← hE1] at oM
  clear hE1
  cases g1 : k.good with
  | false =>
    try simp (config := {implicitDefEqProofs := false, maxDischargeDepth := 20}) (disch := first | omega | (simp only [lenE]; done) | (simp only [lenE]; omega) | rfl | (simp only [lenE, markR_len]; done) | (simp only [lenE, markR_len]; omega)) only [runE, mapE, listE, initT_5, initT_6, initT_7, initT_8, resV, oneV, binA, unA, reduceCtorEq, Nat.reduceEqDiff, Nat.reduceAdd, Nat.reduceLT, Nat.reduceLeDiff, Nat.reduceMul, Nat.reduceSub, ↓reduceIte, decide_true, decide_false, Bool.true_eq_false, Bool.false_eq_true, Bool.not_true, Bool.not_false, if_true, if_false, and_true, true_and, memE, celE, w64, Nat.zero_add, Nat.add_zero, Nat.mul_one, putL, and_self, ldn, oM.mk4]
    exact ext_ansV hX (by simp)
  | true =>
  try simp (config := {implicitDefEqProofs := false, maxDischargeDepth := 20}) (disch := first | omega | (simp only [lenE]; done) | (simp only [lenE]; omega) | rfl | (simp only [lenE, markR_len]; done) | (simp only [lenE, markR_len]; omega)) only [runE, mapE, listE, initT_5, initT_6, initT_7, initT_8, resV, oneV, binA, unA, reduceCtorEq, Nat.reduceEqDiff, Nat.reduceAdd, Nat.reduceLT, Nat.reduceLeDiff, Nat.reduceMul, Nat.reduceSub, ↓reduceIte, decide_true, decide_false, Bool.true_eq_false, Bool.false_eq_true, Bool.not_true, Bool.not_false, if_true, if_false, and_true, true_and, memE, celE, w64, Nat.zero_add, Nat.add_zero, Nat.mul_one, putL, and_self, ldn, oM.mk4]
  have hg := goodM_iff.1 g1
  have hp := hg.price
  have hm := hg.make
  have hl := hg.left
  by_cases he : k.price = k.left
  · have he2 : (k.price == k.left) = true := by rw [he]; exact beq_self_eq_true _
    simp (config := {implicitDefEqProofs := false, maxDischargeDepth := 20}) (disch := first | omega | (simp only [lenE]; done) | (simp only [lenE]; omega) | rfl | (simp only [lenE, markR_len]; done) | (simp only [lenE, markR_len]; omega)) only [runE, mapE, listE, initT_5, initT_6, initT_7, initT_8, resV, oneV, binA, unA, reduceCtorEq, Nat.reduceEqDiff, Nat.reduceAdd, Nat.reduceLT, Nat.reduceLeDiff, Nat.reduceMul, Nat.reduceSub, ↓reduceIte, decide_true, decide_false, Bool.true_eq_false, Bool.false_eq_true, Bool.not_true, Bool.not_false, if_true, if_false, and_true, true_and, memE, celE, w64, Nat.zero_add, Nat.add_zero, Nat.mul_one, putL, and_self, ldn, oM.mk4, he2]
    exact ext_ansV hX (by simp [he])
  have he2 : (k.price == k.left) = false := by rw [beq_eq_false_iff_ne]; exact he
  have hd := hg.dist
  have hu2 := hX.ints hu
  have hw1 := hd.len
  have ht := hg.tot
  have hl9 := hg.l9
  have p2 := mulI (a := tot k.w) (x := k.price - k.make) (A := 36) (B := 99) (by omega) (by omega)
  simp (config := {implicitDefEqProofs := false, maxDischargeDepth := 20}) (disch := first | omega | (simp only [lenE]; done) | (simp only [lenE]; omega) | rfl | (simp only [lenE, markR_len]; done) | (simp only [lenE, markR_len]; omega)) only [runE, mapE, listE, initT_5, initT_6, initT_7, initT_8, resV, oneV, binA, unA, reduceCtorEq, Nat.reduceEqDiff, Nat.reduceAdd, Nat.reduceLT, Nat.reduceLeDiff, Nat.reduceMul, Nat.reduceSub, ↓reduceIte, decide_true, decide_false, Bool.true_eq_false, Bool.false_eq_true, Bool.not_true, Bool.not_false, if_true, if_false, and_true, true_and, memE, celE, w64, Nat.zero_add, Nat.add_zero, Nat.mul_one, putL, and_self, ldn, oM.mk4, he2, hu2.at_ 0 (by omega), hu2.ld 0 (by omega), show iadA 1 u (.int .i64 0) = some (pAt u 0) from hu2.at_ 0 (by omega)]
  refine loop_inv mixed (fun s => ∃ (j : Nat), j < k.w.length ∧ (∀ i, i < j → low k.w (k.make - k.left) (k.price - k.make) i) ∧ s.m = E1 ∧ s.t 1 = .pointer (some ⟨m.length, 0, none⟩) ∧ s.t 4 = .int .i64 (sumTo k.w (j + 1)) ∧ s.t 5 = .int .i64 (j : Int)) (fun s => 20 - (intOf (s.t 5)).toNat)
    ⟨0, by omega, fun i hi => absurd hi (by omega), rfl, rfl, by rw [sumTo_sD (by omega), sumTo_zero, Int.zero_add]; rfl, rfl⟩ ?_
  rintro s ⟨j, hj, hlow, tm, t1, t4, t5⟩
  have s1 := sum36 hg (j := j + 1) (by omega)
  have p1 := mulI (a := sumTo k.w (j + 1)) (x := k.price - k.left) (A := 36) (B := 99) (by omega) (by omega)
  simp (config := {implicitDefEqProofs := false, maxDischargeDepth := 20}) (disch := first | omega | (simp only [lenE]; done) | (simp only [lenE]; omega) | rfl | (simp only [lenE, markR_len]; done) | (simp only [lenE, markR_len]; omega)) only [runE, mapE, listE, initT_5, initT_6, initT_7, initT_8, resV, oneV, binA, unA, reduceCtorEq, Nat.reduceEqDiff, Nat.reduceAdd, Nat.reduceLT, Nat.reduceLeDiff, Nat.reduceMul, Nat.reduceSub, ↓reduceIte, decide_true, decide_false, Bool.true_eq_false, Bool.false_eq_true, Bool.not_true, Bool.not_false, if_true, if_false, and_true, true_and, memE, celE, w64, Nat.zero_add, Nat.add_zero, Nat.mul_one, putL, and_self, ldn, tm, t1, t4, t5, oM.mk4]
  first | refine callH_rc (l2Sum_rc _ u k.w hu2 fun j hj => m9_small hg j hj) ?_ | refine rcallH_rc (l2Sum_rc _ u k.w hu2 fun j hj => m9_small hg j hj) ?_
  rintro r n2 ⟨rfl, rfl⟩
  rw [List.append_nil, show sumTo k.w k.w.length = tot k.w from rfl]
  by_cases hlo : sumTo k.w (j + 1) * (k.price - k.left) < tot k.w * (k.price - k.make)
  · have hL := (low_M (k := k) (j := j) (by omega)).2 hlo
    have hlt := low_lt hd (by omega) hL
    have ea : iadA 1 u (.int .i64 ((j : Int) + 1)) = some (pAt u (j + 1)) := hu2.at_ (j + 1) hlt
    have s2 := sum36 hg (j := j + 1 + 1) (by omega)
    rw [sumTo_sD hlt] at s2
    have s3 := at4 hg (j + 1)
    simp (config := {implicitDefEqProofs := false, maxDischargeDepth := 20}) (disch := first | omega | (simp only [lenE]; done) | (simp only [lenE]; omega) | rfl | (simp only [lenE, markR_len]; done) | (simp only [lenE, markR_len]; omega)) only [runE, mapE, listE, initT_5, initT_6, initT_7, initT_8, resV, oneV, binA, unA, reduceCtorEq, Nat.reduceEqDiff, Nat.reduceAdd, Nat.reduceLT, Nat.reduceLeDiff, Nat.reduceMul, Nat.reduceSub, ↓reduceIte, decide_true, decide_false, Bool.true_eq_false, Bool.false_eq_true, Bool.not_true, Bool.not_false, if_true, if_false, and_true, true_and, memE, celE, w64, Nat.zero_add, Nat.add_zero, Nat.mul_one, putL, and_self, ldn, tm, t1, t4, t5, oM.mk4, hlo, ea, hu2.ld (j + 1) hlt]
    refine ⟨⟨j + 1, hlt, fun i hi => ?_, by rw [sumTo_sD hlt], by simp⟩, by simp [intOf]; omega⟩
    by_cases ei : i = j
    · rw [ei]; exact hL
    · exact hlow i (by omega)
  · have hL := fun h => hlo ((low_M (k := k) (j := j) (by omega)).1 h)
    have hq := crit_uniq hd (by omega) hL hlow
    simp (config := {implicitDefEqProofs := false, maxDischargeDepth := 20}) (disch := first | omega | (simp only [lenE]; done) | (simp only [lenE]; omega) | rfl | (simp only [lenE, markR_len]; done) | (simp only [lenE, markR_len]; omega)) only [runE, mapE, listE, initT_5, initT_6, initT_7, initT_8, resV, oneV, binA, unA, reduceCtorEq, Nat.reduceEqDiff, Nat.reduceAdd, Nat.reduceLT, Nat.reduceLeDiff, Nat.reduceMul, Nat.reduceSub, ↓reduceIte, decide_true, decide_false, Bool.true_eq_false, Bool.false_eq_true, Bool.not_true, Bool.not_false, if_true, if_false, and_true, true_and, memE, celE, w64, Nat.zero_add, Nat.add_zero, Nat.mul_one, putL, and_self, ldn, tm, t1, t4, t5, hlo]
    exact ext_ansV hX (by simp [he, quoO, hq])
theorem implQuotient_rc (m : Mem) (v : Value) (k : Mk) (h : MkA m v k) :
    RC Try.prog 45 [v] m (AnsV (.tuple #[.int .i64 (if quoOk k then (quoO k : Int) else 0), .bool (quoOk k)])) := by
  refine rc_of_run mixed ok_impl_QuotientOrder (by simp) (go_start _ _ _ ?_)
  obtain ⟨u, rfl, hu⟩ := h.ro
  unfold quoOk
  try simp (config := {implicitDefEqProofs := false, maxDischargeDepth := 20}) (disch := first | omega | (simp only [lenE]; done) | (simp only [lenE]; omega) | rfl | (simp only [lenE, markR_len]; done) | (simp only [lenE, markR_len]; omega)) only [runE, mapE, listE, initT_5, initT_6, initT_7, initT_8, resV, oneV, binA, unA, reduceCtorEq, Nat.reduceEqDiff, Nat.reduceAdd, Nat.reduceLT, Nat.reduceLeDiff, Nat.reduceMul, Nat.reduceSub, ↓reduceIte, decide_true, decide_false, Bool.true_eq_false, Bool.false_eq_true, Bool.not_true, Bool.not_false, if_true, if_false, and_true, true_and, memE, celE, w64, Nat.zero_add, Nat.add_zero, Nat.mul_one, putL, and_self, ldn, c_impl_QuotientOrder, r_impl_QuotientOrder]
  obtain ⟨E, hE⟩ : ∃ M', M' = roM m ++ [⟨.own, 27, [u, .int .i64 k.price, .int .i64 k.make, .int .i64 k.left]⟩] := ⟨_, rfl⟩
  rw [← hE]
  have hX : Ext m E := by rw [hE]; exact ((Ext.refl m).one _ _)
  have LE : E.length = m.length + 1 := by rw [hE]; simp [roM_len]
  have oM : OwnB E (m.length) 27 [u, .int .i64 k.price, .int .i64 k.make, .int .i64 k.left] := by rw [hE]; exact (OwnB.here (by simp [roM_len]))
  clear hE
  try simp (config := {implicitDefEqProofs := false, maxDischargeDepth := 20}) (disch := first | omega | (simp only [lenE]; done) | (simp only [lenE]; omega) | rfl | (simp only [lenE, markR_len]; done) | (simp only [lenE, markR_len]; omega)) only [runE, mapE, listE, initT_5, initT_6, initT_7, initT_8, resV, oneV, binA, unA, reduceCtorEq, Nat.reduceEqDiff, Nat.reduceAdd, Nat.reduceLT, Nat.reduceLeDiff, Nat.reduceMul, Nat.reduceSub, ↓reduceIte, decide_true, decide_false, Bool.true_eq_false, Bool.false_eq_true, Bool.not_true, Bool.not_false, if_true, if_false, and_true, true_and, memE, celE, w64, Nat.zero_add, Nat.add_zero, Nat.mul_one, putL, and_self, ldn, oM.mk4]
  first | refine callH_rc (implIsMarket_rc _ _ k ⟨u, rfl, hX.ints hu⟩) ?_ | refine rcallH_rc (implIsMarket_rc _ _ k ⟨u, rfl, hX.ints hu⟩) ?_
  rintro r n1 ⟨rfl, nr1⟩
  obtain ⟨E1, hE1⟩ : ∃ M', M' = E ++ n1 := ⟨_, rfl⟩
  rw [← hE1]
  replace hX : Ext m E1 := by rw [hE1]; exact hX.app nr1
  replace oM := oM.ext n1
  rw [← hE1] at oM
  clear hE1
  cases g1 : k.good with
  | false =>
    try simp (config := {implicitDefEqProofs := false, maxDischargeDepth := 20}) (disch := first | omega | (simp only [lenE]; done) | (simp only [lenE]; omega) | rfl | (simp only [lenE, markR_len]; done) | (simp only [lenE, markR_len]; omega)) only [runE, mapE, listE, initT_5, initT_6, initT_7, initT_8, resV, oneV, binA, unA, reduceCtorEq, Nat.reduceEqDiff, Nat.reduceAdd, Nat.reduceLT, Nat.reduceLeDiff, Nat.reduceMul, Nat.reduceSub, ↓reduceIte, decide_true, decide_false, Bool.true_eq_false, Bool.false_eq_true, Bool.not_true, Bool.not_false, if_true, if_false, and_true, true_and, memE, celE, w64, Nat.zero_add, Nat.add_zero, Nat.mul_one, putL, and_self, ldn, oM.mk4]
    exact ext_ansV hX (by simp)
  | true =>
  try simp (config := {implicitDefEqProofs := false, maxDischargeDepth := 20}) (disch := first | omega | (simp only [lenE]; done) | (simp only [lenE]; omega) | rfl | (simp only [lenE, markR_len]; done) | (simp only [lenE, markR_len]; omega)) only [runE, mapE, listE, initT_5, initT_6, initT_7, initT_8, resV, oneV, binA, unA, reduceCtorEq, Nat.reduceEqDiff, Nat.reduceAdd, Nat.reduceLT, Nat.reduceLeDiff, Nat.reduceMul, Nat.reduceSub, ↓reduceIte, decide_true, decide_false, Bool.true_eq_false, Bool.false_eq_true, Bool.not_true, Bool.not_false, if_true, if_false, and_true, true_and, memE, celE, w64, Nat.zero_add, Nat.add_zero, Nat.mul_one, putL, and_self, ldn, oM.mk4]
  have hg := goodM_iff.1 g1
  have hp := hg.price
  have hm := hg.make
  have hl := hg.left
  by_cases he : k.price = k.left
  · have he2 : (k.price == k.left) = true := by rw [he]; exact beq_self_eq_true _
    simp (config := {implicitDefEqProofs := false, maxDischargeDepth := 20}) (disch := first | omega | (simp only [lenE]; done) | (simp only [lenE]; omega) | rfl | (simp only [lenE, markR_len]; done) | (simp only [lenE, markR_len]; omega)) only [runE, mapE, listE, initT_5, initT_6, initT_7, initT_8, resV, oneV, binA, unA, reduceCtorEq, Nat.reduceEqDiff, Nat.reduceAdd, Nat.reduceLT, Nat.reduceLeDiff, Nat.reduceMul, Nat.reduceSub, ↓reduceIte, decide_true, decide_false, Bool.true_eq_false, Bool.false_eq_true, Bool.not_true, Bool.not_false, if_true, if_false, and_true, true_and, memE, celE, w64, Nat.zero_add, Nat.add_zero, Nat.mul_one, putL, and_self, ldn, oM.mk4, he2]
    exact ext_ansV hX (by simp [he])
  have he2 : (k.price == k.left) = false := by rw [beq_eq_false_iff_ne]; exact he
  have hd := hg.dist
  simp (config := {implicitDefEqProofs := false, maxDischargeDepth := 20}) (disch := first | omega | (simp only [lenE]; done) | (simp only [lenE]; omega) | rfl | (simp only [lenE, markR_len]; done) | (simp only [lenE, markR_len]; omega)) only [runE, mapE, listE, initT_5, initT_6, initT_7, initT_8, resV, oneV, binA, unA, reduceCtorEq, Nat.reduceEqDiff, Nat.reduceAdd, Nat.reduceLT, Nat.reduceLeDiff, Nat.reduceMul, Nat.reduceSub, ↓reduceIte, decide_true, decide_false, Bool.true_eq_false, Bool.false_eq_true, Bool.not_true, Bool.not_false, if_true, if_false, and_true, true_and, memE, celE, w64, Nat.zero_add, Nat.add_zero, Nat.mul_one, putL, and_self, ldn, oM.mk4, he2]
  first | refine callH_rc (criticalOrder_rc _ u k.w (k.make - k.left) (k.price - k.make) (hX.ints hu) hd (by omega) (by omega)) ?_ | refine rcallH_rc (criticalOrder_rc _ u k.w (k.make - k.left) (k.price - k.make) (hX.ints hu) hd (by omega) (by omega)) ?_
  rintro r n2 ⟨rfl, rfl⟩
  try rw [List.append_nil]
  try simp (config := {implicitDefEqProofs := false, maxDischargeDepth := 20}) (disch := first | omega | (simp only [lenE]; done) | (simp only [lenE]; omega) | rfl | (simp only [lenE, markR_len]; done) | (simp only [lenE, markR_len]; omega)) only [runE, mapE, listE, initT_5, initT_6, initT_7, initT_8, resV, oneV, binA, unA, reduceCtorEq, Nat.reduceEqDiff, Nat.reduceAdd, Nat.reduceLT, Nat.reduceLeDiff, Nat.reduceMul, Nat.reduceSub, ↓reduceIte, decide_true, decide_false, Bool.true_eq_false, Bool.false_eq_true, Bool.not_true, Bool.not_false, if_true, if_false, and_true, true_and, memE, celE, w64, Nat.zero_add, Nat.add_zero, Nat.mul_one, putL, and_self, ldn, oM.mk4]
  exact ext_ansV hX (by simp [he]; rfl)
theorem l10Proportion_rc (m : Mem) (v : Value) (k : Mk) (c : Ct) (h : MkA m v k) (hg : GoodM k) (hc : GoodC c) :
    RC Try.prog 95 [v, ctV c] m (AnsV (.bool (propB k c))) := by
  refine rc_of_run mixed ok_spec_l10Proportion (by simp) (go_start _ _ _ ?_)
  obtain ⟨u, rfl, hu⟩ := h.ro
  have pb := part_bd hg hc
  have hp := hg.price
  have hm := hg.make
  have hl := hg.left
  have h1 := hc.pay
  have h2 := hc.back
  have h3 := hc.share
  unfold partP at pb
  unfold propB partP
  try simp (config := {implicitDefEqProofs := false, maxDischargeDepth := 20}) (disch := first | omega | (simp only [lenE]; done) | (simp only [lenE]; omega) | rfl | (simp only [lenE, markR_len]; done) | (simp only [lenE, markR_len]; omega)) only [runE, mapE, listE, initT_5, initT_6, initT_7, initT_8, resV, oneV, binA, unA, reduceCtorEq, Nat.reduceEqDiff, Nat.reduceAdd, Nat.reduceLT, Nat.reduceLeDiff, Nat.reduceMul, Nat.reduceSub, ↓reduceIte, decide_true, decide_false, Bool.true_eq_false, Bool.false_eq_true, Bool.not_true, Bool.not_false, if_true, if_false, and_true, true_and, memE, celE, w64, Nat.zero_add, Nat.add_zero, Nat.mul_one, putL, and_self, ldn, c_spec_l10Proportion, r_spec_l10Proportion, ctV]
  obtain ⟨E, hE⟩ : ∃ M', M' = roM m ++ [⟨.own, 27, [u, .int .i64 k.price, .int .i64 k.make, .int .i64 k.left]⟩] ++ [⟨.own, 34, [.int .i64 c.pay, .int .i64 c.back, .int .i64 c.share]⟩] := ⟨_, rfl⟩
  rw [← hE]
  have hX : Ext m E := by rw [hE]; exact (((Ext.refl m).one _ _).one _ _)
  have LE : E.length = m.length + 2 := by rw [hE]; simp [roM_len]
  have oM : OwnB E (m.length) 27 [u, .int .i64 k.price, .int .i64 k.make, .int .i64 k.left] := by rw [hE]; exact ((OwnB.here (by simp [roM_len])).ext _)
  have oC : OwnB E (m.length + 1) 34 [.int .i64 c.pay, .int .i64 c.back, .int .i64 c.share] := by rw [hE]; exact (OwnB.here (by simp [roM_len]))
  clear hE
  try simp (config := {implicitDefEqProofs := false, maxDischargeDepth := 20}) (disch := first | omega | (simp only [lenE]; done) | (simp only [lenE]; omega) | rfl | (simp only [lenE, markR_len]; done) | (simp only [lenE, markR_len]; omega)) only [runE, mapE, listE, initT_5, initT_6, initT_7, initT_8, resV, oneV, binA, unA, reduceCtorEq, Nat.reduceEqDiff, Nat.reduceAdd, Nat.reduceLT, Nat.reduceLeDiff, Nat.reduceMul, Nat.reduceSub, ↓reduceIte, decide_true, decide_false, Bool.true_eq_false, Bool.false_eq_true, Bool.not_true, Bool.not_false, if_true, if_false, and_true, true_and, memE, celE, w64, Nat.zero_add, Nat.add_zero, Nat.mul_one, putL, and_self, ldn, oM.mk4, oC.mk3]
  by_cases h0 : 0 < c.share * k.price - 100 * (k.left + c.back)
  · try simp (config := {implicitDefEqProofs := false, maxDischargeDepth := 20}) (disch := first | omega | (simp only [lenE]; done) | (simp only [lenE]; omega) | rfl | (simp only [lenE, markR_len]; done) | (simp only [lenE, markR_len]; omega)) only [runE, mapE, listE, initT_5, initT_6, initT_7, initT_8, resV, oneV, binA, unA, reduceCtorEq, Nat.reduceEqDiff, Nat.reduceAdd, Nat.reduceLT, Nat.reduceLeDiff, Nat.reduceMul, Nat.reduceSub, ↓reduceIte, decide_true, decide_false, Bool.true_eq_false, Bool.false_eq_true, Bool.not_true, Bool.not_false, if_true, if_false, and_true, true_and, memE, celE, w64, Nat.zero_add, Nat.add_zero, Nat.mul_one, putL, and_self, ldn, oM.mk4, oC.mk3, gt_iff_lt, h0]
    exact ext_ansV hX (by simp [h0]; try rfl)
  · try simp (config := {implicitDefEqProofs := false, maxDischargeDepth := 20}) (disch := first | omega | (simp only [lenE]; done) | (simp only [lenE]; omega) | rfl | (simp only [lenE, markR_len]; done) | (simp only [lenE, markR_len]; omega)) only [runE, mapE, listE, initT_5, initT_6, initT_7, initT_8, resV, oneV, binA, unA, reduceCtorEq, Nat.reduceEqDiff, Nat.reduceAdd, Nat.reduceLT, Nat.reduceLeDiff, Nat.reduceMul, Nat.reduceSub, ↓reduceIte, decide_true, decide_false, Bool.true_eq_false, Bool.false_eq_true, Bool.not_true, Bool.not_false, if_true, if_false, and_true, true_and, memE, celE, w64, Nat.zero_add, Nat.add_zero, Nat.mul_one, putL, and_self, ldn, oM.mk4, oC.mk3, gt_iff_lt, h0]
    exact ext_ansV hX (by simp [h0])
theorem isInProportion_rc (m : Mem) (v : Value) (k : Mk) (c : Ct) (h : MkA m v k) (hg : GoodM k) (hc : GoodC c) :
    RC Try.prog 96 [v, ctV c] m (AnsV (.bool (propB k c))) := by
  refine rc_of_run mixed ok_impl_isInProportion (by simp) (go_start _ _ _ ?_)
  obtain ⟨u, rfl, hu⟩ := h.ro
  have pb := part_bd hg hc
  have hp := hg.price
  have hm := hg.make
  have hl := hg.left
  have h1 := hc.pay
  have h2 := hc.back
  have h3 := hc.share
  unfold partP at pb
  unfold propB partP
  try simp (config := {implicitDefEqProofs := false, maxDischargeDepth := 20}) (disch := first | omega | (simp only [lenE]; done) | (simp only [lenE]; omega) | rfl | (simp only [lenE, markR_len]; done) | (simp only [lenE, markR_len]; omega)) only [runE, mapE, listE, initT_5, initT_6, initT_7, initT_8, resV, oneV, binA, unA, reduceCtorEq, Nat.reduceEqDiff, Nat.reduceAdd, Nat.reduceLT, Nat.reduceLeDiff, Nat.reduceMul, Nat.reduceSub, ↓reduceIte, decide_true, decide_false, Bool.true_eq_false, Bool.false_eq_true, Bool.not_true, Bool.not_false, if_true, if_false, and_true, true_and, memE, celE, w64, Nat.zero_add, Nat.add_zero, Nat.mul_one, putL, and_self, ldn, c_impl_isInProportion, r_impl_isInProportion, ctV]
  obtain ⟨E, hE⟩ : ∃ M', M' = roM m ++ [⟨.own, 27, [u, .int .i64 k.price, .int .i64 k.make, .int .i64 k.left]⟩] ++ [⟨.own, 34, [.int .i64 c.pay, .int .i64 c.back, .int .i64 c.share]⟩] := ⟨_, rfl⟩
  rw [← hE]
  have hX : Ext m E := by rw [hE]; exact (((Ext.refl m).one _ _).one _ _)
  have LE : E.length = m.length + 2 := by rw [hE]; simp [roM_len]
  have oM : OwnB E (m.length) 27 [u, .int .i64 k.price, .int .i64 k.make, .int .i64 k.left] := by rw [hE]; exact ((OwnB.here (by simp [roM_len])).ext _)
  have oC : OwnB E (m.length + 1) 34 [.int .i64 c.pay, .int .i64 c.back, .int .i64 c.share] := by rw [hE]; exact (OwnB.here (by simp [roM_len]))
  clear hE
  try simp (config := {implicitDefEqProofs := false, maxDischargeDepth := 20}) (disch := first | omega | (simp only [lenE]; done) | (simp only [lenE]; omega) | rfl | (simp only [lenE, markR_len]; done) | (simp only [lenE, markR_len]; omega)) only [runE, mapE, listE, initT_5, initT_6, initT_7, initT_8, resV, oneV, binA, unA, reduceCtorEq, Nat.reduceEqDiff, Nat.reduceAdd, Nat.reduceLT, Nat.reduceLeDiff, Nat.reduceMul, Nat.reduceSub, ↓reduceIte, decide_true, decide_false, Bool.true_eq_false, Bool.false_eq_true, Bool.not_true, Bool.not_false, if_true, if_false, and_true, true_and, memE, celE, w64, Nat.zero_add, Nat.add_zero, Nat.mul_one, putL, and_self, ldn, oM.mk4, oC.mk3]
  by_cases h0 : 0 < c.share * k.price - 100 * (k.left + c.back)
  · try simp (config := {implicitDefEqProofs := false, maxDischargeDepth := 20}) (disch := first | omega | (simp only [lenE]; done) | (simp only [lenE]; omega) | rfl | (simp only [lenE, markR_len]; done) | (simp only [lenE, markR_len]; omega)) only [runE, mapE, listE, initT_5, initT_6, initT_7, initT_8, resV, oneV, binA, unA, reduceCtorEq, Nat.reduceEqDiff, Nat.reduceAdd, Nat.reduceLT, Nat.reduceLeDiff, Nat.reduceMul, Nat.reduceSub, ↓reduceIte, decide_true, decide_false, Bool.true_eq_false, Bool.false_eq_true, Bool.not_true, Bool.not_false, if_true, if_false, and_true, true_and, memE, celE, w64, Nat.zero_add, Nat.add_zero, Nat.mul_one, putL, and_self, ldn, oM.mk4, oC.mk3, gt_iff_lt, h0]
    exact ext_ansV hX (by simp [h0]; try rfl)
  · try simp (config := {implicitDefEqProofs := false, maxDischargeDepth := 20}) (disch := first | omega | (simp only [lenE]; done) | (simp only [lenE]; omega) | rfl | (simp only [lenE, markR_len]; done) | (simp only [lenE, markR_len]; omega)) only [runE, mapE, listE, initT_5, initT_6, initT_7, initT_8, resV, oneV, binA, unA, reduceCtorEq, Nat.reduceEqDiff, Nat.reduceAdd, Nat.reduceLT, Nat.reduceLeDiff, Nat.reduceMul, Nat.reduceSub, ↓reduceIte, decide_true, decide_false, Bool.true_eq_false, Bool.false_eq_true, Bool.not_true, Bool.not_false, if_true, if_false, and_true, true_and, memE, celE, w64, Nat.zero_add, Nat.add_zero, Nat.mul_one, putL, and_self, ldn, oM.mk4, oC.mk3, gt_iff_lt, h0]
    exact ext_ansV hX (by simp [h0])
theorem specInProportion_rc (m : Mem) (v : Value) (k : Mk) (c : Ct) (h : MkA m v k) :
    RC Try.prog 52 [v, ctV c] m (AnsV (.tuple #[.bool (bothM k c && propB k c), .bool (bothM k c)])) := by
  refine rc_of_run mixed ok_spec_InProportion (by simp) (go_start _ _ _ ?_)
  obtain ⟨u, rfl, hu⟩ := h.ro
  try simp (config := {implicitDefEqProofs := false, maxDischargeDepth := 20}) (disch := first | omega | (simp only [lenE]; done) | (simp only [lenE]; omega) | rfl | (simp only [lenE, markR_len]; done) | (simp only [lenE, markR_len]; omega)) only [runE, mapE, listE, initT_5, initT_6, initT_7, initT_8, resV, oneV, binA, unA, reduceCtorEq, Nat.reduceEqDiff, Nat.reduceAdd, Nat.reduceLT, Nat.reduceLeDiff, Nat.reduceMul, Nat.reduceSub, ↓reduceIte, decide_true, decide_false, Bool.true_eq_false, Bool.false_eq_true, Bool.not_true, Bool.not_false, if_true, if_false, and_true, true_and, memE, celE, w64, Nat.zero_add, Nat.add_zero, Nat.mul_one, putL, and_self, ldn, c_spec_InProportion, r_spec_InProportion, ctV]
  obtain ⟨E, hE⟩ : ∃ M', M' = roM m ++ [⟨.own, 27, [u, .int .i64 k.price, .int .i64 k.make, .int .i64 k.left]⟩] ++ [⟨.own, 34, [.int .i64 c.pay, .int .i64 c.back, .int .i64 c.share]⟩] := ⟨_, rfl⟩
  rw [← hE]
  have hX : Ext m E := by rw [hE]; exact (((Ext.refl m).one _ _).one _ _)
  have LE : E.length = m.length + 2 := by rw [hE]; simp [roM_len]
  have oM : OwnB E (m.length) 27 [u, .int .i64 k.price, .int .i64 k.make, .int .i64 k.left] := by rw [hE]; exact ((OwnB.here (by simp [roM_len])).ext _)
  have oC : OwnB E (m.length + 1) 34 [.int .i64 c.pay, .int .i64 c.back, .int .i64 c.share] := by rw [hE]; exact (OwnB.here (by simp [roM_len]))
  clear hE
  try simp (config := {implicitDefEqProofs := false, maxDischargeDepth := 20}) (disch := first | omega | (simp only [lenE]; done) | (simp only [lenE]; omega) | rfl | (simp only [lenE, markR_len]; done) | (simp only [lenE, markR_len]; omega)) only [runE, mapE, listE, initT_5, initT_6, initT_7, initT_8, resV, oneV, binA, unA, reduceCtorEq, Nat.reduceEqDiff, Nat.reduceAdd, Nat.reduceLT, Nat.reduceLeDiff, Nat.reduceMul, Nat.reduceSub, ↓reduceIte, decide_true, decide_false, Bool.true_eq_false, Bool.false_eq_true, Bool.not_true, Bool.not_false, if_true, if_false, and_true, true_and, memE, celE, w64, Nat.zero_add, Nat.add_zero, Nat.mul_one, putL, and_self, ldn, oM.mk4, oC.mk3]
  first | refine callH_rc (l10Both_rc _ _ k c ⟨u, rfl, hX.ints hu⟩) ?_ | refine rcallH_rc (l10Both_rc _ _ k c ⟨u, rfl, hX.ints hu⟩) ?_
  rintro r n1 ⟨rfl, nr1⟩
  obtain ⟨E1, hE1⟩ : ∃ M', M' = E ++ n1 := ⟨_, rfl⟩
  rw [← hE1]
  replace hX : Ext m E1 := by rw [hE1]; exact hX.app nr1
  replace oM := oM.ext n1
  rw [← hE1] at oM
  replace oC := oC.ext n1
  rw [← hE1] at oC
  clear hE1
  cases g1 : bothM k c with
  | false =>
    try simp (config := {implicitDefEqProofs := false, maxDischargeDepth := 20}) (disch := first | omega | (simp only [lenE]; done) | (simp only [lenE]; omega) | rfl | (simp only [lenE, markR_len]; done) | (simp only [lenE, markR_len]; omega)) only [runE, mapE, listE, initT_5, initT_6, initT_7, initT_8, resV, oneV, binA, unA, reduceCtorEq, Nat.reduceEqDiff, Nat.reduceAdd, Nat.reduceLT, Nat.reduceLeDiff, Nat.reduceMul, Nat.reduceSub, ↓reduceIte, decide_true, decide_false, Bool.true_eq_false, Bool.false_eq_true, Bool.not_true, Bool.not_false, if_true, if_false, and_true, true_and, memE, celE, w64, Nat.zero_add, Nat.add_zero, Nat.mul_one, putL, and_self, ldn, oM.mk4, oC.mk3]
    exact ext_ansV hX (by simp)
  | true =>
  try simp (config := {implicitDefEqProofs := false, maxDischargeDepth := 20}) (disch := first | omega | (simp only [lenE]; done) | (simp only [lenE]; omega) | rfl | (simp only [lenE, markR_len]; done) | (simp only [lenE, markR_len]; omega)) only [runE, mapE, listE, initT_5, initT_6, initT_7, initT_8, resV, oneV, binA, unA, reduceCtorEq, Nat.reduceEqDiff, Nat.reduceAdd, Nat.reduceLT, Nat.reduceLeDiff, Nat.reduceMul, Nat.reduceSub, ↓reduceIte, decide_true, decide_false, Bool.true_eq_false, Bool.false_eq_true, Bool.not_true, Bool.not_false, if_true, if_false, and_true, true_and, memE, celE, w64, Nat.zero_add, Nat.add_zero, Nat.mul_one, putL, and_self, ldn, oM.mk4, oC.mk3]
  obtain ⟨hg, hc⟩ := bothM_iff.1 g1
  first | refine callH_rc (l10Proportion_rc _ _ k c ⟨u, rfl, hX.ints hu⟩ hg hc) ?_ | refine rcallH_rc (l10Proportion_rc _ _ k c ⟨u, rfl, hX.ints hu⟩ hg hc) ?_
  rintro r n2 ⟨rfl, nr2⟩
  obtain ⟨E2, hE2⟩ : ∃ M', M' = E1 ++ n2 := ⟨_, rfl⟩
  rw [← hE2]
  replace hX : Ext m E2 := by rw [hE2]; exact hX.app nr2
  replace oM := oM.ext n2
  rw [← hE2] at oM
  replace oC := oC.ext n2
  rw [← hE2] at oC
  clear hE2
  try simp (config := {implicitDefEqProofs := false, maxDischargeDepth := 20}) (disch := first | omega | (simp only [lenE]; done) | (simp only [lenE]; omega) | rfl | (simp only [lenE, markR_len]; done) | (simp only [lenE, markR_len]; omega)) only [runE, mapE, listE, initT_5, initT_6, initT_7, initT_8, resV, oneV, binA, unA, reduceCtorEq, Nat.reduceEqDiff, Nat.reduceAdd, Nat.reduceLT, Nat.reduceLeDiff, Nat.reduceMul, Nat.reduceSub, ↓reduceIte, decide_true, decide_false, Bool.true_eq_false, Bool.false_eq_true, Bool.not_true, Bool.not_false, if_true, if_false, and_true, true_and, memE, celE, w64, Nat.zero_add, Nat.add_zero, Nat.mul_one, putL, and_self, ldn, oM.mk4, oC.mk3]
  exact ext_ansV hX (by simp)
theorem implInProportion_rc (m : Mem) (v : Value) (k : Mk) (c : Ct) (h : MkA m v k) :
    RC Try.prog 53 [v, ctV c] m (AnsV (.tuple #[.bool (bothM k c && propB k c), .bool (bothM k c)])) := by
  refine rc_of_run mixed ok_impl_InProportion (by simp) (go_start _ _ _ ?_)
  obtain ⟨u, rfl, hu⟩ := h.ro
  try simp (config := {implicitDefEqProofs := false, maxDischargeDepth := 20}) (disch := first | omega | (simp only [lenE]; done) | (simp only [lenE]; omega) | rfl | (simp only [lenE, markR_len]; done) | (simp only [lenE, markR_len]; omega)) only [runE, mapE, listE, initT_5, initT_6, initT_7, initT_8, resV, oneV, binA, unA, reduceCtorEq, Nat.reduceEqDiff, Nat.reduceAdd, Nat.reduceLT, Nat.reduceLeDiff, Nat.reduceMul, Nat.reduceSub, ↓reduceIte, decide_true, decide_false, Bool.true_eq_false, Bool.false_eq_true, Bool.not_true, Bool.not_false, if_true, if_false, and_true, true_and, memE, celE, w64, Nat.zero_add, Nat.add_zero, Nat.mul_one, putL, and_self, ldn, c_impl_InProportion, r_impl_InProportion, ctV]
  obtain ⟨E, hE⟩ : ∃ M', M' = roM m ++ [⟨.own, 27, [u, .int .i64 k.price, .int .i64 k.make, .int .i64 k.left]⟩] ++ [⟨.own, 34, [.int .i64 c.pay, .int .i64 c.back, .int .i64 c.share]⟩] := ⟨_, rfl⟩
  rw [← hE]
  have hX : Ext m E := by rw [hE]; exact (((Ext.refl m).one _ _).one _ _)
  have LE : E.length = m.length + 2 := by rw [hE]; simp [roM_len]
  have oM : OwnB E (m.length) 27 [u, .int .i64 k.price, .int .i64 k.make, .int .i64 k.left] := by rw [hE]; exact ((OwnB.here (by simp [roM_len])).ext _)
  have oC : OwnB E (m.length + 1) 34 [.int .i64 c.pay, .int .i64 c.back, .int .i64 c.share] := by rw [hE]; exact (OwnB.here (by simp [roM_len]))
  clear hE
  try simp (config := {implicitDefEqProofs := false, maxDischargeDepth := 20}) (disch := first | omega | (simp only [lenE]; done) | (simp only [lenE]; omega) | rfl | (simp only [lenE, markR_len]; done) | (simp only [lenE, markR_len]; omega)) only [runE, mapE, listE, initT_5, initT_6, initT_7, initT_8, resV, oneV, binA, unA, reduceCtorEq, Nat.reduceEqDiff, Nat.reduceAdd, Nat.reduceLT, Nat.reduceLeDiff, Nat.reduceMul, Nat.reduceSub, ↓reduceIte, decide_true, decide_false, Bool.true_eq_false, Bool.false_eq_true, Bool.not_true, Bool.not_false, if_true, if_false, and_true, true_and, memE, celE, w64, Nat.zero_add, Nat.add_zero, Nat.mul_one, putL, and_self, ldn, oM.mk4, oC.mk3]
  first | refine callH_rc (isAgreed_rc _ _ k c ⟨u, rfl, hX.ints hu⟩) ?_ | refine rcallH_rc (isAgreed_rc _ _ k c ⟨u, rfl, hX.ints hu⟩) ?_
  rintro r n1 ⟨rfl, nr1⟩
  obtain ⟨E1, hE1⟩ : ∃ M', M' = E ++ n1 := ⟨_, rfl⟩
  rw [← hE1]
  replace hX : Ext m E1 := by rw [hE1]; exact hX.app nr1
  replace oM := oM.ext n1
  rw [← hE1] at oM
  replace oC := oC.ext n1
  rw [← hE1] at oC
  clear hE1
  cases g1 : bothM k c with
  | false =>
    try simp (config := {implicitDefEqProofs := false, maxDischargeDepth := 20}) (disch := first | omega | (simp only [lenE]; done) | (simp only [lenE]; omega) | rfl | (simp only [lenE, markR_len]; done) | (simp only [lenE, markR_len]; omega)) only [runE, mapE, listE, initT_5, initT_6, initT_7, initT_8, resV, oneV, binA, unA, reduceCtorEq, Nat.reduceEqDiff, Nat.reduceAdd, Nat.reduceLT, Nat.reduceLeDiff, Nat.reduceMul, Nat.reduceSub, ↓reduceIte, decide_true, decide_false, Bool.true_eq_false, Bool.false_eq_true, Bool.not_true, Bool.not_false, if_true, if_false, and_true, true_and, memE, celE, w64, Nat.zero_add, Nat.add_zero, Nat.mul_one, putL, and_self, ldn, oM.mk4, oC.mk3]
    exact ext_ansV hX (by simp)
  | true =>
  try simp (config := {implicitDefEqProofs := false, maxDischargeDepth := 20}) (disch := first | omega | (simp only [lenE]; done) | (simp only [lenE]; omega) | rfl | (simp only [lenE, markR_len]; done) | (simp only [lenE, markR_len]; omega)) only [runE, mapE, listE, initT_5, initT_6, initT_7, initT_8, resV, oneV, binA, unA, reduceCtorEq, Nat.reduceEqDiff, Nat.reduceAdd, Nat.reduceLT, Nat.reduceLeDiff, Nat.reduceMul, Nat.reduceSub, ↓reduceIte, decide_true, decide_false, Bool.true_eq_false, Bool.false_eq_true, Bool.not_true, Bool.not_false, if_true, if_false, and_true, true_and, memE, celE, w64, Nat.zero_add, Nat.add_zero, Nat.mul_one, putL, and_self, ldn, oM.mk4, oC.mk3]
  obtain ⟨hg, hc⟩ := bothM_iff.1 g1
  first | refine callH_rc (isInProportion_rc _ _ k c ⟨u, rfl, hX.ints hu⟩ hg hc) ?_ | refine rcallH_rc (isInProportion_rc _ _ k c ⟨u, rfl, hX.ints hu⟩ hg hc) ?_
  rintro r n2 ⟨rfl, nr2⟩
  obtain ⟨E2, hE2⟩ : ∃ M', M' = E1 ++ n2 := ⟨_, rfl⟩
  rw [← hE2]
  replace hX : Ext m E2 := by rw [hE2]; exact hX.app nr2
  replace oM := oM.ext n2
  rw [← hE2] at oM
  replace oC := oC.ext n2
  rw [← hE2] at oC
  clear hE2
  try simp (config := {implicitDefEqProofs := false, maxDischargeDepth := 20}) (disch := first | omega | (simp only [lenE]; done) | (simp only [lenE]; omega) | rfl | (simp only [lenE, markR_len]; done) | (simp only [lenE, markR_len]; omega)) only [runE, mapE, listE, initT_5, initT_6, initT_7, initT_8, resV, oneV, binA, unA, reduceCtorEq, Nat.reduceEqDiff, Nat.reduceAdd, Nat.reduceLT, Nat.reduceLeDiff, Nat.reduceMul, Nat.reduceSub, ↓reduceIte, decide_true, decide_false, Bool.true_eq_false, Bool.false_eq_true, Bool.not_true, Bool.not_false, if_true, if_false, and_true, true_and, memE, celE, w64, Nat.zero_add, Nat.add_zero, Nat.mul_one, putL, and_self, ldn, oM.mk4, oC.mk3]
  exact ext_ansV hX (by simp)
def payV (o : Option Nat) : Int := match o with
  | some p => p
  | none => 0
def payOk (k : Mk) (b s : Int) : Bool := k.good && (inM 99 b && inM 100 s)
def payO (k : Mk) (b s : Int) : Option Nat := if payOk k b s then payN k b s 100 else none
theorem payN_no {k : Mk} {b s : Int} (h : ∀ p : Nat, propB k ⟨p, b, s⟩ = false) (n : Nat) : payN k b s n = none := by
  induction n with
  | zero => rfl
  | succ n ih => simp only [payN, ih, h n]; rfl

theorem payFor_rc (m : Mem) (v : Value) (k : Mk) (b x : Int) (h : MkA m v k) (hg : GoodM k) (hb : 0 ≤ b ∧ b ≤ 99) (hs : 0 ≤ x ∧ x ≤ 100) :
    RC Try.prog 98 [v, .int .i64 b, .int .i64 x] m (AnsV (.tuple #[.int .i64 (payV (payN k b x 100)), .bool (payN k b x 100).isSome])) := by
  refine rc_of_run mixed ok_impl_payFor (by simp) (go_start _ _ _ ?_)
  obtain ⟨u, rfl, hu⟩ := h.ro
  try simp (config := {implicitDefEqProofs := false, maxDischargeDepth := 20}) (disch := first | omega | (simp only [lenE]; done) | (simp only [lenE]; omega) | rfl | (simp only [lenE, markR_len]; done) | (simp only [lenE, markR_len]; omega)) only [runE, mapE, listE, initT_5, initT_6, initT_7, initT_8, resV, oneV, binA, unA, reduceCtorEq, Nat.reduceEqDiff, Nat.reduceAdd, Nat.reduceLT, Nat.reduceLeDiff, Nat.reduceMul, Nat.reduceSub, ↓reduceIte, decide_true, decide_false, Bool.true_eq_false, Bool.false_eq_true, Bool.not_true, Bool.not_false, if_true, if_false, and_true, true_and, memE, celE, w64, Nat.zero_add, Nat.add_zero, Nat.mul_one, putL, and_self, ldn, c_impl_payFor, r_impl_payFor]
  obtain ⟨E, hE⟩ : ∃ M', M' = roM m ++ [⟨.own, 27, [u, .int .i64 k.price, .int .i64 k.make, .int .i64 k.left]⟩] := ⟨_, rfl⟩
  rw [← hE]
  have hX : Ext m E := by rw [hE]; exact ((Ext.refl m).one _ _)
  have LE : E.length = m.length + 1 := by rw [hE]; simp [roM_len]
  have oM : OwnB E (m.length) 27 [u, .int .i64 k.price, .int .i64 k.make, .int .i64 k.left] := by rw [hE]; exact (OwnB.here (by simp [roM_len]))
  clear hE
  try simp (config := {implicitDefEqProofs := false, maxDischargeDepth := 20}) (disch := first | omega | (simp only [lenE]; done) | (simp only [lenE]; omega) | rfl | (simp only [lenE, markR_len]; done) | (simp only [lenE, markR_len]; omega)) only [runE, mapE, listE, initT_5, initT_6, initT_7, initT_8, resV, oneV, binA, unA, reduceCtorEq, Nat.reduceEqDiff, Nat.reduceAdd, Nat.reduceLT, Nat.reduceLeDiff, Nat.reduceMul, Nat.reduceSub, ↓reduceIte, decide_true, decide_false, Bool.true_eq_false, Bool.false_eq_true, Bool.not_true, Bool.not_false, if_true, if_false, and_true, true_and, memE, celE, w64, Nat.zero_add, Nat.add_zero, Nat.mul_one, putL, and_self, ldn, oM.mk4]
  refine loop_inv mixed (fun s => ∃ (j : Nat) (M : Mem), j ≤ 100 ∧ payN k b x j = none ∧ s.m = M ∧ Ext m M ∧ OwnB M m.length 27 [u, .int .i64 k.price, .int .i64 k.make, .int .i64 k.left] ∧ s.t 3 = .pointer (some ⟨m.length, 0, none⟩) ∧ s.t 1 = .int .i64 b ∧ s.t 2 = .int .i64 x ∧ s.t 9 = .int .i64 (j : Int)) (fun s => 105 - (intOf (s.t 9)).toNat)
    ⟨0, _, by omega, rfl, rfl, hX, oM, rfl, rfl, rfl, rfl⟩ ?_
  rintro s ⟨j, M, hj, hno, tm, hX, oM, tp, t1, t2, ti⟩
  by_cases hlt : j < 100
  · have hlt' : (j : Int) < 100 := by omega
    simp (config := {implicitDefEqProofs := false, maxDischargeDepth := 20}) (disch := first | omega | (simp only [lenE]; done) | (simp only [lenE]; omega) | rfl | (simp only [lenE, markR_len]; done) | (simp only [lenE, markR_len]; omega)) only [runE, mapE, listE, initT_5, initT_6, initT_7, initT_8, resV, oneV, binA, unA, reduceCtorEq, Nat.reduceEqDiff, Nat.reduceAdd, Nat.reduceLT, Nat.reduceLeDiff, Nat.reduceMul, Nat.reduceSub, ↓reduceIte, decide_true, decide_false, Bool.true_eq_false, Bool.false_eq_true, Bool.not_true, Bool.not_false, if_true, if_false, and_true, true_and, memE, celE, w64, Nat.zero_add, Nat.add_zero, Nat.mul_one, putL, and_self, ldn, tm, tp, t1, t2, ti, oM.mk4, hlt', bld_ct3]
    first | refine callH_rc (isInProportion_rc _ _ k ⟨j, b, x⟩ ⟨u, rfl, hX.ints hu⟩ hg ⟨by simp; omega, hb, hs⟩) ?_ | refine rcallH_rc (isInProportion_rc _ _ k ⟨j, b, x⟩ ⟨u, rfl, hX.ints hu⟩ hg ⟨by simp; omega, hb, hs⟩) ?_
    rintro r n2 ⟨rfl, nr2⟩
    cases hpr : propB k ⟨j, b, x⟩ with
    | true =>
      simp (config := {implicitDefEqProofs := false, maxDischargeDepth := 20}) (disch := first | omega | (simp only [lenE]; done) | (simp only [lenE]; omega) | rfl | (simp only [lenE, markR_len]; done) | (simp only [lenE, markR_len]; omega)) only [runE, mapE, listE, initT_5, initT_6, initT_7, initT_8, resV, oneV, binA, unA, reduceCtorEq, Nat.reduceEqDiff, Nat.reduceAdd, Nat.reduceLT, Nat.reduceLeDiff, Nat.reduceMul, Nat.reduceSub, ↓reduceIte, decide_true, decide_false, Bool.true_eq_false, Bool.false_eq_true, Bool.not_true, Bool.not_false, if_true, if_false, and_true, true_and, memE, celE, w64, Nat.zero_add, Nat.add_zero, Nat.mul_one, putL, and_self, ldn, tm, tp, t1, t2, ti]
      have hit := payN_hit hno hpr (99 - j)
      rw [show j + 1 + (99 - j) = 100 by omega] at hit
      exact ext_ansV (hX.app nr2) (by rw [hit]; rfl)
    | false =>
      simp (config := {implicitDefEqProofs := false, maxDischargeDepth := 20}) (disch := first | omega | (simp only [lenE]; done) | (simp only [lenE]; omega) | rfl | (simp only [lenE, markR_len]; done) | (simp only [lenE, markR_len]; omega)) only [runE, mapE, listE, initT_5, initT_6, initT_7, initT_8, resV, oneV, binA, unA, reduceCtorEq, Nat.reduceEqDiff, Nat.reduceAdd, Nat.reduceLT, Nat.reduceLeDiff, Nat.reduceMul, Nat.reduceSub, ↓reduceIte, decide_true, decide_false, Bool.true_eq_false, Bool.false_eq_true, Bool.not_true, Bool.not_false, if_true, if_false, and_true, true_and, memE, celE, w64, Nat.zero_add, Nat.add_zero, Nat.mul_one, putL, and_self, ldn, tm, tp, t1, t2, ti]
      exact ⟨⟨j + 1, _, by omega, by simp only [payN, hno, hpr]; rfl, rfl, hX.app nr2, oM.ext _, by simp⟩, by simp [intOf]; omega⟩
  · have hlt' : ¬ (j : Int) < 100 := by omega
    obtain rfl : j = 100 := by omega
    simp (config := {implicitDefEqProofs := false, maxDischargeDepth := 20}) (disch := first | omega | (simp only [lenE]; done) | (simp only [lenE]; omega) | rfl | (simp only [lenE, markR_len]; done) | (simp only [lenE, markR_len]; omega)) only [runE, mapE, listE, initT_5, initT_6, initT_7, initT_8, resV, oneV, binA, unA, reduceCtorEq, Nat.reduceEqDiff, Nat.reduceAdd, Nat.reduceLT, Nat.reduceLeDiff, Nat.reduceMul, Nat.reduceSub, ↓reduceIte, decide_true, decide_false, Bool.true_eq_false, Bool.false_eq_true, Bool.not_true, Bool.not_false, if_true, if_false, and_true, true_and, memE, celE, w64, Nat.zero_add, Nat.add_zero, Nat.mul_one, putL, and_self, ldn, tm, tp, t1, t2, ti, hlt']
    exact ext_ansV hX (by rw [hno]; rfl)
theorem implPayFor_rc (m : Mem) (v : Value) (k : Mk) (b x : Int) (h : MkA m v k) :
    RC Try.prog 55 [v, .int .i64 b, .int .i64 x] m (AnsV (.tuple #[.int .i64 (payV (payO k b x)), .bool (payO k b x).isSome])) := by
  refine rc_of_run mixed ok_impl_PayFor (by simp) (go_start _ _ _ ?_)
  obtain ⟨u, rfl, hu⟩ := h.ro
  unfold payO
  try simp (config := {implicitDefEqProofs := false, maxDischargeDepth := 20}) (disch := first | omega | (simp only [lenE]; done) | (simp only [lenE]; omega) | rfl | (simp only [lenE, markR_len]; done) | (simp only [lenE, markR_len]; omega)) only [runE, mapE, listE, initT_5, initT_6, initT_7, initT_8, resV, oneV, binA, unA, reduceCtorEq, Nat.reduceEqDiff, Nat.reduceAdd, Nat.reduceLT, Nat.reduceLeDiff, Nat.reduceMul, Nat.reduceSub, ↓reduceIte, decide_true, decide_false, Bool.true_eq_false, Bool.false_eq_true, Bool.not_true, Bool.not_false, if_true, if_false, and_true, true_and, memE, celE, w64, Nat.zero_add, Nat.add_zero, Nat.mul_one, putL, and_self, ldn, c_impl_PayFor, r_impl_PayFor, bld_ct12]
  obtain ⟨E, hE⟩ : ∃ M', M' = roM m ++ [⟨.own, 27, [u, .int .i64 k.price, .int .i64 k.make, .int .i64 k.left]⟩] := ⟨_, rfl⟩
  rw [← hE]
  have hX : Ext m E := by rw [hE]; exact ((Ext.refl m).one _ _)
  have LE : E.length = m.length + 1 := by rw [hE]; simp [roM_len]
  have oM : OwnB E (m.length) 27 [u, .int .i64 k.price, .int .i64 k.make, .int .i64 k.left] := by rw [hE]; exact (OwnB.here (by simp [roM_len]))
  clear hE
  try simp (config := {implicitDefEqProofs := false, maxDischargeDepth := 20}) (disch := first | omega | (simp only [lenE]; done) | (simp only [lenE]; omega) | rfl | (simp only [lenE, markR_len]; done) | (simp only [lenE, markR_len]; omega)) only [runE, mapE, listE, initT_5, initT_6, initT_7, initT_8, resV, oneV, binA, unA, reduceCtorEq, Nat.reduceEqDiff, Nat.reduceAdd, Nat.reduceLT, Nat.reduceLeDiff, Nat.reduceMul, Nat.reduceSub, ↓reduceIte, decide_true, decide_false, Bool.true_eq_false, Bool.false_eq_true, Bool.not_true, Bool.not_false, if_true, if_false, and_true, true_and, memE, celE, w64, Nat.zero_add, Nat.add_zero, Nat.mul_one, putL, and_self, ldn, bld_ct12, oM.mk4]
  first | refine callH_rc (isAgreed_rc _ _ k ⟨0, b, x⟩ ⟨u, rfl, hX.ints hu⟩) ?_ | refine rcallH_rc (isAgreed_rc _ _ k ⟨0, b, x⟩ ⟨u, rfl, hX.ints hu⟩) ?_
  rintro r n1 ⟨rfl, nr1⟩
  obtain ⟨E1, hE1⟩ : ∃ M', M' = E ++ n1 := ⟨_, rfl⟩
  rw [← hE1]
  replace hX : Ext m E1 := by rw [hE1]; exact hX.app nr1
  replace oM := oM.ext n1
  rw [← hE1] at oM
  clear hE1
  rw [show bothM k ⟨0, b, x⟩ = payOk k b x by simp [bothM, Ct.good, payOk, inM]]
  cases g1 : payOk k b x with
  | false =>
    try simp (config := {implicitDefEqProofs := false, maxDischargeDepth := 20}) (disch := first | omega | (simp only [lenE]; done) | (simp only [lenE]; omega) | rfl | (simp only [lenE, markR_len]; done) | (simp only [lenE, markR_len]; omega)) only [runE, mapE, listE, initT_5, initT_6, initT_7, initT_8, resV, oneV, binA, unA, reduceCtorEq, Nat.reduceEqDiff, Nat.reduceAdd, Nat.reduceLT, Nat.reduceLeDiff, Nat.reduceMul, Nat.reduceSub, ↓reduceIte, decide_true, decide_false, Bool.true_eq_false, Bool.false_eq_true, Bool.not_true, Bool.not_false, if_true, if_false, and_true, true_and, memE, celE, w64, Nat.zero_add, Nat.add_zero, Nat.mul_one, putL, and_self, ldn, oM.mk4]
    exact ext_ansV hX rfl
  | true =>
  try simp (config := {implicitDefEqProofs := false, maxDischargeDepth := 20}) (disch := first | omega | (simp only [lenE]; done) | (simp only [lenE]; omega) | rfl | (simp only [lenE, markR_len]; done) | (simp only [lenE, markR_len]; omega)) only [runE, mapE, listE, initT_5, initT_6, initT_7, initT_8, resV, oneV, binA, unA, reduceCtorEq, Nat.reduceEqDiff, Nat.reduceAdd, Nat.reduceLT, Nat.reduceLeDiff, Nat.reduceMul, Nat.reduceSub, ↓reduceIte, decide_true, decide_false, Bool.true_eq_false, Bool.false_eq_true, Bool.not_true, Bool.not_false, if_true, if_false, and_true, true_and, memE, celE, w64, Nat.zero_add, Nat.add_zero, Nat.mul_one, putL, and_self, ldn, oM.mk4]
  simp only [payOk, Bool.and_eq_true] at g1
  first | refine callH_rc (payFor_rc _ _ k b x ⟨u, rfl, hX.ints hu⟩ (goodM_iff.1 g1.1) (inM_iff.1 g1.2.1) (inM_iff.1 g1.2.2)) ?_ | refine rcallH_rc (payFor_rc _ _ k b x ⟨u, rfl, hX.ints hu⟩ (goodM_iff.1 g1.1) (inM_iff.1 g1.2.1) (inM_iff.1 g1.2.2)) ?_
  rintro r n2 ⟨rfl, nr2⟩
  obtain ⟨E2, hE2⟩ : ∃ M', M' = E1 ++ n2 := ⟨_, rfl⟩
  rw [← hE2]
  replace hX : Ext m E2 := by rw [hE2]; exact hX.app nr2
  replace oM := oM.ext n2
  rw [← hE2] at oM
  clear hE2
  try simp (config := {implicitDefEqProofs := false, maxDischargeDepth := 20}) (disch := first | omega | (simp only [lenE]; done) | (simp only [lenE]; omega) | rfl | (simp only [lenE, markR_len]; done) | (simp only [lenE, markR_len]; omega)) only [runE, mapE, listE, initT_5, initT_6, initT_7, initT_8, resV, oneV, binA, unA, reduceCtorEq, Nat.reduceEqDiff, Nat.reduceAdd, Nat.reduceLT, Nat.reduceLeDiff, Nat.reduceMul, Nat.reduceSub, ↓reduceIte, decide_true, decide_false, Bool.true_eq_false, Bool.false_eq_true, Bool.not_true, Bool.not_false, if_true, if_false, and_true, true_and, memE, celE, w64, Nat.zero_add, Nat.add_zero, Nat.mul_one, putL, and_self, ldn, ext_2_0, ext_2_1, oM.mk4]
  exact ext_ansV hX rfl
theorem specPayFor_rc (m : Mem) (v : Value) (k : Mk) (b x : Int) (h : MkA m v k) :
    RC Try.prog 54 [v, .int .i64 b, .int .i64 x] m (AnsV (.tuple #[.int .i64 (payV (payO k b x)), .bool (payO k b x).isSome])) := by
  refine rc_of_run mixed ok_spec_PayFor (by simp) (go_start _ _ _ ?_)
  obtain ⟨u, rfl, hu⟩ := h.ro
  unfold payO payOk
  try simp (config := {implicitDefEqProofs := false, maxDischargeDepth := 20}) (disch := first | omega | (simp only [lenE]; done) | (simp only [lenE]; omega) | rfl | (simp only [lenE, markR_len]; done) | (simp only [lenE, markR_len]; omega)) only [runE, mapE, listE, initT_5, initT_6, initT_7, initT_8, resV, oneV, binA, unA, reduceCtorEq, Nat.reduceEqDiff, Nat.reduceAdd, Nat.reduceLT, Nat.reduceLeDiff, Nat.reduceMul, Nat.reduceSub, ↓reduceIte, decide_true, decide_false, Bool.true_eq_false, Bool.false_eq_true, Bool.not_true, Bool.not_false, if_true, if_false, and_true, true_and, memE, celE, w64, Nat.zero_add, Nat.add_zero, Nat.mul_one, putL, and_self, ldn, c_spec_PayFor, r_spec_PayFor]
  obtain ⟨E, hE⟩ : ∃ M', M' = roM m ++ [⟨.own, 27, [u, .int .i64 k.price, .int .i64 k.make, .int .i64 k.left]⟩] := ⟨_, rfl⟩
  rw [← hE]
  have hX : Ext m E := by rw [hE]; exact ((Ext.refl m).one _ _)
  have LE : E.length = m.length + 1 := by rw [hE]; simp [roM_len]
  have oM : OwnB E (m.length) 27 [u, .int .i64 k.price, .int .i64 k.make, .int .i64 k.left] := by rw [hE]; exact (OwnB.here (by simp [roM_len]))
  clear hE
  try simp (config := {implicitDefEqProofs := false, maxDischargeDepth := 20}) (disch := first | omega | (simp only [lenE]; done) | (simp only [lenE]; omega) | rfl | (simp only [lenE, markR_len]; done) | (simp only [lenE, markR_len]; omega)) only [runE, mapE, listE, initT_5, initT_6, initT_7, initT_8, resV, oneV, binA, unA, reduceCtorEq, Nat.reduceEqDiff, Nat.reduceAdd, Nat.reduceLT, Nat.reduceLeDiff, Nat.reduceMul, Nat.reduceSub, ↓reduceIte, decide_true, decide_false, Bool.true_eq_false, Bool.false_eq_true, Bool.not_true, Bool.not_false, if_true, if_false, and_true, true_and, memE, celE, w64, Nat.zero_add, Nat.add_zero, Nat.mul_one, putL, and_self, ldn, oM.mk4]
  first | refine callH_rc (l10Market_rc _ _ k ⟨u, rfl, hX.ints hu⟩) ?_ | refine rcallH_rc (l10Market_rc _ _ k ⟨u, rfl, hX.ints hu⟩) ?_
  rintro r n1 ⟨rfl, nr1⟩
  obtain ⟨E1, hE1⟩ : ∃ M', M' = E ++ n1 := ⟨_, rfl⟩
  rw [← hE1]
  replace hX : Ext m E1 := by rw [hE1]; exact hX.app nr1
  replace oM := oM.ext n1
  rw [← hE1] at oM
  clear hE1
  cases g1 : k.good with
  | false =>
    try simp (config := {implicitDefEqProofs := false, maxDischargeDepth := 20}) (disch := first | omega | (simp only [lenE]; done) | (simp only [lenE]; omega) | rfl | (simp only [lenE, markR_len]; done) | (simp only [lenE, markR_len]; omega)) only [runE, mapE, listE, initT_5, initT_6, initT_7, initT_8, resV, oneV, binA, unA, reduceCtorEq, Nat.reduceEqDiff, Nat.reduceAdd, Nat.reduceLT, Nat.reduceLeDiff, Nat.reduceMul, Nat.reduceSub, ↓reduceIte, decide_true, decide_false, Bool.true_eq_false, Bool.false_eq_true, Bool.not_true, Bool.not_false, if_true, if_false, and_true, true_and, memE, celE, w64, Nat.zero_add, Nat.add_zero, Nat.mul_one, putL, and_self, ldn, oM.mk4]
    exact ext_ansV hX rfl
  | true =>
  try simp (config := {implicitDefEqProofs := false, maxDischargeDepth := 20}) (disch := first | omega | (simp only [lenE]; done) | (simp only [lenE]; omega) | rfl | (simp only [lenE, markR_len]; done) | (simp only [lenE, markR_len]; omega)) only [runE, mapE, listE, initT_5, initT_6, initT_7, initT_8, resV, oneV, binA, unA, reduceCtorEq, Nat.reduceEqDiff, Nat.reduceAdd, Nat.reduceLT, Nat.reduceLeDiff, Nat.reduceMul, Nat.reduceSub, ↓reduceIte, decide_true, decide_false, Bool.true_eq_false, Bool.false_eq_true, Bool.not_true, Bool.not_false, if_true, if_false, and_true, true_and, memE, celE, w64, Nat.zero_add, Nat.add_zero, Nat.mul_one, putL, and_self, ldn, oM.mk4]
  first | refine callH_rc (l1In_rc _ _ _ _) ?_ | refine rcallH_rc (l1In_rc _ _ _ _) ?_
  rintro r n2 ⟨rfl, rfl⟩
  try rw [List.append_nil]
  rw [show (decide (0 ≤ b) && decide (b ≤ 99)) = inM 99 b from rfl]
  cases g2 : inM 99 b with
  | false =>
    try simp (config := {implicitDefEqProofs := false, maxDischargeDepth := 20}) (disch := first | omega | (simp only [lenE]; done) | (simp only [lenE]; omega) | rfl | (simp only [lenE, markR_len]; done) | (simp only [lenE, markR_len]; omega)) only [runE, mapE, listE, initT_5, initT_6, initT_7, initT_8, resV, oneV, binA, unA, reduceCtorEq, Nat.reduceEqDiff, Nat.reduceAdd, Nat.reduceLT, Nat.reduceLeDiff, Nat.reduceMul, Nat.reduceSub, ↓reduceIte, decide_true, decide_false, Bool.true_eq_false, Bool.false_eq_true, Bool.not_true, Bool.not_false, if_true, if_false, and_true, true_and, memE, celE, w64, Nat.zero_add, Nat.add_zero, Nat.mul_one, putL, and_self, ldn, oM.mk4]
    exact ext_ansV hX rfl
  | true =>
  try simp (config := {implicitDefEqProofs := false, maxDischargeDepth := 20}) (disch := first | omega | (simp only [lenE]; done) | (simp only [lenE]; omega) | rfl | (simp only [lenE, markR_len]; done) | (simp only [lenE, markR_len]; omega)) only [runE, mapE, listE, initT_5, initT_6, initT_7, initT_8, resV, oneV, binA, unA, reduceCtorEq, Nat.reduceEqDiff, Nat.reduceAdd, Nat.reduceLT, Nat.reduceLeDiff, Nat.reduceMul, Nat.reduceSub, ↓reduceIte, decide_true, decide_false, Bool.true_eq_false, Bool.false_eq_true, Bool.not_true, Bool.not_false, if_true, if_false, and_true, true_and, memE, celE, w64, Nat.zero_add, Nat.add_zero, Nat.mul_one, putL, and_self, ldn, oM.mk4]
  first | refine callH_rc (l1In_rc _ _ _ _) ?_ | refine rcallH_rc (l1In_rc _ _ _ _) ?_
  rintro r n3 ⟨rfl, rfl⟩
  try rw [List.append_nil]
  rw [show (decide (0 ≤ x) && decide (x ≤ 100)) = inM 100 x from rfl]
  cases g3 : inM 100 x with
  | false =>
    try simp (config := {implicitDefEqProofs := false, maxDischargeDepth := 20}) (disch := first | omega | (simp only [lenE]; done) | (simp only [lenE]; omega) | rfl | (simp only [lenE, markR_len]; done) | (simp only [lenE, markR_len]; omega)) only [runE, mapE, listE, initT_5, initT_6, initT_7, initT_8, resV, oneV, binA, unA, reduceCtorEq, Nat.reduceEqDiff, Nat.reduceAdd, Nat.reduceLT, Nat.reduceLeDiff, Nat.reduceMul, Nat.reduceSub, ↓reduceIte, decide_true, decide_false, Bool.true_eq_false, Bool.false_eq_true, Bool.not_true, Bool.not_false, if_true, if_false, and_true, true_and, memE, celE, w64, Nat.zero_add, Nat.add_zero, Nat.mul_one, putL, and_self, ldn, oM.mk4, oM.mk4]
    exact ext_ansV hX rfl
  | true =>
  try simp (config := {implicitDefEqProofs := false, maxDischargeDepth := 20}) (disch := first | omega | (simp only [lenE]; done) | (simp only [lenE]; omega) | rfl | (simp only [lenE, markR_len]; done) | (simp only [lenE, markR_len]; omega)) only [runE, mapE, listE, initT_5, initT_6, initT_7, initT_8, resV, oneV, binA, unA, reduceCtorEq, Nat.reduceEqDiff, Nat.reduceAdd, Nat.reduceLT, Nat.reduceLeDiff, Nat.reduceMul, Nat.reduceSub, ↓reduceIte, decide_true, decide_false, Bool.true_eq_false, Bool.false_eq_true, Bool.not_true, Bool.not_false, if_true, if_false, and_true, true_and, memE, celE, w64, Nat.zero_add, Nat.add_zero, Nat.mul_one, putL, and_self, ldn, oM.mk4, oM.mk4]
  have hg := goodM_iff.1 g1
  have hb := inM_iff.1 g2
  have hs := inM_iff.1 g3
  by_cases he : k.price = k.left
  · have he2 : (k.price == k.left) = true := by rw [he]; exact beq_self_eq_true _
    simp (config := {implicitDefEqProofs := false, maxDischargeDepth := 20}) (disch := first | omega | (simp only [lenE]; done) | (simp only [lenE]; omega) | rfl | (simp only [lenE, markR_len]; done) | (simp only [lenE, markR_len]; omega)) only [runE, mapE, listE, initT_5, initT_6, initT_7, initT_8, resV, oneV, binA, unA, reduceCtorEq, Nat.reduceEqDiff, Nat.reduceAdd, Nat.reduceLT, Nat.reduceLeDiff, Nat.reduceMul, Nat.reduceSub, ↓reduceIte, decide_true, decide_false, Bool.true_eq_false, Bool.false_eq_true, Bool.not_true, Bool.not_false, if_true, if_false, and_true, true_and, memE, celE, w64, Nat.zero_add, Nat.add_zero, Nat.mul_one, putL, and_self, ldn, oM.mk4, he2]
    have hz := payN_no ((no_prop' hg hb hs).resolve_left (by omega)) 100
    exact ext_ansV hX (by rw [hz]; rfl)
  have he2 : (k.price == k.left) = false := by rw [beq_eq_false_iff_ne]; exact he
  simp (config := {implicitDefEqProofs := false, maxDischargeDepth := 20}) (disch := first | omega | (simp only [lenE]; done) | (simp only [lenE]; omega) | rfl | (simp only [lenE, markR_len]; done) | (simp only [lenE, markR_len]; omega)) only [runE, mapE, listE, initT_5, initT_6, initT_7, initT_8, resV, oneV, binA, unA, reduceCtorEq, Nat.reduceEqDiff, Nat.reduceAdd, Nat.reduceLT, Nat.reduceLeDiff, Nat.reduceMul, Nat.reduceSub, ↓reduceIte, decide_true, decide_false, Bool.true_eq_false, Bool.false_eq_true, Bool.not_true, Bool.not_false, if_true, if_false, and_true, true_and, memE, celE, w64, Nat.zero_add, Nat.add_zero, Nat.mul_one, putL, and_self, ldn, oM.mk4, he2]
  rw [show (if (true && (true && true)) = true then payN k b x 100 else none) = payN k b x 100 from rfl]
  refine loop_inv mixed (fun s => ∃ (j : Nat) (M : Mem), j ≤ 100 ∧ payN k b x j = none ∧ s.m = M ∧ Ext m M ∧ OwnB M m.length 27 [u, .int .i64 k.price, .int .i64 k.make, .int .i64 k.left] ∧ s.t 3 = .pointer (some ⟨m.length, 0, none⟩) ∧ s.t 1 = .int .i64 b ∧ s.t 2 = .int .i64 x ∧ s.t 8 = .int .i64 (j : Int)) (fun s => 105 - (intOf (s.t 8)).toNat)
    ⟨0, _, by omega, rfl, rfl, hX, oM, rfl, rfl, rfl, rfl⟩ ?_
  rintro s ⟨j, M, hj, hno, tm, hX, oM, tp, t1, t2, ti⟩
  by_cases hlt : j < 100
  · have hlt' : (j : Int) ≤ 99 := by omega
    simp (config := {implicitDefEqProofs := false, maxDischargeDepth := 20}) (disch := first | omega | (simp only [lenE]; done) | (simp only [lenE]; omega) | rfl | (simp only [lenE, markR_len]; done) | (simp only [lenE, markR_len]; omega)) only [runE, mapE, listE, initT_5, initT_6, initT_7, initT_8, resV, oneV, binA, unA, reduceCtorEq, Nat.reduceEqDiff, Nat.reduceAdd, Nat.reduceLT, Nat.reduceLeDiff, Nat.reduceMul, Nat.reduceSub, ↓reduceIte, decide_true, decide_false, Bool.true_eq_false, Bool.false_eq_true, Bool.not_true, Bool.not_false, if_true, if_false, and_true, true_and, memE, celE, w64, Nat.zero_add, Nat.add_zero, Nat.mul_one, putL, and_self, ldn, tm, tp, t1, t2, ti, oM.mk4, hlt', bld_ct3]
    first | refine callH_rc (l10Proportion_rc _ _ k ⟨j, b, x⟩ ⟨u, rfl, hX.ints hu⟩ hg ⟨by simp; omega, hb, hs⟩) ?_ | refine rcallH_rc (l10Proportion_rc _ _ k ⟨j, b, x⟩ ⟨u, rfl, hX.ints hu⟩ hg ⟨by simp; omega, hb, hs⟩) ?_
    rintro r n2 ⟨rfl, nr2⟩
    cases hpr : propB k ⟨j, b, x⟩ with
    | true =>
      simp (config := {implicitDefEqProofs := false, maxDischargeDepth := 20}) (disch := first | omega | (simp only [lenE]; done) | (simp only [lenE]; omega) | rfl | (simp only [lenE, markR_len]; done) | (simp only [lenE, markR_len]; omega)) only [runE, mapE, listE, initT_5, initT_6, initT_7, initT_8, resV, oneV, binA, unA, reduceCtorEq, Nat.reduceEqDiff, Nat.reduceAdd, Nat.reduceLT, Nat.reduceLeDiff, Nat.reduceMul, Nat.reduceSub, ↓reduceIte, decide_true, decide_false, Bool.true_eq_false, Bool.false_eq_true, Bool.not_true, Bool.not_false, if_true, if_false, and_true, true_and, memE, celE, w64, Nat.zero_add, Nat.add_zero, Nat.mul_one, putL, and_self, ldn, tm, tp, t1, t2, ti]
      have hit := payN_hit hno hpr (99 - j)
      rw [show j + 1 + (99 - j) = 100 by omega] at hit
      exact ext_ansV (hX.app nr2) (by rw [hit]; rfl)
    | false =>
      simp (config := {implicitDefEqProofs := false, maxDischargeDepth := 20}) (disch := first | omega | (simp only [lenE]; done) | (simp only [lenE]; omega) | rfl | (simp only [lenE, markR_len]; done) | (simp only [lenE, markR_len]; omega)) only [runE, mapE, listE, initT_5, initT_6, initT_7, initT_8, resV, oneV, binA, unA, reduceCtorEq, Nat.reduceEqDiff, Nat.reduceAdd, Nat.reduceLT, Nat.reduceLeDiff, Nat.reduceMul, Nat.reduceSub, ↓reduceIte, decide_true, decide_false, Bool.true_eq_false, Bool.false_eq_true, Bool.not_true, Bool.not_false, if_true, if_false, and_true, true_and, memE, celE, w64, Nat.zero_add, Nat.add_zero, Nat.mul_one, putL, and_self, ldn, tm, tp, t1, t2, ti]
      exact ⟨⟨j + 1, _, by omega, by simp only [payN, hno, hpr]; rfl, rfl, hX.app nr2, oM.ext _, by simp⟩, by simp [intOf]; omega⟩
  · have hlt' : ¬ (j : Int) ≤ 99 := by omega
    obtain rfl : j = 100 := by omega
    simp (config := {implicitDefEqProofs := false, maxDischargeDepth := 20}) (disch := first | omega | (simp only [lenE]; done) | (simp only [lenE]; omega) | rfl | (simp only [lenE, markR_len]; done) | (simp only [lenE, markR_len]; omega)) only [runE, mapE, listE, initT_5, initT_6, initT_7, initT_8, resV, oneV, binA, unA, reduceCtorEq, Nat.reduceEqDiff, Nat.reduceAdd, Nat.reduceLT, Nat.reduceLeDiff, Nat.reduceMul, Nat.reduceSub, ↓reduceIte, decide_true, decide_false, Bool.true_eq_false, Bool.false_eq_true, Bool.not_true, Bool.not_false, if_true, if_false, and_true, true_and, memE, celE, w64, Nat.zero_add, Nat.add_zero, Nat.mul_one, putL, and_self, ldn, tm, tp, t1, t2, ti, hlt']
    exact ext_ansV hX (by rw [hno]; rfl)
end Go.Proofs.Ytdcheilmjooacaa.Ab
