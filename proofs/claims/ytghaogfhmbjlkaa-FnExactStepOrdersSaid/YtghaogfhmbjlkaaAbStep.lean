/- StepOrders: one unit more, step by step. -/
import Derived.Test.YtghaogfhmbjlkaaAbChance5
import Derived.Test.YtghaogfhmbjlkaaAbBasis
import Derived.Test.YtghaogfhmbjlkaaAbTbl
import Derived.Test.YtghaogfhmbjlkaaStepMath
namespace Go.Proofs.Ytghaogfhmbjlkaa.Ab
open Go Go.RowKit
set_option linter.unusedVariables false
set_option linter.unusedSimpArgs false

theorem gds_no {T : List (List Int)} {k : Nat} (hk : k < T.length) (h : ¬ (distB (T.getD k []) = true ∧ tot (T.getD k []) = tot (T.getD 0 []))) : gdsB T = false := by
  rw [Bool.eq_false_iff]
  intro hg
  have hg := gds_iff.1 hg
  exact h ⟨dist_iff.2 (hg.d k hk), hg.t k hk⟩
theorem gds_end {T : List (List Int)} (h : ∀ j, j < T.length → distB (T.getD j []) = true ∧ tot (T.getD j []) = tot (T.getD 0 [])) : gdsB T = (decide ((1 : Int) ≤ (T.length : Int)) && decide ((T.length : Int) ≤ 3)) := by
  unfold gdsB
  rw [all_at.2 (fun k hk => by rw [Bool.and_eq_true, decide_eq_true_eq]; exact h k hk), Bool.and_true]
  congr 1 <;> rw [decide_eq_decide] <;> omega
theorem TabA.xtS {m M : Mem} {v : Value} {T : List (List Int)} (h : TabA m v T) (hx : Ext m M) : TabA M v T := by
  obtain ⟨n0, rfl, _⟩ := hx
  exact h.ro.ext n0
theorem TabA.rowS {m M : Mem} {v : Value} {T : List (List Int)} (h : TabA m v T) (hX : Ext m M) {t : Nat} (ht : t < T.length) : ∃ w, ldA M none (pAt v t) = some w ∧ IntsA (roM m) w (T.getD t []) := by
  obtain ⟨w, h1, h2⟩ := h.ro.ld t ht
  obtain ⟨n0, rfl, _⟩ := hX
  exact ⟨w, ldA_ext h1, h2⟩
theorem l5Goods_rc (m : Mem) (v : Value) (T : List (List Int)) (h : TabA m v T) : RC Try.prog 44 [v] m fun r new => r = .bool (gdsB T) ∧ new = [] := by
  refine rc_of_run mixed ok_spec_l5Goods (by simp) (go_start _ _ _ ?_)
  have hr := h.ro
  have hb := hr.bd
  simp (config := {implicitDefEqProofs := false, maxDischargeDepth := 20}) (disch := first | omega | (simp only [lenE]; done) | (simp only [lenE]; omega) | rfl | (simp only [lenE, markR_len]; done) | (simp only [lenE, markR_len]; omega)) only [runE, mapE, listE, initT_5, initT_6, initT_7, initT_8, resV, oneV, binA, unA, reduceCtorEq, Nat.reduceEqDiff, Nat.reduceAdd, Nat.reduceLT, Nat.reduceLeDiff, Nat.reduceMul, Nat.reduceSub, ↓reduceIte, decide_true, decide_false, Bool.true_eq_false, Bool.false_eq_true, Bool.not_true, Bool.not_false, if_true, if_false, and_true, true_and, memE, celE, w64, Nat.zero_add, Nat.add_zero, Nat.mul_one, putL, and_self, ldn, c_spec_l5Goods, r_spec_l5Goods]
  refine loop_inv mixed (fun s => ∃ k : Nat, k ≤ T.length ∧ (∀ j, j < k → distB (T.getD j []) = true ∧ tot (T.getD j []) = tot (T.getD 0 [])) ∧ s.t 0 = v ∧ s.t 3 = .int .i64 k ∧ s.m = roM m) (fun s => T.length - (intOf (s.t 3)).toNat)
    ⟨0, by omega, fun j hj => absurd hj (by omega), rfl, rfl, rfl⟩ ?_
  rintro s ⟨k, hk, hal, t0, t3, tm⟩
  by_cases hlt : k < T.length
  · have hlt' : (k : Int) < T.length := by omega
    obtain ⟨w, hw, hi⟩ := h.rowS (Ext.refl m) hlt
    obtain ⟨w0, hw0, hi0⟩ := h.rowS (Ext.refl m) (t := 0) (by omega)
    have a0 : iadA 1 v (.int .i64 0) = some (pAt v 0) := hr.at_ 0 (by omega)
    simp (config := {implicitDefEqProofs := false, maxDischargeDepth := 20}) (disch := first | omega | (simp only [lenE]; done) | (simp only [lenE]; omega) | rfl | (simp only [lenE, markR_len]; done) | (simp only [lenE, markR_len]; omega)) only [runE, mapE, listE, initT_5, initT_6, initT_7, initT_8, resV, oneV, binA, unA, reduceCtorEq, Nat.reduceEqDiff, Nat.reduceAdd, Nat.reduceLT, Nat.reduceLeDiff, Nat.reduceMul, Nat.reduceSub, ↓reduceIte, decide_true, decide_false, Bool.true_eq_false, Bool.false_eq_true, Bool.not_true, Bool.not_false, if_true, if_false, and_true, true_and, memE, celE, w64, Nat.zero_add, Nat.add_zero, Nat.mul_one, putL, and_self, ldn, tm, t0, t3, hr.len, hlt', hr.at_ k hlt, hw]
    first | refine callH_rc (l5Good_rc _ w _ hi) ?_ | refine rcallH_rc (l5Good_rc _ w _ hi) ?_
    rintro r new ⟨rfl, rfl⟩
    rw [List.append_nil]
    cases hd0 : distB (T.getD k []) with
    | false =>
      simp (config := {implicitDefEqProofs := false, maxDischargeDepth := 20}) (disch := first | omega | (simp only [lenE]; done) | (simp only [lenE]; omega) | rfl | (simp only [lenE, markR_len]; done) | (simp only [lenE, markR_len]; omega)) only [runE, mapE, listE, initT_5, initT_6, initT_7, initT_8, resV, oneV, binA, unA, reduceCtorEq, Nat.reduceEqDiff, Nat.reduceAdd, Nat.reduceLT, Nat.reduceLeDiff, Nat.reduceMul, Nat.reduceSub, ↓reduceIte, decide_true, decide_false, Bool.true_eq_false, Bool.false_eq_true, Bool.not_true, Bool.not_false, if_true, if_false, and_true, true_and, memE, celE, w64, Nat.zero_add, Nat.add_zero, Nat.mul_one, putL, and_self, ldn, tm, t0, t3]
      exact newQ_nil ⟨by rw [gds_no hlt (by rw [hd0]; simp)], rfl⟩
    | true =>
      have hd := dist_iff.1 hd0
      have hdz : Dist (T.getD 0 []) := by
        by_cases e0 : k = 0
        · subst e0; exact hd
        · exact dist_iff.1 (hal 0 (by omega)).1
      simp (config := {implicitDefEqProofs := false, maxDischargeDepth := 20}) (disch := first | omega | (simp only [lenE]; done) | (simp only [lenE]; omega) | rfl | (simp only [lenE, markR_len]; done) | (simp only [lenE, markR_len]; omega)) only [runE, mapE, listE, initT_5, initT_6, initT_7, initT_8, resV, oneV, binA, unA, reduceCtorEq, Nat.reduceEqDiff, Nat.reduceAdd, Nat.reduceLT, Nat.reduceLeDiff, Nat.reduceMul, Nat.reduceSub, ↓reduceIte, decide_true, decide_false, Bool.true_eq_false, Bool.false_eq_true, Bool.not_true, Bool.not_false, if_true, if_false, and_true, true_and, memE, celE, w64, Nat.zero_add, Nat.add_zero, Nat.mul_one, putL, and_self, ldn, tm, t0, t3, hr.at_ k hlt, hw, a0, hw0]
      first | refine callH_rc (l5Total_rc _ w _ hi hd.small) ?_ | refine rcallH_rc (l5Total_rc _ w _ hi hd.small) ?_
      rintro r new ⟨rfl, rfl⟩
      rw [List.append_nil]
      simp (config := {implicitDefEqProofs := false, maxDischargeDepth := 20}) (disch := first | omega | (simp only [lenE]; done) | (simp only [lenE]; omega) | rfl | (simp only [lenE, markR_len]; done) | (simp only [lenE, markR_len]; omega)) only [runE, mapE, listE, initT_5, initT_6, initT_7, initT_8, resV, oneV, binA, unA, reduceCtorEq, Nat.reduceEqDiff, Nat.reduceAdd, Nat.reduceLT, Nat.reduceLeDiff, Nat.reduceMul, Nat.reduceSub, ↓reduceIte, decide_true, decide_false, Bool.true_eq_false, Bool.false_eq_true, Bool.not_true, Bool.not_false, if_true, if_false, and_true, true_and, memE, celE, w64, Nat.zero_add, Nat.add_zero, Nat.mul_one, putL, and_self, ldn, tm, t0, t3, a0, hw0]
      first | refine callH_rc (l5Total_rc _ w0 _ hi0 hdz.small) ?_ | refine rcallH_rc (l5Total_rc _ w0 _ hi0 hdz.small) ?_
      rintro r new ⟨rfl, rfl⟩
      rw [List.append_nil]
      by_cases he : tot (T.getD k []) = tot (T.getD 0 [])
      · have he2 : (tot (T.getD k []) != tot (T.getD 0 [])) = false := by rw [he]; exact bne_self_eq_false _
        simp (config := {implicitDefEqProofs := false, maxDischargeDepth := 20}) (disch := first | omega | (simp only [lenE]; done) | (simp only [lenE]; omega) | rfl | (simp only [lenE, markR_len]; done) | (simp only [lenE, markR_len]; omega)) only [runE, mapE, listE, initT_5, initT_6, initT_7, initT_8, resV, oneV, binA, unA, reduceCtorEq, Nat.reduceEqDiff, Nat.reduceAdd, Nat.reduceLT, Nat.reduceLeDiff, Nat.reduceMul, Nat.reduceSub, ↓reduceIte, decide_true, decide_false, Bool.true_eq_false, Bool.false_eq_true, Bool.not_true, Bool.not_false, if_true, if_false, and_true, true_and, memE, celE, w64, Nat.zero_add, Nat.add_zero, Nat.mul_one, putL, and_self, ldn, tm, t0, t3, he2]
        refine ⟨⟨k + 1, by omega, fun j hj => ?_, by simp⟩, by simp [intOf]; omega⟩
        by_cases ej : j = k
        · subst ej; exact ⟨hd0, he⟩
        · exact hal j (by omega)
      · have he2 : (tot (T.getD k []) != tot (T.getD 0 [])) = true := bne_iff_ne.2 he
        simp (config := {implicitDefEqProofs := false, maxDischargeDepth := 20}) (disch := first | omega | (simp only [lenE]; done) | (simp only [lenE]; omega) | rfl | (simp only [lenE, markR_len]; done) | (simp only [lenE, markR_len]; omega)) only [runE, mapE, listE, initT_5, initT_6, initT_7, initT_8, resV, oneV, binA, unA, reduceCtorEq, Nat.reduceEqDiff, Nat.reduceAdd, Nat.reduceLT, Nat.reduceLeDiff, Nat.reduceMul, Nat.reduceSub, ↓reduceIte, decide_true, decide_false, Bool.true_eq_false, Bool.false_eq_true, Bool.not_true, Bool.not_false, if_true, if_false, and_true, true_and, memE, celE, w64, Nat.zero_add, Nat.add_zero, Nat.mul_one, putL, and_self, ldn, tm, t0, t3, he2]
        exact newQ_nil ⟨by rw [gds_no hlt (fun h => he h.2)], rfl⟩
  · have hlt' : ¬ ((k : Int) < T.length) := by omega
    obtain rfl : k = T.length := by omega
    simp (config := {implicitDefEqProofs := false, maxDischargeDepth := 20}) (disch := first | omega | (simp only [lenE]; done) | (simp only [lenE]; omega) | rfl | (simp only [lenE, markR_len]; done) | (simp only [lenE, markR_len]; omega)) only [runE, mapE, listE, initT_5, initT_6, initT_7, initT_8, resV, oneV, binA, unA, reduceCtorEq, Nat.reduceEqDiff, Nat.reduceAdd, Nat.reduceLT, Nat.reduceLeDiff, Nat.reduceMul, Nat.reduceSub, ↓reduceIte, decide_true, decide_false, Bool.true_eq_false, Bool.false_eq_true, Bool.not_true, Bool.not_false, if_true, if_false, and_true, true_and, memE, celE, w64, Nat.zero_add, Nat.add_zero, Nat.mul_one, putL, and_self, ldn, tm, t0, t3, hr.len, hlt']
    first | refine callH_rc (l1In_rc _ _ _ _) ?_ | refine rcallH_rc (l1In_rc _ _ _ _) ?_
    rintro r new ⟨rfl, rfl⟩
    rw [List.append_nil]
    simp (config := {implicitDefEqProofs := false, maxDischargeDepth := 20}) (disch := first | omega | (simp only [lenE]; done) | (simp only [lenE]; omega) | rfl | (simp only [lenE, markR_len]; done) | (simp only [lenE, markR_len]; omega)) only [runE, mapE, listE, initT_5, initT_6, initT_7, initT_8, resV, oneV, binA, unA, reduceCtorEq, Nat.reduceEqDiff, Nat.reduceAdd, Nat.reduceLT, Nat.reduceLeDiff, Nat.reduceMul, Nat.reduceSub, ↓reduceIte, decide_true, decide_false, Bool.true_eq_false, Bool.false_eq_true, Bool.not_true, Bool.not_false, if_true, if_false, and_true, true_and, memE, celE, w64, Nat.zero_add, Nat.add_zero, Nat.mul_one, putL, and_self, ldn, tm]
    exact newQ_nil ⟨by rw [gds_end hal], rfl⟩
theorem gdc_no {T : List (List Int)} {o u : Int} {k : Nat} (hk : k < T.length) (h : ¬ ((distB (T.getD k []) && chB o u) = true ∧ tot (T.getD k []) = tot (T.getD 0 []))) : (gdsB T && chB o u) = false := by
  rw [Bool.eq_false_iff]
  intro hg
  rw [Bool.and_eq_true] at hg
  have hs := gds_iff.1 hg.1
  exact h ⟨by rw [Bool.and_eq_true]; exact ⟨dist_iff.2 (hs.d k hk), hg.2⟩, hs.t k hk⟩
theorem areGoods_rc (m : Mem) (v : Value) (T : List (List Int)) (o u : Int) (h : TabA m v T) : RC Try.prog 49 [v, .int .i64 o, .int .i64 u] m (AnsV (.bool (gdsB T && chB o u))) := by
  refine rc_of_run mixed ok_impl_areGoods (by simp) (go_start _ _ _ ?_)
  have hr := h.ro
  have hb := hr.bd
  by_cases hz : T.length = 0
  · have hz' : ((T.length : Int) == 0) = true := by rw [hz]; rfl
    simp (config := {implicitDefEqProofs := false, maxDischargeDepth := 20}) (disch := first | omega | (simp only [lenE]; done) | (simp only [lenE]; omega) | rfl | (simp only [lenE, markR_len]; done) | (simp only [lenE, markR_len]; omega)) only [runE, mapE, listE, initT_5, initT_6, initT_7, initT_8, resV, oneV, binA, unA, reduceCtorEq, Nat.reduceEqDiff, Nat.reduceAdd, Nat.reduceLT, Nat.reduceLeDiff, Nat.reduceMul, Nat.reduceSub, ↓reduceIte, decide_true, decide_false, Bool.true_eq_false, Bool.false_eq_true, Bool.not_true, Bool.not_false, if_true, if_false, and_true, true_and, memE, celE, w64, Nat.zero_add, Nat.add_zero, Nat.mul_one, putL, and_self, ldn, c_impl_areGoods, r_impl_areGoods, hr.len, hz']
    exact ext_ansV (Ext.refl m) (by unfold gdsB; simp [hz])
  have hz' : ((T.length : Int) == 0) = false := by rw [beq_eq_false_iff_ne]; omega
  by_cases h3 : (3 : Int) < T.length
  · simp (config := {implicitDefEqProofs := false, maxDischargeDepth := 20}) (disch := first | omega | (simp only [lenE]; done) | (simp only [lenE]; omega) | rfl | (simp only [lenE, markR_len]; done) | (simp only [lenE, markR_len]; omega)) only [runE, mapE, listE, initT_5, initT_6, initT_7, initT_8, resV, oneV, binA, unA, reduceCtorEq, Nat.reduceEqDiff, Nat.reduceAdd, Nat.reduceLT, Nat.reduceLeDiff, Nat.reduceMul, Nat.reduceSub, ↓reduceIte, decide_true, decide_false, Bool.true_eq_false, Bool.false_eq_true, Bool.not_true, Bool.not_false, if_true, if_false, and_true, true_and, memE, celE, w64, Nat.zero_add, Nat.add_zero, Nat.mul_one, putL, and_self, ldn, c_impl_areGoods, r_impl_areGoods, hr.len, hz', h3]
    exact ext_ansV (Ext.refl m) (by unfold gdsB; rw [show decide (T.length ≤ 3) = false by simp; omega]; simp)
  simp (config := {implicitDefEqProofs := false, maxDischargeDepth := 20}) (disch := first | omega | (simp only [lenE]; done) | (simp only [lenE]; omega) | rfl | (simp only [lenE, markR_len]; done) | (simp only [lenE, markR_len]; omega)) only [runE, mapE, listE, initT_5, initT_6, initT_7, initT_8, resV, oneV, binA, unA, reduceCtorEq, Nat.reduceEqDiff, Nat.reduceAdd, Nat.reduceLT, Nat.reduceLeDiff, Nat.reduceMul, Nat.reduceSub, ↓reduceIte, decide_true, decide_false, Bool.true_eq_false, Bool.false_eq_true, Bool.not_true, Bool.not_false, if_true, if_false, and_true, true_and, memE, celE, w64, Nat.zero_add, Nat.add_zero, Nat.mul_one, putL, and_self, ldn, c_impl_areGoods, r_impl_areGoods, hr.len, hz', h3]
  refine loop_inv mixed (fun s => ∃ (k : Nat) (M : Mem), k ≤ T.length ∧ (∀ j, j < k → (distB (T.getD j []) && chB o u) = true ∧ tot (T.getD j []) = tot (T.getD 0 [])) ∧ Ext m M ∧ s.t 0 = v ∧ s.t 1 = .int .i64 o ∧ s.t 2 = .int .i64 u ∧ s.t 17 = v ∧ s.t 18 = .int .i64 T.length ∧ s.t 19 = .int .i64 k ∧ s.m = M) (fun s => T.length - (intOf (s.t 19)).toNat)
    ⟨0, _, by omega, fun j hj => absurd hj (by omega), Ext.refl m, rfl, rfl, rfl, rfl, rfl, rfl, rfl⟩ ?_
  rintro s ⟨k, M, hk, hal, hX, t0, t1, t2, t17, t18, t19, tm⟩
  by_cases hlt : k < T.length
  · have hlt' : (k : Int) < T.length := by omega
    obtain ⟨w, hw, hi⟩ := h.rowS hX hlt
    have hiM := hX.ints hi
    simp (config := {implicitDefEqProofs := false, maxDischargeDepth := 20}) (disch := first | omega | (simp only [lenE]; done) | (simp only [lenE]; omega) | rfl | (simp only [lenE, markR_len]; done) | (simp only [lenE, markR_len]; omega)) only [runE, mapE, listE, initT_5, initT_6, initT_7, initT_8, resV, oneV, binA, unA, reduceCtorEq, Nat.reduceEqDiff, Nat.reduceAdd, Nat.reduceLT, Nat.reduceLeDiff, Nat.reduceMul, Nat.reduceSub, ↓reduceIte, decide_true, decide_false, Bool.true_eq_false, Bool.false_eq_true, Bool.not_true, Bool.not_false, if_true, if_false, and_true, true_and, memE, celE, w64, Nat.zero_add, Nat.add_zero, Nat.mul_one, putL, and_self, ldn, tm, t0, t1, t2, t17, t18, t19, hlt', hr.at_ k hlt, hw]
    first | refine callH_rc (isCharged_rc _ w _ o u hiM) ?_ | refine rcallH_rc (isCharged_rc _ w _ o u hiM) ?_
    rintro r new ⟨rfl, nr⟩
    replace hX := hX.app nr
    obtain ⟨M1, hM1⟩ : ∃ M1, M1 = M ++ new := ⟨_, rfl⟩
    rw [← hM1] at hX ⊢
    obtain ⟨w', hw', -⟩ := h.rowS hX hlt
    obtain ⟨w0, hw0, hi0⟩ := h.rowS hX (t := 0) (by omega)
    have hi := hX.ints hi
    have a0 : iadA 1 v (.int .i64 0) = some (pAt v 0) := hr.at_ 0 (by omega)
    cases hd0 : (distB (T.getD k []) && chB o u) with
    | false =>
      simp (config := {implicitDefEqProofs := false, maxDischargeDepth := 20}) (disch := first | omega | (simp only [lenE]; done) | (simp only [lenE]; omega) | rfl | (simp only [lenE, markR_len]; done) | (simp only [lenE, markR_len]; omega)) only [runE, mapE, listE, initT_5, initT_6, initT_7, initT_8, resV, oneV, binA, unA, reduceCtorEq, Nat.reduceEqDiff, Nat.reduceAdd, Nat.reduceLT, Nat.reduceLeDiff, Nat.reduceMul, Nat.reduceSub, ↓reduceIte, decide_true, decide_false, Bool.true_eq_false, Bool.false_eq_true, Bool.not_true, Bool.not_false, if_true, if_false, and_true, true_and, memE, celE, w64, Nat.zero_add, Nat.add_zero, Nat.mul_one, putL, and_self, ldn, tm, t0, t1, t2, t17, t18, t19]
      exact ext_ansV hX (by rw [gdc_no hlt (by rw [hd0]; simp)])
    | true =>
      have hd := (dcB_yes hd0).1
      have hdz : Dist (T.getD 0 []) := by
        by_cases e0 : k = 0
        · subst e0; exact hd
        · exact (dcB_yes (hal 0 (by omega)).1).1
      simp (config := {implicitDefEqProofs := false, maxDischargeDepth := 20}) (disch := first | omega | (simp only [lenE]; done) | (simp only [lenE]; omega) | rfl | (simp only [lenE, markR_len]; done) | (simp only [lenE, markR_len]; omega)) only [runE, mapE, listE, initT_5, initT_6, initT_7, initT_8, resV, oneV, binA, unA, reduceCtorEq, Nat.reduceEqDiff, Nat.reduceAdd, Nat.reduceLT, Nat.reduceLeDiff, Nat.reduceMul, Nat.reduceSub, ↓reduceIte, decide_true, decide_false, Bool.true_eq_false, Bool.false_eq_true, Bool.not_true, Bool.not_false, if_true, if_false, and_true, true_and, memE, celE, w64, Nat.zero_add, Nat.add_zero, Nat.mul_one, putL, and_self, ldn, tm, t0, t1, t2, t17, t18, t19, a0, hw0]
      first | refine callH_rc (sumOf_rc _ w _ hi hd.small) ?_ | refine rcallH_rc (sumOf_rc _ w _ hi hd.small) ?_
      rintro r new ⟨rfl, rfl⟩
      rw [List.append_nil]
      simp (config := {implicitDefEqProofs := false, maxDischargeDepth := 20}) (disch := first | omega | (simp only [lenE]; done) | (simp only [lenE]; omega) | rfl | (simp only [lenE, markR_len]; done) | (simp only [lenE, markR_len]; omega)) only [runE, mapE, listE, initT_5, initT_6, initT_7, initT_8, resV, oneV, binA, unA, reduceCtorEq, Nat.reduceEqDiff, Nat.reduceAdd, Nat.reduceLT, Nat.reduceLeDiff, Nat.reduceMul, Nat.reduceSub, ↓reduceIte, decide_true, decide_false, Bool.true_eq_false, Bool.false_eq_true, Bool.not_true, Bool.not_false, if_true, if_false, and_true, true_and, memE, celE, w64, Nat.zero_add, Nat.add_zero, Nat.mul_one, putL, and_self, ldn, tm, t0, t1, t2, t17, t18, t19, a0, hw0]
      first | refine callH_rc (sumOf_rc _ w0 _ (hX.ints hi0) hdz.small) ?_ | refine rcallH_rc (sumOf_rc _ w0 _ (hX.ints hi0) hdz.small) ?_
      rintro r new ⟨rfl, rfl⟩
      rw [List.append_nil, show sumTo (T.getD k []) (T.getD k []).length = tot (T.getD k []) from rfl, show sumTo (T.getD 0 []) (T.getD 0 []).length = tot (T.getD 0 []) from rfl]
      by_cases he : tot (T.getD k []) = tot (T.getD 0 [])
      · have he2 : (tot (T.getD k []) != tot (T.getD 0 [])) = false := by rw [he]; exact bne_self_eq_false _
        simp (config := {implicitDefEqProofs := false, maxDischargeDepth := 20}) (disch := first | omega | (simp only [lenE]; done) | (simp only [lenE]; omega) | rfl | (simp only [lenE, markR_len]; done) | (simp only [lenE, markR_len]; omega)) only [runE, mapE, listE, initT_5, initT_6, initT_7, initT_8, resV, oneV, binA, unA, reduceCtorEq, Nat.reduceEqDiff, Nat.reduceAdd, Nat.reduceLT, Nat.reduceLeDiff, Nat.reduceMul, Nat.reduceSub, ↓reduceIte, decide_true, decide_false, Bool.true_eq_false, Bool.false_eq_true, Bool.not_true, Bool.not_false, if_true, if_false, and_true, true_and, memE, celE, w64, Nat.zero_add, Nat.add_zero, Nat.mul_one, putL, and_self, ldn, tm, t0, t1, t2, t17, t18, t19, he2]
        refine ⟨⟨k + 1, _, by omega, fun j hj => ?_, hX, by simp⟩, by simp [intOf]; omega⟩
        by_cases ej : j = k
        · subst ej; exact ⟨hd0, he⟩
        · exact hal j (by omega)
      · have he2 : (tot (T.getD k []) != tot (T.getD 0 [])) = true := bne_iff_ne.2 he
        simp (config := {implicitDefEqProofs := false, maxDischargeDepth := 20}) (disch := first | omega | (simp only [lenE]; done) | (simp only [lenE]; omega) | rfl | (simp only [lenE, markR_len]; done) | (simp only [lenE, markR_len]; omega)) only [runE, mapE, listE, initT_5, initT_6, initT_7, initT_8, resV, oneV, binA, unA, reduceCtorEq, Nat.reduceEqDiff, Nat.reduceAdd, Nat.reduceLT, Nat.reduceLeDiff, Nat.reduceMul, Nat.reduceSub, ↓reduceIte, decide_true, decide_false, Bool.true_eq_false, Bool.false_eq_true, Bool.not_true, Bool.not_false, if_true, if_false, and_true, true_and, memE, celE, w64, Nat.zero_add, Nat.add_zero, Nat.mul_one, putL, and_self, ldn, tm, t0, t1, t2, t17, t18, t19, he2]
        exact ext_ansV hX (by rw [gdc_no hlt (fun h => he h.2)])
  · have hlt' : ¬ ((k : Int) < T.length) := by omega
    obtain rfl : k = T.length := by omega
    simp (config := {implicitDefEqProofs := false, maxDischargeDepth := 20}) (disch := first | omega | (simp only [lenE]; done) | (simp only [lenE]; omega) | rfl | (simp only [lenE, markR_len]; done) | (simp only [lenE, markR_len]; omega)) only [runE, mapE, listE, initT_5, initT_6, initT_7, initT_8, resV, oneV, binA, unA, reduceCtorEq, Nat.reduceEqDiff, Nat.reduceAdd, Nat.reduceLT, Nat.reduceLeDiff, Nat.reduceMul, Nat.reduceSub, ↓reduceIte, decide_true, decide_false, Bool.true_eq_false, Bool.false_eq_true, Bool.not_true, Bool.not_false, if_true, if_false, and_true, true_and, memE, celE, w64, Nat.zero_add, Nat.add_zero, Nat.mul_one, putL, and_self, ldn, tm, t0, t1, t2, t17, t18, t19, hlt']
    refine ext_ansV hX ?_
    have h0 := (hal 0 (by omega)).1
    rw [Bool.and_eq_true] at h0
    rw [h0.2, gds_end (fun j hj => ⟨by have := (hal j hj).1; rw [Bool.and_eq_true] at this; exact this.1, (hal j hj).2⟩)]
    simp; omega

/-! What the specification does. -/
theorem bsl_noneS {m : Mem} : bslA m 3 1 0 [] [] = some (.slice (some ⟨m.length, 0, none⟩) 0 1, m ++ [⟨.own, 3, []⟩]) := rfl
def rowS (M : Mem) : Value → List Int
  | .slice (some ⟨id, _, _⟩) _ _ => match M[id]? with
    | some b => b.cs.map intOf
    | none => []
  | _ => []
theorem OwnR.rowS {M : Mem} {id n fl : Nat} {L : List Int} (h : OwnR M id L) : rowS M (.slice (some ⟨id, 0, none⟩) n fl) = L := by
  unfold OwnR at h
  simp only [Ab.rowS, h, rowB, List.map_map]
  exact List.map_id'' (fun _ => rfl) L
theorem small15 {l : List Int} (h : ∀ k, 0 ≤ l.getD k 0 ∧ l.getD k 0 ≤ 15) : ∀ x ∈ l, 0 ≤ x ∧ x ≤ 15 := by
  intro x hx
  obtain ⟨k, hk, rfl⟩ := List.getElem_of_mem hx
  have := h k
  rwa [List.getD_eq_getElem?_getD, List.getElem?_eq_getElem hk] at this
theorem scanBd {T : List (List Int)} {o u : Int} (h : Gds T) (ho : 0 ≤ o ∧ o ≤ 20) (hu : 0 ≤ u ∧ u ≤ 20) (n k : Nat) (hk : k ≤ T.length) : (-1 ≤ (scanF (lessF T o u (steps T o u n)) k).1 ∧ (scanF (lessF T o u (steps T o u n)) k).1 ≤ 3) ∧ 0 ≤ (scanF (lessF T o u (steps T o u n)) k).2 ∧ (scanF (lessF T o u (steps T o u n)) k).2 ≤ 20480000 := by
  have h3 := h.l3
  obtain ⟨h0, h1⟩ := scanF_in (lessF T o u (steps T o u n)) k
  rcases h1 with e | ⟨j, hj, e1, e2, e3⟩
  · refine ⟨by omega, h0, ?_⟩
    clear h0
    induction k with
    | zero => simp [scanF]
    | succ k ih =>
      simp only [scanF] at e ⊢
      by_cases hs : (scanF (lessF T o u (steps T o u n)) k).2 < lessF T o u (steps T o u n) k
      · rw [if_pos hs] at e; simp only at e; omega
      · rw [if_neg hs] at e ⊢; exact ih (by omega) e
  · refine ⟨by omega, h0, ?_⟩
    rw [e2]
    have s := steps_in h ho.1 hu.1 n j
    have c1 := cost_in (h.d j (by omega)) ho hu (q := ((steps T o u n).getD j 0).toNat) (by omega)
    have c2 := cost_in (h.d j (by omega)) ho hu (q := ((steps T o u n).getD j 0).toNat + 1) (by omega)
    unfold lessF
    omega
theorem stepA_yes {T : List (List Int)} {o u n : Int} {c : Bool} (h : stepOk T o u n c = true) : stepA T o u n c = steps T o u n.toNat := by unfold stepA; rw [h]; rfl
theorem stepA_no {T : List (List Int)} {o u n : Int} {c : Bool} (h : stepOk T o u n c = false) : stepA T o u n c = [] := by unfold stepA; rw [h]; rfl
theorem ext_rowS {m M : Mem} {l : List Int} {id n fl : Nat} {f : Value → Value} (h : Ext m M) (ho : OwnR M id l) (hid : m.length ≤ id) (hn : n = l.length) (hl : l.length ≤ 1048576) : newQ m (AnsO m (IntsO l) f) (f (.slice (some ⟨id, 0, none⟩) n fl)) M := by
  subst hn
  exact ext_ansO h fun M' hM => IntsA.ownO (ho.at_ (hM _ hid ho.lt)) hl hid ho.lt
theorem specStep5_rc (m : Mem) (v : Value) (T : List (List Int)) (o u n : Int) (h : TabA m v T) :
    RC Try.prog 26 [v, .int .i64 o, .int .i64 u, .int .i64 n] m (AnsO m (IntsO (stepA T o u n (chB o u))) fun w => .tuple #[w, .bool (stepOk T o u n (chB o u))]) := by
  refine rc_of_run mixed ok_spec_StepOrders (by simp) (go_start _ _ _ ?_)
  have hr := h.ro
  simp (config := {implicitDefEqProofs := false, maxDischargeDepth := 20}) (disch := first | omega | (simp only [lenE]; done) | (simp only [lenE]; omega) | rfl | (simp only [lenE, markR_len]; done) | (simp only [lenE, markR_len]; omega)) only [runE, mapE, listE, initT_5, initT_6, initT_7, initT_8, resV, oneV, binA, unA, reduceCtorEq, Nat.reduceEqDiff, Nat.reduceAdd, Nat.reduceLT, Nat.reduceLeDiff, Nat.reduceMul, Nat.reduceSub, ↓reduceIte, decide_true, decide_false, Bool.true_eq_false, Bool.false_eq_true, Bool.not_true, Bool.not_false, if_true, if_false, and_true, true_and, memE, celE, w64, Nat.zero_add, Nat.add_zero, Nat.mul_one, putL, and_self, ldn, c_spec_StepOrders, r_spec_StepOrders]
  first | refine callH_rc (l5Goods_rc _ v T hr) ?_ | refine rcallH_rc (l5Goods_rc _ v T hr) ?_
  rintro r new ⟨rfl, rfl⟩
  rw [List.append_nil]
  have stop : ∀ {b : Bool}, b = false → stepOk T o u n (chB o u) = b → newQ m (AnsO m (IntsO (stepA T o u n (chB o u))) fun w => .tuple #[w, .bool (stepOk T o u n (chB o u))]) (.tuple #[.slice (some ⟨m.length, 0, none⟩) 0 1, .bool false]) (roM m ++ [⟨.own, 3, ([] : List Int).map (Value.int .i64)⟩]) := by
    intro b hb hs
    subst hb
    rw [stepA_no hs, hs]
    exact ext_rowS (f := fun w => .tuple #[w, .bool false]) ((Ext.refl m).one _ _) (OwnR.end' (by simp [roM_len])) (by omega) rfl (by simp)
  cases hg : gdsB T with
  | false =>
    simp (config := {implicitDefEqProofs := false, maxDischargeDepth := 20}) (disch := first | omega | (simp only [lenE]; done) | (simp only [lenE]; omega) | rfl | (simp only [lenE, markR_len]; done) | (simp only [lenE, markR_len]; omega)) only [runE, mapE, listE, initT_5, initT_6, initT_7, initT_8, resV, oneV, binA, unA, reduceCtorEq, Nat.reduceEqDiff, Nat.reduceAdd, Nat.reduceLT, Nat.reduceLeDiff, Nat.reduceMul, Nat.reduceSub, ↓reduceIte, decide_true, decide_false, Bool.true_eq_false, Bool.false_eq_true, Bool.not_true, Bool.not_false, if_true, if_false, and_true, true_and, memE, celE, w64, Nat.zero_add, Nat.add_zero, Nat.mul_one, putL, and_self, ldn, bsl_none]
    exact stop rfl (by unfold stepOk; rw [hg]; rfl)
  | true =>
  simp (config := {implicitDefEqProofs := false, maxDischargeDepth := 20}) (disch := first | omega | (simp only [lenE]; done) | (simp only [lenE]; omega) | rfl | (simp only [lenE, markR_len]; done) | (simp only [lenE, markR_len]; omega)) only [runE, mapE, listE, initT_5, initT_6, initT_7, initT_8, resV, oneV, binA, unA, reduceCtorEq, Nat.reduceEqDiff, Nat.reduceAdd, Nat.reduceLT, Nat.reduceLeDiff, Nat.reduceMul, Nat.reduceSub, ↓reduceIte, decide_true, decide_false, Bool.true_eq_false, Bool.false_eq_true, Bool.not_true, Bool.not_false, if_true, if_false, and_true, true_and, memE, celE, w64, Nat.zero_add, Nat.add_zero, Nat.mul_one, putL, and_self, ldn]
  first | refine callH_rc (l5Charges_rc _ o u) ?_ | refine rcallH_rc (l5Charges_rc _ o u) ?_
  rintro r new ⟨rfl, rfl⟩
  rw [List.append_nil]
  cases hc : chB o u with
  | false =>
    rw [hc] at stop
    simp (config := {implicitDefEqProofs := false, maxDischargeDepth := 20}) (disch := first | omega | (simp only [lenE]; done) | (simp only [lenE]; omega) | rfl | (simp only [lenE, markR_len]; done) | (simp only [lenE, markR_len]; omega)) only [runE, mapE, listE, initT_5, initT_6, initT_7, initT_8, resV, oneV, binA, unA, reduceCtorEq, Nat.reduceEqDiff, Nat.reduceAdd, Nat.reduceLT, Nat.reduceLeDiff, Nat.reduceMul, Nat.reduceSub, ↓reduceIte, decide_true, decide_false, Bool.true_eq_false, Bool.false_eq_true, Bool.not_true, Bool.not_false, if_true, if_false, and_true, true_and, memE, celE, w64, Nat.zero_add, Nat.add_zero, Nat.mul_one, putL, and_self, ldn, bsl_none]
    exact stop rfl (by unfold stepOk; simp)
  | true =>
  rw [hc] at stop
  simp (config := {implicitDefEqProofs := false, maxDischargeDepth := 20}) (disch := first | omega | (simp only [lenE]; done) | (simp only [lenE]; omega) | rfl | (simp only [lenE, markR_len]; done) | (simp only [lenE, markR_len]; omega)) only [runE, mapE, listE, initT_5, initT_6, initT_7, initT_8, resV, oneV, binA, unA, reduceCtorEq, Nat.reduceEqDiff, Nat.reduceAdd, Nat.reduceLT, Nat.reduceLeDiff, Nat.reduceMul, Nat.reduceSub, ↓reduceIte, decide_true, decide_false, Bool.true_eq_false, Bool.false_eq_true, Bool.not_true, Bool.not_false, if_true, if_false, and_true, true_and, memE, celE, w64, Nat.zero_add, Nat.add_zero, Nat.mul_one, putL, and_self, ldn]
  first | refine callH_rc (l1In_rc _ _ _ _) ?_ | refine rcallH_rc (l1In_rc _ _ _ _) ?_
  rintro r new ⟨rfl, rfl⟩
  rw [List.append_nil]
  cases hn : (decide (0 ≤ n) && decide (n ≤ 60)) with
  | false =>
    simp (config := {implicitDefEqProofs := false, maxDischargeDepth := 20}) (disch := first | omega | (simp only [lenE]; done) | (simp only [lenE]; omega) | rfl | (simp only [lenE, markR_len]; done) | (simp only [lenE, markR_len]; omega)) only [runE, mapE, listE, initT_5, initT_6, initT_7, initT_8, resV, oneV, binA, unA, reduceCtorEq, Nat.reduceEqDiff, Nat.reduceAdd, Nat.reduceLT, Nat.reduceLeDiff, Nat.reduceMul, Nat.reduceSub, ↓reduceIte, decide_true, decide_false, Bool.true_eq_false, Bool.false_eq_true, Bool.not_true, Bool.not_false, if_true, if_false, and_true, true_and, memE, celE, w64, Nat.zero_add, Nat.add_zero, Nat.mul_one, putL, and_self, ldn, bsl_none]
    exact stop rfl (by unfold stepOk; rw [hn]; simp)
  | true =>
  clear stop
  have hok : stepOk T o u n true = true := by unfold stepOk; rw [hg, hn]; rfl
  have hn2 : 0 ≤ n ∧ n ≤ 60 := by simpa using hn
  obtain ⟨N, rfl⟩ : ∃ N : Nat, n = N := ⟨n.toNat, (Int.toNat_of_nonneg hn2.1).symm⟩
  have hs := gds_iff.1 hg
  have hcc : (0 ≤ o ∧ o ≤ 20) ∧ (0 ≤ u ∧ u ≤ 20) := by
    have := hc
    unfold chB at this
    rw [Bool.and_eq_true, inB_iff, inB_iff] at this
    exact this
  obtain ⟨ho, hu⟩ := hcc
  have l1 := hs.l1
  have l3 := hs.l3
  rw [stepA_yes hok, hok, Int.toNat_natCast]
  simp (config := {implicitDefEqProofs := false, maxDischargeDepth := 20}) (disch := first | omega | (simp only [lenE]; done) | (simp only [lenE]; omega) | rfl | (simp only [lenE, markR_len]; done) | (simp only [lenE, markR_len]; omega)) only [runE, mapE, listE, initT_5, initT_6, initT_7, initT_8, resV, oneV, binA, unA, reduceCtorEq, Nat.reduceEqDiff, Nat.reduceAdd, Nat.reduceLT, Nat.reduceLeDiff, Nat.reduceMul, Nat.reduceSub, ↓reduceIte, decide_true, decide_false, Bool.true_eq_false, Bool.false_eq_true, Bool.not_true, Bool.not_false, if_true, if_false, and_true, true_and, memE, celE, w64, Nat.zero_add, Nat.add_zero, Nat.mul_one, putL, and_self, ldn, hr.len, mksA_eq (n := T.length) (byt := 8) rfl (by omega)]
  refine loop_inv mixed (fun s => ∃ (i : Nat) (M : Mem), (∀ j, j < i → 0 ≤ (scanF (lessF T o u (steps T o u j)) T.length).1) ∧ i ≤ N ∧ Ext m M ∧ OwnR M m.length (steps T o u i) ∧ s.t 0 = v ∧ s.t 1 = .int .i64 o ∧ s.t 2 = .int .i64 u ∧ s.t 3 = .int .i64 N ∧ s.t 10 = .slice (some ⟨m.length, 0, none⟩) T.length 1 ∧ s.m = M) (fun s => N - (rowS s.m (s.t 10)).sum.toNat)
    ⟨0, _, fun j hj => absurd hj (by omega), by omega, (Ext.refl m).one _ _, OwnR.zeros (by simp [roM_len]), rfl, rfl, rfl, rfl, rfl, rfl⟩ ?_
  rintro s ⟨i, M, hal, hi, hX, hown, t0, t1, t2, t3, t10, tm⟩
  have hsum := steps_sum i hal
  have hlen := steps_len T o u i
  have hin := steps_in hs ho.1 hu.1 i
  have hro := hown.rowS (n := T.length) (fl := 1)
  have hii := hown.ints (by omega) 1
  have hsm := fun k => sumTo_bound (by decide) (small15 hin) k
  rw [hlen] at hii
  simp (config := {implicitDefEqProofs := false, maxDischargeDepth := 20}) (disch := first | omega | (simp only [lenE]; done) | (simp only [lenE]; omega) | rfl | (simp only [lenE, markR_len]; done) | (simp only [lenE, markR_len]; omega)) only [runE, mapE, listE, initT_5, initT_6, initT_7, initT_8, resV, oneV, binA, unA, reduceCtorEq, Nat.reduceEqDiff, Nat.reduceAdd, Nat.reduceLT, Nat.reduceLeDiff, Nat.reduceMul, Nat.reduceSub, ↓reduceIte, decide_true, decide_false, Bool.true_eq_false, Bool.false_eq_true, Bool.not_true, Bool.not_false, if_true, if_false, and_true, true_and, memE, celE, w64, Nat.zero_add, Nat.add_zero, Nat.mul_one, putL, and_self, ldn, tm, t0, t1, t2, t3, t10]
  first | refine callH_rc (l2Sum_rc _ _ _ hii (fun k hk => by have := hsm k; omega)) ?_ | refine rcallH_rc (l2Sum_rc _ _ _ hii (fun k hk => by have := hsm k; omega)) ?_
  rintro r new ⟨rfl, rfl⟩
  rw [List.append_nil, sumTo_all (Nat.le_refl _), hsum]
  by_cases hlt : i < N
  · have hlt' : (i : Int) < N := by omega
    simp (config := {implicitDefEqProofs := false, maxDischargeDepth := 20}) (disch := first | omega | (simp only [lenE]; done) | (simp only [lenE]; omega) | rfl | (simp only [lenE, markR_len]; done) | (simp only [lenE, markR_len]; omega)) only [runE, mapE, listE, initT_5, initT_6, initT_7, initT_8, resV, oneV, binA, unA, reduceCtorEq, Nat.reduceEqDiff, Nat.reduceAdd, Nat.reduceLT, Nat.reduceLeDiff, Nat.reduceMul, Nat.reduceSub, ↓reduceIte, decide_true, decide_false, Bool.true_eq_false, Bool.false_eq_true, Bool.not_true, Bool.not_false, if_true, if_false, and_true, true_and, memE, celE, w64, Nat.zero_add, Nat.add_zero, Nat.mul_one, putL, and_self, ldn, tm, t0, t1, t2, t3, t10, hlt']
    refine loop_inv mixed (fun s => ∃ k : Nat, k ≤ T.length ∧ s.t 0 = v ∧ s.t 1 = .int .i64 o ∧ s.t 2 = .int .i64 u ∧ s.t 3 = .int .i64 N ∧ s.t 10 = .slice (some ⟨m.length, 0, none⟩) T.length 1 ∧ s.t 11 = .int .i64 (scanF (lessF T o u (steps T o u i)) k).1 ∧ s.t 12 = .int .i64 (scanF (lessF T o u (steps T o u i)) k).2 ∧ s.t 13 = .int .i64 k ∧ s.m = M) (fun s => T.length - (intOf (s.t 13)).toNat)
      ⟨0, by omega, t0, t1, t2, t3, t10, rfl, rfl, rfl, rfl⟩ ?_
    rintro s2 ⟨k, hk, t0, t1, t2, t3, t10, t11, t12, t13, tm⟩
    have hsc := scanBd hs ho hu i k hk
    by_cases hkl : k < T.length
    · have hkl' : (k : Int) < T.length := by omega
      obtain ⟨w, hw, hwi⟩ := h.rowS hX hkl
      have hwi := hX.ints hwi
      obtain ⟨q, hq⟩ : ∃ q : Nat, (steps T o u i).getD k 0 = q := ⟨_, (Int.toNat_of_nonneg (hin k).1).symm⟩
      have hq15 := (hin k).2
      have hd := hs.d k hkl
      have hat : iadA 1 (.slice (some ⟨m.length, 0, none⟩) T.length 1) (.int .i64 (k : Int)) = some (.pointer (some ⟨m.length, k, none⟩)) := iad0 rfl hkl
      have hrd := hown.rd' (i := k) (by omega)
      rw [hq] at hrd
      have hf : lessF T o u (steps T o u i) k = costF (T.getD k []) o u q - costF (T.getD k []) o u (q + 1) := by unfold lessF; rw [hq, Int.toNat_natCast]
      have hss : scanF (lessF T o u (steps T o u i)) (k + 1) = if (scanF (lessF T o u (steps T o u i)) k).2 < lessF T o u (steps T o u i) k then ((k : Int), lessF T o u (steps T o u i) k) else scanF (lessF T o u (steps T o u i)) k := rfl
      by_cases h15 : q = 15
      · have h15' : ((q : Int) == 15) = true := by rw [h15]; rfl
        have hle := less_top hs ho.1 hu.1 hkl (out := steps T o u i) (by omega)
        rw [if_neg (by omega)] at hss
        simp (config := {implicitDefEqProofs := false, maxDischargeDepth := 20}) (disch := first | omega | (simp only [lenE]; done) | (simp only [lenE]; omega) | rfl | (simp only [lenE, markR_len]; done) | (simp only [lenE, markR_len]; omega)) only [runE, mapE, listE, initT_5, initT_6, initT_7, initT_8, resV, oneV, binA, unA, reduceCtorEq, Nat.reduceEqDiff, Nat.reduceAdd, Nat.reduceLT, Nat.reduceLeDiff, Nat.reduceMul, Nat.reduceSub, ↓reduceIte, decide_true, decide_false, Bool.true_eq_false, Bool.false_eq_true, Bool.not_true, Bool.not_false, if_true, if_false, and_true, true_and, memE, celE, w64, Nat.zero_add, Nat.add_zero, Nat.mul_one, putL, and_self, ldn, tm, t0, t1, t2, t3, t10, t11, t12, t13, hr.len, hkl', hat, hrd, h15']
        all_goals exact ⟨⟨k + 1, by omega, by rw [hss]; simp⟩, by simp [intOf]; omega⟩
      · have h15' : ((q : Int) == 15) = false := by rw [beq_eq_false_iff_ne]; omega
        have c1 := cost_in hd ho hu (q := q) (by omega)
        have c2 := cost_in hd ho hu (q := q + 1) (by omega)
        simp (config := {implicitDefEqProofs := false, maxDischargeDepth := 20}) (disch := first | omega | (simp only [lenE]; done) | (simp only [lenE]; omega) | rfl | (simp only [lenE, markR_len]; done) | (simp only [lenE, markR_len]; omega)) only [runE, mapE, listE, initT_5, initT_6, initT_7, initT_8, resV, oneV, binA, unA, reduceCtorEq, Nat.reduceEqDiff, Nat.reduceAdd, Nat.reduceLT, Nat.reduceLeDiff, Nat.reduceMul, Nat.reduceSub, ↓reduceIte, decide_true, decide_false, Bool.true_eq_false, Bool.false_eq_true, Bool.not_true, Bool.not_false, if_true, if_false, and_true, true_and, memE, celE, w64, Nat.zero_add, Nat.add_zero, Nat.mul_one, putL, and_self, ldn, tm, t0, t1, t2, t3, t10, t11, t12, t13, hr.len, hkl', hat, hrd, h15', hr.at_ k hkl, hw]
        first | refine callH_rc (l5Cost_rc _ w _ o u q hwi hd ho hu (by omega)) ?_ | refine rcallH_rc (l5Cost_rc _ w _ o u q hwi hd ho hu (by omega)) ?_
        rintro r new ⟨rfl, rfl⟩
        rw [List.append_nil]
        simp (config := {implicitDefEqProofs := false, maxDischargeDepth := 20}) (disch := first | omega | (simp only [lenE]; done) | (simp only [lenE]; omega) | rfl | (simp only [lenE, markR_len]; done) | (simp only [lenE, markR_len]; omega)) only [runE, mapE, listE, initT_5, initT_6, initT_7, initT_8, resV, oneV, binA, unA, reduceCtorEq, Nat.reduceEqDiff, Nat.reduceAdd, Nat.reduceLT, Nat.reduceLeDiff, Nat.reduceMul, Nat.reduceSub, ↓reduceIte, decide_true, decide_false, Bool.true_eq_false, Bool.false_eq_true, Bool.not_true, Bool.not_false, if_true, if_false, and_true, true_and, memE, celE, w64, Nat.zero_add, Nat.add_zero, Nat.mul_one, putL, and_self, ldn, tm, t0, t1, t2, t3, t10, t11, t12, t13, hat, hrd, hr.at_ k hkl, hw]
        first | refine callH_rc (l5Cost_rc _ w _ o u (q + 1) hwi hd ho hu (by omega)) ?_ | refine rcallH_rc (l5Cost_rc _ w _ o u (q + 1) hwi hd ho hu (by omega)) ?_
        rintro r new ⟨rfl, rfl⟩
        rw [List.append_nil]
        rw [hf] at hss
        by_cases hgt : (scanF (lessF T o u (steps T o u i)) k).2 < costF (T.getD k []) o u q - costF (T.getD k []) o u (q + 1)
        · rw [if_pos hgt] at hss
          simp (config := {implicitDefEqProofs := false, maxDischargeDepth := 20}) (disch := first | omega | (simp only [lenE]; done) | (simp only [lenE]; omega) | rfl | (simp only [lenE, markR_len]; done) | (simp only [lenE, markR_len]; omega)) only [runE, mapE, listE, initT_5, initT_6, initT_7, initT_8, resV, oneV, binA, unA, reduceCtorEq, Nat.reduceEqDiff, Nat.reduceAdd, Nat.reduceLT, Nat.reduceLeDiff, Nat.reduceMul, Nat.reduceSub, ↓reduceIte, decide_true, decide_false, Bool.true_eq_false, Bool.false_eq_true, Bool.not_true, Bool.not_false, if_true, if_false, and_true, true_and, memE, celE, w64, Nat.zero_add, Nat.add_zero, Nat.mul_one, putL, and_self, ldn, tm, t0, t1, t2, t3, t10, t11, t12, t13, gt_iff_lt, hgt]
          exact ⟨⟨k + 1, by omega, by rw [hss]; simp⟩, by simp [intOf]; omega⟩
        · rw [if_neg hgt] at hss
          simp (config := {implicitDefEqProofs := false, maxDischargeDepth := 20}) (disch := first | omega | (simp only [lenE]; done) | (simp only [lenE]; omega) | rfl | (simp only [lenE, markR_len]; done) | (simp only [lenE, markR_len]; omega)) only [runE, mapE, listE, initT_5, initT_6, initT_7, initT_8, resV, oneV, binA, unA, reduceCtorEq, Nat.reduceEqDiff, Nat.reduceAdd, Nat.reduceLT, Nat.reduceLeDiff, Nat.reduceMul, Nat.reduceSub, ↓reduceIte, decide_true, decide_false, Bool.true_eq_false, Bool.false_eq_true, Bool.not_true, Bool.not_false, if_true, if_false, and_true, true_and, memE, celE, w64, Nat.zero_add, Nat.add_zero, Nat.mul_one, putL, and_self, ldn, tm, t0, t1, t2, t3, t10, t11, t12, t13, gt_iff_lt, hgt]
          exact ⟨⟨k + 1, by omega, by rw [hss]; simp⟩, by simp [intOf]; omega⟩
    · have hkl' : ¬ ((k : Int) < T.length) := by omega
      obtain rfl : k = T.length := by omega
      by_cases hneg : (scanF (lessF T o u (steps T o u i)) T.length).1 < 0
      · have e := steps_stop hneg (N - i)
        rw [show i + (N - i) = N by omega] at e
        simp (config := {implicitDefEqProofs := false, maxDischargeDepth := 20}) (disch := first | omega | (simp only [lenE]; done) | (simp only [lenE]; omega) | rfl | (simp only [lenE, markR_len]; done) | (simp only [lenE, markR_len]; omega)) only [runE, mapE, listE, initT_5, initT_6, initT_7, initT_8, resV, oneV, binA, unA, reduceCtorEq, Nat.reduceEqDiff, Nat.reduceAdd, Nat.reduceLT, Nat.reduceLeDiff, Nat.reduceMul, Nat.reduceSub, ↓reduceIte, decide_true, decide_false, Bool.true_eq_false, Bool.false_eq_true, Bool.not_true, Bool.not_false, if_true, if_false, and_true, true_and, memE, celE, w64, Nat.zero_add, Nat.add_zero, Nat.mul_one, putL, and_self, ldn, tm, t0, t1, t2, t3, t10, t11, t12, t13, hr.len, hkl', hneg]
        rw [e]
        exact ext_rowS (f := fun w => .tuple #[w, .bool true]) hX hown (by omega) hlen.symm (by omega)
      · rcases (scanF_in (lessF T o u (steps T o u i)) T.length).2 with e | ⟨j, hj, e1, e2, e3⟩
        · omega
        · have es : steps T o u (i + 1) = (steps T o u i).set j ((steps T o u i).getD j 0 + 1) := by
            show oneStep T o u (steps T o u i) = _
            rw [oneStep, if_neg hneg, e1, Int.toNat_natCast]
          have hat : iadA 1 (.slice (some ⟨m.length, 0, none⟩) T.length 1) (.int .i64 (j : Int)) = some (.pointer (some ⟨m.length, j, none⟩)) := iad0 rfl hj
          have hij := hin j
          have hj0 : ¬ ((j : Int) < 0) := by omega
          have hal' : ∀ x, x < i + 1 → 0 ≤ (scanF (lessF T o u (steps T o u x)) T.length).1 := fun x hx => by
            by_cases ex : x = i
            · subst ex; omega
            · exact hal x (by omega)
          have hown' := hown.set_self (L' := (steps T o u i).set j ((steps T o u i).getD j 0 + 1))
          rw [← es] at hown'
          have hro' := hown'.rowS (n := T.length) (fl := 1)
          have hsum' := steps_sum (i + 1) hal'
          rw [e1] at t11
          simp (config := {implicitDefEqProofs := false, maxDischargeDepth := 20}) (disch := first | omega | (simp only [lenE]; done) | (simp only [lenE]; omega) | rfl | (simp only [lenE, markR_len]; done) | (simp only [lenE, markR_len]; omega)) only [runE, mapE, listE, initT_5, initT_6, initT_7, initT_8, resV, oneV, binA, unA, reduceCtorEq, Nat.reduceEqDiff, Nat.reduceAdd, Nat.reduceLT, Nat.reduceLeDiff, Nat.reduceMul, Nat.reduceSub, ↓reduceIte, decide_true, decide_false, Bool.true_eq_false, Bool.false_eq_true, Bool.not_true, Bool.not_false, if_true, if_false, and_true, true_and, memE, celE, w64, Nat.zero_add, Nat.add_zero, Nat.mul_one, putL, and_self, ldn, tm, t0, t1, t2, t3, t10, t11, t12, t13, hr.len, hkl', hj0, hat, hown.rd' (i := j) (by omega), hown.st (off := j) (x := (steps T o u i).getD j 0 + 1) (by omega)]
          rw [← es]
          exact ⟨⟨i + 1, _, hal', by omega, hX.put (by omega) _ _, hown', by simp⟩, by rw [hro', hro, hsum', hsum]; omega⟩
  · obtain rfl : i = N := by omega
    have hlt' : ¬ ((i : Int) < i) := by omega
    simp (config := {implicitDefEqProofs := false, maxDischargeDepth := 20}) (disch := first | omega | (simp only [lenE]; done) | (simp only [lenE]; omega) | rfl | (simp only [lenE, markR_len]; done) | (simp only [lenE, markR_len]; omega)) only [runE, mapE, listE, initT_5, initT_6, initT_7, initT_8, resV, oneV, binA, unA, reduceCtorEq, Nat.reduceEqDiff, Nat.reduceAdd, Nat.reduceLT, Nat.reduceLeDiff, Nat.reduceMul, Nat.reduceSub, ↓reduceIte, decide_true, decide_false, Bool.true_eq_false, Bool.false_eq_true, Bool.not_true, Bool.not_false, if_true, if_false, and_true, true_and, memE, celE, w64, Nat.zero_add, Nat.add_zero, Nat.mul_one, putL, and_self, ldn, tm, t0, t1, t2, t3, t10, hlt']
    exact ext_rowS (f := fun w => .tuple #[w, .bool true]) hX hown (by omega) hlen.symm (by omega)

/-! What the program does: arrays of three. -/
theorem OwnB.ar {M : Mem} {id : Nat} {e : TypeId} {l : List Int} (h : OwnB M id e [.int .i64 ((l).getD 0 0), .int .i64 ((l).getD 1 0), .int .i64 ((l).getD 2 0)]) : ldA M (some 3) (.pointer (some ⟨id, 0, none⟩)) = some (.agg #[.int .i64 ((l).getD 0 0), .int .i64 ((l).getD 1 0), .int .i64 ((l).getD 2 0)]) := by
  unfold OwnB at h
  simp [ldA, rdn, rdc, h]
theorem OwnB.ark {M : Mem} {id : Nat} {e : TypeId} {l : List Int} (h : OwnB M id e [.int .i64 ((l).getD 0 0), .int .i64 ((l).getD 1 0), .int .i64 ((l).getD 2 0)]) {k : Nat} (hk : k < 3) : rdc M id k = some (.int .i64 (l.getD k 0)) := by
  rw [h.rd]
  match k, hk with
  | 0, _ => rfl
  | 1, _ => rfl
  | 2, _ => rfl
theorem iadk {id k : Nat} (hk : k < 3) : iadaA 1 3 (.pointer (some ⟨id, 0, none⟩)) (.int .i64 (k : Int)) = some (.pointer (some ⟨id, k, none⟩)) := by
  match k, hk with
  | 0, _ => rfl
  | 1, _ => rfl
  | 2, _ => rfl
theorem OwnB.sta {M : Mem} {id : Nat} {e : TypeId} {l : List Int} (h : OwnB M id e [.int .i64 ((l).getD 0 0), .int .i64 ((l).getD 1 0), .int .i64 ((l).getD 2 0)]) (l' : List Int) : stP M 3 (.pointer (some ⟨id, 0, none⟩)) (.agg #[.int .i64 ((l').getD 0 0), .int .i64 ((l').getD 1 0), .int .i64 ((l').getD 2 0)]) = some (M.set id ⟨.own, e, [.int .i64 ((l').getD 0 0), .int .i64 ((l').getD 1 0), .int .i64 ((l').getD 2 0)]⟩) := by
  have := h.st (off := 0) (vs := [.int .i64 ((l').getD 0 0), .int .i64 ((l').getD 1 0), .int .i64 ((l').getD 2 0)]) (by simp) rfl
  exact this
theorem OwnB.stk3 {M : Mem} {id : Nat} {e : TypeId} {l : List Int} (h : OwnB M id e [.int .i64 ((l).getD 0 0), .int .i64 ((l).getD 1 0), .int .i64 ((l).getD 2 0)]) {k : Nat} (hk : k < 3) (hl : k < l.length) (x : Int) : stA M id k [.int .i64 x] = some (M.set id ⟨.own, e, [.int .i64 ((l.set k x).getD 0 0), .int .i64 ((l.set k x).getD 1 0), .int .i64 ((l.set k x).getD 2 0)]⟩) := by
  rw [h.st (off := k) (vs := [.int .i64 x]) (by simp; omega) rfl, getD_set hl, getD_set hl, getD_set hl]
  match k, hk with
  | 0, _ => rfl
  | 1, _ => rfl
  | 2, _ => rfl
def bestK (T : List (List Int)) (o u : Int) (out : List Int) (k : Nat) : List Int :=
  if (scanF (lessF T o u out) k).1 < 0 then out else out.set (scanF (lessF T o u out) k).1.toNat (out.getD (scanF (lessF T o u out) k).1.toNat 0 + 1)
theorem bestK_s {T : List (List Int)} {o u : Int} {out : List Int} {k : Nat} : bestK T o u out (k + 1) = if (scanF (lessF T o u out) k).2 < lessF T o u out k then out.set k (out.getD k 0 + 1) else bestK T o u out k := by
  unfold bestK
  by_cases h : (scanF (lessF T o u out) k).2 < lessF T o u out k
  · have e : scanF (lessF T o u out) (k + 1) = ((k : Int), lessF T o u out k) := by simp only [scanF]; rw [if_pos h]
    simp only [e]
    rw [if_pos h, if_neg (by omega), Int.toNat_natCast]
  · have e : scanF (lessF T o u out) (k + 1) = scanF (lessF T o u out) k := by simp only [scanF]; rw [if_neg h]
    simp only [e]
    rw [if_neg h]
theorem oneUnitMore_rc (m : Mem) (v : Value) (T : List (List Int)) (o u : Int) (out : List Int) (h : TabA m v T) (hs : Gds T) (ho : 0 ≤ o ∧ o ≤ 20) (hu : 0 ≤ u ∧ u ≤ 20) (hl : out.length = T.length) (hin : ∀ k, 0 ≤ out.getD k 0 ∧ out.getD k 0 ≤ 15) :
    RC Try.prog 59 [v, .int .i64 o, .int .i64 u, (.agg #[.int .i64 ((out).getD 0 0), .int .i64 ((out).getD 1 0), .int .i64 ((out).getD 2 0)])] m (AnsV (.agg #[.int .i64 ((oneStep T o u out).getD 0 0), .int .i64 ((oneStep T o u out).getD 1 0), .int .i64 ((oneStep T o u out).getD 2 0)])) := by
  refine rc_of_run mixed ok_impl_oneUnitMore (by simp) (go_start _ _ _ ?_)
  have hr := h.ro
  have l1 := hs.l1
  have l3 := hs.l3
  simp (config := {implicitDefEqProofs := false, maxDischargeDepth := 20}) (disch := first | omega | (simp only [lenE]; done) | (simp only [lenE]; omega) | rfl | (simp only [lenE, markR_len]; done) | (simp only [lenE, markR_len]; omega)) only [runE, mapE, listE, initT_5, initT_6, initT_7, initT_8, resV, oneV, binA, unA, reduceCtorEq, Nat.reduceEqDiff, Nat.reduceAdd, Nat.reduceLT, Nat.reduceLeDiff, Nat.reduceMul, Nat.reduceSub, ↓reduceIte, decide_true, decide_false, Bool.true_eq_false, Bool.false_eq_true, Bool.not_true, Bool.not_false, if_true, if_false, and_true, true_and, memE, celE, w64, Nat.zero_add, Nat.add_zero, Nat.mul_one, putL, and_self, ldn, c_impl_oneUnitMore, r_impl_oneUnitMore, hr.len]
  refine loop_inv mixed (fun s => ∃ (k : Nat) (M : Mem), k ≤ T.length ∧ Ext m M ∧ OwnB M m.length 71 [.int .i64 ((out).getD 0 0), .int .i64 ((out).getD 1 0), .int .i64 ((out).getD 2 0)] ∧ OwnB M (m.length + 1) 71 [.int .i64 0, .int .i64 0, .int .i64 0] ∧ OwnB M (m.length + 2) 71 [.int .i64 ((bestK T o u out k).getD 0 0), .int .i64 ((bestK T o u out k).getD 1 0), .int .i64 ((bestK T o u out k).getD 2 0)] ∧ s.t 1 = .int .i64 o ∧ s.t 2 = .int .i64 u ∧ s.t 7 = .pointer (some ⟨m.length, 0, none⟩) ∧ s.t 8 = .pointer (some ⟨m.length + 1, 0, none⟩) ∧ s.t 9 = .pointer (some ⟨m.length + 2, 0, none⟩) ∧ s.t 10 = .int .i64 (scanF (lessF T o u out) k).2 ∧ s.t 15 = v ∧ s.t 16 = .int .i64 T.length ∧ s.t 17 = .int .i64 k ∧ s.m = M) (fun s => T.length - (intOf (s.t 17)).toNat)
    ⟨0, _, by omega, ((Ext.refl m).one _ _).one _ _ |>.one _ _, ((OwnB.here (by simp [roM_len])).ext _).ext _, (OwnB.here (by simp [roM_len])).ext _, OwnB.here (by simp [roM_len]), rfl, rfl, rfl, rfl, rfl, rfl, rfl, rfl, rfl, rfl⟩ ?_
  rintro s ⟨k, M, hk, hX, b7, b8, b9, t1, t2, t7, t8, t9, t10, t15, t16, t17, tm⟩
  by_cases hkl : k < T.length
  · have hkl' : (k : Int) < T.length := by omega
    obtain ⟨w, hw, hwi⟩ := h.rowS hX hkl
    have hwi := hX.ints hwi
    obtain ⟨q, hq⟩ : ∃ q : Nat, out.getD k 0 = q := ⟨_, (Int.toNat_of_nonneg (hin k).1).symm⟩
    have hq15 := (hin k).2
    have hd := hs.d k hkl
    have hrd := b7.ark (k := k) (by omega)
    rw [hq] at hrd
    have hf : lessF T o u out k = costF (T.getD k []) o u q - costF (T.getD k []) o u (q + 1) := by unfold lessF; rw [hq, Int.toNat_natCast]
    have hss : scanF (lessF T o u out) (k + 1) = if (scanF (lessF T o u out) k).2 < lessF T o u out k then ((k : Int), lessF T o u out k) else scanF (lessF T o u out) k := rfl
    have hbs := bestK_s (T := T) (o := o) (u := u) (out := out) (k := k)
    have c1 := cost_in hd ho hu (q := q) (by omega)
    have c2 := cost_in hd ho hu (q := q + 1) (by omega)
    have ik := fun id => iadk (id := id) (k := k) (by omega)
    simp (config := {implicitDefEqProofs := false, maxDischargeDepth := 20}) (disch := first | omega | (simp only [lenE]; done) | (simp only [lenE]; omega) | rfl | (simp only [lenE, markR_len]; done) | (simp only [lenE, markR_len]; omega)) only [runE, mapE, listE, initT_5, initT_6, initT_7, initT_8, resV, oneV, binA, unA, reduceCtorEq, Nat.reduceEqDiff, Nat.reduceAdd, Nat.reduceLT, Nat.reduceLeDiff, Nat.reduceMul, Nat.reduceSub, ↓reduceIte, decide_true, decide_false, Bool.true_eq_false, Bool.false_eq_true, Bool.not_true, Bool.not_false, if_true, if_false, and_true, true_and, memE, celE, w64, Nat.zero_add, Nat.add_zero, Nat.mul_one, putL, and_self, ldn, tm, t1, t2, t7, t8, t9, t10, t15, t16, t17, hkl', hr.at_ k hkl, hw, ik, hrd]
    first | refine callH_rc (costSum_rc _ w _ o u q hwi hd ho hu (by omega)) ?_ | refine rcallH_rc (costSum_rc _ w _ o u q hwi hd ho hu (by omega)) ?_
    rintro r new ⟨rfl, rfl⟩
    rw [List.append_nil]
    simp (config := {implicitDefEqProofs := false, maxDischargeDepth := 20}) (disch := first | omega | (simp only [lenE]; done) | (simp only [lenE]; omega) | rfl | (simp only [lenE, markR_len]; done) | (simp only [lenE, markR_len]; omega)) only [runE, mapE, listE, initT_5, initT_6, initT_7, initT_8, resV, oneV, binA, unA, reduceCtorEq, Nat.reduceEqDiff, Nat.reduceAdd, Nat.reduceLT, Nat.reduceLeDiff, Nat.reduceMul, Nat.reduceSub, ↓reduceIte, decide_true, decide_false, Bool.true_eq_false, Bool.false_eq_true, Bool.not_true, Bool.not_false, if_true, if_false, and_true, true_and, memE, celE, w64, Nat.zero_add, Nat.add_zero, Nat.mul_one, putL, and_self, ldn, tm, t1, t2, t7, t8, t9, t10, t15, t16, t17, ik, hrd]
    first | refine callH_rc (costSum_rc _ w _ o u (q + 1) hwi hd ho hu (by omega)) ?_ | refine rcallH_rc (costSum_rc _ w _ o u (q + 1) hwi hd ho hu (by omega)) ?_
    rintro r new ⟨rfl, rfl⟩
    rw [List.append_nil]
    rw [hf] at hss hbs
    by_cases hgt : (scanF (lessF T o u out) k).2 < costF (T.getD k []) o u q - costF (T.getD k []) o u (q + 1)
    · rw [if_pos hgt] at hss hbs
      have b9' := b9.set_self 71 [.int .i64 ((out).getD 0 0), .int .i64 ((out).getD 1 0), .int .i64 ((out).getD 2 0)]
      have hrd' := b9'.ark (k := k) (by omega)
      rw [hq] at hrd' hbs
      simp (config := {implicitDefEqProofs := false, maxDischargeDepth := 20}) (disch := first | omega | (simp only [lenE]; done) | (simp only [lenE]; omega) | rfl | (simp only [lenE, markR_len]; done) | (simp only [lenE, markR_len]; omega)) only [runE, mapE, listE, initT_5, initT_6, initT_7, initT_8, resV, oneV, binA, unA, reduceCtorEq, Nat.reduceEqDiff, Nat.reduceAdd, Nat.reduceLT, Nat.reduceLeDiff, Nat.reduceMul, Nat.reduceSub, ↓reduceIte, decide_true, decide_false, Bool.true_eq_false, Bool.false_eq_true, Bool.not_true, Bool.not_false, if_true, if_false, and_true, true_and, memE, celE, w64, Nat.zero_add, Nat.add_zero, Nat.mul_one, putL, and_self, ldn, tm, t1, t2, t7, t8, t9, t10, t15, t16, t17, gt_iff_lt, hgt, b7.ar, b9.sta, ik, hrd', b9'.stk3 (k := k) (by omega) (by omega)]
      refine ⟨⟨k + 1, _, by omega, ?_, ?_, ?_, ?_, ?_, ?_, rfl⟩, by simp [intOf]; omega⟩
      · exact (hX.put (by omega) _ _).put (by omega) _ _
      · exact (b7.set_ne (by omega) _).set_ne (by omega) _
      · exact (b8.set_ne (by omega) _).set_ne (by omega) _
      · rw [hbs]; exact b9'.set_self _ _
      · rw [hss]
      · simp
    · rw [if_neg hgt] at hss hbs
      simp (config := {implicitDefEqProofs := false, maxDischargeDepth := 20}) (disch := first | omega | (simp only [lenE]; done) | (simp only [lenE]; omega) | rfl | (simp only [lenE, markR_len]; done) | (simp only [lenE, markR_len]; omega)) only [runE, mapE, listE, initT_5, initT_6, initT_7, initT_8, resV, oneV, binA, unA, reduceCtorEq, Nat.reduceEqDiff, Nat.reduceAdd, Nat.reduceLT, Nat.reduceLeDiff, Nat.reduceMul, Nat.reduceSub, ↓reduceIte, decide_true, decide_false, Bool.true_eq_false, Bool.false_eq_true, Bool.not_true, Bool.not_false, if_true, if_false, and_true, true_and, memE, celE, w64, Nat.zero_add, Nat.add_zero, Nat.mul_one, putL, and_self, ldn, tm, t1, t2, t7, t8, t9, t10, t15, t16, t17, gt_iff_lt, hgt]
      exact ⟨⟨k + 1, _, by omega, hX, b7, b8, by rw [hbs]; exact b9, by rw [hss]; simp⟩, by simp [intOf]; omega⟩
  · have hkl' : ¬ ((k : Int) < T.length) := by omega
    obtain rfl : k = T.length := by omega
    have e8 : OwnB M (m.length + 1) 71 [.int .i64 ((([] : List Int)).getD 0 0), .int .i64 ((([] : List Int)).getD 1 0), .int .i64 ((([] : List Int)).getD 2 0)] := b8
    simp (config := {implicitDefEqProofs := false, maxDischargeDepth := 20}) (disch := first | omega | (simp only [lenE]; done) | (simp only [lenE]; omega) | rfl | (simp only [lenE, markR_len]; done) | (simp only [lenE, markR_len]; omega)) only [runE, mapE, listE, initT_5, initT_6, initT_7, initT_8, resV, oneV, binA, unA, reduceCtorEq, Nat.reduceEqDiff, Nat.reduceAdd, Nat.reduceLT, Nat.reduceLeDiff, Nat.reduceMul, Nat.reduceSub, ↓reduceIte, decide_true, decide_false, Bool.true_eq_false, Bool.false_eq_true, Bool.not_true, Bool.not_false, if_true, if_false, and_true, true_and, memE, celE, w64, Nat.zero_add, Nat.add_zero, Nat.mul_one, putL, and_self, ldn, tm, t1, t2, t7, t8, t9, t10, t15, t16, t17, hkl', b9.ar, e8.sta, (e8.set_self 71 [.int .i64 ((bestK T o u out T.length).getD 0 0), .int .i64 ((bestK T o u out T.length).getD 1 0), .int .i64 ((bestK T o u out T.length).getD 2 0)]).ar]
    exact ext_ansV (hX.put (by omega) _ _) rfl
theorem app_box {M : Mem} {id id2 n : Nat} {e : TypeId} {cs : List Value} (h1 : OwnB M id 3 []) (h2 : OwnB M id2 e cs) (hn : n ≤ cs.length) (h3 : n ≤ 3) (ho : onesB (cs.take n) = true) :
    appP M 3 1 8 (.slice (some ⟨id, 0, none⟩) 0 1) (.slice (some ⟨id2, 0, none⟩) n 0) = some (.slice (some ⟨M.length, 0, none⟩) n 1, M.set id deadB ++ [⟨.own, 3, cs.take n⟩]) := by
  have e1 : slR M 1 (.slice (some ⟨id2, 0, none⟩) n 0) = some (cs.take n) := by
    simp only [slR, rdl, Nat.mul_one]
    rw [show M[id2]? = some ⟨.own, e, cs⟩ from h2]
    simp [hn]
  unfold appP
  rw [e1]
  simp only [ho, if_true, appA, lenOfA]
  rw [show M[id]? = some ⟨.own, 3, []⟩ from h1]
  simp only [List.length_nil, Nat.zero_mul, Nat.zero_add, true_and, List.nil_append]
  rw [if_pos (by omega)]
theorem arr_take {l : List Int} (h : l.length ≤ 3) : ([.int .i64 ((l).getD 0 0), .int .i64 ((l).getD 1 0), .int .i64 ((l).getD 2 0)] : List Value).take l.length = l.map (Value.int .i64) := by
  match l, h with
  | [], _ => rfl
  | [a], _ => rfl
  | [a, b], _ => rfl
  | [a, b, c], _ => rfl
theorem listOfOrders_rc (m : Mem) (v : Value) (T : List (List Int)) (l : List Int) (h : TabA m v T) (hl : l.length = T.length) (h3 : T.length ≤ 3) :
    RC Try.prog 56 [(.agg #[.int .i64 ((l).getD 0 0), .int .i64 ((l).getD 1 0), .int .i64 ((l).getD 2 0)]), v] m (AnsR m l) := by
  refine rc_of_run mixed ok_impl_listOfOrders (by simp) (go_start _ _ _ ?_)
  simp (config := {implicitDefEqProofs := false, maxDischargeDepth := 20}) (disch := first | omega | (simp only [lenE]; done) | (simp only [lenE]; omega) | rfl | (simp only [lenE, markR_len]; done) | (simp only [lenE, markR_len]; omega)) only [runE, mapE, listE, initT_5, initT_6, initT_7, initT_8, resV, oneV, binA, unA, reduceCtorEq, Nat.reduceEqDiff, Nat.reduceAdd, Nat.reduceLT, Nat.reduceLeDiff, Nat.reduceMul, Nat.reduceSub, ↓reduceIte, decide_true, decide_false, Bool.true_eq_false, Bool.false_eq_true, Bool.not_true, Bool.not_false, if_true, if_false, and_true, true_and, memE, celE, w64, Nat.zero_add, Nat.add_zero, Nat.mul_one, putL, and_self, ldn, c_impl_listOfOrders, r_impl_listOfOrders, bsl_noneS]
  obtain ⟨E, hE⟩ : ∃ M', M' = roM m ++ [⟨.own, 71, [.int .i64 ((l).getD 0 0), .int .i64 ((l).getD 1 0), .int .i64 ((l).getD 2 0)]⟩] ++ [⟨.own, 3, []⟩] := ⟨_, rfl⟩
  rw [← hE]
  have hX : Ext m E := by rw [hE]; exact ((Ext.refl m).one _ _).one _ _
  have b2 : OwnB E m.length 71 [.int .i64 ((l).getD 0 0), .int .i64 ((l).getD 1 0), .int .i64 ((l).getD 2 0)] := by rw [hE]; exact (OwnB.here (by simp [roM_len])).ext _
  have b5 : OwnB E (m.length + 1) 3 [] := by rw [hE]; exact OwnB.here (by simp [roM_len])
  clear hE
  have hr := h.ro
  have hap := app_box (n := l.length) b5 b2 (by simp; omega) (by omega) (by rw [arr_take (by omega)]; exact onesB_ints _)
  rw [arr_take (by omega), hl] at hap
  have sp : slcpA 1 3 (.pointer (some ⟨m.length, 0, none⟩)) none (some (.int .i64 (T.length : Int))) = some (.slice (some ⟨m.length, 0, none⟩) T.length 0) := by
    simp [slcpA, boundA]; omega
  simp (config := {implicitDefEqProofs := false, maxDischargeDepth := 20}) (disch := first | omega | (simp only [lenE]; done) | (simp only [lenE]; omega) | rfl | (simp only [lenE, markR_len]; done) | (simp only [lenE, markR_len]; omega)) only [runE, mapE, listE, initT_5, initT_6, initT_7, initT_8, resV, oneV, binA, unA, reduceCtorEq, Nat.reduceEqDiff, Nat.reduceAdd, Nat.reduceLT, Nat.reduceLeDiff, Nat.reduceMul, Nat.reduceSub, ↓reduceIte, decide_true, decide_false, Bool.true_eq_false, Bool.false_eq_true, Bool.not_true, Bool.not_false, if_true, if_false, and_true, true_and, memE, celE, w64, Nat.zero_add, Nat.add_zero, Nat.mul_one, putL, and_self, ldn, hr.len, Option.map_none, sp, hap]
  exact ext_ansR ((hX.dead (id := m.length + 1) (by omega)).one _ _) (OwnR.end' (id := E.length) (by simp)) (by have := hX.len; omega) hl.symm (by omega)
theorem bldS (z : List Value) : bldA z [] = some (.agg z.toArray) := rfl
theorem ae_self (a b c : Int) : aeqA false 3 (.agg #[.int .i64 a, .int .i64 b, .int .i64 c]) (.agg #[.int .i64 a, .int .i64 b, .int .i64 c]) = some (.bool true) := by
  simp [aeqA, intsEq]
theorem ae_ne {a b c a' b' c' : Int} (h : ¬ (a = a' ∧ b = b' ∧ c = c')) : aeqA false 3 (.agg #[.int .i64 a, .int .i64 b, .int .i64 c]) (.agg #[.int .i64 a', .int .i64 b', .int .i64 c']) = some (.bool false) := by
  simp [aeqA, intsEq]
  intro h1 h2 h3
  exact h ⟨h1, h2, h3⟩
theorem step_ne {T : List (List Int)} {o u : Int} {out : List Int} (hl : out.length = T.length) (h3 : T.length ≤ 3) (h : ¬ (scanF (lessF T o u out) T.length).1 < 0) :
    ¬ ((oneStep T o u out).getD 0 0 = out.getD 0 0 ∧ (oneStep T o u out).getD 1 0 = out.getD 1 0 ∧ (oneStep T o u out).getD 2 0 = out.getD 2 0) := by
  rcases (scanF_in (lessF T o u out) T.length).2 with e | ⟨j, hj, e1, e2, e3⟩
  · omega
  · unfold oneStep
    rw [if_neg h, e1, Int.toNat_natCast]
    rw [getD_set (by omega), getD_set (by omega), getD_set (by omega)]
    rintro ⟨h0, h1, h2⟩
    obtain rfl | rfl | rfl : j = 0 ∨ j = 1 ∨ j = 2 := by omega
    · rw [if_pos rfl] at h0; omega
    · rw [if_pos rfl] at h1; omega
    · rw [if_pos rfl] at h2; omega
theorem inB60 (n : Int) : inB 60 n = (decide (0 ≤ n) && decide (n ≤ 60)) := rfl
theorem implStep5_rc (m : Mem) (v : Value) (T : List (List Int)) (o u n : Int) (h : TabA m v T) :
    RC Try.prog 27 [v, .int .i64 o, .int .i64 u, .int .i64 n] m (AnsO m (IntsO (stepA T o u n (chB o u))) fun w => .tuple #[w, .bool (stepOk T o u n (chB o u))]) := by
  refine rc_of_run mixed ok_impl_StepOrders (by simp) (go_start _ _ _ ?_)
  simp (config := {implicitDefEqProofs := false, maxDischargeDepth := 20}) (disch := first | omega | (simp only [lenE]; done) | (simp only [lenE]; omega) | rfl | (simp only [lenE, markR_len]; done) | (simp only [lenE, markR_len]; omega)) only [runE, mapE, listE, initT_5, initT_6, initT_7, initT_8, resV, oneV, binA, unA, reduceCtorEq, Nat.reduceEqDiff, Nat.reduceAdd, Nat.reduceLT, Nat.reduceLeDiff, Nat.reduceMul, Nat.reduceSub, ↓reduceIte, decide_true, decide_false, Bool.true_eq_false, Bool.false_eq_true, Bool.not_true, Bool.not_false, if_true, if_false, and_true, true_and, memE, celE, w64, Nat.zero_add, Nat.add_zero, Nat.mul_one, putL, and_self, ldn, c_impl_StepOrders, r_impl_StepOrders]
  first | refine callH_rc (areGoods_rc _ v T o u h.ro) ?_ | refine rcallH_rc (areGoods_rc _ v T o u h.ro) ?_
  rintro r new ⟨rfl, nr⟩
  have hX := (Ext.refl m).app nr
  obtain ⟨E, hE⟩ : ∃ E, E = roM m ++ new := ⟨_, rfl⟩
  rw [← hE] at hX ⊢
  clear hE
  have stop : stepOk T o u n (chB o u) = false → newQ m (AnsO m (IntsO (stepA T o u n (chB o u))) fun w => .tuple #[w, .bool (stepOk T o u n (chB o u))]) (.tuple #[.slice (some ⟨E.length, 0, none⟩) 0 1, .bool false]) (E ++ [⟨.own, 3, ([] : List Int).map (Value.int .i64)⟩]) := by
    intro hs
    rw [stepA_no hs, hs]
    exact ext_rowS (f := fun w => .tuple #[w, .bool false]) (hX.one _ _) (OwnR.end' rfl) hX.len rfl (by simp)
  cases hg : (gdsB T && chB o u) with
  | false =>
    simp (config := {implicitDefEqProofs := false, maxDischargeDepth := 20}) (disch := first | omega | (simp only [lenE]; done) | (simp only [lenE]; omega) | rfl | (simp only [lenE, markR_len]; done) | (simp only [lenE, markR_len]; omega)) only [runE, mapE, listE, initT_5, initT_6, initT_7, initT_8, resV, oneV, binA, unA, reduceCtorEq, Nat.reduceEqDiff, Nat.reduceAdd, Nat.reduceLT, Nat.reduceLeDiff, Nat.reduceMul, Nat.reduceSub, ↓reduceIte, decide_true, decide_false, Bool.true_eq_false, Bool.false_eq_true, Bool.not_true, Bool.not_false, if_true, if_false, and_true, true_and, memE, celE, w64, Nat.zero_add, Nat.add_zero, Nat.mul_one, putL, and_self, ldn, bsl_none]
    exact stop (by unfold stepOk; rw [hg]; rfl)
  | true =>
  simp (config := {implicitDefEqProofs := false, maxDischargeDepth := 20}) (disch := first | omega | (simp only [lenE]; done) | (simp only [lenE]; omega) | rfl | (simp only [lenE, markR_len]; done) | (simp only [lenE, markR_len]; omega)) only [runE, mapE, listE, initT_5, initT_6, initT_7, initT_8, resV, oneV, binA, unA, reduceCtorEq, Nat.reduceEqDiff, Nat.reduceAdd, Nat.reduceLT, Nat.reduceLeDiff, Nat.reduceMul, Nat.reduceSub, ↓reduceIte, decide_true, decide_false, Bool.true_eq_false, Bool.false_eq_true, Bool.not_true, Bool.not_false, if_true, if_false, and_true, true_and, memE, celE, w64, Nat.zero_add, Nat.add_zero, Nat.mul_one, putL, and_self, ldn]
  first | refine callH_rc (isWithin_rc _ _ _) ?_ | refine rcallH_rc (isWithin_rc _ _ _) ?_
  rintro r new ⟨rfl, rfl⟩
  rw [List.append_nil, inB60]
  cases hn : (decide (0 ≤ n) && decide (n ≤ 60)) with
  | false =>
    simp (config := {implicitDefEqProofs := false, maxDischargeDepth := 20}) (disch := first | omega | (simp only [lenE]; done) | (simp only [lenE]; omega) | rfl | (simp only [lenE, markR_len]; done) | (simp only [lenE, markR_len]; omega)) only [runE, mapE, listE, initT_5, initT_6, initT_7, initT_8, resV, oneV, binA, unA, reduceCtorEq, Nat.reduceEqDiff, Nat.reduceAdd, Nat.reduceLT, Nat.reduceLeDiff, Nat.reduceMul, Nat.reduceSub, ↓reduceIte, decide_true, decide_false, Bool.true_eq_false, Bool.false_eq_true, Bool.not_true, Bool.not_false, if_true, if_false, and_true, true_and, memE, celE, w64, Nat.zero_add, Nat.add_zero, Nat.mul_one, putL, and_self, ldn, bsl_none]
    exact stop (by unfold stepOk; rw [hn]; simp)
  | true =>
  clear stop
  have hok : stepOk T o u n (chB o u) = true := by unfold stepOk; rw [hg, hn]; rfl
  have hn2 : 0 ≤ n ∧ n ≤ 60 := by simpa using hn
  obtain ⟨N, rfl⟩ : ∃ N : Nat, n = N := ⟨n.toNat, (Int.toNat_of_nonneg hn2.1).symm⟩
  rw [Bool.and_eq_true] at hg
  have hs := gds_iff.1 hg.1
  have hcc : (0 ≤ o ∧ o ≤ 20) ∧ (0 ≤ u ∧ u ≤ 20) := by
    have := hg.2
    unfold chB at this
    rw [Bool.and_eq_true, inB_iff, inB_iff] at this
    exact this
  obtain ⟨ho, hu⟩ := hcc
  have l1 := hs.l1
  have l3 := hs.l3
  rw [stepA_yes hok, hok, Int.toNat_natCast]
  have z0 : (.agg #[.int .i64 0, .int .i64 0, .int .i64 0] : Value) = (.agg #[.int .i64 ((steps T o u 0).getD 0 0), .int .i64 ((steps T o u 0).getD 1 0), .int .i64 ((steps T o u 0).getD 2 0)]) := by
    have hz : ∀ k, (steps T o u 0).getD k 0 = 0 := fun k => by
      show (List.replicate T.length (0 : Int)).getD k 0 = 0
      by_cases hk : k < T.length <;> simp [List.getD_eq_getElem?_getD, List.getElem?_replicate, hk]
    rw [hz, hz, hz]
  simp (config := {implicitDefEqProofs := false, maxDischargeDepth := 20}) (disch := first | omega | (simp only [lenE]; done) | (simp only [lenE]; omega) | rfl | (simp only [lenE, markR_len]; done) | (simp only [lenE, markR_len]; omega)) only [runE, mapE, listE, initT_5, initT_6, initT_7, initT_8, resV, oneV, binA, unA, reduceCtorEq, Nat.reduceEqDiff, Nat.reduceAdd, Nat.reduceLT, Nat.reduceLeDiff, Nat.reduceMul, Nat.reduceSub, ↓reduceIte, decide_true, decide_false, Bool.true_eq_false, Bool.false_eq_true, Bool.not_true, Bool.not_false, if_true, if_false, and_true, true_and, memE, celE, w64, Nat.zero_add, Nat.add_zero, Nat.mul_one, putL, and_self, ldn, bldS]
  refine loop_inv mixed (fun s => ∃ (i : Nat) (M : Mem), i ≤ N ∧ Ext m M ∧ OwnB M E.length 71 [.int .i64 ((steps T o u i).getD 0 0), .int .i64 ((steps T o u i).getD 1 0), .int .i64 ((steps T o u i).getD 2 0)] ∧ s.t 0 = v ∧ s.t 1 = .int .i64 o ∧ s.t 2 = .int .i64 u ∧ s.t 10 = .pointer (some ⟨E.length, 0, none⟩) ∧ s.t 24 = .int .i64 N ∧ s.t 25 = .int .i64 i ∧ s.m = M) (fun s => N - (intOf (s.t 25)).toNat)
    ⟨0, E ++ [⟨.own, 71, [.int .i64 0, .int .i64 0, .int .i64 0]⟩], by omega, hX.one _ _, ?_, rfl, rfl, rfl, rfl, rfl, rfl, rfl⟩ ?_
  · have e : ([.int .i64 0, .int .i64 0, .int .i64 0] : List Value) = [.int .i64 ((steps T o u 0).getD 0 0), .int .i64 ((steps T o u 0).getD 1 0), .int .i64 ((steps T o u 0).getD 2 0)] := by simpa using z0
    rw [← e]
    exact OwnB.here rfl
  rintro s ⟨i, M, hi, hXM, b10, t0, t1, t2, t10, t24, t25, tm⟩
  have hlen := steps_len T o u i
  have hin := steps_in hs ho.1 hu.1 i
  have hgeE := hX.len
  have hTM := h.xtS hXM
  have fin : ∀ {M' : Mem} {l : List Int} {nw : Mem} {r : Value}, Ext m M' → steps T o u N = l → AnsR M' l r nw → newQ m (AnsO m (IntsO (steps T o u N)) fun w => .tuple #[w, .bool true]) (.tuple #[r, .bool true]) (M' ++ nw) := by
    intro M' l nw r hx hl hA
    obtain ⟨id, fl, rfl, hge, hown, hle, nrn⟩ := hA.row
    rw [hl]
    exact ext_rowS (f := fun w => .tuple #[w, .bool true]) (hx.app nrn) hown (by have := hx.len; omega) rfl hle
  by_cases hlt : i < N
  · have hlt' : (i : Int) < N := by omega
    simp (config := {implicitDefEqProofs := false, maxDischargeDepth := 20}) (disch := first | omega | (simp only [lenE]; done) | (simp only [lenE]; omega) | rfl | (simp only [lenE, markR_len]; done) | (simp only [lenE, markR_len]; omega)) only [runE, mapE, listE, initT_5, initT_6, initT_7, initT_8, resV, oneV, binA, unA, reduceCtorEq, Nat.reduceEqDiff, Nat.reduceAdd, Nat.reduceLT, Nat.reduceLeDiff, Nat.reduceMul, Nat.reduceSub, ↓reduceIte, decide_true, decide_false, Bool.true_eq_false, Bool.false_eq_true, Bool.not_true, Bool.not_false, if_true, if_false, and_true, true_and, memE, celE, w64, Nat.zero_add, Nat.add_zero, Nat.mul_one, putL, and_self, ldn, tm, t0, t1, t2, t10, t24, t25, hlt', b10.ar]
    first | refine callH_rc (oneUnitMore_rc _ v T o u (steps T o u i) hTM hs ho hu hlen hin) ?_ | refine rcallH_rc (oneUnitMore_rc _ v T o u (steps T o u i) hTM hs ho hu hlen hin) ?_
    rintro r n2 ⟨rfl, nr2⟩
    replace hXM := hXM.app nr2
    replace b10 := b10.ext n2
    obtain ⟨M2, hM2⟩ : ∃ M2, M2 = M ++ n2 := ⟨_, rfl⟩
    rw [← hM2] at hXM b10 ⊢
    have hltM := b10.lt
    clear hM2
    rw [show oneStep T o u (steps T o u i) = steps T o u (i + 1) from rfl]
    simp (config := {implicitDefEqProofs := false, maxDischargeDepth := 20}) (disch := first | omega | (simp only [lenE]; done) | (simp only [lenE]; omega) | rfl | (simp only [lenE, markR_len]; done) | (simp only [lenE, markR_len]; omega)) only [runE, mapE, listE, initT_5, initT_6, initT_7, initT_8, resV, oneV, binA, unA, reduceCtorEq, Nat.reduceEqDiff, Nat.reduceAdd, Nat.reduceLT, Nat.reduceLeDiff, Nat.reduceMul, Nat.reduceSub, ↓reduceIte, decide_true, decide_false, Bool.true_eq_false, Bool.false_eq_true, Bool.not_true, Bool.not_false, if_true, if_false, and_true, true_and, memE, celE, w64, Nat.zero_add, Nat.add_zero, Nat.mul_one, putL, and_self, ldn, t0, t1, t2, t10, t24, t25, b10.rd]
    obtain ⟨M3, hM3⟩ : ∃ M3, M3 = M2 ++ [⟨.own, 71, [.int .i64 ((steps T o u (i + 1)).getD 0 0), .int .i64 ((steps T o u (i + 1)).getD 1 0), .int .i64 ((steps T o u (i + 1)).getD 2 0)]⟩] := ⟨_, rfl⟩
    have b11 : OwnB M3 M2.length 71 [.int .i64 ((steps T o u (i + 1)).getD 0 0), .int .i64 ((steps T o u (i + 1)).getD 1 0), .int .i64 ((steps T o u (i + 1)).getD 2 0)] := by rw [hM3]; exact OwnB.here rfl
    replace b10 := b10.ext [⟨.own, 71, [.int .i64 ((steps T o u (i + 1)).getD 0 0), .int .i64 ((steps T o u (i + 1)).getD 1 0), .int .i64 ((steps T o u (i + 1)).getD 2 0)]⟩]
    replace hXM := hXM.one 71 [.int .i64 ((steps T o u (i + 1)).getD 0 0), .int .i64 ((steps T o u (i + 1)).getD 1 0), .int .i64 ((steps T o u (i + 1)).getD 2 0)]
    rw [← hM3] at b10 hXM ⊢
    clear hM3
    by_cases hneg : (scanF (lessF T o u (steps T o u i)) T.length).1 < 0
    · have e := steps_stop hneg (N - i)
      rw [show i + (N - i) = N by omega] at e
      have e1 := steps_stop hneg 1
      rw [e1] at b11 ⊢
      simp (config := {implicitDefEqProofs := false, maxDischargeDepth := 20}) (disch := first | omega | (simp only [lenE]; done) | (simp only [lenE]; omega) | rfl | (simp only [lenE, markR_len]; done) | (simp only [lenE, markR_len]; omega)) only [runE, mapE, listE, initT_5, initT_6, initT_7, initT_8, resV, oneV, binA, unA, reduceCtorEq, Nat.reduceEqDiff, Nat.reduceAdd, Nat.reduceLT, Nat.reduceLeDiff, Nat.reduceMul, Nat.reduceSub, ↓reduceIte, decide_true, decide_false, Bool.true_eq_false, Bool.false_eq_true, Bool.not_true, Bool.not_false, if_true, if_false, and_true, true_and, memE, celE, w64, Nat.zero_add, Nat.add_zero, Nat.mul_one, putL, and_self, ldn, t0, t1, t2, t10, t24, t25, b11.ar, b10.ar, ae_self]
      have hT3 := h.xtS hXM
      first | refine callH_rc (listOfOrders_rc _ v T (steps T o u i) hT3 hlen l3) ?_ | refine rcallH_rc (listOfOrders_rc _ v T (steps T o u i) hT3 hlen l3) ?_
      intro r n3 hA
      simp (config := {implicitDefEqProofs := false, maxDischargeDepth := 20}) (disch := first | omega | (simp only [lenE]; done) | (simp only [lenE]; omega) | rfl | (simp only [lenE, markR_len]; done) | (simp only [lenE, markR_len]; omega)) only [runE, mapE, listE, initT_5, initT_6, initT_7, initT_8, resV, oneV, binA, unA, reduceCtorEq, Nat.reduceEqDiff, Nat.reduceAdd, Nat.reduceLT, Nat.reduceLeDiff, Nat.reduceMul, Nat.reduceSub, ↓reduceIte, decide_true, decide_false, Bool.true_eq_false, Bool.false_eq_true, Bool.not_true, Bool.not_false, if_true, if_false, and_true, true_and, memE, celE, w64, Nat.zero_add, Nat.add_zero, Nat.mul_one, putL, and_self, ldn]
      exact fin hXM e hA
    · have hae := ae_ne (step_ne hlen l3 hneg)
      rw [show oneStep T o u (steps T o u i) = steps T o u (i + 1) from rfl] at hae
      simp (config := {implicitDefEqProofs := false, maxDischargeDepth := 20}) (disch := first | omega | (simp only [lenE]; done) | (simp only [lenE]; omega) | rfl | (simp only [lenE, markR_len]; done) | (simp only [lenE, markR_len]; omega)) only [runE, mapE, listE, initT_5, initT_6, initT_7, initT_8, resV, oneV, binA, unA, reduceCtorEq, Nat.reduceEqDiff, Nat.reduceAdd, Nat.reduceLT, Nat.reduceLeDiff, Nat.reduceMul, Nat.reduceSub, ↓reduceIte, decide_true, decide_false, Bool.true_eq_false, Bool.false_eq_true, Bool.not_true, Bool.not_false, if_true, if_false, and_true, true_and, memE, celE, w64, Nat.zero_add, Nat.add_zero, Nat.mul_one, putL, and_self, ldn, t0, t1, t2, t10, t24, t25, b11.ar, b10.ar, hae, b10.sta]
      exact ⟨⟨i + 1, _, by omega, hXM.put (by omega) _ _, b10.set_self _ _, by simp⟩, by simp [intOf]; omega⟩
  · obtain rfl : i = N := by omega
    have hlt' : ¬ ((i : Int) < i) := by omega
    simp (config := {implicitDefEqProofs := false, maxDischargeDepth := 20}) (disch := first | omega | (simp only [lenE]; done) | (simp only [lenE]; omega) | rfl | (simp only [lenE, markR_len]; done) | (simp only [lenE, markR_len]; omega)) only [runE, mapE, listE, initT_5, initT_6, initT_7, initT_8, resV, oneV, binA, unA, reduceCtorEq, Nat.reduceEqDiff, Nat.reduceAdd, Nat.reduceLT, Nat.reduceLeDiff, Nat.reduceMul, Nat.reduceSub, ↓reduceIte, decide_true, decide_false, Bool.true_eq_false, Bool.false_eq_true, Bool.not_true, Bool.not_false, if_true, if_false, and_true, true_and, memE, celE, w64, Nat.zero_add, Nat.add_zero, Nat.mul_one, putL, and_self, ldn, tm, t0, t1, t2, t10, t24, t25, hlt', b10.ar]
    first | refine callH_rc (listOfOrders_rc _ v T (steps T o u i) hTM hlen l3) ?_ | refine rcallH_rc (listOfOrders_rc _ v T (steps T o u i) hTM hlen l3) ?_
    intro r n3 hA
    simp (config := {implicitDefEqProofs := false, maxDischargeDepth := 20}) (disch := first | omega | (simp only [lenE]; done) | (simp only [lenE]; omega) | rfl | (simp only [lenE, markR_len]; done) | (simp only [lenE, markR_len]; omega)) only [runE, mapE, listE, initT_5, initT_6, initT_7, initT_8, resV, oneV, binA, unA, reduceCtorEq, Nat.reduceEqDiff, Nat.reduceAdd, Nat.reduceLT, Nat.reduceLeDiff, Nat.reduceMul, Nat.reduceSub, ↓reduceIte, decide_true, decide_false, Bool.true_eq_false, Bool.false_eq_true, Bool.not_true, Bool.not_false, if_true, if_false, and_true, true_and, memE, celE, w64, Nat.zero_add, Nat.add_zero, Nat.mul_one, putL, and_self, ldn]
    exact fin hXM rfl hA
end Go.Proofs.Ytghaogfhmbjlkaa.Ab
