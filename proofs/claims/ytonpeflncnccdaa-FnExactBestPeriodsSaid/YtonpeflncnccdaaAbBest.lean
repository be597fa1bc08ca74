/- The model's side of BestPeriods, BestCost and PlanFrom. -/
import Derived.Test.YtonpeflncnccdaaAbApp
import Derived.Test.YtonpeflncnccdaaBestMath
namespace Go.Proofs.Ytonpeflncnccdaa.Ab
open Go Go.RowKit
set_option linter.unusedVariables false
set_option linter.unusedSimpArgs false

theorem l2Covers_rc (m : Mem) (v u : Value) (k : Cs) (ps : List Int) (h : CaseA m v k) (h' : IntsA m u ps) (hg : Good k) (hl : ps.length ≤ 1048576) :
    RC Try.prog 42 [v, u] m (AnsV (.bool (covers k.need ps))) := by
  refine rc_of_run mixed ok_spec_l2Covers (by simp) (go_start _ _ _ ?_)
  obtain ⟨v1, v2, v3, v4, rfl, h1, h2, h3, h4⟩ := h.ro.ok
  have hu := h'.ro
  have h8 := hg.n8
  have hx : Grow (roM m ++ [⟨.own, 28, [v1, v2, v3, v4]⟩]) (roM m ++ [⟨.own, 28, [v1, v2, v3, v4]⟩]) := Grow.refl _
  obtain ⟨r0, r1, r2, r3, hlM⟩ := hx.box4
  have i1 := hx.intsV h1
  have iu := hx.intsV hu
  simp (config := {implicitDefEqProofs := false, maxDischargeDepth := 20}) (disch := first | omega | (simp only [lenE]; done) | (simp only [lenE]; omega) | rfl | (simp only [lenE, markR_len]; done) | (simp only [lenE, markR_len]; omega)) only [runE, mapE, listE, initT_5, initT_6, initT_7, initT_8, resV, oneV, binA, unA, reduceCtorEq, Nat.reduceEqDiff, Nat.reduceAdd, Nat.reduceLT, Nat.reduceLeDiff, Nat.reduceMul, Nat.reduceSub, ↓reduceIte, decide_true, decide_false, Bool.true_eq_false, Bool.false_eq_true, Bool.not_true, Bool.not_false, if_true, if_false, and_true, true_and, memE, celE, w64, Nat.zero_add, Nat.add_zero, Nat.mul_one, putL, and_self, ldn, c_spec_l2Covers, r_spec_l2Covers]
  refine loop_inv mixed (fun s => ∃ t : Nat, t ≤ k.need.length ∧ (∀ j, j < t → k.need.getD j 0 ≤ 0) ∧ s.t 1 = u ∧ s.t 2 = .pointer (some ⟨m.length, 0, none⟩) ∧ s.t 5 = .int .i64 t ∧ s.m = roM m ++ [⟨.own, 28, [v1, v2, v3, v4]⟩]) (fun s => k.need.length - (intOf (s.t 5)).toNat)
    ⟨0, by omega, fun j hj => absurd hj (by omega), rfl, rfl, rfl, rfl⟩ ?_
  rintro s ⟨t, hk, hall, t1, t2, t5, tm⟩
  by_cases hlt : t < k.need.length
  · have hlt' : (t : Int) < k.need.length := by omega
    have go : ∀ hf : ¬ (0 < ps.length ∧ ps.getD 0 0 ≤ t), True := fun _ => trivial
    by_cases hp : 0 < ps.length
    · have hp' : (0 : Int) < ps.length := by omega
      have a0 : iadA 1 u (.int .i64 0) = some (pAt u 0) := iu.at_ 0 hp
      have l0 := iu.ld 0 hp
      by_cases hq : ps.getD 0 0 ≤ t
      · simp (config := {implicitDefEqProofs := false, maxDischargeDepth := 20}) (disch := first | omega | (simp only [lenE]; done) | (simp only [lenE]; omega) | rfl | (simp only [lenE, markR_len]; done) | (simp only [lenE, markR_len]; omega)) only [runE, mapE, listE, initT_5, initT_6, initT_7, initT_8, resV, oneV, binA, unA, reduceCtorEq, Nat.reduceEqDiff, Nat.reduceAdd, Nat.reduceLT, Nat.reduceLeDiff, Nat.reduceMul, Nat.reduceSub, ↓reduceIte, decide_true, decide_false, Bool.true_eq_false, Bool.false_eq_true, Bool.not_true, Bool.not_false, if_true, if_false, and_true, true_and, memE, celE, w64, Nat.zero_add, Nat.add_zero, Nat.mul_one, putL, and_self, ldn, t1, t2, t5, tm, r0, i1.len, hlt', hu.len, gt_iff_lt, hp', a0, l0, hq]
        rw [covers_yes hk hall (.inr ⟨hp, hq⟩)]
        exact ext_ansV hx.ext rfl
      · by_cases hn : 0 < k.need.getD t 0
        · simp (config := {implicitDefEqProofs := false, maxDischargeDepth := 20}) (disch := first | omega | (simp only [lenE]; done) | (simp only [lenE]; omega) | rfl | (simp only [lenE, markR_len]; done) | (simp only [lenE, markR_len]; omega)) only [runE, mapE, listE, initT_5, initT_6, initT_7, initT_8, resV, oneV, binA, unA, reduceCtorEq, Nat.reduceEqDiff, Nat.reduceAdd, Nat.reduceLT, Nat.reduceLeDiff, Nat.reduceMul, Nat.reduceSub, ↓reduceIte, decide_true, decide_false, Bool.true_eq_false, Bool.false_eq_true, Bool.not_true, Bool.not_false, if_true, if_false, and_true, true_and, memE, celE, w64, Nat.zero_add, Nat.add_zero, Nat.mul_one, putL, and_self, ldn, t1, t2, t5, tm, r0, i1.len, hlt', hu.len, gt_iff_lt, hp', a0, l0, hq, i1.at_ t hlt, i1.ld t hlt, hn]
          rw [covers_no hlt hn fun hh => hq hh.2]
          exact ext_ansV hx.ext rfl
        · simp (config := {implicitDefEqProofs := false, maxDischargeDepth := 20}) (disch := first | omega | (simp only [lenE]; done) | (simp only [lenE]; omega) | rfl | (simp only [lenE, markR_len]; done) | (simp only [lenE, markR_len]; omega)) only [runE, mapE, listE, initT_5, initT_6, initT_7, initT_8, resV, oneV, binA, unA, reduceCtorEq, Nat.reduceEqDiff, Nat.reduceAdd, Nat.reduceLT, Nat.reduceLeDiff, Nat.reduceMul, Nat.reduceSub, ↓reduceIte, decide_true, decide_false, Bool.true_eq_false, Bool.false_eq_true, Bool.not_true, Bool.not_false, if_true, if_false, and_true, true_and, memE, celE, w64, Nat.zero_add, Nat.add_zero, Nat.mul_one, putL, and_self, ldn, t1, t2, t5, tm, r0, i1.len, hlt', hu.len, gt_iff_lt, hp', a0, l0, hq, i1.at_ t hlt, i1.ld t hlt, hn]
          refine ⟨⟨t + 1, by omega, fun j hj => ?_, by simp⟩, by simp [intOf]; omega⟩
          by_cases e : j < t
          · exact hall j e
          · have : j = t := by omega
            rw [this]; omega
    · have hp' : ¬ ((0 : Int) < ps.length) := by omega
      by_cases hn : 0 < k.need.getD t 0
      · simp (config := {implicitDefEqProofs := false, maxDischargeDepth := 20}) (disch := first | omega | (simp only [lenE]; done) | (simp only [lenE]; omega) | rfl | (simp only [lenE, markR_len]; done) | (simp only [lenE, markR_len]; omega)) only [runE, mapE, listE, initT_5, initT_6, initT_7, initT_8, resV, oneV, binA, unA, reduceCtorEq, Nat.reduceEqDiff, Nat.reduceAdd, Nat.reduceLT, Nat.reduceLeDiff, Nat.reduceMul, Nat.reduceSub, ↓reduceIte, decide_true, decide_false, Bool.true_eq_false, Bool.false_eq_true, Bool.not_true, Bool.not_false, if_true, if_false, and_true, true_and, memE, celE, w64, Nat.zero_add, Nat.add_zero, Nat.mul_one, putL, and_self, ldn, t1, t2, t5, tm, r0, i1.len, hlt', hu.len, gt_iff_lt, hp', i1.at_ t hlt, i1.ld t hlt, hn]
        rw [covers_no hlt hn fun hh => hp hh.1]
        exact ext_ansV hx.ext rfl
      · simp (config := {implicitDefEqProofs := false, maxDischargeDepth := 20}) (disch := first | omega | (simp only [lenE]; done) | (simp only [lenE]; omega) | rfl | (simp only [lenE, markR_len]; done) | (simp only [lenE, markR_len]; omega)) only [runE, mapE, listE, initT_5, initT_6, initT_7, initT_8, resV, oneV, binA, unA, reduceCtorEq, Nat.reduceEqDiff, Nat.reduceAdd, Nat.reduceLT, Nat.reduceLeDiff, Nat.reduceMul, Nat.reduceSub, ↓reduceIte, decide_true, decide_false, Bool.true_eq_false, Bool.false_eq_true, Bool.not_true, Bool.not_false, if_true, if_false, and_true, true_and, memE, celE, w64, Nat.zero_add, Nat.add_zero, Nat.mul_one, putL, and_self, ldn, t1, t2, t5, tm, r0, i1.len, hlt', hu.len, gt_iff_lt, hp', i1.at_ t hlt, i1.ld t hlt, hn]
        refine ⟨⟨t + 1, by omega, fun j hj => ?_, by simp⟩, by simp [intOf]; omega⟩
        by_cases e : j < t
        · exact hall j e
        · have : j = t := by omega
          rw [this]; omega
  · have hlt' : ¬ ((t : Int) < k.need.length) := by omega
    have e : t = k.need.length := by omega
    simp (config := {implicitDefEqProofs := false, maxDischargeDepth := 20}) (disch := first | omega | (simp only [lenE]; done) | (simp only [lenE]; omega) | rfl | (simp only [lenE, markR_len]; done) | (simp only [lenE, markR_len]; omega)) only [runE, mapE, listE, initT_5, initT_6, initT_7, initT_8, resV, oneV, binA, unA, reduceCtorEq, Nat.reduceEqDiff, Nat.reduceAdd, Nat.reduceLT, Nat.reduceLeDiff, Nat.reduceMul, Nat.reduceSub, ↓reduceIte, decide_true, decide_false, Bool.true_eq_false, Bool.false_eq_true, Bool.not_true, Bool.not_false, if_true, if_false, and_true, true_and, memE, celE, w64, Nat.zero_add, Nat.add_zero, Nat.mul_one, putL, and_self, ldn, t1, t2, t5, tm, r0, i1.len, hlt']
    rw [covers_yes hk hall (.inl e)]
    exact ext_ansV hx.ext rfl

theorem l2From_rc (m : Mem) (v u : Value) (k : Cs) (ps : List Int) (h : CaseA m v k) (h' : IntsA m u ps) (hg : Good k) (hr : Rising ps k.need.length) (hl : ps.length ≤ 1048576) :
    RC Try.prog 43 [v, u] m (AnsR m (fromL k.need ps)) := by
  refine rc_of_run mixed ok_spec_l2From (by simp) (go_start _ _ _ ?_)
  obtain ⟨v1, v2, v3, v4, rfl, h1, h2, h3, h4⟩ := h.ro.ok
  have hu := h'.ro
  have h8 := hg.n8
  obtain ⟨n, hn⟩ : ∃ n, n = k.need.length := ⟨_, rfl⟩
  have mk : ∀ M : Mem, mksA M 3 8 [.int .i64 0] (.int .i64 (n : Int)) (.int .i64 (n : Int)) = some (.slice (some ⟨M.length, 0, none⟩) n 1, M ++ [⟨.own, 3, List.replicate n (.int .i64 0)⟩]) := fun M => mksA_eq rfl (by omega)
  have l1 := h1.len
  rw [← hn] at l1 hr h8
  simp (config := {implicitDefEqProofs := false, maxDischargeDepth := 20}) (disch := first | omega | (simp only [lenE]; done) | (simp only [lenE]; omega) | rfl | (simp only [lenE, markR_len]; done) | (simp only [lenE, markR_len]; omega)) only [runE, mapE, listE, initT_5, initT_6, initT_7, initT_8, resV, oneV, binA, unA, reduceCtorEq, Nat.reduceEqDiff, Nat.reduceAdd, Nat.reduceLT, Nat.reduceLeDiff, Nat.reduceMul, Nat.reduceSub, ↓reduceIte, decide_true, decide_false, Bool.true_eq_false, Bool.false_eq_true, Bool.not_true, Bool.not_false, if_true, if_false, and_true, true_and, memE, celE, w64, Nat.zero_add, Nat.add_zero, Nat.mul_one, putL, and_self, ldn, c_spec_l2From, r_spec_l2From, l1, mk]
  have hx : Grow (roM m ++ [⟨.own, 28, [v1, v2, v3, v4]⟩]) (roM m ++ [⟨.own, 28, [v1, v2, v3, v4]⟩] ++ [⟨.own, 3, List.replicate n (.int .i64 0)⟩]) := (Grow.refl _).one _ _
  have o0 : OwnR (roM m ++ [⟨.own, 28, [v1, v2, v3, v4]⟩] ++ [⟨.own, 3, List.replicate n (.int .i64 0)⟩]) (m.length + 1) (List.replicate n 0) := OwnR.zeros (by simp [roM_len])
  refine loop_inv mixed (fun s => ∃ (i : Nat) (M : Mem), i ≤ ps.length ∧ s.t 1 = u ∧ s.t 2 = .pointer (some ⟨m.length, 0, none⟩) ∧ s.t 5 = .slice (some ⟨m.length + 1, 0, none⟩) n 1 ∧ s.t 6 = .int .i64 i ∧ s.m = M ∧ Grow (roM m ++ [⟨.own, 28, [v1, v2, v3, v4]⟩]) M ∧ OwnR M (m.length + 1) (fromI k.need ps i)) (fun s => ps.length - (intOf (s.t 6)).toNat)
    ⟨0, _, by omega, rfl, rfl, by simp only [put_t, put_t', put_m, putT_t, putT_t', putT_m, init_t, init_m, initT_0, initT_1, initT_2, initT_3, initT_4, initT_5, initT_6, initT_7, initT_8, Nat.reduceEqDiff, ↓reduceIte], rfl, rfl, hx, by rw [fromI, ← hn]; exact o0⟩ ?_
  rintro s ⟨i, M, hk, t1, t2, t5, t6, tm, hxM, oM⟩
  obtain ⟨r0, r1, r2, r3, hlM⟩ := hxM.box4
  have i1 := hxM.intsV h1
  have iu := hxM.intsV hu
  have l1 := i1.len
  rw [← hn] at l1
  by_cases hlt : i < ps.length
  · have hlt' : (i : Int) < ps.length := by omega
    have hb := hr.bd i hlt
    obtain ⟨p, hp⟩ : ∃ p : Nat, ps.getD i 0 = (p : Int) := ⟨(ps.getD i 0).toNat, by omega⟩
    have hnx := nxtP_in hr hlt
    have hpn : (ps.getD i 0).toNat = p := by omega
    rw [hpn] at hnx
    obtain ⟨c1, e1, d1⟩ := i1.cut hnx.1 (by omega)
    have li := iu.ld i hlt
    rw [hp] at li
    have hfl := fromI_len k.need ps i
    have hxp : p < (fromI k.need ps i).length := by omega
    have fin : ∀ x : Int, x = sumR k.need p (nxtP n ps i) → OwnR (M.set (m.length + 1) (rowB ((fromI k.need ps i).set p x))) (m.length + 1) (fromI k.need ps (i + 1)) := fun x hx => by
      have := OwnR.set_self (L' := (fromI k.need ps i).set p x) oM
      rw [fromI, hpn, ← hn, ← hx]; exact this
    by_cases h2 : i + 1 < ps.length
    · have h2' : (i : Int) + 1 < ps.length := by omega
      have a2 := iu.at_ (i + 1) h2
      have l2 := iu.ld (i + 1) h2
      have ee : ps.getD (i + 1) 0 = (nxtP n ps i : Int) := by unfold nxtP; rw [if_pos h2]; have := hr.bd (i + 1) h2; omega
      rw [ee] at l2
      have cast1 : ((i + 1 : Nat) : Int) = (i : Int) + 1 := by omega
      rw [cast1] at a2
      simp (config := {implicitDefEqProofs := false, maxDischargeDepth := 20}) (disch := first | omega | (simp only [lenE]; done) | (simp only [lenE]; omega) | rfl | (simp only [lenE, markR_len]; done) | (simp only [lenE, markR_len]; omega)) only [runE, mapE, listE, initT_5, initT_6, initT_7, initT_8, resV, oneV, binA, unA, reduceCtorEq, Nat.reduceEqDiff, Nat.reduceAdd, Nat.reduceLT, Nat.reduceLeDiff, Nat.reduceMul, Nat.reduceSub, ↓reduceIte, decide_true, decide_false, Bool.true_eq_false, Bool.false_eq_true, Bool.not_true, Bool.not_false, if_true, if_false, and_true, true_and, memE, celE, w64, Nat.zero_add, Nat.add_zero, Nat.mul_one, putL, and_self, ldn, t1, t2, t5, t6, tm, hu.len, hlt', r0, l1, h2', a2, l2, iu.at_ i hlt, li, e1]
      refine rcallH_rc (l2Sum_rc _ _ (cutL k.need p (nxtP n ps i)) d1 fun q hq => ?_) ?_
      · rw [cutL_len (by omega)] at hq
        rw [sumTo_cut hnx.1 (by omega) q hq]
        have := sumR_in (m := 20) (by omega) hg.need p q
        omega
      rintro r new ⟨rfl, rfl⟩
      rw [sumTo_cut' hnx.1 (by omega)]
      have w := oM.st (off := p) (x := sumR k.need p (nxtP n ps i)) hxp
      simp (config := {implicitDefEqProofs := false, maxDischargeDepth := 20}) (disch := first | omega | (simp only [lenE]; done) | (simp only [lenE]; omega) | rfl | (simp only [lenE, markR_len]; done) | (simp only [lenE, markR_len]; omega)) only [runE, mapE, listE, initT_5, initT_6, initT_7, initT_8, resV, oneV, binA, unA, reduceCtorEq, Nat.reduceEqDiff, Nat.reduceAdd, Nat.reduceLT, Nat.reduceLeDiff, Nat.reduceMul, Nat.reduceSub, ↓reduceIte, decide_true, decide_false, Bool.true_eq_false, Bool.false_eq_true, Bool.not_true, Bool.not_false, if_true, if_false, and_true, true_and, memE, celE, w64, Nat.zero_add, Nat.add_zero, Nat.mul_one, putL, and_self, ldn, t1, t2, t5, t6, tm, iadA_in (show p < n by omega), w]
      exact ⟨⟨i + 1, _, by omega, by simp, rfl, hxM.put (id := m.length + 1) (by simp [roM_len]) _ _, fin _ rfl⟩, by simp [intOf]; omega⟩
    · have h2' : ¬ ((i : Int) + 1 < ps.length) := by omega
      have ee : (n : Int) = (nxtP n ps i : Int) := by unfold nxtP; rw [if_neg h2]
      simp (config := {implicitDefEqProofs := false, maxDischargeDepth := 20}) (disch := first | omega | (simp only [lenE]; done) | (simp only [lenE]; omega) | rfl | (simp only [lenE, markR_len]; done) | (simp only [lenE, markR_len]; omega)) only [runE, mapE, listE, initT_5, initT_6, initT_7, initT_8, resV, oneV, binA, unA, reduceCtorEq, Nat.reduceEqDiff, Nat.reduceAdd, Nat.reduceLT, Nat.reduceLeDiff, Nat.reduceMul, Nat.reduceSub, ↓reduceIte, decide_true, decide_false, Bool.true_eq_false, Bool.false_eq_true, Bool.not_true, Bool.not_false, if_true, if_false, and_true, true_and, memE, celE, w64, Nat.zero_add, Nat.add_zero, Nat.mul_one, putL, and_self, ldn, t1, t2, t5, t6, tm, hu.len, hlt', r0, l1, h2', iu.at_ i hlt, li, ee, e1]
      refine rcallH_rc (l2Sum_rc _ _ (cutL k.need p (nxtP n ps i)) d1 fun q hq => ?_) ?_
      · rw [cutL_len (by omega)] at hq
        rw [sumTo_cut hnx.1 (by omega) q hq]
        have := sumR_in (m := 20) (by omega) hg.need p q
        omega
      rintro r new ⟨rfl, rfl⟩
      rw [sumTo_cut' hnx.1 (by omega)]
      have w := oM.st (off := p) (x := sumR k.need p (nxtP n ps i)) hxp
      simp (config := {implicitDefEqProofs := false, maxDischargeDepth := 20}) (disch := first | omega | (simp only [lenE]; done) | (simp only [lenE]; omega) | rfl | (simp only [lenE, markR_len]; done) | (simp only [lenE, markR_len]; omega)) only [runE, mapE, listE, initT_5, initT_6, initT_7, initT_8, resV, oneV, binA, unA, reduceCtorEq, Nat.reduceEqDiff, Nat.reduceAdd, Nat.reduceLT, Nat.reduceLeDiff, Nat.reduceMul, Nat.reduceSub, ↓reduceIte, decide_true, decide_false, Bool.true_eq_false, Bool.false_eq_true, Bool.not_true, Bool.not_false, if_true, if_false, and_true, true_and, memE, celE, w64, Nat.zero_add, Nat.add_zero, Nat.mul_one, putL, and_self, ldn, t1, t2, t5, t6, tm, iadA_in (show p < n by omega), w]
      exact ⟨⟨i + 1, _, by omega, by simp, rfl, hxM.put (id := m.length + 1) (by simp [roM_len]) _ _, fin _ rfl⟩, by simp [intOf]; omega⟩
  · have hlt' : ¬ ((i : Int) < ps.length) := by omega
    have e : i = ps.length := by omega
    subst e
    simp (config := {implicitDefEqProofs := false, maxDischargeDepth := 20}) (disch := first | omega | (simp only [lenE]; done) | (simp only [lenE]; omega) | rfl | (simp only [lenE, markR_len]; done) | (simp only [lenE, markR_len]; omega)) only [runE, mapE, listE, initT_5, initT_6, initT_7, initT_8, resV, oneV, binA, unA, reduceCtorEq, Nat.reduceEqDiff, Nat.reduceAdd, Nat.reduceLT, Nat.reduceLeDiff, Nat.reduceMul, Nat.reduceSub, ↓reduceIte, decide_true, decide_false, Bool.true_eq_false, Bool.false_eq_true, Bool.not_true, Bool.not_false, if_true, if_false, and_true, true_and, memE, celE, w64, Nat.zero_add, Nat.add_zero, Nat.mul_one, putL, and_self, ldn, t1, t2, t5, t6, tm, hu.len, hlt']
    exact ext_ansR hxM.ext (show OwnR M (m.length + 1) (fromL k.need ps) from oM) (by omega) (by rw [fromL_len, hn]) (by rw [fromL_len]; omega)

theorem and1 (x : Nat) : (BitVec.ofInt 64 (x : Int) &&& BitVec.ofInt 64 1).toNat = x % 2 := by
  rw [show (BitVec.ofInt 64 (1 : Int)) = 1#64 from rfl]
  rw [BitVec.toNat_and, BitVec.toNat_ofInt]
  simp [Nat.and_one_is_mod]
  omega
theorem and1w (x : Nat) (h : x ≤ 1000) : IntKind.wrap .i64 (((BitVec.ofInt IntKind.i64.bits (x : Int) &&& BitVec.ofInt IntKind.i64.bits 1).toNat : Nat) : Int) = ((x % 2 : Nat) : Int) := by
  rw [show ((BitVec.ofInt IntKind.i64.bits (x : Int) &&& BitVec.ofInt IntKind.i64.bits 1).toNat) = x % 2 from and1 x]
  exact w64 ⟨by omega, by omega⟩
theorem shr_code {c x : Nat} (h : x ≤ 63) : (c : Int).fdiv (2 ^ (min ((x : Nat) : Int).toNat IntKind.i64.bits)) = ((c / 2 ^ x : Nat) : Int) := by
  have : min ((x : Nat) : Int).toNat IntKind.i64.bits = x := by
    have : IntKind.i64.bits = 64 := rfl
    rw [this]; omega
  rw [this]
  have e : (2 : Int) ^ x = ((2 ^ x : Nat) : Int) := by simp
  rw [e, Int.natCast_ediv]
  exact Int.fdiv_eq_ediv_of_nonneg _ (Int.natCast_nonneg _)

theorem l2Bits_rc (m : Mem) (n c : Nat) (hn : n ≤ 8) (hc : c ≤ 256) :
    RC Try.prog 64 [.int .i64 n, .int .i64 c] m (AnsR m (bitsL c n)) := by
  refine rc_of_run mixed ok_spec_l2Bits (by simp) (go_start _ _ _ ?_)
  simp (config := {implicitDefEqProofs := false, maxDischargeDepth := 20}) (disch := first | omega | (simp only [lenE]; done) | (simp only [lenE]; omega) | rfl | (simp only [lenE, markR_len]; done) | (simp only [lenE, markR_len]; omega)) only [runE, mapE, listE, initT_5, initT_6, initT_7, initT_8, resV, oneV, binA, unA, reduceCtorEq, Nat.reduceEqDiff, Nat.reduceAdd, Nat.reduceLT, Nat.reduceLeDiff, Nat.reduceMul, Nat.reduceSub, ↓reduceIte, decide_true, decide_false, Bool.true_eq_false, Bool.false_eq_true, Bool.not_true, Bool.not_false, if_true, if_false, and_true, true_and, memE, celE, w64, Nat.zero_add, Nat.add_zero, Nat.mul_one, putL, and_self, ldn, c_spec_l2Bits, r_spec_l2Bits, bsl_none]
  refine loop_inv mixed (fun s => ∃ (x : Nat) (M : Mem) (id : Nat), x ≤ n ∧ s.t 0 = .int .i64 n ∧ s.t 1 = .int .i64 c ∧ s.t 5 = .slice (some ⟨id, 0, none⟩) (bitsL c x).length 1 ∧ s.t 6 = .int .i64 x ∧ s.m = M ∧ Ext m M ∧ OwnR M id (bitsL c x) ∧ m.length ≤ id) (fun s => n - (intOf (s.t 6)).toNat)
    ⟨0, _, m.length, by omega, rfl, rfl, by simp only [put_t, put_t', put_m, putT_t, putT_t', putT_m, init_t, init_m, initT_0, initT_1, initT_2, initT_3, initT_4, initT_5, initT_6, initT_7, initT_8, Nat.reduceEqDiff, ↓reduceIte]; rfl, rfl, rfl, (Ext.refl m).one _ _, OwnR.end' (l := []) (by simp [roM_len]), Nat.le_refl _⟩ ?_
  rintro s ⟨x, M, id, hk, t0, t1, t5, t6, tm, hx, oM, lid⟩
  by_cases hlt : x < n
  · have hlt' : (x : Int) < n := by omega
    have hx0 : ¬ ((x : Int) < 0) := by omega
    have hd : c / 2 ^ x ≤ 1000 := Nat.le_trans (Nat.div_le_self _ _) (by omega)
    have aw := and1w (c / 2 ^ x) hd
    have bl := bitsL_len c x
    by_cases hb : c / 2 ^ x % 2 = 1
    · have hb' : (((c / 2 ^ x % 2 : Nat) : Int) == 1) = true := by rw [hb]; rfl
      simp (config := {implicitDefEqProofs := false, maxDischargeDepth := 20}) (disch := first | omega | (simp only [lenE]; done) | (simp only [lenE]; omega) | rfl | (simp only [lenE, markR_len]; done) | (simp only [lenE, markR_len]; omega)) only [runE, mapE, listE, initT_5, initT_6, initT_7, initT_8, resV, oneV, binA, unA, reduceCtorEq, Nat.reduceEqDiff, Nat.reduceAdd, Nat.reduceLT, Nat.reduceLeDiff, Nat.reduceMul, Nat.reduceSub, ↓reduceIte, decide_true, decide_false, Bool.true_eq_false, Bool.false_eq_true, Bool.not_true, Bool.not_false, if_true, if_false, and_true, true_and, memE, celE, w64, Nat.zero_add, Nat.add_zero, Nat.mul_one, putL, and_self, ldn, t0, t1, t5, t6, tm, hlt', hx0, shr_code (c := c) (show x ≤ 63 by omega), aw, hb', bsl_one, app_gen oM (by omega)]
      refine ⟨⟨x + 1, _, M.length + 1, by omega, by rw [bitsL, if_pos hb]; simp, by simp, rfl, ((hx.dead lid).one _ _).one _ _, ?_, by have := hx.len; omega⟩, by simp [intOf]; omega⟩
      rw [bitsL, if_pos hb]
      have := OwnR.at_end (M.set id deadB ++ [⟨.own, 3, [.int .i64 (x : Int)]⟩]) (bitsL c x ++ [(x : Int)])
      simpa using this
    · have hb' : (((c / 2 ^ x % 2 : Nat) : Int) == 1) = false := by
        have : c / 2 ^ x % 2 = 0 := by omega
        rw [this]; rfl
      simp (config := {implicitDefEqProofs := false, maxDischargeDepth := 20}) (disch := first | omega | (simp only [lenE]; done) | (simp only [lenE]; omega) | rfl | (simp only [lenE, markR_len]; done) | (simp only [lenE, markR_len]; omega)) only [runE, mapE, listE, initT_5, initT_6, initT_7, initT_8, resV, oneV, binA, unA, reduceCtorEq, Nat.reduceEqDiff, Nat.reduceAdd, Nat.reduceLT, Nat.reduceLeDiff, Nat.reduceMul, Nat.reduceSub, ↓reduceIte, decide_true, decide_false, Bool.true_eq_false, Bool.false_eq_true, Bool.not_true, Bool.not_false, if_true, if_false, and_true, true_and, memE, celE, w64, Nat.zero_add, Nat.add_zero, Nat.mul_one, putL, and_self, ldn, t0, t1, t5, t6, tm, hlt', hx0, shr_code (c := c) (show x ≤ 63 by omega), aw, hb']
      exact ⟨⟨x + 1, M, id, by omega, by rw [bitsL, if_neg hb], by simp, rfl, hx, by rw [bitsL, if_neg hb]; exact oM, lid⟩, by simp [intOf]; omega⟩
  · have hlt' : ¬ ((x : Int) < n) := by omega
    have e : x = n := by omega
    subst e
    have := bitsL_len c x
    simp (config := {implicitDefEqProofs := false, maxDischargeDepth := 20}) (disch := first | omega | (simp only [lenE]; done) | (simp only [lenE]; omega) | rfl | (simp only [lenE, markR_len]; done) | (simp only [lenE, markR_len]; omega)) only [runE, mapE, listE, initT_5, initT_6, initT_7, initT_8, resV, oneV, binA, unA, reduceCtorEq, Nat.reduceEqDiff, Nat.reduceAdd, Nat.reduceLT, Nat.reduceLeDiff, Nat.reduceMul, Nat.reduceSub, ↓reduceIte, decide_true, decide_false, Bool.true_eq_false, Bool.false_eq_true, Bool.not_true, Bool.not_false, if_true, if_false, and_true, true_and, memE, celE, w64, Nat.zero_add, Nat.add_zero, Nat.mul_one, putL, and_self, ldn, t0, t1, t5, t6, tm, hlt']
    exact ext_ansR hx oM (by omega) rfl (by omega)

theorem l2Before_rc (m : Mem) (v u : Value) (a b : List Int) (h : IntsA m v a) (h' : IntsA m u b) :
    RC Try.prog 65 [v, u] m (AnsV (.bool (beforeB a b))) := by
  refine rc_of_run mixed ok_spec_l2Before (by simp) (go_start _ _ _ ?_)
  have hv := h.ro
  have hu := h'.ro
  have hbd := hv.bd
  by_cases hl : a.length = b.length
  · have hl' : ((a.length : Int) != (b.length : Int)) = false := by rw [hl]; simp
    have eB : beforeB a b = lexB (a.drop 0) (b.drop 0) := by unfold beforeB; rw [if_pos hl]; rfl
    simp (config := {implicitDefEqProofs := false, maxDischargeDepth := 20}) (disch := first | omega | (simp only [lenE]; done) | (simp only [lenE]; omega) | rfl | (simp only [lenE, markR_len]; done) | (simp only [lenE, markR_len]; omega)) only [runE, mapE, listE, initT_5, initT_6, initT_7, initT_8, resV, oneV, binA, unA, reduceCtorEq, Nat.reduceEqDiff, Nat.reduceAdd, Nat.reduceLT, Nat.reduceLeDiff, Nat.reduceMul, Nat.reduceSub, ↓reduceIte, decide_true, decide_false, Bool.true_eq_false, Bool.false_eq_true, Bool.not_true, Bool.not_false, if_true, if_false, and_true, true_and, memE, celE, w64, Nat.zero_add, Nat.add_zero, Nat.mul_one, putL, and_self, ldn, c_spec_l2Before, r_spec_l2Before, hv.len, hu.len, hl']
    refine loop_inv mixed (fun s => ∃ i : Nat, i ≤ a.length ∧ beforeB a b = lexB (a.drop i) (b.drop i) ∧ s.t 0 = v ∧ s.t 1 = u ∧ s.t 5 = .int .i64 i ∧ s.m = roM m) (fun s => a.length - (intOf (s.t 5)).toNat)
      ⟨0, by omega, eB, rfl, rfl, rfl, rfl⟩ ?_
    rintro s ⟨i, hk, he, t0, t1, t5, tm⟩
    by_cases hlt : i < a.length
    · have hlt' : (i : Int) < a.length := by omega
      rw [lexB_drop hlt (by omega)] at he
      by_cases hq : a.getD i 0 = b.getD i 0
      · have hq' : (a.getD i 0 != b.getD i 0) = false := by rw [hq]; simp
        rw [if_pos hq] at he
        simp (config := {implicitDefEqProofs := false, maxDischargeDepth := 20}) (disch := first | omega | (simp only [lenE]; done) | (simp only [lenE]; omega) | rfl | (simp only [lenE, markR_len]; done) | (simp only [lenE, markR_len]; omega)) only [runE, mapE, listE, initT_5, initT_6, initT_7, initT_8, resV, oneV, binA, unA, reduceCtorEq, Nat.reduceEqDiff, Nat.reduceAdd, Nat.reduceLT, Nat.reduceLeDiff, Nat.reduceMul, Nat.reduceSub, ↓reduceIte, decide_true, decide_false, Bool.true_eq_false, Bool.false_eq_true, Bool.not_true, Bool.not_false, if_true, if_false, and_true, true_and, memE, celE, w64, Nat.zero_add, Nat.add_zero, Nat.mul_one, putL, and_self, ldn, t0, t1, t5, tm, hv.len, hlt', hv.at_ i hlt, hv.ld i hlt, hu.at_ i (by omega), hu.ld i (by omega), hq']
        exact ⟨⟨i + 1, by omega, he, by simp⟩, by simp [intOf]; omega⟩
      · have hq' : (a.getD i 0 != b.getD i 0) = true := by simpa using hq
        rw [if_neg hq] at he
        simp (config := {implicitDefEqProofs := false, maxDischargeDepth := 20}) (disch := first | omega | (simp only [lenE]; done) | (simp only [lenE]; omega) | rfl | (simp only [lenE, markR_len]; done) | (simp only [lenE, markR_len]; omega)) only [runE, mapE, listE, initT_5, initT_6, initT_7, initT_8, resV, oneV, binA, unA, reduceCtorEq, Nat.reduceEqDiff, Nat.reduceAdd, Nat.reduceLT, Nat.reduceLeDiff, Nat.reduceMul, Nat.reduceSub, ↓reduceIte, decide_true, decide_false, Bool.true_eq_false, Bool.false_eq_true, Bool.not_true, Bool.not_false, if_true, if_false, and_true, true_and, memE, celE, w64, Nat.zero_add, Nat.add_zero, Nat.mul_one, putL, and_self, ldn, t0, t1, t5, tm, hv.len, hlt', hv.at_ i hlt, hv.ld i hlt, hu.at_ i (by omega), hu.ld i (by omega), hq']
        rw [he]
        exact ext_ansV (Ext.refl m) rfl
    · have hlt' : ¬ ((i : Int) < a.length) := by omega
      have e : i = a.length := by omega
      have : lexB (a.drop i) (b.drop i) = false := by rw [e, List.drop_length]; rfl
      rw [this] at he
      simp (config := {implicitDefEqProofs := false, maxDischargeDepth := 20}) (disch := first | omega | (simp only [lenE]; done) | (simp only [lenE]; omega) | rfl | (simp only [lenE, markR_len]; done) | (simp only [lenE, markR_len]; omega)) only [runE, mapE, listE, initT_5, initT_6, initT_7, initT_8, resV, oneV, binA, unA, reduceCtorEq, Nat.reduceEqDiff, Nat.reduceAdd, Nat.reduceLT, Nat.reduceLeDiff, Nat.reduceMul, Nat.reduceSub, ↓reduceIte, decide_true, decide_false, Bool.true_eq_false, Bool.false_eq_true, Bool.not_true, Bool.not_false, if_true, if_false, and_true, true_and, memE, celE, w64, Nat.zero_add, Nat.add_zero, Nat.mul_one, putL, and_self, ldn, t0, t1, t5, tm, hv.len, hlt']
      rw [he]
      exact ext_ansV (Ext.refl m) rfl
  · have hl' : ((a.length : Int) != (b.length : Int)) = true := by
      have : (a.length : Int) ≠ b.length := by omega
      simpa using this
    have eB : beforeB a b = decide ((a.length : Int) < b.length) := by unfold beforeB; rw [if_neg hl]; simp
    simp (config := {implicitDefEqProofs := false, maxDischargeDepth := 20}) (disch := first | omega | (simp only [lenE]; done) | (simp only [lenE]; omega) | rfl | (simp only [lenE, markR_len]; done) | (simp only [lenE, markR_len]; omega)) only [runE, mapE, listE, initT_5, initT_6, initT_7, initT_8, resV, oneV, binA, unA, reduceCtorEq, Nat.reduceEqDiff, Nat.reduceAdd, Nat.reduceLT, Nat.reduceLeDiff, Nat.reduceMul, Nat.reduceSub, ↓reduceIte, decide_true, decide_false, Bool.true_eq_false, Bool.false_eq_true, Bool.not_true, Bool.not_false, if_true, if_false, and_true, true_and, memE, celE, w64, Nat.zero_add, Nat.add_zero, Nat.mul_one, putL, and_self, ldn, c_spec_l2Before, r_spec_l2Before, hv.len, hu.len, hl']
    rw [eB]
    exact ext_ansV (Ext.refl m) rfl

theorem shl1 {n : Nat} (h : n ≤ 8) : IntKind.wrap .i64 (1 * 2 ^ (min ((n : Nat) : Int).toNat IntKind.i64.bits)) = ((2 ^ n : Nat) : Int) := by
  have : min ((n : Nat) : Int).toNat IntKind.i64.bits = n := by
    have : IntKind.i64.bits = 64 := rfl
    rw [this]; omega
  rw [this]
  have e : (2 : Int) ^ n = ((2 ^ n : Nat) : Int) := by simp
  have h2 : 2 ^ n ≤ 2 ^ 8 := Nat.pow_le_pow_right (by omega) h
  rw [e, Int.one_mul]
  have h3 : ((2 ^ n : Nat) : Int) ≤ 256 := by omega
  exact w64 ⟨by have := Int.natCast_nonneg (2 ^ n); omega, by omega⟩

theorem l2Best_rc (m : Mem) (v : Value) (k : Cs) (h : CaseA m v k) (hg : Good k) :
    RC Try.prog 40 [v] m (AnsR m (bestL k)) := by
  refine rc_of_run mixed ok_spec_l2Best (by simp) (go_start _ _ _ ?_)
  obtain ⟨v1, v2, v3, v4, rfl, h1, h2, h3, h4⟩ := h.ro.ok
  have hc : CaseA (roM m) (.agg #[v1, v2, v3, v4]) k := ⟨_, _, _, _, rfl, h1, h2, h3, h4⟩
  have h8 := hg.n8
  obtain ⟨n, hn⟩ : ∃ n, n = k.need.length := ⟨_, rfl⟩
  rw [← hn] at h8
  have sh := shl1 h8
  obtain ⟨N, hN⟩ : ∃ N : Nat, N = 2 ^ n := ⟨_, rfl⟩
  rw [← hN] at sh
  have hN8 : N ≤ 256 := by rw [hN]; exact Nat.pow_le_pow_right (by omega) (show n ≤ 8 from h8)
  have hn0 : ¬ ((n : Int) < 0) := by omega
  simp (config := {implicitDefEqProofs := false, maxDischargeDepth := 20}) (disch := first | omega | (simp only [lenE]; done) | (simp only [lenE]; omega) | rfl | (simp only [lenE, markR_len]; done) | (simp only [lenE, markR_len]; omega)) only [runE, mapE, listE, initT_5, initT_6, initT_7, initT_8, resV, oneV, binA, unA, reduceCtorEq, Nat.reduceEqDiff, Nat.reduceAdd, Nat.reduceLT, Nat.reduceLeDiff, Nat.reduceMul, Nat.reduceSub, ↓reduceIte, decide_true, decide_false, Bool.true_eq_false, Bool.false_eq_true, Bool.not_true, Bool.not_false, if_true, if_false, and_true, true_and, memE, celE, w64, Nat.zero_add, Nat.add_zero, Nat.mul_one, putL, and_self, ldn, c_spec_l2Best, r_spec_l2Best, bsl_none]
  have hx : Grow (roM m ++ [⟨.own, 28, [v1, v2, v3, v4]⟩]) (roM m ++ [⟨.own, 28, [v1, v2, v3, v4]⟩] ++ [⟨.own, 3, []⟩]) := (Grow.refl _).one _ _
  have o0 : OwnR (roM m ++ [⟨.own, 28, [v1, v2, v3, v4]⟩] ++ [⟨.own, 3, []⟩]) (m.length + 1) [] := OwnR.end' (l := []) (by simp [roM_len])
  refine loop_inv mixed (fun s => ∃ (c : Nat) (M : Mem) (id fl : Nat), c ≤ N ∧ s.t 1 = .pointer (some ⟨m.length, 0, none⟩) ∧ s.t 3 = .slice (some ⟨id, 0, none⟩) (bestC k c).1.length fl ∧ s.t 4 = .int .i64 (bestC k c).2 ∧ s.t 5 = .int .i64 c ∧ s.m = M ∧ Grow (roM m ++ [⟨.own, 28, [v1, v2, v3, v4]⟩]) M ∧ OwnR M id (bestC k c).1 ∧ m.length ≤ id) (fun s => N - (intOf (s.t 5)).toNat)
    ⟨0, _, m.length + 1, 1, by omega, rfl, rfl, rfl, rfl, rfl, hx, o0, by omega⟩ ?_
  rintro s ⟨c, M, id, fl, hk, t1, t3, t4, t5, tm, hxM, oM, lid⟩
  obtain ⟨r0, r1, r2, r3, hlM⟩ := hxM.box4
  have i1 := hxM.intsV h1
  have l1 := i1.len
  rw [← hn] at l1
  have bl := bestC_len k c
  by_cases hlt : c < N
  · have hlt' : (c : Int) < N := by omega
    simp (config := {implicitDefEqProofs := false, maxDischargeDepth := 20}) (disch := first | omega | (simp only [lenE]; done) | (simp only [lenE]; omega) | rfl | (simp only [lenE, markR_len]; done) | (simp only [lenE, markR_len]; omega)) only [runE, mapE, listE, initT_5, initT_6, initT_7, initT_8, resV, oneV, binA, unA, reduceCtorEq, Nat.reduceEqDiff, Nat.reduceAdd, Nat.reduceLT, Nat.reduceLeDiff, Nat.reduceMul, Nat.reduceSub, ↓reduceIte, decide_true, decide_false, Bool.true_eq_false, Bool.false_eq_true, Bool.not_true, Bool.not_false, if_true, if_false, and_true, true_and, memE, celE, w64, Nat.zero_add, Nat.add_zero, Nat.mul_one, putL, and_self, ldn, t1, t3, t4, t5, tm, r0, l1, hn0, sh, hlt']
    refine callH_rc (l2Bits_rc _ n c h8 (by omega)) ?_
    intro r new hA
    obtain ⟨bid, bf, rfl, bge, oB, ble, nrB⟩ := hA.row
    have hri := bitsL_rising c n
    have hst : bestC k (c + 1) = stepB k (bestC k c) (bitsL c n) := by rw [hn]; rfl
    obtain ⟨ps, hps⟩ : ∃ ps, ps = bitsL c n := ⟨_, rfl⟩
    rw [← hps] at oB ble hri hst ⊢
    rw [hn] at hri
    have hxB := hxM.app nrB
    obtain ⟨M2, hM2⟩ : ∃ M2, M2 = M ++ new := ⟨_, rfl⟩
    rw [← hM2] at oB hxB ⊢
    obtain ⟨q0, q1, q2, q3, hlM2⟩ := hxB.box4
    have oM2 : OwnR M2 id (bestC k c).1 := by rw [hM2]; exact oM.ext new
    have iB := oB.ints (by omega) bf
    simp (config := {implicitDefEqProofs := false, maxDischargeDepth := 20}) (disch := first | omega | (simp only [lenE]; done) | (simp only [lenE]; omega) | rfl | (simp only [lenE, markR_len]; done) | (simp only [lenE, markR_len]; omega)) only [runE, mapE, listE, initT_5, initT_6, initT_7, initT_8, resV, oneV, binA, unA, reduceCtorEq, Nat.reduceEqDiff, Nat.reduceAdd, Nat.reduceLT, Nat.reduceLeDiff, Nat.reduceMul, Nat.reduceSub, ↓reduceIte, decide_true, decide_false, Bool.true_eq_false, Bool.false_eq_true, Bool.not_true, Bool.not_false, if_true, if_false, and_true, true_and, memE, celE, w64, Nat.zero_add, Nat.add_zero, Nat.mul_one, putL, and_self, ldn, t1, t3, t4, t5, q0, q1, q2, q3]
    refine callH_rc (l2Covers_rc _ _ _ k ps (hxB.caseV hc) iB hg ble) ?_
    rintro r new3 ⟨rfl, nr3⟩
    have hx3 := hxB.app nr3
    obtain ⟨bc, hbc⟩ : ∃ bc, bc = bestC k c := ⟨_, rfl⟩
    rw [← hbc] at hst bl oM2 t3 t4
    obtain ⟨b1, b2⟩ := bc
    simp only at hst bl oM2 t3 t4
    cases hcv : covers k.need ps with
    | false =>
      have e : bestC k (c + 1) = (b1, b2) := by rw [hst, stepB, hcv]; rfl
      simp (config := {implicitDefEqProofs := false, maxDischargeDepth := 20}) (disch := first | omega | (simp only [lenE]; done) | (simp only [lenE]; omega) | rfl | (simp only [lenE, markR_len]; done) | (simp only [lenE, markR_len]; omega)) only [runE, mapE, listE, initT_5, initT_6, initT_7, initT_8, resV, oneV, binA, unA, reduceCtorEq, Nat.reduceEqDiff, Nat.reduceAdd, Nat.reduceLT, Nat.reduceLeDiff, Nat.reduceMul, Nat.reduceSub, ↓reduceIte, decide_true, decide_false, Bool.true_eq_false, Bool.false_eq_true, Bool.not_true, Bool.not_false, if_true, if_false, and_true, true_and, memE, celE, w64, Nat.zero_add, Nat.add_zero, Nat.mul_one, putL, and_self, ldn, t1, t3, t4, t5]
      exact ⟨⟨c + 1, _, id, fl, by omega, by rw [e], by rw [e], by simp, rfl, hx3, by rw [e]; exact oM2.ext _, lid⟩, by simp [intOf]; omega⟩
    | true =>
      obtain ⟨M3, hM3⟩ : ∃ M3, M3 = M2 ++ new3 := ⟨_, rfl⟩
      rw [← hM3] at hx3 ⊢
      have oB3 : OwnR M3 bid ps := by rw [hM3]; exact oB.ext new3
      have oM3 : OwnR M3 id b1 := by rw [hM3]; exact oM2.ext new3
      obtain ⟨q0, q1, q2, q3, hlM3⟩ := hx3.box4
      have iB3 := oB3.ints (by omega) bf
      simp (config := {implicitDefEqProofs := false, maxDischargeDepth := 20}) (disch := first | omega | (simp only [lenE]; done) | (simp only [lenE]; omega) | rfl | (simp only [lenE, markR_len]; done) | (simp only [lenE, markR_len]; omega)) only [runE, mapE, listE, initT_5, initT_6, initT_7, initT_8, resV, oneV, binA, unA, reduceCtorEq, Nat.reduceEqDiff, Nat.reduceAdd, Nat.reduceLT, Nat.reduceLeDiff, Nat.reduceMul, Nat.reduceSub, ↓reduceIte, decide_true, decide_false, Bool.true_eq_false, Bool.false_eq_true, Bool.not_true, Bool.not_false, if_true, if_false, and_true, true_and, memE, celE, w64, Nat.zero_add, Nat.add_zero, Nat.mul_one, putL, and_self, ldn, t1, t3, t4, t5, q0, q1, q2, q3]
      refine rcallH_rc (l2From_rc _ _ _ k ps (hx3.caseV hc) iB3 hg hri ble) ?_
      intro r new4 hA4
      obtain ⟨pid, pf, rfl, pge, oP, ple, nrP⟩ := hA4.row
      have hx4 := hx3.app nrP
      have iP := oP.ints (by omega) pf
      simp (config := {implicitDefEqProofs := false, maxDischargeDepth := 20}) (disch := first | omega | (simp only [lenE]; done) | (simp only [lenE]; omega) | rfl | (simp only [lenE, markR_len]; done) | (simp only [lenE, markR_len]; omega)) only [runE, mapE, listE, initT_5, initT_6, initT_7, initT_8, resV, oneV, binA, unA, reduceCtorEq, Nat.reduceEqDiff, Nat.reduceAdd, Nat.reduceLT, Nat.reduceLeDiff, Nat.reduceMul, Nat.reduceSub, ↓reduceIte, decide_true, decide_false, Bool.true_eq_false, Bool.false_eq_true, Bool.not_true, Bool.not_false, if_true, if_false, and_true, true_and, memE, celE, w64, Nat.zero_add, Nat.add_zero, Nat.mul_one, putL, and_self, ldn]
      refine rcallH_rc (l2Cost_rc _ _ _ k (fromL k.need ps) (hx4.caseV hc) iP hg (fromL_len _ _) (fromL_in hg.need hg.n8 hri)) ?_
      rintro r new5 ⟨rfl, nr5⟩
      have hx5 := hx4.app nr5
      obtain ⟨M5, hM5⟩ : ∃ M5, M5 = M3 ++ new4 ++ new5 := ⟨_, rfl⟩
      rw [← hM5] at hx5 ⊢
      have oB5 : OwnR M5 bid ps := by rw [hM5]; exact (oB3.ext _).ext _
      have oM5 : OwnR M5 id b1 := by rw [hM5]; exact (oM3.ext _).ext _
      obtain ⟨cost, hcost⟩ : ∃ cost, cost = costOf k (fromL k.need ps) := ⟨_, rfl⟩
      rw [← hcost]
      have bidl : m.length ≤ bid := by have := hxM.ext.len; omega
      have yes : (b2 < 0 ∨ cost < b2 ∨ (cost = b2 ∧ beforeB ps b1 = true)) → bestC k (c + 1) = (ps, cost) := fun hh => by rw [hst, stepB, hcv, ← hcost, if_pos rfl, if_pos hh]
      have no : ¬ (b2 < 0 ∨ cost < b2 ∨ (cost = b2 ∧ beforeB ps b1 = true)) → bestC k (c + 1) = (b1, b2) := fun hh => by rw [hst, stepB, hcv, ← hcost, if_pos rfl, if_neg hh]
      by_cases d1 : b2 < 0
      · have e := yes (.inl d1)
        simp (config := {implicitDefEqProofs := false, maxDischargeDepth := 20}) (disch := first | omega | (simp only [lenE]; done) | (simp only [lenE]; omega) | rfl | (simp only [lenE, markR_len]; done) | (simp only [lenE, markR_len]; omega)) only [runE, mapE, listE, initT_5, initT_6, initT_7, initT_8, resV, oneV, binA, unA, reduceCtorEq, Nat.reduceEqDiff, Nat.reduceAdd, Nat.reduceLT, Nat.reduceLeDiff, Nat.reduceMul, Nat.reduceSub, ↓reduceIte, decide_true, decide_false, Bool.true_eq_false, Bool.false_eq_true, Bool.not_true, Bool.not_false, if_true, if_false, and_true, true_and, memE, celE, w64, Nat.zero_add, Nat.add_zero, Nat.mul_one, putL, and_self, ldn, t1, t3, t4, t5, d1, goG_undef]
        exact ⟨⟨c + 1, M5, bid, bf, by omega, by rw [e], by rw [e], by simp, rfl, hx5, by rw [e]; exact oB5, bidl⟩, by simp [intOf]; omega⟩
      · by_cases d2 : cost < b2
        · have e := yes (.inr (.inl d2))
          simp (config := {implicitDefEqProofs := false, maxDischargeDepth := 20}) (disch := first | omega | (simp only [lenE]; done) | (simp only [lenE]; omega) | rfl | (simp only [lenE, markR_len]; done) | (simp only [lenE, markR_len]; omega)) only [runE, mapE, listE, initT_5, initT_6, initT_7, initT_8, resV, oneV, binA, unA, reduceCtorEq, Nat.reduceEqDiff, Nat.reduceAdd, Nat.reduceLT, Nat.reduceLeDiff, Nat.reduceMul, Nat.reduceSub, ↓reduceIte, decide_true, decide_false, Bool.true_eq_false, Bool.false_eq_true, Bool.not_true, Bool.not_false, if_true, if_false, and_true, true_and, memE, celE, w64, Nat.zero_add, Nat.add_zero, Nat.mul_one, putL, and_self, ldn, t1, t3, t4, t5, d1, d2, goG_undef]
          exact ⟨⟨c + 1, M5, bid, bf, by omega, by rw [e], by rw [e], by simp, rfl, hx5, by rw [e]; exact oB5, bidl⟩, by simp [intOf]; omega⟩
        · by_cases d3 : cost = b2
          · have d3' : (cost == b2) = true := by rw [d3]; simp
            have iB5 := oB5.ints (by omega) bf
            have iM5 := oM5.ints (by omega) fl
            simp (config := {implicitDefEqProofs := false, maxDischargeDepth := 20}) (disch := first | omega | (simp only [lenE]; done) | (simp only [lenE]; omega) | rfl | (simp only [lenE, markR_len]; done) | (simp only [lenE, markR_len]; omega)) only [runE, mapE, listE, initT_5, initT_6, initT_7, initT_8, resV, oneV, binA, unA, reduceCtorEq, Nat.reduceEqDiff, Nat.reduceAdd, Nat.reduceLT, Nat.reduceLeDiff, Nat.reduceMul, Nat.reduceSub, ↓reduceIte, decide_true, decide_false, Bool.true_eq_false, Bool.false_eq_true, Bool.not_true, Bool.not_false, if_true, if_false, and_true, true_and, memE, celE, w64, Nat.zero_add, Nat.add_zero, Nat.mul_one, putL, and_self, ldn, t1, t3, t4, t5, d1, d2, d3']
            refine callH_rc (l2Before_rc _ _ _ ps b1 iB5 iM5) ?_
            rintro r new6 ⟨rfl, nr6⟩
            have hx6 := hx5.app nr6
            cases hbf : beforeB ps b1 with
            | true =>
              have e := yes (.inr (.inr ⟨d3, hbf⟩))
              simp (config := {implicitDefEqProofs := false, maxDischargeDepth := 20}) (disch := first | omega | (simp only [lenE]; done) | (simp only [lenE]; omega) | rfl | (simp only [lenE, markR_len]; done) | (simp only [lenE, markR_len]; omega)) only [runE, mapE, listE, initT_5, initT_6, initT_7, initT_8, resV, oneV, binA, unA, reduceCtorEq, Nat.reduceEqDiff, Nat.reduceAdd, Nat.reduceLT, Nat.reduceLeDiff, Nat.reduceMul, Nat.reduceSub, ↓reduceIte, decide_true, decide_false, Bool.true_eq_false, Bool.false_eq_true, Bool.not_true, Bool.not_false, if_true, if_false, and_true, true_and, memE, celE, w64, Nat.zero_add, Nat.add_zero, Nat.mul_one, putL, and_self, ldn, t1, t3, t4, t5]
              exact ⟨⟨c + 1, M5 ++ new6, bid, bf, by omega, by rw [e], by rw [e], by simp, rfl, hx6, by rw [e]; exact oB5.ext _, bidl⟩, by simp [intOf]; omega⟩
            | false =>
              have e := no (fun hh => by rcases hh with hh | hh | hh; exact d1 hh; exact d2 hh; rw [hbf] at hh; exact absurd hh.2 (by simp))
              simp (config := {implicitDefEqProofs := false, maxDischargeDepth := 20}) (disch := first | omega | (simp only [lenE]; done) | (simp only [lenE]; omega) | rfl | (simp only [lenE, markR_len]; done) | (simp only [lenE, markR_len]; omega)) only [runE, mapE, listE, initT_5, initT_6, initT_7, initT_8, resV, oneV, binA, unA, reduceCtorEq, Nat.reduceEqDiff, Nat.reduceAdd, Nat.reduceLT, Nat.reduceLeDiff, Nat.reduceMul, Nat.reduceSub, ↓reduceIte, decide_true, decide_false, Bool.true_eq_false, Bool.false_eq_true, Bool.not_true, Bool.not_false, if_true, if_false, and_true, true_and, memE, celE, w64, Nat.zero_add, Nat.add_zero, Nat.mul_one, putL, and_self, ldn, t1, t3, t4, t5]
              exact ⟨⟨c + 1, M5 ++ new6, id, fl, by omega, by rw [e], by rw [e], by simp, rfl, hx6, by rw [e]; exact oM5.ext _, lid⟩, by simp [intOf]; omega⟩
          · have d3' : (cost == b2) = false := by simpa using d3
            have e := no (fun hh => by rcases hh with hh | hh | hh; exact d1 hh; exact d2 hh; exact d3 hh.1)
            simp (config := {implicitDefEqProofs := false, maxDischargeDepth := 20}) (disch := first | omega | (simp only [lenE]; done) | (simp only [lenE]; omega) | rfl | (simp only [lenE, markR_len]; done) | (simp only [lenE, markR_len]; omega)) only [runE, mapE, listE, initT_5, initT_6, initT_7, initT_8, resV, oneV, binA, unA, reduceCtorEq, Nat.reduceEqDiff, Nat.reduceAdd, Nat.reduceLT, Nat.reduceLeDiff, Nat.reduceMul, Nat.reduceSub, ↓reduceIte, decide_true, decide_false, Bool.true_eq_false, Bool.false_eq_true, Bool.not_true, Bool.not_false, if_true, if_false, and_true, true_and, memE, celE, w64, Nat.zero_add, Nat.add_zero, Nat.mul_one, putL, and_self, ldn, t1, t3, t4, t5, d1, d2, d3', goG_undef]
            exact ⟨⟨c + 1, M5, id, fl, by omega, by rw [e], by rw [e], by simp, rfl, hx5, by rw [e]; exact oM5, lid⟩, by simp [intOf]; omega⟩
  · have hlt' : ¬ ((c : Int) < N) := by omega
    have e : c = N := by omega
    subst e
    have eb : (bestC k c).1 = bestL k := by unfold bestL; rw [← hn, ← hN]
    simp (config := {implicitDefEqProofs := false, maxDischargeDepth := 20}) (disch := first | omega | (simp only [lenE]; done) | (simp only [lenE]; omega) | rfl | (simp only [lenE, markR_len]; done) | (simp only [lenE, markR_len]; omega)) only [runE, mapE, listE, initT_5, initT_6, initT_7, initT_8, resV, oneV, binA, unA, reduceCtorEq, Nat.reduceEqDiff, Nat.reduceAdd, Nat.reduceLT, Nat.reduceLeDiff, Nat.reduceMul, Nat.reduceSub, ↓reduceIte, decide_true, decide_false, Bool.true_eq_false, Bool.false_eq_true, Bool.not_true, Bool.not_false, if_true, if_false, and_true, true_and, memE, celE, w64, Nat.zero_add, Nat.add_zero, Nat.mul_one, putL, and_self, ldn, t1, t3, t4, t5, tm, r0, l1, hn0, sh, hlt']
    rw [eb] at oM bl ⊢
    exact ext_ansR hxM.ext oM lid rfl (by omega)
end Go.Proofs.Ytonpeflncnccdaa.Ab
