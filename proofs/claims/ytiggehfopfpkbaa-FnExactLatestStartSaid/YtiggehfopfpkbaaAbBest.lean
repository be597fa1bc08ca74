/- The model's side of BestPeriods, BestCost and PlanFrom. -/
import Derived.Test.YtiggehfopfpkbaaAbApp
import Derived.Test.YtiggehfopfpkbaaBestMath
namespace Go.Proofs.Ytiggehfopfpkbaa.Ab
open Go Go.RowKit
set_option linter.unusedVariables false
set_option linter.unusedSimpArgs false

theorem l2Covers_rc (m : Mem) (v u : Value) (k : Cs) (ps : List Int) (h : CaseA m v k) (h' : IntsA m u ps) (hg : Good k) (hl : ps.length ≤ 1048576) :
    RC Try.prog 104 [v, u] m (AnsV (.bool (covers k.need ps))) := by
  refine rc_of_run mixed ok_spec_l2Covers (by simp) (go_start _ _ _ ?_)
  obtain ⟨v1, v2, v3, v4, rfl, h1, h2, h3, h4⟩ := h.ro.ok
  have hu := h'.ro
  have h8 := hg.n8
  have hx : Grow (roM m ++ [⟨.own, 28, [v1, v2, v3, v4]⟩]) (roM m ++ [⟨.own, 28, [v1, v2, v3, v4]⟩]) := Grow.refl _
  obtain ⟨r0, r1, r2, r3, hlM⟩ := hx.box4
  have i1 := hx.intsV h1
  have iu := hx.intsV hu
  simp (config := {implicitDefEqProofs := false, maxDischargeDepth := 20}) (disch := first | omega | (simp only [lenE]; done) | (simp only [lenE]; omega) | rfl | (simp only [lenE, markR_len]; done) | (simp only [lenE, markR_len]; omega)) only [runE, mapE, listE, resV, oneV, binA, unA, reduceCtorEq, Nat.reduceEqDiff, Nat.reduceAdd, Nat.reduceLT, Nat.reduceLeDiff, Nat.reduceMul, Nat.reduceSub, ↓reduceIte, decide_true, decide_false, Bool.true_eq_false, Bool.false_eq_true, Bool.not_true, Bool.not_false, if_true, if_false, and_true, true_and, memE, celE, w64, Nat.zero_add, Nat.add_zero, Nat.mul_one, putL, and_self, ldn, c_spec_l2Covers, r_spec_l2Covers]
  refine loop_inv mixed (fun s => ∃ t : Nat, t ≤ k.need.length ∧ (∀ j, j < t → k.need.getD j 0 ≤ 0) ∧ s.t 1 = u ∧ s.t 2 = .pointer (some ⟨m.length, 0, none⟩) ∧ s.t 5 = .int .i64 t ∧ s.m = roM m ++ [⟨.own, 28, [v1, v2, v3, v4]⟩]) (fun s => k.need.length - (intOf (s.t 5)).toNat)
    ⟨0, by omega, fun j hj => absurd hj (by omega), rfl, rfl, rfl, rfl⟩ ?_
  rintro s ⟨t, hk, hall, t1, t2, t5, tm⟩
  by_cases hlt : t < k.need.length
  · have hlt' : (t : Int) < k.need.length := by omega
    have go : ∀ hf : ¬ (0 < ps.length ∧ ps.getD 0 0 ≤ t), True := fun _ => trivial
    by_cases hp : 0 < ps.length
    · have hp' : (0 : Int) < ps.length := by omega
      have a0 : iadA 1 u (.int .i64 0) = some (pAt u 0) := iu.at_ 0 hp
      have l0 := iu.ld 0 hp
      by_cases hq : ps.getD 0 0 ≤ t
      · simp (config := {implicitDefEqProofs := false, maxDischargeDepth := 20}) (disch := first | omega | (simp only [lenE]; done) | (simp only [lenE]; omega) | rfl | (simp only [lenE, markR_len]; done) | (simp only [lenE, markR_len]; omega)) only [runE, mapE, listE, resV, oneV, binA, unA, reduceCtorEq, Nat.reduceEqDiff, Nat.reduceAdd, Nat.reduceLT, Nat.reduceLeDiff, Nat.reduceMul, Nat.reduceSub, ↓reduceIte, decide_true, decide_false, Bool.true_eq_false, Bool.false_eq_true, Bool.not_true, Bool.not_false, if_true, if_false, and_true, true_and, memE, celE, w64, Nat.zero_add, Nat.add_zero, Nat.mul_one, putL, and_self, ldn, t1, t2, t5, tm, r0, i1.len, hlt', hu.len, gt_iff_lt, hp', a0, l0, hq]
        rw [covers_yes hk hall (.inr ⟨hp, hq⟩)]
        exact ext_ansV hx.ext rfl
      · by_cases hn : 0 < k.need.getD t 0
        · simp (config := {implicitDefEqProofs := false, maxDischargeDepth := 20}) (disch := first | omega | (simp only [lenE]; done) | (simp only [lenE]; omega) | rfl | (simp only [lenE, markR_len]; done) | (simp only [lenE, markR_len]; omega)) only [runE, mapE, listE, resV, oneV, binA, unA, reduceCtorEq, Nat.reduceEqDiff, Nat.reduceAdd, Nat.reduceLT, Nat.reduceLeDiff, Nat.reduceMul, Nat.reduceSub, ↓reduceIte, decide_true, decide_false, Bool.true_eq_false, Bool.false_eq_true, Bool.not_true, Bool.not_false, if_true, if_false, and_true, true_and, memE, celE, w64, Nat.zero_add, Nat.add_zero, Nat.mul_one, putL, and_self, ldn, t1, t2, t5, tm, r0, i1.len, hlt', hu.len, gt_iff_lt, hp', a0, l0, hq, i1.at_ t hlt, i1.ld t hlt, hn]
          rw [covers_no hlt hn fun hh => hq hh.2]
          exact ext_ansV hx.ext rfl
        · simp (config := {implicitDefEqProofs := false, maxDischargeDepth := 20}) (disch := first | omega | (simp only [lenE]; done) | (simp only [lenE]; omega) | rfl | (simp only [lenE, markR_len]; done) | (simp only [lenE, markR_len]; omega)) only [runE, mapE, listE, resV, oneV, binA, unA, reduceCtorEq, Nat.reduceEqDiff, Nat.reduceAdd, Nat.reduceLT, Nat.reduceLeDiff, Nat.reduceMul, Nat.reduceSub, ↓reduceIte, decide_true, decide_false, Bool.true_eq_false, Bool.false_eq_true, Bool.not_true, Bool.not_false, if_true, if_false, and_true, true_and, memE, celE, w64, Nat.zero_add, Nat.add_zero, Nat.mul_one, putL, and_self, ldn, t1, t2, t5, tm, r0, i1.len, hlt', hu.len, gt_iff_lt, hp', a0, l0, hq, i1.at_ t hlt, i1.ld t hlt, hn]
          refine ⟨⟨t + 1, by omega, fun j hj => ?_, by simp⟩, by simp [intOf]; omega⟩
          by_cases e : j < t
          · exact hall j e
          · have : j = t := by omega
            rw [this]; omega
    · have hp' : ¬ ((0 : Int) < ps.length) := by omega
      by_cases hn : 0 < k.need.getD t 0
      · simp (config := {implicitDefEqProofs := false, maxDischargeDepth := 20}) (disch := first | omega | (simp only [lenE]; done) | (simp only [lenE]; omega) | rfl | (simp only [lenE, markR_len]; done) | (simp only [lenE, markR_len]; omega)) only [runE, mapE, listE, resV, oneV, binA, unA, reduceCtorEq, Nat.reduceEqDiff, Nat.reduceAdd, Nat.reduceLT, Nat.reduceLeDiff, Nat.reduceMul, Nat.reduceSub, ↓reduceIte, decide_true, decide_false, Bool.true_eq_false, Bool.false_eq_true, Bool.not_true, Bool.not_false, if_true, if_false, and_true, true_and, memE, celE, w64, Nat.zero_add, Nat.add_zero, Nat.mul_one, putL, and_self, ldn, t1, t2, t5, tm, r0, i1.len, hlt', hu.len, gt_iff_lt, hp', i1.at_ t hlt, i1.ld t hlt, hn]
        rw [covers_no hlt hn fun hh => hp hh.1]
        exact ext_ansV hx.ext rfl
      · simp (config := {implicitDefEqProofs := false, maxDischargeDepth := 20}) (disch := first | omega | (simp only [lenE]; done) | (simp only [lenE]; omega) | rfl | (simp only [lenE, markR_len]; done) | (simp only [lenE, markR_len]; omega)) only [runE, mapE, listE, resV, oneV, binA, unA, reduceCtorEq, Nat.reduceEqDiff, Nat.reduceAdd, Nat.reduceLT, Nat.reduceLeDiff, Nat.reduceMul, Nat.reduceSub, ↓reduceIte, decide_true, decide_false, Bool.true_eq_false, Bool.false_eq_true, Bool.not_true, Bool.not_false, if_true, if_false, and_true, true_and, memE, celE, w64, Nat.zero_add, Nat.add_zero, Nat.mul_one, putL, and_self, ldn, t1, t2, t5, tm, r0, i1.len, hlt', hu.len, gt_iff_lt, hp', i1.at_ t hlt, i1.ld t hlt, hn]
        refine ⟨⟨t + 1, by omega, fun j hj => ?_, by simp⟩, by simp [intOf]; omega⟩
        by_cases e : j < t
        · exact hall j e
        · have : j = t := by omega
          rw [this]; omega
  · have hlt' : ¬ ((t : Int) < k.need.length) := by omega
    have e : t = k.need.length := by omega
    simp (config := {implicitDefEqProofs := false, maxDischargeDepth := 20}) (disch := first | omega | (simp only [lenE]; done) | (simp only [lenE]; omega) | rfl | (simp only [lenE, markR_len]; done) | (simp only [lenE, markR_len]; omega)) only [runE, mapE, listE, resV, oneV, binA, unA, reduceCtorEq, Nat.reduceEqDiff, Nat.reduceAdd, Nat.reduceLT, Nat.reduceLeDiff, Nat.reduceMul, Nat.reduceSub, ↓reduceIte, decide_true, decide_false, Bool.true_eq_false, Bool.false_eq_true, Bool.not_true, Bool.not_false, if_true, if_false, and_true, true_and, memE, celE, w64, Nat.zero_add, Nat.add_zero, Nat.mul_one, putL, and_self, ldn, t1, t2, t5, tm, r0, i1.len, hlt']
    rw [covers_yes hk hall (.inl e)]
    exact ext_ansV hx.ext rfl

theorem l2From_rc (m : Mem) (v u : Value) (k : Cs) (ps : List Int) (h : CaseA m v k) (h' : IntsA m u ps) (hg : Good k) (hr : Rising ps k.need.length) (hl : ps.length ≤ 1048576) :
    RC Try.prog 105 [v, u] m (AnsR m (fromL k.need ps)) := by
  refine rc_of_run mixed ok_spec_l2From (by simp) (go_start _ _ _ ?_)
  obtain ⟨v1, v2, v3, v4, rfl, h1, h2, h3, h4⟩ := h.ro.ok
  have hu := h'.ro
  have h8 := hg.n8
  obtain ⟨n, hn⟩ : ∃ n, n = k.need.length := ⟨_, rfl⟩
  have mk : ∀ M : Mem, mksA M 3 8 [.int .i64 0] (.int .i64 (n : Int)) (.int .i64 (n : Int)) = some (.slice (some ⟨M.length, 0, none⟩) n 1, M ++ [⟨.own, 3, List.replicate n (.int .i64 0)⟩]) := fun M => mksA_eq rfl (by omega)
  have l1 := h1.len
  rw [← hn] at l1 hr h8
  simp (config := {implicitDefEqProofs := false, maxDischargeDepth := 20}) (disch := first | omega | (simp only [lenE]; done) | (simp only [lenE]; omega) | rfl | (simp only [lenE, markR_len]; done) | (simp only [lenE, markR_len]; omega)) only [runE, mapE, listE, resV, oneV, binA, unA, reduceCtorEq, Nat.reduceEqDiff, Nat.reduceAdd, Nat.reduceLT, Nat.reduceLeDiff, Nat.reduceMul, Nat.reduceSub, ↓reduceIte, decide_true, decide_false, Bool.true_eq_false, Bool.false_eq_true, Bool.not_true, Bool.not_false, if_true, if_false, and_true, true_and, memE, celE, w64, Nat.zero_add, Nat.add_zero, Nat.mul_one, putL, and_self, ldn, c_spec_l2From, r_spec_l2From, l1, mk]
  have hx : Grow (roM m ++ [⟨.own, 28, [v1, v2, v3, v4]⟩]) (roM m ++ [⟨.own, 28, [v1, v2, v3, v4]⟩] ++ [⟨.own, 3, List.replicate n (.int .i64 0)⟩]) := (Grow.refl _).one _ _
  have o0 : OwnR (roM m ++ [⟨.own, 28, [v1, v2, v3, v4]⟩] ++ [⟨.own, 3, List.replicate n (.int .i64 0)⟩]) (m.length + 1) (List.replicate n 0) := OwnR.zeros (by simp [roM_len])
  refine loop_inv mixed (fun s => ∃ (i : Nat) (M : Mem), i ≤ ps.length ∧ s.t 1 = u ∧ s.t 2 = .pointer (some ⟨m.length, 0, none⟩) ∧ s.t 5 = .slice (some ⟨m.length + 1, 0, none⟩) n 1 ∧ s.t 6 = .int .i64 i ∧ s.m = M ∧ Grow (roM m ++ [⟨.own, 28, [v1, v2, v3, v4]⟩]) M ∧ OwnR M (m.length + 1) (fromI k.need ps i)) (fun s => ps.length - (intOf (s.t 6)).toNat)
    ⟨0, _, by omega, rfl, rfl, by simp only [put_t, put_t', put_m, putT_t, putT_t', putT_m, init_t, init_m, initT_0, initT_1, initT_2, initT_3, initT_4, Nat.reduceEqDiff, ↓reduceIte], rfl, rfl, hx, by rw [fromI, ← hn]; exact o0⟩ ?_
  rintro s ⟨i, M, hk, t1, t2, t5, t6, tm, hxM, oM⟩
  obtain ⟨r0, r1, r2, r3, hlM⟩ := hxM.box4
  have i1 := hxM.intsV h1
  have iu := hxM.intsV hu
  have l1 := i1.len
  rw [← hn] at l1
  by_cases hlt : i < ps.length
  · have hlt' : (i : Int) < ps.length := by omega
    have hb := hr.bd i hlt
    obtain ⟨p, hp⟩ : ∃ p : Nat, ps.getD i 0 = (p : Int) := ⟨(ps.getD i 0).toNat, by omega⟩
    have hnx := nxtP_in hr hlt
    have hpn : (ps.getD i 0).toNat = p := by omega
    rw [hpn] at hnx
    obtain ⟨c1, e1, d1⟩ := i1.cut hnx.1 (by omega)
    have li := iu.ld i hlt
    rw [hp] at li
    have hfl := fromI_len k.need ps i
    have hxp : p < (fromI k.need ps i).length := by omega
    have fin : ∀ x : Int, x = sumR k.need p (nxtP n ps i) → OwnR (M.set (m.length + 1) (rowB ((fromI k.need ps i).set p x))) (m.length + 1) (fromI k.need ps (i + 1)) := fun x hx => by
      have := OwnR.set_self (L' := (fromI k.need ps i).set p x) oM
      rw [fromI, hpn, ← hn, ← hx]; exact this
    by_cases h2 : i + 1 < ps.length
    · have h2' : (i : Int) + 1 < ps.length := by omega
      have a2 := iu.at_ (i + 1) h2
      have l2 := iu.ld (i + 1) h2
      have ee : ps.getD (i + 1) 0 = (nxtP n ps i : Int) := by unfold nxtP; rw [if_pos h2]; have := hr.bd (i + 1) h2; omega
      rw [ee] at l2
      have cast1 : ((i + 1 : Nat) : Int) = (i : Int) + 1 := by omega
      rw [cast1] at a2
      simp (config := {implicitDefEqProofs := false, maxDischargeDepth := 20}) (disch := first | omega | (simp only [lenE]; done) | (simp only [lenE]; omega) | rfl | (simp only [lenE, markR_len]; done) | (simp only [lenE, markR_len]; omega)) only [runE, mapE, listE, resV, oneV, binA, unA, reduceCtorEq, Nat.reduceEqDiff, Nat.reduceAdd, Nat.reduceLT, Nat.reduceLeDiff, Nat.reduceMul, Nat.reduceSub, ↓reduceIte, decide_true, decide_false, Bool.true_eq_false, Bool.false_eq_true, Bool.not_true, Bool.not_false, if_true, if_false, and_true, true_and, memE, celE, w64, Nat.zero_add, Nat.add_zero, Nat.mul_one, putL, and_self, ldn, t1, t2, t5, t6, tm, hu.len, hlt', r0, l1, h2', a2, l2, iu.at_ i hlt, li, e1]
      refine rcallH_rc (l2Sum_rc _ _ (cutL k.need p (nxtP n ps i)) d1 fun q hq => ?_) ?_
      · rw [cutL_len (by omega)] at hq
        rw [sumTo_cut hnx.1 (by omega) q hq]
        have := sumR_in (m := 20) (by omega) hg.need p q
        omega
      rintro r new ⟨rfl, rfl⟩
      rw [sumTo_cut' hnx.1 (by omega)]
      have w := oM.st (off := p) (x := sumR k.need p (nxtP n ps i)) hxp
      simp (config := {implicitDefEqProofs := false, maxDischargeDepth := 20}) (disch := first | omega | (simp only [lenE]; done) | (simp only [lenE]; omega) | rfl | (simp only [lenE, markR_len]; done) | (simp only [lenE, markR_len]; omega)) only [runE, mapE, listE, resV, oneV, binA, unA, reduceCtorEq, Nat.reduceEqDiff, Nat.reduceAdd, Nat.reduceLT, Nat.reduceLeDiff, Nat.reduceMul, Nat.reduceSub, ↓reduceIte, decide_true, decide_false, Bool.true_eq_false, Bool.false_eq_true, Bool.not_true, Bool.not_false, if_true, if_false, and_true, true_and, memE, celE, w64, Nat.zero_add, Nat.add_zero, Nat.mul_one, putL, and_self, ldn, t1, t2, t5, t6, tm, iadA_in (show p < n by omega), w]
      exact ⟨⟨i + 1, _, by omega, by simp, rfl, hxM.put (id := m.length + 1) (by simp [roM_len]) _ _, fin _ rfl⟩, by simp [intOf]; omega⟩
    · have h2' : ¬ ((i : Int) + 1 < ps.length) := by omega
      have ee : (n : Int) = (nxtP n ps i : Int) := by unfold nxtP; rw [if_neg h2]
      simp (config := {implicitDefEqProofs := false, maxDischargeDepth := 20}) (disch := first | omega | (simp only [lenE]; done) | (simp only [lenE]; omega) | rfl | (simp only [lenE, markR_len]; done) | (simp only [lenE, markR_len]; omega)) only [runE, mapE, listE, resV, oneV, binA, unA, reduceCtorEq, Nat.reduceEqDiff, Nat.reduceAdd, Nat.reduceLT, Nat.reduceLeDiff, Nat.reduceMul, Nat.reduceSub, ↓reduceIte, decide_true, decide_false, Bool.true_eq_false, Bool.false_eq_true, Bool.not_true, Bool.not_false, if_true, if_false, and_true, true_and, memE, celE, w64, Nat.zero_add, Nat.add_zero, Nat.mul_one, putL, and_self, ldn, t1, t2, t5, t6, tm, hu.len, hlt', r0, l1, h2', iu.at_ i hlt, li, ee, e1]
      refine rcallH_rc (l2Sum_rc _ _ (cutL k.need p (nxtP n ps i)) d1 fun q hq => ?_) ?_
      · rw [cutL_len (by omega)] at hq
        rw [sumTo_cut hnx.1 (by omega) q hq]
        have := sumR_in (m := 20) (by omega) hg.need p q
        omega
      rintro r new ⟨rfl, rfl⟩
      rw [sumTo_cut' hnx.1 (by omega)]
      have w := oM.st (off := p) (x := sumR k.need p (nxtP n ps i)) hxp
      simp (config := {implicitDefEqProofs := false, maxDischargeDepth := 20}) (disch := first | omega | (simp only [lenE]; done) | (simp only [lenE]; omega) | rfl | (simp only [lenE, markR_len]; done) | (simp only [lenE, markR_len]; omega)) only [runE, mapE, listE, resV, oneV, binA, unA, reduceCtorEq, Nat.reduceEqDiff, Nat.reduceAdd, Nat.reduceLT, Nat.reduceLeDiff, Nat.reduceMul, Nat.reduceSub, ↓reduceIte, decide_true, decide_false, Bool.true_eq_false, Bool.false_eq_true, Bool.not_true, Bool.not_false, if_true, if_false, and_true, true_and, memE, celE, w64, Nat.zero_add, Nat.add_zero, Nat.mul_one, putL, and_self, ldn, t1, t2, t5, t6, tm, iadA_in (show p < n by omega), w]
      exact ⟨⟨i + 1, _, by omega, by simp, rfl, hxM.put (id := m.length + 1) (by simp [roM_len]) _ _, fin _ rfl⟩, by simp [intOf]; omega⟩
  · have hlt' : ¬ ((i : Int) < ps.length) := by omega
    have e : i = ps.length := by omega
    subst e
    simp (config := {implicitDefEqProofs := false, maxDischargeDepth := 20}) (disch := first | omega | (simp only [lenE]; done) | (simp only [lenE]; omega) | rfl | (simp only [lenE, markR_len]; done) | (simp only [lenE, markR_len]; omega)) only [runE, mapE, listE, resV, oneV, binA, unA, reduceCtorEq, Nat.reduceEqDiff, Nat.reduceAdd, Nat.reduceLT, Nat.reduceLeDiff, Nat.reduceMul, Nat.reduceSub, ↓reduceIte, decide_true, decide_false, Bool.true_eq_false, Bool.false_eq_true, Bool.not_true, Bool.not_false, if_true, if_false, and_true, true_and, memE, celE, w64, Nat.zero_add, Nat.add_zero, Nat.mul_one, putL, and_self, ldn, t1, t2, t5, t6, tm, hu.len, hlt']
    exact ext_ansR hxM.ext (show OwnR M (m.length + 1) (fromL k.need ps) from oM) (by omega) (by rw [fromL_len, hn]) (by rw [fromL_len]; omega)

theorem and1 (x : Nat) : (BitVec.ofInt 64 (x : Int) &&& BitVec.ofInt 64 1).toNat = x % 2 := by
  rw [show (BitVec.ofInt 64 (1 : Int)) = 1#64 from rfl]
  rw [BitVec.toNat_and, BitVec.toNat_ofInt]
  simp [Nat.and_one_is_mod]
  omega
theorem and1w (x : Nat) (h : x ≤ 1000) : IntKind.wrap .i64 (((BitVec.ofInt IntKind.i64.bits (x : Int) &&& BitVec.ofInt IntKind.i64.bits 1).toNat : Nat) : Int) = ((x % 2 : Nat) : Int) := by
  rw [show ((BitVec.ofInt IntKind.i64.bits (x : Int) &&& BitVec.ofInt IntKind.i64.bits 1).toNat) = x % 2 from and1 x]
  exact w64 ⟨by omega, by omega⟩
theorem shr_code {c x : Nat} (h : x ≤ 63) : (c : Int).fdiv (2 ^ (min ((x : Nat) : Int).toNat IntKind.i64.bits)) = ((c / 2 ^ x : Nat) : Int) := by
  have : min ((x : Nat) : Int).toNat IntKind.i64.bits = x := by
    have : IntKind.i64.bits = 64 := rfl
    rw [this]; omega
  rw [this]
  have e : (2 : Int) ^ x = ((2 ^ x : Nat) : Int) := by simp
  rw [e, Int.natCast_ediv]
  exact Int.fdiv_eq_ediv_of_nonneg _ (Int.natCast_nonneg _)

theorem shl1 {n : Nat} (h : n ≤ 8) : IntKind.wrap .i64 (1 * 2 ^ (min ((n : Nat) : Int).toNat IntKind.i64.bits)) = ((2 ^ n : Nat) : Int) := by
  have : min ((n : Nat) : Int).toNat IntKind.i64.bits = n := by
    have : IntKind.i64.bits = 64 := rfl
    rw [this]; omega
  rw [this]
  have e : (2 : Int) ^ n = ((2 ^ n : Nat) : Int) := by simp
  have h2 : 2 ^ n ≤ 2 ^ 8 := Nat.pow_le_pow_right (by omega) h
  rw [e, Int.one_mul]
  have h3 : ((2 ^ n : Nat) : Int) ≤ 256 := by omega
  exact w64 ⟨by have := Int.natCast_nonneg (2 ^ n); omega, by omega⟩

end Go.Proofs.Ytiggehfopfpkbaa.Ab
