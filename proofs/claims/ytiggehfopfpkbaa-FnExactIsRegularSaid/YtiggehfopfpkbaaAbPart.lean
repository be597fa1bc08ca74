/- Partial amounts: PartialPeriods, IsRegular. -/
import Derived.Test.YtiggehfopfpkbaaAbLimit
namespace Go.Proofs.Ytiggehfopfpkbaa.Ab
open Go Go.RowKit
set_option linter.unusedVariables false
set_option linter.unusedSimpArgs false

/-- The places among the first k that are right. -/
def picksI (g : Nat → Bool) : Nat → List Int
  | 0 => []
  | k + 1 => if g k then picksI g k ++ [(k : Int)] else picksI g k
theorem picksI_len (g : Nat → Bool) (k : Nat) : (picksI g k).length ≤ k := by
  induction k with
  | zero => simp [picksI]
  | succ k ih => rw [picksI]; split <;> (try rw [List.length_append, List.length_singleton]) <;> omega
theorem picksI_in (g : Nat → Bool) (k : Nat) : ∀ x ∈ picksI g k, 0 ≤ x ∧ x < k := by
  induction k with
  | zero => intro x hx; simp [picksI] at hx
  | succ k ih =>
    intro x hx
    rw [picksI] at hx
    split at hx
    · rcases List.mem_append.1 hx with h | h
      · have := ih x h; omega
      · rw [List.mem_singleton] at h; omega
    · have := ih x hx; omega
theorem picksI_up (g : Nat → Bool) (k : Nat) : ∀ i, i + 1 < (picksI g k).length → (picksI g k).getD i 0 < (picksI g k).getD (i + 1) 0 := by
  induction k with
  | zero => intro i hi; simp [picksI] at hi
  | succ k ih =>
    intro i hi
    rw [picksI] at hi ⊢
    split at hi
    · rename_i hg
      rw [if_pos hg]
      rw [List.length_append, List.length_singleton] at hi
      by_cases h : i + 1 < (picksI g k).length
      · have := ih i h
        rw [List.getD_eq_getElem?_getD, List.getD_eq_getElem?_getD] at this ⊢
        rw [List.getElem?_append_left (by omega), List.getElem?_append_left h]; exact this
      · have e : i + 1 = (picksI g k).length := by omega
        rw [List.getD_eq_getElem?_getD, List.getD_eq_getElem?_getD, List.getElem?_append_left (by omega), List.getElem?_append_right (by omega), e, Nat.sub_self]
        rw [List.getElem?_eq_getElem (by omega)]
        simpa using (picksI_in g k _ (List.getElem_mem (by omega))).2
    · rename_i hg
      rw [if_neg hg]
      exact ih i hi
def partAt (lims plan : List Int) (t : Nat) : Bool := decide (0 < plan.getD t 0) && decide (plan.getD t 0 < lims.getD t 0)
def partL (lims plan : List Int) : List Int := picksI (partAt lims plan) plan.length
def keptB (k : Cs) (lims plan : List Int) : Bool := keptOk k lims plan && keepB lims plan
def partialA (k : Cs) (lims plan : List Int) : List Int := if keptB k lims plan then partL lims plan else []
theorem partialA_no {k : Cs} {lims plan : List Int} (h : keptB k lims plan = false) : partialA k lims plan = [] := by unfold partialA; rw [h]; rfl
theorem partialA_yes {k : Cs} {lims plan : List Int} (h : keptB k lims plan = true) : partialA k lims plan = partL lims plan := by unfold partialA; rw [h]; rfl
theorem kept_iff {k : Cs} {lims plan : List Int} (h : keptB k lims plan = true) : two k plan = true ∧ lims.length = plan.length ∧ plan.length ≤ 8 := by
  unfold keptB keptOk at h
  simp only [Bool.and_eq_true] at h
  obtain ⟨⟨h1, h2⟩, h3⟩ := h
  obtain ⟨g1, g2, g3⟩ := rowsB_iff.1 h1
  have := planB_iff.1 h2
  have h8 := g1.n8
  have h1 := this.1
  exact ⟨two_iff.2 ⟨g1, this⟩, by omega, by omega⟩

theorem l4Partial_rc (m : Mem) (u u2 : Value) (lims plan : List Int) (h : IntsA m u lims) (h' : IntsA m u2 plan) (hl : lims.length = plan.length) (h8 : plan.length ≤ 8) :
    RC Try.prog 78 [u, u2] m (AnsR m (partL lims plan)) := by
  refine rc_of_run mixed ok_spec_l4Partial (by simp) (go_start _ _ _ ?_)
  have hu := h.ro
  have hp := h'.ro
  have hpl := picksI_len (partAt lims plan)
  simp (config := {implicitDefEqProofs := false, maxDischargeDepth := 20}) (disch := first | omega | (simp only [lenE]; done) | (simp only [lenE]; omega) | rfl | (simp only [lenE, markR_len]; done) | (simp only [lenE, markR_len]; omega)) only [runE, mapE, listE, resV, oneV, binA, unA, reduceCtorEq, Nat.reduceEqDiff, Nat.reduceAdd, Nat.reduceLT, Nat.reduceLeDiff, Nat.reduceMul, Nat.reduceSub, ↓reduceIte, decide_true, decide_false, Bool.true_eq_false, Bool.false_eq_true, Bool.not_true, Bool.not_false, if_true, if_false, and_true, true_and, memE, celE, w64, Nat.zero_add, Nat.add_zero, Nat.mul_one, putL, and_self, ldn, c_spec_l4Partial, r_spec_l4Partial, bsl_none]
  refine loop_inv mixed (fun s => ∃ (t : Nat) (M : Mem) (id : Nat), t ≤ plan.length ∧ s.m = M ∧ Ext m M ∧ OwnR M id (picksI (partAt lims plan) t) ∧ m.length ≤ id ∧ s.t 0 = u ∧ s.t 1 = u2 ∧ s.t 5 = .slice (some ⟨id, 0, none⟩) (picksI (partAt lims plan) t).length 1 ∧ s.t 6 = .int .i64 t) (fun s => plan.length - (intOf (s.t 6)).toNat)
    ⟨0, _, m.length, by omega, rfl, (Ext.refl m).one _ _, by have := OwnR.at_end (roM m) []; rwa [roM_len] at this, by omega, rfl, rfl, rfl, rfl⟩ ?_
  rintro s ⟨t, M, id, hk, tm, hx, ho, hid, t0, t1, t5, t6⟩
  have iu := hx.ints hu
  have ip := hx.ints hp
  by_cases hlt : t < plan.length
  · have hlt' : (t : Int) < plan.length := by omega
    have no : partAt lims plan t = false → picksI (partAt lims plan) (t + 1) = picksI (partAt lims plan) t := fun hq => by rw [picksI, if_neg (by simp [hq])]
    by_cases hb : 0 < plan.getD t 0
    · by_cases hc : plan.getD t 0 < lims.getD t 0
      · have hq : partAt lims plan t = true := by unfold partAt; rw [decide_eq_true hb, decide_eq_true hc]; rfl
        have e : picksI (partAt lims plan) (t + 1) = picksI (partAt lims plan) t ++ [(t : Int)] := by rw [picksI, if_pos hq]
        simp (config := {implicitDefEqProofs := false, maxDischargeDepth := 20}) (disch := first | omega | (simp only [lenE]; done) | (simp only [lenE]; omega) | rfl | (simp only [lenE, markR_len]; done) | (simp only [lenE, markR_len]; omega)) only [runE, mapE, listE, resV, oneV, binA, unA, reduceCtorEq, Nat.reduceEqDiff, Nat.reduceAdd, Nat.reduceLT, Nat.reduceLeDiff, Nat.reduceMul, Nat.reduceSub, ↓reduceIte, decide_true, decide_false, Bool.true_eq_false, Bool.false_eq_true, Bool.not_true, Bool.not_false, if_true, if_false, and_true, true_and, memE, celE, w64, Nat.zero_add, Nat.add_zero, Nat.mul_one, putL, and_self, ldn, tm, t0, t1, t5, t6, ip.len, ip.at_ t hlt, ip.ld t hlt, iu.at_ t (by omega), iu.ld t (by omega), hlt', gt_iff_lt, hb, hc, bsl_one, app_gen ho (by have := hpl t; omega)]
        refine ⟨⟨t + 1, _, M.length + 1, by omega, rfl, ((hx.dead hid).one _ _).one _ _, ?_, by have := hx.len; omega, by rw [e]; simp, by simp⟩, ?_⟩
        · rw [e]
          have := OwnR.at_end (M.set id deadB ++ [⟨.own, 3, [.int .i64 (t : Int)]⟩]) (picksI (partAt lims plan) t ++ [(t : Int)])
          simpa using this
        · simp [intOf]; omega
      · have e := no (by unfold partAt; rw [decide_eq_true hb, decide_eq_false hc]; rfl)
        simp (config := {implicitDefEqProofs := false, maxDischargeDepth := 20}) (disch := first | omega | (simp only [lenE]; done) | (simp only [lenE]; omega) | rfl | (simp only [lenE, markR_len]; done) | (simp only [lenE, markR_len]; omega)) only [runE, mapE, listE, resV, oneV, binA, unA, reduceCtorEq, Nat.reduceEqDiff, Nat.reduceAdd, Nat.reduceLT, Nat.reduceLeDiff, Nat.reduceMul, Nat.reduceSub, ↓reduceIte, decide_true, decide_false, Bool.true_eq_false, Bool.false_eq_true, Bool.not_true, Bool.not_false, if_true, if_false, and_true, true_and, memE, celE, w64, Nat.zero_add, Nat.add_zero, Nat.mul_one, putL, and_self, ldn, tm, t0, t1, t5, t6, ip.len, ip.at_ t hlt, ip.ld t hlt, iu.at_ t (by omega), iu.ld t (by omega), hlt', gt_iff_lt, hb, hc]
        exact ⟨⟨t + 1, M, id, by omega, rfl, hx, by rw [e]; exact ho, hid, by rw [e], by simp⟩, by simp [intOf]; omega⟩
    · have e := no (by unfold partAt; rw [decide_eq_false hb]; rfl)
      simp (config := {implicitDefEqProofs := false, maxDischargeDepth := 20}) (disch := first | omega | (simp only [lenE]; done) | (simp only [lenE]; omega) | rfl | (simp only [lenE, markR_len]; done) | (simp only [lenE, markR_len]; omega)) only [runE, mapE, listE, resV, oneV, binA, unA, reduceCtorEq, Nat.reduceEqDiff, Nat.reduceAdd, Nat.reduceLT, Nat.reduceLeDiff, Nat.reduceMul, Nat.reduceSub, ↓reduceIte, decide_true, decide_false, Bool.true_eq_false, Bool.false_eq_true, Bool.not_true, Bool.not_false, if_true, if_false, and_true, true_and, memE, celE, w64, Nat.zero_add, Nat.add_zero, Nat.mul_one, putL, and_self, ldn, tm, t0, t1, t5, t6, ip.len, ip.at_ t hlt, ip.ld t hlt, hlt', gt_iff_lt, hb]
      exact ⟨⟨t + 1, M, id, by omega, rfl, hx, by rw [e]; exact ho, hid, by rw [e], by simp⟩, by simp [intOf]; omega⟩
  · have hlt' : ¬ ((t : Int) < plan.length) := by omega
    have e : t = plan.length := by omega
    subst e
    simp (config := {implicitDefEqProofs := false, maxDischargeDepth := 20}) (disch := first | omega | (simp only [lenE]; done) | (simp only [lenE]; omega) | rfl | (simp only [lenE, markR_len]; done) | (simp only [lenE, markR_len]; omega)) only [runE, mapE, listE, resV, oneV, binA, unA, reduceCtorEq, Nat.reduceEqDiff, Nat.reduceAdd, Nat.reduceLT, Nat.reduceLeDiff, Nat.reduceMul, Nat.reduceSub, ↓reduceIte, decide_true, decide_false, Bool.true_eq_false, Bool.false_eq_true, Bool.not_true, Bool.not_false, if_true, if_false, and_true, true_and, memE, celE, w64, Nat.zero_add, Nat.add_zero, Nat.mul_one, putL, and_self, ldn, tm, t0, t1, t5, t6, ip.len, hlt']
    exact ext_ansR hx ho hid rfl (by have := hpl plan.length; unfold partL; omega)

theorem isPartial_rc (m : Mem) (x y : Int) : RC Try.prog 79 [.int .i64 x, .int .i64 y] m fun r new => r = .bool (decide (0 < x) && decide (x < y)) ∧ new = [] := by
  refine rc_of_run mixed ok_impl_isPartial (by simp) (go_start _ _ _ ?_)
  by_cases h1 : 0 < x
  · by_cases h2 : x < y
    · simp (config := {implicitDefEqProofs := false, maxDischargeDepth := 20}) (disch := first | omega | (simp only [lenE]; done) | (simp only [lenE]; omega) | rfl | (simp only [lenE, markR_len]; done) | (simp only [lenE, markR_len]; omega)) only [runE, mapE, listE, resV, oneV, binA, unA, reduceCtorEq, Nat.reduceEqDiff, Nat.reduceAdd, Nat.reduceLT, Nat.reduceLeDiff, Nat.reduceMul, Nat.reduceSub, ↓reduceIte, decide_true, decide_false, Bool.true_eq_false, Bool.false_eq_true, Bool.not_true, Bool.not_false, if_true, if_false, and_true, true_and, memE, celE, w64, Nat.zero_add, Nat.add_zero, Nat.mul_one, putL, and_self, ldn, c_impl_isPartial, r_impl_isPartial, gt_iff_lt, h1, h2]
      exact newQ_nil ⟨by simp, rfl⟩
    · simp (config := {implicitDefEqProofs := false, maxDischargeDepth := 20}) (disch := first | omega | (simp only [lenE]; done) | (simp only [lenE]; omega) | rfl | (simp only [lenE, markR_len]; done) | (simp only [lenE, markR_len]; omega)) only [runE, mapE, listE, resV, oneV, binA, unA, reduceCtorEq, Nat.reduceEqDiff, Nat.reduceAdd, Nat.reduceLT, Nat.reduceLeDiff, Nat.reduceMul, Nat.reduceSub, ↓reduceIte, decide_true, decide_false, Bool.true_eq_false, Bool.false_eq_true, Bool.not_true, Bool.not_false, if_true, if_false, and_true, true_and, memE, celE, w64, Nat.zero_add, Nat.add_zero, Nat.mul_one, putL, and_self, ldn, c_impl_isPartial, r_impl_isPartial, gt_iff_lt, h1, h2]
      exact newQ_nil ⟨by simp, rfl⟩
  · simp (config := {implicitDefEqProofs := false, maxDischargeDepth := 20}) (disch := first | omega | (simp only [lenE]; done) | (simp only [lenE]; omega) | rfl | (simp only [lenE, markR_len]; done) | (simp only [lenE, markR_len]; omega)) only [runE, mapE, listE, resV, oneV, binA, unA, reduceCtorEq, Nat.reduceEqDiff, Nat.reduceAdd, Nat.reduceLT, Nat.reduceLeDiff, Nat.reduceMul, Nat.reduceSub, ↓reduceIte, decide_true, decide_false, Bool.true_eq_false, Bool.false_eq_true, Bool.not_true, Bool.not_false, if_true, if_false, and_true, true_and, memE, celE, w64, Nat.zero_add, Nat.add_zero, Nat.mul_one, putL, and_self, ldn, c_impl_isPartial, r_impl_isPartial, gt_iff_lt, h1]
    exact newQ_nil ⟨by simp, rfl⟩

theorem l4Kept_rc (m : Mem) (v u u2 : Value) (k : Cs) (lims plan : List Int) (h : CaseA m v k) (h' : IntsA m u lims) (h'' : IntsA m u2 plan) :
    RC Try.prog 77 [v, u, u2] m (AnsV (.bool (keptB k lims plan))) := by
  refine rc_of_run mixed ok_spec_l4Kept (by simp) (go_start _ _ _ ?_)
  obtain ⟨v1, v2, v3, v4, rfl, h1, h2, h3, h4⟩ := h.ro.ok
  have hu := h'.ro
  have hp := h''.ro
  simp (config := {implicitDefEqProofs := false, maxDischargeDepth := 20}) (disch := first | omega | (simp only [lenE]; done) | (simp only [lenE]; omega) | rfl | (simp only [lenE, markR_len]; done) | (simp only [lenE, markR_len]; omega)) only [runE, mapE, listE, resV, oneV, binA, unA, reduceCtorEq, Nat.reduceEqDiff, Nat.reduceAdd, Nat.reduceLT, Nat.reduceLeDiff, Nat.reduceMul, Nat.reduceSub, ↓reduceIte, decide_true, decide_false, Bool.true_eq_false, Bool.false_eq_true, Bool.not_true, Bool.not_false, if_true, if_false, and_true, true_and, memE, celE, w64, Nat.zero_add, Nat.add_zero, Nat.mul_one, putL, and_self, ldn, c_spec_l4Kept, r_spec_l4Kept]
  refine callH_rc (specKeeps_rc _ _ u u2 k lims plan ⟨_, _, _, _, rfl, h1.ext _, h2.ext _, h3.ext _, h4.ext _⟩ (hu.ext _) (hp.ext _)) ?_
  rintro r new ⟨rfl, nr1⟩
  unfold keptB
  cases ha : keptOk k lims plan <;> cases hb : keepB lims plan <;>
    (simp (config := {implicitDefEqProofs := false, maxDischargeDepth := 20}) (disch := first | omega | (simp only [lenE]; done) | (simp only [lenE]; omega) | rfl | (simp only [lenE, markR_len]; done) | (simp only [lenE, markR_len]; omega)) only [runE, mapE, listE, resV, oneV, binA, unA, reduceCtorEq, Nat.reduceEqDiff, Nat.reduceAdd, Nat.reduceLT, Nat.reduceLeDiff, Nat.reduceMul, Nat.reduceSub, ↓reduceIte, decide_true, decide_false, Bool.true_eq_false, Bool.false_eq_true, Bool.not_true, Bool.not_false, if_true, if_false, and_true, true_and, memE, celE, w64, Nat.zero_add, Nat.add_zero, Nat.mul_one, putL, and_self, ldn, ext_2_0, ext_2_1, Bool.and_true, Bool.and_false, Bool.false_and, Bool.true_and]; exact ext_ansV (((Ext.refl m).one _ _).app nr1) (by simp))

theorem specPartial_rc (m : Mem) (v u u2 : Value) (k : Cs) (lims plan : List Int) (h : CaseA m v k) (h' : IntsA m u lims) (h'' : IntsA m u2 plan) :
    RC Try.prog 40 [v, u, u2] m (AnsL m (partialA k lims plan) (keptB k lims plan)) := by
  refine rc_of_run mixed ok_spec_PartialPeriods (by simp) (go_start _ _ _ ?_)
  obtain ⟨v1, v2, v3, v4, rfl, h1, h2, h3, h4⟩ := h.ro.ok
  have hu := h'.ro
  have hp := h''.ro
  simp (config := {implicitDefEqProofs := false, maxDischargeDepth := 20}) (disch := first | omega | (simp only [lenE]; done) | (simp only [lenE]; omega) | rfl | (simp only [lenE, markR_len]; done) | (simp only [lenE, markR_len]; omega)) only [runE, mapE, listE, resV, oneV, binA, unA, reduceCtorEq, Nat.reduceEqDiff, Nat.reduceAdd, Nat.reduceLT, Nat.reduceLeDiff, Nat.reduceMul, Nat.reduceSub, ↓reduceIte, decide_true, decide_false, Bool.true_eq_false, Bool.false_eq_true, Bool.not_true, Bool.not_false, if_true, if_false, and_true, true_and, memE, celE, w64, Nat.zero_add, Nat.add_zero, Nat.mul_one, putL, and_self, ldn, c_spec_PartialPeriods, r_spec_PartialPeriods]
  refine callH_rc (l4Kept_rc _ _ u u2 k lims plan ⟨_, _, _, _, rfl, h1.ext _, h2.ext _, h3.ext _, h4.ext _⟩ (hu.ext _) (hp.ext _)) ?_
  rintro r new ⟨rfl, nr1⟩
  cases hg : keptB k lims plan with
  | false =>
    simp (config := {implicitDefEqProofs := false, maxDischargeDepth := 20}) (disch := first | omega | (simp only [lenE]; done) | (simp only [lenE]; omega) | rfl | (simp only [lenE, markR_len]; done) | (simp only [lenE, markR_len]; omega)) only [runE, mapE, listE, resV, oneV, binA, unA, reduceCtorEq, Nat.reduceEqDiff, Nat.reduceAdd, Nat.reduceLT, Nat.reduceLeDiff, Nat.reduceMul, Nat.reduceSub, ↓reduceIte, decide_true, decide_false, Bool.true_eq_false, Bool.false_eq_true, Bool.not_true, Bool.not_false, if_true, if_false, and_true, true_and, memE, celE, w64, Nat.zero_add, Nat.add_zero, Nat.mul_one, putL, and_self, ldn, bsl_none]
    rw [partialA_no hg]
    refine ext_ansL ((((Ext.refl m).one _ _).app nr1).one _ _) (OwnR.end' (l := []) ?_) (by omega) rfl (by simp)
    simp only [List.length_append, List.length_cons, List.length_nil, roM_len]
  | true =>
    obtain ⟨b1, b2, b3⟩ := kept_iff hg
    rw [partialA_yes hg]
    simp (config := {implicitDefEqProofs := false, maxDischargeDepth := 20}) (disch := first | omega | (simp only [lenE]; done) | (simp only [lenE]; omega) | rfl | (simp only [lenE, markR_len]; done) | (simp only [lenE, markR_len]; omega)) only [runE, mapE, listE, resV, oneV, binA, unA, reduceCtorEq, Nat.reduceEqDiff, Nat.reduceAdd, Nat.reduceLT, Nat.reduceLeDiff, Nat.reduceMul, Nat.reduceSub, ↓reduceIte, decide_true, decide_false, Bool.true_eq_false, Bool.false_eq_true, Bool.not_true, Bool.not_false, if_true, if_false, and_true, true_and, memE, celE, w64, Nat.zero_add, Nat.add_zero, Nat.mul_one, putL, and_self, ldn]
    refine callH_rc (l4Partial_rc _ u u2 lims plan ((hu.ext _).ext _) ((hp.ext _).ext _) b2 b3) ?_
    intro r new2 hB
    obtain ⟨id2, fl2, rfl, hge2, hown2, hle2, nr2⟩ := hB.row
    simp (config := {implicitDefEqProofs := false, maxDischargeDepth := 20}) (disch := first | omega | (simp only [lenE]; done) | (simp only [lenE]; omega) | rfl | (simp only [lenE, markR_len]; done) | (simp only [lenE, markR_len]; omega)) only [runE, mapE, listE, resV, oneV, binA, unA, reduceCtorEq, Nat.reduceEqDiff, Nat.reduceAdd, Nat.reduceLT, Nat.reduceLeDiff, Nat.reduceMul, Nat.reduceSub, ↓reduceIte, decide_true, decide_false, Bool.true_eq_false, Bool.false_eq_true, Bool.not_true, Bool.not_false, if_true, if_false, and_true, true_and, memE, celE, w64, Nat.zero_add, Nat.add_zero, Nat.mul_one, putL, and_self, ldn]
    exact ext_ansL ((((Ext.refl m).one _ _).app nr1).app nr2) hown2 (by simp only [List.length_append, roM_len] at hge2; omega) rfl hle2

set_option maxHeartbeats 2000000 in
theorem implPartial_rc (m : Mem) (v u u2 : Value) (k : Cs) (lims plan : List Int) (h : CaseA m v k) (h' : IntsA m u lims) (h'' : IntsA m u2 plan) :
    RC Try.prog 41 [v, u, u2] m (AnsL m (partialA k lims plan) (keptB k lims plan)) := by
  refine rc_of_run mixed ok_impl_PartialPeriods (by simp) (go_start _ _ _ ?_)
  obtain ⟨v1, v2, v3, v4, rfl, h1, h2, h3, h4⟩ := h.ro.ok
  have hu := h'.ro
  have hp := h''.ro
  have hpl := picksI_len (partAt lims plan)
  simp (config := {implicitDefEqProofs := false, maxDischargeDepth := 20}) (disch := first | omega | (simp only [lenE]; done) | (simp only [lenE]; omega) | rfl | (simp only [lenE, markR_len]; done) | (simp only [lenE, markR_len]; omega)) only [runE, mapE, listE, resV, oneV, binA, unA, reduceCtorEq, Nat.reduceEqDiff, Nat.reduceAdd, Nat.reduceLT, Nat.reduceLeDiff, Nat.reduceMul, Nat.reduceSub, ↓reduceIte, decide_true, decide_false, Bool.true_eq_false, Bool.false_eq_true, Bool.not_true, Bool.not_false, if_true, if_false, and_true, true_and, memE, celE, w64, Nat.zero_add, Nat.add_zero, Nat.mul_one, putL, and_self, ldn, c_impl_PartialPeriods, r_impl_PartialPeriods]
  have C := fun M w w1 w2 hw hu hp => implKeeps_rc M w w1 w2 k lims plan hw hu hp
  generalize hA : keptOk k lims plan = a at C
  generalize hB : keepB lims plan = b at C
  refine callH_rc (C _ _ u u2 ⟨_, _, _, _, rfl, h1.ext _, h2.ext _, h3.ext _, h4.ext _⟩ (hu.ext _) (hp.ext _)) ?_
  rintro r new ⟨rfl, nr1⟩
  clear C
  have no : keptB k lims plan = false → ∀ (M : Mem) (i : Nat), Ext m M → OwnR M i [] → m.length ≤ i → newQ m (AnsL m (partialA k lims plan) (keptB k lims plan)) (.tuple #[.slice (some ⟨i, 0, none⟩) 0 1, .bool false]) M := by
    intro hg M i hx ho hi
    rw [partialA_no hg, hg]
    exact ext_ansL hx ho hi rfl (by simp)
  have yes : keptB k lims plan = true → ∀ (M : Mem) (i : Nat), Ext m M → OwnR M i (partL lims plan) → m.length ≤ i → (partL lims plan).length ≤ 1048576 → newQ m (AnsL m (partialA k lims plan) (keptB k lims plan)) (.tuple #[.slice (some ⟨i, 0, none⟩) (partL lims plan).length 1, .bool true]) M := by
    intro hg M i hx ho hi hl
    rw [partialA_yes hg, hg]
    exact ext_ansL hx ho hi rfl hl
  cases a with
  | false =>
    simp (config := {implicitDefEqProofs := false, maxDischargeDepth := 20}) (disch := first | omega | (simp only [lenE]; done) | (simp only [lenE]; omega) | rfl | (simp only [lenE, markR_len]; done) | (simp only [lenE, markR_len]; omega)) only [runE, mapE, listE, resV, oneV, binA, unA, reduceCtorEq, Nat.reduceEqDiff, Nat.reduceAdd, Nat.reduceLT, Nat.reduceLeDiff, Nat.reduceMul, Nat.reduceSub, ↓reduceIte, decide_true, decide_false, Bool.true_eq_false, Bool.false_eq_true, Bool.not_true, Bool.not_false, if_true, if_false, and_true, true_and, memE, celE, w64, Nat.zero_add, Nat.add_zero, Nat.mul_one, putL, and_self, ldn, ext_2_0, ext_2_1, Bool.false_and, bsl_none]
    refine no (by simp [keptB, hA]) _ _ ((((Ext.refl m).one _ _).app nr1).one _ _) (OwnR.end' (l := []) ?_) (by omega)
    simp only [List.length_append, List.length_cons, List.length_nil, roM_len]
  | true =>
    cases b with
    | false =>
      simp (config := {implicitDefEqProofs := false, maxDischargeDepth := 20}) (disch := first | omega | (simp only [lenE]; done) | (simp only [lenE]; omega) | rfl | (simp only [lenE, markR_len]; done) | (simp only [lenE, markR_len]; omega)) only [runE, mapE, listE, resV, oneV, binA, unA, reduceCtorEq, Nat.reduceEqDiff, Nat.reduceAdd, Nat.reduceLT, Nat.reduceLeDiff, Nat.reduceMul, Nat.reduceSub, ↓reduceIte, decide_true, decide_false, Bool.true_eq_false, Bool.false_eq_true, Bool.not_true, Bool.not_false, if_true, if_false, and_true, true_and, memE, celE, w64, Nat.zero_add, Nat.add_zero, Nat.mul_one, putL, and_self, ldn, ext_2_0, ext_2_1, Bool.true_and, bsl_none]
      refine no (by simp [keptB, hA, hB]) _ _ ((((Ext.refl m).one _ _).app nr1).one _ _) (OwnR.end' (l := []) ?_) (by omega)
      simp only [List.length_append, List.length_cons, List.length_nil, roM_len]
    | true =>
      have hg : keptB k lims plan = true := by simp [keptB, hA, hB]
      obtain ⟨b1, b2, b3⟩ := kept_iff hg
      have iu0 := (hu.ext [⟨.own, 28, [v1, v2, v3, v4]⟩]).ext new
      have ip0 := (hp.ext [⟨.own, 28, [v1, v2, v3, v4]⟩]).ext new
      have hro := OwnR.at_end (roM m ++ [⟨.own, 28, [v1, v2, v3, v4]⟩] ++ new) []
      simp only [List.length_append, List.length_cons, List.length_nil, roM_len] at hro
      simp (config := {implicitDefEqProofs := false, maxDischargeDepth := 20}) (disch := first | omega | (simp only [lenE]; done) | (simp only [lenE]; omega) | rfl | (simp only [lenE, markR_len]; done) | (simp only [lenE, markR_len]; omega)) only [runE, mapE, listE, resV, oneV, binA, unA, reduceCtorEq, Nat.reduceEqDiff, Nat.reduceAdd, Nat.reduceLT, Nat.reduceLeDiff, Nat.reduceMul, Nat.reduceSub, ↓reduceIte, decide_true, decide_false, Bool.true_eq_false, Bool.false_eq_true, Bool.not_true, Bool.not_false, if_true, if_false, and_true, true_and, memE, celE, w64, Nat.zero_add, Nat.add_zero, Nat.mul_one, putL, and_self, ldn, ext_2_0, ext_2_1, Bool.true_and, bsl_none, hp.len]
      refine loop_inv mixed (fun s => ∃ (t : Nat) (M : Mem) (id : Nat), t ≤ plan.length ∧ s.m = M ∧ Ext m M ∧ OwnR M id (picksI (partAt lims plan) t) ∧ m.length ≤ id ∧ s.t 1 = u ∧ s.t 28 = u2 ∧ s.t 29 = .int .i64 plan.length ∧ s.t 10 = .slice (some ⟨id, 0, none⟩) (picksI (partAt lims plan) t).length 1 ∧ s.t 30 = .int .i64 t) (fun s => plan.length - (intOf (s.t 30)).toNat)
        ⟨0, _, m.length + 1 + new.length, by omega, rfl, (((Ext.refl m).one _ _).app nr1).one _ _, by first | exact hro | simpa using hro, by omega, rfl, rfl, rfl, rfl, rfl⟩ ?_
      rintro s ⟨t, M, id, hk, tm, hx, ho, hid, t1, t28, t29, t10, t30⟩
      have iu := hx.ints hu
      have ip := hx.ints hp
      by_cases hlt : t < plan.length
      · have hlt' : (t : Int) < plan.length := by omega
        simp (config := {implicitDefEqProofs := false, maxDischargeDepth := 20}) (disch := first | omega | (simp only [lenE]; done) | (simp only [lenE]; omega) | rfl | (simp only [lenE, markR_len]; done) | (simp only [lenE, markR_len]; omega)) only [runE, mapE, listE, resV, oneV, binA, unA, reduceCtorEq, Nat.reduceEqDiff, Nat.reduceAdd, Nat.reduceLT, Nat.reduceLeDiff, Nat.reduceMul, Nat.reduceSub, ↓reduceIte, decide_true, decide_false, Bool.true_eq_false, Bool.false_eq_true, Bool.not_true, Bool.not_false, if_true, if_false, and_true, true_and, memE, celE, w64, Nat.zero_add, Nat.add_zero, Nat.mul_one, putL, and_self, ldn, tm, t1, t28, t29, t10, t30, ip.at_ t hlt, ip.ld t hlt, iu.at_ t (by omega), iu.ld t (by omega), hlt']
        refine callH_rc (isPartial_rc _ _ _) ?_
        rintro r new2 ⟨rfl, rfl⟩
        rw [List.append_nil]
        have hpa : (decide (0 < plan.getD t 0) && decide (plan.getD t 0 < lims.getD t 0)) = partAt lims plan t := rfl
        rw [hpa]
        cases hq : partAt lims plan t with
        | true =>
          have e : picksI (partAt lims plan) (t + 1) = picksI (partAt lims plan) t ++ [(t : Int)] := by rw [picksI, if_pos hq]
          simp (config := {implicitDefEqProofs := false, maxDischargeDepth := 20}) (disch := first | omega | (simp only [lenE]; done) | (simp only [lenE]; omega) | rfl | (simp only [lenE, markR_len]; done) | (simp only [lenE, markR_len]; omega)) only [runE, mapE, listE, resV, oneV, binA, unA, reduceCtorEq, Nat.reduceEqDiff, Nat.reduceAdd, Nat.reduceLT, Nat.reduceLeDiff, Nat.reduceMul, Nat.reduceSub, ↓reduceIte, decide_true, decide_false, Bool.true_eq_false, Bool.false_eq_true, Bool.not_true, Bool.not_false, if_true, if_false, and_true, true_and, memE, celE, w64, Nat.zero_add, Nat.add_zero, Nat.mul_one, putL, and_self, ldn, tm, t1, t28, t29, t10, t30, bsl_one, app_gen ho (by have := hpl t; omega)]
          refine ⟨⟨t + 1, _, M.length + 1, by omega, rfl, ((hx.dead hid).one _ _).one _ _, ?_, by have := hx.len; omega, by rw [e]; simp, by simp⟩, ?_⟩
          · rw [e]
            have := OwnR.at_end (M.set id deadB ++ [⟨.own, 3, [.int .i64 (t : Int)]⟩]) (picksI (partAt lims plan) t ++ [(t : Int)])
            simpa using this
          · simp [intOf]; omega
        | false =>
          have e : picksI (partAt lims plan) (t + 1) = picksI (partAt lims plan) t := by rw [picksI, if_neg (by simp [hq])]
          simp (config := {implicitDefEqProofs := false, maxDischargeDepth := 20}) (disch := first | omega | (simp only [lenE]; done) | (simp only [lenE]; omega) | rfl | (simp only [lenE, markR_len]; done) | (simp only [lenE, markR_len]; omega)) only [runE, mapE, listE, resV, oneV, binA, unA, reduceCtorEq, Nat.reduceEqDiff, Nat.reduceAdd, Nat.reduceLT, Nat.reduceLeDiff, Nat.reduceMul, Nat.reduceSub, ↓reduceIte, decide_true, decide_false, Bool.true_eq_false, Bool.false_eq_true, Bool.not_true, Bool.not_false, if_true, if_false, and_true, true_and, memE, celE, w64, Nat.zero_add, Nat.add_zero, Nat.mul_one, putL, and_self, ldn, tm, t1, t28, t29, t10, t30]
          exact ⟨⟨t + 1, M, id, by omega, rfl, hx, by rw [e]; exact ho, hid, by rw [e], by simp⟩, by simp [intOf]; omega⟩
      · have hlt' : ¬ ((t : Int) < plan.length) := by omega
        have e : t = plan.length := by omega
        subst e
        simp (config := {implicitDefEqProofs := false, maxDischargeDepth := 20}) (disch := first | omega | (simp only [lenE]; done) | (simp only [lenE]; omega) | rfl | (simp only [lenE, markR_len]; done) | (simp only [lenE, markR_len]; omega)) only [runE, mapE, listE, resV, oneV, binA, unA, reduceCtorEq, Nat.reduceEqDiff, Nat.reduceAdd, Nat.reduceLT, Nat.reduceLeDiff, Nat.reduceMul, Nat.reduceSub, ↓reduceIte, decide_true, decide_false, Bool.true_eq_false, Bool.false_eq_true, Bool.not_true, Bool.not_false, if_true, if_false, and_true, true_and, memE, celE, w64, Nat.zero_add, Nat.add_zero, Nat.mul_one, putL, and_self, ldn, tm, t1, t28, t29, t10, t30, hlt']
        exact yes hg _ _ hx ho hid (by have := hpl plan.length; unfold partL; omega)
end Go.Proofs.Ytiggehfopfpkbaa.Ab
