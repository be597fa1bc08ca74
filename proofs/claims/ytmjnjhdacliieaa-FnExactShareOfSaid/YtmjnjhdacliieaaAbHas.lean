/- Whether a list has a number: slices.Index, slices.Contains. -/
import Derived.Test.YtmjnjhdacliieaaAbBasis
namespace Go.Proofs.Ytmjnjhdacliieaa.Ab
open Go Go.RowKit
set_option linter.unusedVariables false
set_option linter.unusedSimpArgs false

/-- Whether one of the d numbers from a on is x. -/
def hasX (l : List Int) (x : Int) (a : Nat) : Nat → Bool
  | 0 => false
  | d + 1 => hasX l x a d || (x == l.getD (a + d) 0)
theorem hasX_mono {l : List Int} {x : Int} {a d : Nat} (h : hasX l x a d = true) : ∀ e, d ≤ e → hasX l x a e = true := by
  intro e he
  induction e with
  | zero => rw [show d = 0 by omega] at h; exact h
  | succ e ih =>
    by_cases hd : d = e + 1
    · rw [← hd]; exact h
    · rw [hasX, ih (by omega)]; rfl
theorem index_rc (m : Mem) (v : Value) (l : List Int) (x : Int) (h : IntsA m v l) (h8 : l.length ≤ 1048576) :
    RC Try.prog 129 [v, .int .i64 x] m fun r new => (∃ z : Int, r = .int .i64 z ∧ decide (0 ≤ z) = hasX l x 0 l.length) ∧ new = [] := by
  refine rc_of_run mixed ok_slices_Index (by simp) (go_start _ _ _ ?_)
  have i := h.ro
  simp (config := {implicitDefEqProofs := false, maxDischargeDepth := 20}) (disch := first | omega | (simp only [lenE]; done) | (simp only [lenE]; omega) | rfl | (simp only [lenE, markR_len]; done) | (simp only [lenE, markR_len]; omega)) only [runE, mapE, listE, initT_5, initT_6, initT_7, initT_8, resV, oneV, binA, unA, reduceCtorEq, Nat.reduceEqDiff, Nat.reduceAdd, Nat.reduceLT, Nat.reduceLeDiff, Nat.reduceMul, Nat.reduceSub, ↓reduceIte, decide_true, decide_false, Bool.true_eq_false, Bool.false_eq_true, Bool.not_true, Bool.not_false, if_true, if_false, and_true, true_and, memE, celE, w64, Nat.zero_add, Nat.add_zero, Nat.mul_one, putL, and_self, ldn, c_slices_Index, r_slices_Index, i.len]
  refine loop_inv mixed (fun s => ∃ j : Nat, j ≤ l.length ∧ hasX l x 0 j = false ∧ s.t 0 = v ∧ s.t 1 = .int .i64 x ∧ s.t 7 = .int .i64 l.length ∧ s.t 8 = .int .i64 j ∧ s.m = roM m) (fun s => l.length - (intOf (s.t 8)).toNat)
    ⟨0, by omega, rfl, rfl, rfl, rfl, rfl, rfl⟩ ?_
  rintro s ⟨j, hj, hno, t0, t1, t7, t8, tm⟩
  by_cases hlt : j < l.length
  · have hlt' : (j : Int) < l.length := by omega
    cases hb : (x == l.getD j 0) with
    | true =>
      have e : hasX l x 0 (j + 1) = true := by rw [hasX, Nat.zero_add, hb, hno]; rfl
      simp (config := {implicitDefEqProofs := false, maxDischargeDepth := 20}) (disch := first | omega | (simp only [lenE]; done) | (simp only [lenE]; omega) | rfl | (simp only [lenE, markR_len]; done) | (simp only [lenE, markR_len]; omega)) only [runE, mapE, listE, initT_5, initT_6, initT_7, initT_8, resV, oneV, binA, unA, reduceCtorEq, Nat.reduceEqDiff, Nat.reduceAdd, Nat.reduceLT, Nat.reduceLeDiff, Nat.reduceMul, Nat.reduceSub, ↓reduceIte, decide_true, decide_false, Bool.true_eq_false, Bool.false_eq_true, Bool.not_true, Bool.not_false, if_true, if_false, and_true, true_and, memE, celE, w64, Nat.zero_add, Nat.add_zero, Nat.mul_one, putL, and_self, ldn, tm, t0, t1, t7, t8, hlt', i.at_ j hlt, i.ld j hlt, hb]
      exact newQ_nil ⟨⟨_, rfl, by rw [hasX_mono e _ (by omega)]; simp⟩, rfl⟩
    | false =>
      simp (config := {implicitDefEqProofs := false, maxDischargeDepth := 20}) (disch := first | omega | (simp only [lenE]; done) | (simp only [lenE]; omega) | rfl | (simp only [lenE, markR_len]; done) | (simp only [lenE, markR_len]; omega)) only [runE, mapE, listE, initT_5, initT_6, initT_7, initT_8, resV, oneV, binA, unA, reduceCtorEq, Nat.reduceEqDiff, Nat.reduceAdd, Nat.reduceLT, Nat.reduceLeDiff, Nat.reduceMul, Nat.reduceSub, ↓reduceIte, decide_true, decide_false, Bool.true_eq_false, Bool.false_eq_true, Bool.not_true, Bool.not_false, if_true, if_false, and_true, true_and, memE, celE, w64, Nat.zero_add, Nat.add_zero, Nat.mul_one, putL, and_self, ldn, tm, t0, t1, t7, t8, hlt', i.at_ j hlt, i.ld j hlt, hb]
      exact ⟨⟨j + 1, by omega, by rw [hasX, Nat.zero_add, hb, hno]; rfl, by simp⟩, by simp [intOf]; omega⟩
  · have hlt' : ¬ ((j : Int) < l.length) := by omega
    have e : j = l.length := by omega
    subst e
    simp (config := {implicitDefEqProofs := false, maxDischargeDepth := 20}) (disch := first | omega | (simp only [lenE]; done) | (simp only [lenE]; omega) | rfl | (simp only [lenE, markR_len]; done) | (simp only [lenE, markR_len]; omega)) only [runE, mapE, listE, initT_5, initT_6, initT_7, initT_8, resV, oneV, binA, unA, reduceCtorEq, Nat.reduceEqDiff, Nat.reduceAdd, Nat.reduceLT, Nat.reduceLeDiff, Nat.reduceMul, Nat.reduceSub, ↓reduceIte, decide_true, decide_false, Bool.true_eq_false, Bool.false_eq_true, Bool.not_true, Bool.not_false, if_true, if_false, and_true, true_and, memE, celE, w64, Nat.zero_add, Nat.add_zero, Nat.mul_one, putL, and_self, ldn, tm, t0, t1, t7, t8, hlt']
    exact newQ_nil ⟨⟨_, rfl, by rw [hno]; decide⟩, rfl⟩
theorem contains_rc (m : Mem) (v : Value) (l : List Int) (x : Int) (h : IntsA m v l) (h8 : l.length ≤ 1048576) :
    RC Try.prog 111 [v, .int .i64 x] m fun r new => r = .bool (hasX l x 0 l.length) ∧ new = [] := by
  refine rc_of_run mixed ok_slices_Contains (by simp) (go_start _ _ _ ?_)
  have i := h.ro
  simp (config := {implicitDefEqProofs := false, maxDischargeDepth := 20}) (disch := first | omega | (simp only [lenE]; done) | (simp only [lenE]; omega) | rfl | (simp only [lenE, markR_len]; done) | (simp only [lenE, markR_len]; omega)) only [runE, mapE, listE, initT_5, initT_6, initT_7, initT_8, resV, oneV, binA, unA, reduceCtorEq, Nat.reduceEqDiff, Nat.reduceAdd, Nat.reduceLT, Nat.reduceLeDiff, Nat.reduceMul, Nat.reduceSub, ↓reduceIte, decide_true, decide_false, Bool.true_eq_false, Bool.false_eq_true, Bool.not_true, Bool.not_false, if_true, if_false, and_true, true_and, memE, celE, w64, Nat.zero_add, Nat.add_zero, Nat.mul_one, putL, and_self, ldn, c_slices_Contains, r_slices_Contains]
  refine callH_rc (index_rc _ v l x i h8) ?_
  rintro r new ⟨⟨z, rfl, hz⟩, rfl⟩
  rw [List.append_nil]
  simp (config := {implicitDefEqProofs := false, maxDischargeDepth := 20}) (disch := first | omega | (simp only [lenE]; done) | (simp only [lenE]; omega) | rfl | (simp only [lenE, markR_len]; done) | (simp only [lenE, markR_len]; omega)) only [runE, mapE, listE, initT_5, initT_6, initT_7, initT_8, resV, oneV, binA, unA, reduceCtorEq, Nat.reduceEqDiff, Nat.reduceAdd, Nat.reduceLT, Nat.reduceLeDiff, Nat.reduceMul, Nat.reduceSub, ↓reduceIte, decide_true, decide_false, Bool.true_eq_false, Bool.false_eq_true, Bool.not_true, Bool.not_false, if_true, if_false, and_true, true_and, memE, celE, w64, Nat.zero_add, Nat.add_zero, Nat.mul_one, putL, and_self, ldn, ge_iff_le]
  exact newQ_nil ⟨by rw [hz], rfl⟩
end Go.Proofs.Ytmjnjhdacliieaa.Ab
