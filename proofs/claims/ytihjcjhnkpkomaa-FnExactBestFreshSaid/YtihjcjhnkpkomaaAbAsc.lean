/- Rising lists, by the program. -/
import Derived.Test.YtihjcjhnkpkomaaAbBest2
namespace Go.Proofs.Ytihjcjhnkpkomaa.Ab
open Go Go.RowKit
set_option linter.unusedVariables false
set_option linter.unusedSimpArgs false

theorem ascending_rc (m : Mem) (u : Value) (ps : List Int) (n : Nat) (h' : IntsA m u ps) (hn : n ≤ 1048576) :
    RC Try.prog 80 [u, .int .i64 (n : Int)] m (AnsV (.bool (risB ps n))) := by
  refine rc_of_run mixed ok_impl_isAscending (by simp) (go_start _ _ _ ?_)
  have hu := h'.ro
  have hbd := hu.bd
  simp (config := {implicitDefEqProofs := false, maxDischargeDepth := 20}) (disch := first | omega | (simp only [lenE]; done) | (simp only [lenE]; omega) | rfl | (simp only [lenE, markR_len]; done) | (simp only [lenE, markR_len]; omega)) only [runE, mapE, listE, initT_5, initT_6, initT_7, initT_8, resV, oneV, binA, unA, reduceCtorEq, Nat.reduceEqDiff, Nat.reduceAdd, Nat.reduceLT, Nat.reduceLeDiff, Nat.reduceMul, Nat.reduceSub, ↓reduceIte, decide_true, decide_false, Bool.true_eq_false, Bool.false_eq_true, Bool.not_true, Bool.not_false, if_true, if_false, and_true, true_and, memE, celE, w64, Nat.zero_add, Nat.add_zero, Nat.mul_one, putL, and_self, ldn, c_impl_isAscending, r_impl_isAscending, hu.len]
  refine loop_inv mixed (fun s => ∃ i : Nat, i ≤ ps.length ∧ (∀ j, j < i → (0 ≤ ps.getD j 0 ∧ ps.getD j 0 ≤ (n : Int) - 1) ∧ (0 < j → ps.getD (j - 1) 0 < ps.getD j 0)) ∧ s.t 1 = .int .i64 (n : Int) ∧ s.t 5 = .int .i64 (if i = 0 then 0 else ps.getD (i - 1) 0 + 1) ∧ s.t 8 = u ∧ s.t 9 = .int .i64 (ps.length : Int) ∧ s.t 10 = .int .i64 (i : Int) ∧ s.m = roM m) (fun s => ps.length - (intOf (s.t 10)).toNat)
    ⟨0, by omega, fun j hj => absurd hj (by omega), rfl, rfl, rfl, rfl, rfl, rfl⟩ ?_
  rintro s ⟨i, hk, hall, t1, t5, t8, t9, t10, tm⟩
  obtain ⟨x, hx⟩ : ∃ x : Int, x = if i = 0 then 0 else ps.getD (i - 1) 0 + 1 := ⟨_, rfl⟩
  rw [← hx] at t5
  have nx : ((0 ≤ ps.getD i 0 ∧ ps.getD i 0 ≤ (n : Int) - 1) ∧ (0 < i → ps.getD (i - 1) 0 < ps.getD i 0)) → ∀ j, j < i + 1 → (0 ≤ ps.getD j 0 ∧ ps.getD j 0 ≤ (n : Int) - 1) ∧ (0 < j → ps.getD (j - 1) 0 < ps.getD j 0) := fun hh j hj => by
    by_cases e : j < i
    · exact hall j e
    · have : j = i := by omega
      rw [this]; exact hh
  by_cases hlt : i < ps.length
  · have hlt' : (i : Int) < ps.length := by omega
    have ai := hu.at_ i hlt
    have li := hu.ld i hlt
    have hx1 : (ps.getD i 0 < x) ↔ ¬ (0 ≤ ps.getD i 0 ∧ (0 < i → ps.getD (i - 1) 0 < ps.getD i 0)) := by
      rw [hx]
      split
      · rename_i h0; subst h0; constructor
        · intro h1 h2; omega
        · intro h1; apply Int.not_le.1; intro h2; exact h1 ⟨h2, fun h => by omega⟩
      · rename_i h0
        have := (hall (i - 1) (by omega)).1
        constructor
        · intro h1 h2; have := h2.2 (by omega); omega
        · intro h1; apply Int.not_le.1; intro h2; exact h1 ⟨by omega, fun _ => by omega⟩
    by_cases hlo : ps.getD i 0 < x
    · simp (config := {implicitDefEqProofs := false, maxDischargeDepth := 20}) (disch := first | omega | (simp only [lenE]; done) | (simp only [lenE]; omega) | rfl | (simp only [lenE, markR_len]; done) | (simp only [lenE, markR_len]; omega)) only [runE, mapE, listE, initT_5, initT_6, initT_7, initT_8, resV, oneV, binA, unA, reduceCtorEq, Nat.reduceEqDiff, Nat.reduceAdd, Nat.reduceLT, Nat.reduceLeDiff, Nat.reduceMul, Nat.reduceSub, ↓reduceIte, decide_true, decide_false, Bool.true_eq_false, Bool.false_eq_true, Bool.not_true, Bool.not_false, if_true, if_false, and_true, true_and, memE, celE, w64, Nat.zero_add, Nat.add_zero, Nat.mul_one, putL, and_self, ldn, t1, t5, t8, t9, t10, tm, hlt', ai, li, hlo, goG_undef]
      rw [risB_no hlt fun hh => (hx1.1 hlo) ⟨hh.1.1, hh.2⟩]
      exact ext_ansV (Ext.refl m) rfl
    · have hge : (0 ≤ ps.getD i 0 ∧ (0 < i → ps.getD (i - 1) 0 < ps.getD i 0)) := Classical.byContradiction fun hh => hlo (hx1.2 hh)
      by_cases hhi : (n : Int) ≤ ps.getD i 0
      · simp (config := {implicitDefEqProofs := false, maxDischargeDepth := 20}) (disch := first | omega | (simp only [lenE]; done) | (simp only [lenE]; omega) | rfl | (simp only [lenE, markR_len]; done) | (simp only [lenE, markR_len]; omega)) only [runE, mapE, listE, initT_5, initT_6, initT_7, initT_8, resV, oneV, binA, unA, reduceCtorEq, Nat.reduceEqDiff, Nat.reduceAdd, Nat.reduceLT, Nat.reduceLeDiff, Nat.reduceMul, Nat.reduceSub, ↓reduceIte, decide_true, decide_false, Bool.true_eq_false, Bool.false_eq_true, Bool.not_true, Bool.not_false, if_true, if_false, and_true, true_and, memE, celE, w64, Nat.zero_add, Nat.add_zero, Nat.mul_one, putL, and_self, ldn, t1, t5, t8, t9, t10, tm, hlt', ai, li, hlo, hhi, ge_iff_le, goG_undef]
        rw [risB_no hlt fun hh => by omega]
        exact ext_ansV (Ext.refl m) rfl
      · simp (config := {implicitDefEqProofs := false, maxDischargeDepth := 20}) (disch := first | omega | (simp only [lenE]; done) | (simp only [lenE]; omega) | rfl | (simp only [lenE, markR_len]; done) | (simp only [lenE, markR_len]; omega)) only [runE, mapE, listE, initT_5, initT_6, initT_7, initT_8, resV, oneV, binA, unA, reduceCtorEq, Nat.reduceEqDiff, Nat.reduceAdd, Nat.reduceLT, Nat.reduceLeDiff, Nat.reduceMul, Nat.reduceSub, ↓reduceIte, decide_true, decide_false, Bool.true_eq_false, Bool.false_eq_true, Bool.not_true, Bool.not_false, if_true, if_false, and_true, true_and, memE, celE, w64, Nat.zero_add, Nat.add_zero, Nat.mul_one, putL, and_self, ldn, t1, t5, t8, t9, t10, tm, hlt', ai, li, hlo, hhi, ge_iff_le, goG_undef]
        refine ⟨⟨i + 1, by omega, nx ⟨⟨hge.1, by omega⟩, hge.2⟩, ?_⟩, ?_⟩
        · exact ⟨by rw [if_neg (by omega), Nat.add_sub_cancel], by simp⟩
        · simp [intOf]; omega
  · have e : i = ps.length := by omega
    subst e
    have hirr : ¬ ((ps.length : Int) < ps.length) := by omega
    simp (config := {implicitDefEqProofs := false, maxDischargeDepth := 20}) (disch := first | omega | (simp only [lenE]; done) | (simp only [lenE]; omega) | rfl | (simp only [lenE, markR_len]; done) | (simp only [lenE, markR_len]; omega)) only [runE, mapE, listE, initT_5, initT_6, initT_7, initT_8, resV, oneV, binA, unA, reduceCtorEq, Nat.reduceEqDiff, Nat.reduceAdd, Nat.reduceLT, Nat.reduceLeDiff, Nat.reduceMul, Nat.reduceSub, ↓reduceIte, decide_true, decide_false, Bool.true_eq_false, Bool.false_eq_true, Bool.not_true, Bool.not_false, if_true, if_false, and_true, true_and, memE, celE, w64, Nat.zero_add, Nat.add_zero, Nat.mul_one, putL, and_self, ldn, t1, t5, t8, t9, t10, tm, hirr]
    have hr : risB ps n = true := decide_eq_true hall
    rw [hr]
    exact ext_ansV (Ext.refl m) rfl
end Go.Proofs.Ytihjcjhnkpkomaa.Ab
