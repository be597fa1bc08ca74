/- Marks of pairs and tables. -/
import Derived.Test.YtghaogfhmbjlkaaAbPairs
import Derived.Test.YtghaogfhmbjlkaaAbTbl
namespace Go.Proofs.Ytghaogfhmbjlkaa.Ab
open Go Go.RowKit
set_option linter.unusedVariables false
set_option linter.unusedSimpArgs false

theorem pm_first (k0 : Int) (n k : Nat) (h : k < n) : ((pmarks k0 n).getD k (0, 0)).1 = k0 + 2 * (k : Int) ∧ ((pmarks k0 n).getD k (0, 0)).2 = k0 + 2 * (k : Int) + 1 := by rw [pmarks_at h]; exact ⟨rfl, rfl⟩
theorem set1_at {cs : List Value} {a j : Nat} {x : Value} (h : a < cs.length) : (cs.set a x)[j]? = if j = a then some x else cs[j]? := by
  by_cases e : j = a
  · subst e; rw [if_pos rfl, List.getElem?_set_self h]
  · rw [if_neg e, List.getElem?_set_ne (by omega)]
theorem markIntSS_ac (m : Mem) (lo hi : Nat) (v : Value) (T : List (List Int)) (k0 : Int) (h : Lv lo hi m fun M => TabO T lo hi M v) (h0 : 0 ≤ k0) (h1 : k0 ≤ 68719476736) :
    AC Try.prog 23 [v, .int .i64 k0] m fun r m' => r = .int .i64 (k0 + tsz T T.length) ∧ But lo hi m m' ∧ Lv lo hi m' fun M => TabO (tmarks k0 T) lo hi M v := by
  refine ac_of_run mixed ok_laws_markIntSS (by simp) (go_start _ _ _ ?_)
  obtain ⟨hl, hs, id, fl, R, F, rfl, a, b, ho, hr, hd⟩ := h.now
  simp (config := {implicitDefEqProofs := false, maxDischargeDepth := 20}) (disch := first | omega | (simp only [lenE]; done) | (simp only [lenE]; omega) | rfl | (simp only [lenE, markR_len]; done) | (simp only [lenE, markR_len]; omega)) only [runE, mapE, listE, initT_5, initT_6, initT_7, initT_8, resV, oneV, binA, unA, reduceCtorEq, Nat.reduceEqDiff, Nat.reduceAdd, Nat.reduceLT, Nat.reduceLeDiff, Nat.reduceMul, Nat.reduceSub, ↓reduceIte, decide_true, decide_false, Bool.true_eq_false, Bool.false_eq_true, Bool.not_true, Bool.not_false, if_true, if_false, and_true, true_and, memE, celE, w64, Nat.zero_add, Nat.add_zero, Nat.mul_one, putL, and_self, ldn, c_laws_markIntSS, r_laws_markIntSS]
  refine loop_inv mixed (fun s => ∃ (k : Nat) (M : Mem), k ≤ T.length ∧ s.m = M ∧ But lo hi m M ∧ OwnB M id 22 (rowsC T R F) ∧ (∀ j, j < T.length → OwnR M (R j) (if j < k then imarks (k0 + tsz T j) (T.getD j []).length else T.getD j [])) ∧
      s.t 0 = .slice (some ⟨id, 0, none⟩) T.length fl ∧ s.t 1 = .int .i64 (k0 + tsz T k) ∧ s.t 5 = .int .i64 k) (fun s => T.length - (intOf (s.t 5)).toNat)
    ⟨0, _, by omega, rfl, But.refl _ _ _, ho, fun j hj => by rw [if_neg (by omega)]; exact (hr j hj).2.2, rfl, by simp only [put_t, put_t', put_m, putT_t, putT_t', putT_m, init_t, init_m, initT_0, initT_1, initT_2, initT_3, initT_4, initT_5, initT_6, initT_7, initT_8, Nat.reduceEqDiff, ↓reduceIte]; simp [tsz], rfl⟩ ?_
  rintro s ⟨k, M, hk, tm, hb, hoM, hrow, t0, t1, t5⟩
  have hz := tsz_nonneg T k
  by_cases hlt : k < T.length
  · have hlt' : (k : Int) < T.length := by omega
    have hmono := tsz_le T (j := k + 1) (k := T.length) (by omega)
    simp only [tsz] at hmono
    have hcell := hoM.rd k
    rw [rowsC_at hlt] at hcell
    have hk' := hrow k hlt
    rw [if_neg (by omega)] at hk'
    simp (config := {implicitDefEqProofs := false, maxDischargeDepth := 20}) (disch := first | omega | (simp only [lenE]; done) | (simp only [lenE]; omega) | rfl | (simp only [lenE, markR_len]; done) | (simp only [lenE, markR_len]; omega)) only [runE, mapE, listE, initT_5, initT_6, initT_7, initT_8, resV, oneV, binA, unA, reduceCtorEq, Nat.reduceEqDiff, Nat.reduceAdd, Nat.reduceLT, Nat.reduceLeDiff, Nat.reduceMul, Nat.reduceSub, ↓reduceIte, decide_true, decide_false, Bool.true_eq_false, Bool.false_eq_true, Bool.not_true, Bool.not_false, if_true, if_false, and_true, true_and, memE, celE, w64, Nat.zero_add, Nat.add_zero, Nat.mul_one, putL, and_self, ldn, tm, t0, t1, t5, hlt', iadA_in hlt, hcell]
    refine callH_ac (markIntS_any M (R k) (F k) _ _ hk' (by omega) (by omega) (by omega)) ?_
    rintro r m' ⟨rfl, rfl⟩
    have hne : R k ≠ id := fun e => by
      have e1 : M[R k]? = some (Ab.rowB (T.getD k [])) := hk'
      have e2 : M[id]? = some ⟨.own, 22, rowsC T R F⟩ := hoM
      rw [e, e2] at e1
      cases e1
    simp (config := {implicitDefEqProofs := false, maxDischargeDepth := 20}) (disch := first | omega | (simp only [lenE]; done) | (simp only [lenE]; omega) | rfl | (simp only [lenE, markR_len]; done) | (simp only [lenE, markR_len]; omega)) only [runE, mapE, listE, initT_5, initT_6, initT_7, initT_8, resV, oneV, binA, unA, reduceCtorEq, Nat.reduceEqDiff, Nat.reduceAdd, Nat.reduceLT, Nat.reduceLeDiff, Nat.reduceMul, Nat.reduceSub, ↓reduceIte, decide_true, decide_false, Bool.true_eq_false, Bool.false_eq_true, Bool.not_true, Bool.not_false, if_true, if_false, and_true, true_and, memE, celE, w64, Nat.zero_add, Nat.add_zero, Nat.mul_one, putL, and_self, ldn, tm, t0, t1, t5]
    refine ⟨⟨k + 1, _, by omega, rfl, hb.set (hr k hlt).1 (hr k hlt).2.1 _, hoM.set_ne hne _, fun j hj => ?_, by simp only [tsz]; congr 1; omega, by simp⟩, ?_⟩
    · by_cases e : j = k
      · subst e
        rw [if_pos (by omega)]
        exact OwnR.marked _ _ hk'.lt
      · have hj' := hrow j hj
        have : (if j < k + 1 then imarks (k0 + tsz T j) (T.getD j []).length else T.getD j []) = (if j < k then imarks (k0 + tsz T j) (T.getD j []).length else T.getD j []) := by
          by_cases e2 : j < k
          · rw [if_pos e2, if_pos (by omega)]
          · rw [if_neg e2, if_neg (by omega)]
        rw [this]
        exact hj'.other _ _ fun e3 => e (hd j k hj hlt e3.symm)
    · simp [intOf]; omega
  · have hlt' : ¬ ((k : Int) < T.length) := by omega
    have e : k = T.length := by omega
    simp (config := {implicitDefEqProofs := false, maxDischargeDepth := 20}) (disch := first | omega | (simp only [lenE]; done) | (simp only [lenE]; omega) | rfl | (simp only [lenE, markR_len]; done) | (simp only [lenE, markR_len]; omega)) only [runE, mapE, listE, initT_5, initT_6, initT_7, initT_8, resV, oneV, binA, unA, reduceCtorEq, Nat.reduceEqDiff, Nat.reduceAdd, Nat.reduceLT, Nat.reduceLeDiff, Nat.reduceMul, Nat.reduceSub, ↓reduceIte, decide_true, decide_false, Bool.true_eq_false, Bool.false_eq_true, Bool.not_true, Bool.not_false, if_true, if_false, and_true, true_and, memE, celE, w64, Nat.zero_add, Nat.add_zero, Nat.mul_one, putL, and_self, ldn, tm, t0, t1, t5, hlt']
    subst e
    have hrows : rowsC (tmarks k0 T) R F = rowsC T R F := by
      apply List.ext_getElem?
      intro i
      by_cases hi : i < T.length
      · rw [rowsC_at hi, rowsC_at (by rw [tmarks_len]; exact hi), tmarks_at hi, imarks_len]
      · rw [List.getElem?_eq_none (by rw [rowsC_len, tmarks_len]; omega), List.getElem?_eq_none (by rw [rowsC_len]; omega)]
    have htsz : ∀ k, k ≤ T.length → tsz (tmarks k0 T) k = tsz T k := by
      intro k hk
      induction k with
      | zero => rfl
      | succ k ih => simp only [tsz]; rw [ih (by omega), tmarks_at (by omega), imarks_len]
    refine ⟨rfl, hb, TabO.lv ⟨by rw [tmarks_len]; exact hl, by rw [tmarks_len, htsz _ (Nat.le_refl _)]; exact hs, id, fl, R, F, by rw [tmarks_len], a, b, by rw [hrows]; exact hoM, fun j hj => ?_, fun i j hi hj => hd i j (by rwa [tmarks_len] at hi) (by rwa [tmarks_len] at hj)⟩ (by have := hb.1; have := h.2.1; omega)⟩
    rw [tmarks_len] at hj
    have := hrow j hj
    rw [if_pos hj] at this
    rw [tmarks_at hj]
    exact ⟨(hr j hj).1, (hr j hj).2.1, this⟩
end Go.Proofs.Ytghaogfhmbjlkaa.Ab
