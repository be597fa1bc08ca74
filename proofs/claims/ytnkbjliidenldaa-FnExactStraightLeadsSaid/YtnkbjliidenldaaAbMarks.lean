/- Marks of pairs and tables. -/
import Derived.Test.YtnkbjliidenldaaAbPairs
import Derived.Test.YtnkbjliidenldaaAbTbl
namespace Go.Proofs.Ytnkbjliidenldaa.Ab
open Go Go.RowKit
set_option linter.unusedVariables false
set_option linter.unusedSimpArgs false

theorem pm_first (k0 : Int) (n k : Nat) (h : k < n) : ((pmarks k0 n).getD k (0, 0)).1 = k0 + 2 * (k : Int) ∧ ((pmarks k0 n).getD k (0, 0)).2 = k0 + 2 * (k : Int) + 1 := by rw [pmarks_at h]; exact ⟨rfl, rfl⟩
theorem set1_at {cs : List Value} {a j : Nat} {x : Value} (h : a < cs.length) : (cs.set a x)[j]? = if j = a then some x else cs[j]? := by
  by_cases e : j = a
  · subst e; rw [if_pos rfl, List.getElem?_set_self h]
  · rw [if_neg e, List.getElem?_set_ne (by omega)]
theorem markIntA2S_ac (m : Mem) (lo hi : Nat) (v : Value) (L : List (Int × Int)) (k0 : Int) (h : Lv lo hi m fun M => PairsO 117 L lo hi M v) (h0 : 0 ≤ k0) (h1 : k0 ≤ 68719476736) :
    AC Try.prog 59 [v, .int .i64 k0] m fun r m' => r = .int .i64 (k0 + 2 * L.length) ∧ But lo hi m m' ∧ Lv lo hi m' fun M => PairsO 117 (pmarks k0 L.length) lo hi M v := by
  refine ac_of_run mixed ok_laws_markIntA2S (by simp) (go_start _ _ _ ?_)
  obtain ⟨hl, id, fl, rfl, a, b, ho⟩ := h.now
  simp (config := {implicitDefEqProofs := false, maxDischargeDepth := 20}) (disch := first | omega | (simp only [lenE]; done) | (simp only [lenE]; omega) | rfl | (simp only [lenE, markR_len]; done) | (simp only [lenE, markR_len]; omega)) only [runE, mapE, listE, initT_5, initT_6, initT_7, initT_8, resV, oneV, binA, unA, reduceCtorEq, Nat.reduceEqDiff, Nat.reduceAdd, Nat.reduceLT, Nat.reduceLeDiff, Nat.reduceMul, Nat.reduceSub, ↓reduceIte, decide_true, decide_false, Bool.true_eq_false, Bool.false_eq_true, Bool.not_true, Bool.not_false, if_true, if_false, and_true, true_and, memE, celE, w64, Nat.zero_add, Nat.add_zero, Nat.mul_one, putL, and_self, ldn, c_laws_markIntA2S, r_laws_markIntA2S]
  refine loop_inv mixed (fun s => ∃ (k : Nat) (M : Mem) (cs : List Value), k ≤ L.length ∧ s.m = M ∧ But lo hi m M ∧ OwnB M id 117 cs ∧ cs.length = L.length * 2 ∧ (∀ j, j < k → cs[j * 2]? = some (.int .i64 (k0 + 2 * (j : Int))) ∧ cs[j * 2 + 1]? = some (.int .i64 (k0 + 2 * (j : Int) + 1))) ∧
      s.t 0 = .slice (some ⟨id, 0, none⟩) L.length fl ∧ s.t 1 = .int .i64 (k0 + 2 * (k : Int)) ∧ s.t 5 = .int .i64 k) (fun s => L.length - (intOf (s.t 5)).toNat)
    ⟨0, _, pairsC L, by omega, rfl, But.refl _ _ _, ho, pairsC_len L, fun j hj => absurd hj (by omega), rfl, by simp only [put_t, put_t', put_m, putT_t, putT_t', putT_m, init_t, init_m, initT_0, initT_1, initT_2, initT_3, initT_4, initT_5, initT_6, initT_7, initT_8, Nat.reduceEqDiff, ↓reduceIte]; simp, rfl⟩ ?_
  rintro s ⟨k, M, cs, hk, tm, hb, hoM, hcl, hpre, t0, t1, t5⟩
  by_cases hlt : k < L.length
  · have hlt' : (k : Int) < L.length := by omega
    simp (config := {implicitDefEqProofs := false, maxDischargeDepth := 20}) (disch := first | omega | (simp only [lenE]; done) | (simp only [lenE]; omega) | rfl | (simp only [lenE, markR_len]; done) | (simp only [lenE, markR_len]; omega)) only [runE, mapE, listE, initT_5, initT_6, initT_7, initT_8, resV, oneV, binA, unA, reduceCtorEq, Nat.reduceEqDiff, Nat.reduceAdd, Nat.reduceLT, Nat.reduceLeDiff, Nat.reduceMul, Nat.reduceSub, ↓reduceIte, decide_true, decide_false, Bool.true_eq_false, Bool.false_eq_true, Bool.not_true, Bool.not_false, if_true, if_false, and_true, true_and, memE, celE, w64, Nat.zero_add, Nat.add_zero, Nat.mul_one, putL, and_self, ldn, tm, t0, t1, t5, hlt']
    refine loop_inv mixed (fun s => ∃ (i : Int) (M : Mem) (cs : List Value), (i = 0 ∨ i = 1 ∨ i = 2) ∧ s.m = M ∧ But lo hi m M ∧ OwnB M id 117 cs ∧ cs.length = L.length * 2 ∧ (∀ j, j < k → cs[j * 2]? = some (.int .i64 (k0 + 2 * (j : Int))) ∧ cs[j * 2 + 1]? = some (.int .i64 (k0 + 2 * (j : Int) + 1))) ∧
        (0 < i → cs[k * 2]? = some (.int .i64 (k0 + 2 * (k : Int)))) ∧ (1 < i → cs[k * 2 + 1]? = some (.int .i64 (k0 + 2 * (k : Int) + 1))) ∧
        s.t 0 = .slice (some ⟨id, 0, none⟩) L.length fl ∧ s.t 1 = .int .i64 (k0 + 2 * (k : Int) + i) ∧ s.t 5 = .int .i64 k ∧ s.t 6 = .int .i64 i) (fun s => 2 - (intOf (s.t 6)).toNat)
      ⟨0, M, cs, .inl rfl, tm, hb, hoM, hcl, hpre, fun h => absurd h (by omega), fun h => absurd h (by omega), t0, by simp only [put_t, put_t', put_m, putT_t, putT_t', putT_m, init_t, init_m, initT_0, initT_1, initT_2, initT_3, initT_4, initT_5, initT_6, initT_7, initT_8, Nat.reduceEqDiff, ↓reduceIte, t1]; simp, t5, rfl⟩ ?_
    rintro s ⟨i, M, cs, hi, tm, hb, hoM, hcl, hpre, hA, hB, t0, t1, t5, t6⟩
    rcases hi with rfl | rfl | rfl
    · have hst := hoM.st (off := k * 2) (vs := [.int .i64 (k0 + 2 * (k : Int) + 0)]) (by simp; omega) rfl
      simp (config := {implicitDefEqProofs := false, maxDischargeDepth := 20}) (disch := first | omega | (simp only [lenE]; done) | (simp only [lenE]; omega) | rfl | (simp only [lenE, markR_len]; done) | (simp only [lenE, markR_len]; omega)) only [runE, mapE, listE, initT_5, initT_6, initT_7, initT_8, resV, oneV, binA, unA, reduceCtorEq, Nat.reduceEqDiff, Nat.reduceAdd, Nat.reduceLT, Nat.reduceLeDiff, Nat.reduceMul, Nat.reduceSub, ↓reduceIte, decide_true, decide_false, Bool.true_eq_false, Bool.false_eq_true, Bool.not_true, Bool.not_false, if_true, if_false, and_true, true_and, memE, celE, w64, Nat.zero_add, Nat.add_zero, Nat.mul_one, putL, and_self, ldn, tm, t0, t1, t5, t6, iadA_in hlt, iada_0, iada_1, hst, show ((0 : Int) < 2) = True by simp]
      refine ⟨⟨1, _, _, by omega, rfl, hb.set a b _, hoM.set_self _ _, by simp [putL, hcl], fun j hj => ?_, fun _ => ?_, fun h => absurd h (by omega), by congr 1; omega, rfl⟩, ?_⟩
      · try simp only [putL]
        rw [set1_at (by omega), set1_at (by omega), if_neg (by omega), if_neg (by omega)]
        exact hpre j hj
      · try simp only [putL]
        rw [set1_at (by omega), if_pos rfl, Int.add_zero]
      · simp [intOf]
    · have hst := hoM.st (off := k * 2 + 1) (vs := [.int .i64 (k0 + 2 * (k : Int) + 1)]) (by simp; omega) rfl
      simp (config := {implicitDefEqProofs := false, maxDischargeDepth := 20}) (disch := first | omega | (simp only [lenE]; done) | (simp only [lenE]; omega) | rfl | (simp only [lenE, markR_len]; done) | (simp only [lenE, markR_len]; omega)) only [runE, mapE, listE, initT_5, initT_6, initT_7, initT_8, resV, oneV, binA, unA, reduceCtorEq, Nat.reduceEqDiff, Nat.reduceAdd, Nat.reduceLT, Nat.reduceLeDiff, Nat.reduceMul, Nat.reduceSub, ↓reduceIte, decide_true, decide_false, Bool.true_eq_false, Bool.false_eq_true, Bool.not_true, Bool.not_false, if_true, if_false, and_true, true_and, memE, celE, w64, Nat.zero_add, Nat.add_zero, Nat.mul_one, putL, and_self, ldn, tm, t0, t1, t5, t6, iadA_in hlt, iada_0, iada_1, hst, show ((1 : Int) < 2) = True by simp]
      refine ⟨⟨2, _, _, by omega, rfl, hb.set a b _, hoM.set_self _ _, by simp [putL, hcl], fun j hj => ?_, fun _ => ?_, fun _ => ?_, by congr 1; omega, rfl⟩, ?_⟩
      · try simp only [putL]
        rw [set1_at (by omega), set1_at (by omega), if_neg (by omega), if_neg (by omega)]
        exact hpre j hj
      · try simp only [putL]
        rw [set1_at (by omega), if_neg (by omega)]
        exact hA (by omega)
      · try simp only [putL]
        rw [set1_at (by omega), if_pos rfl]
      · simp [intOf]
    · simp (config := {implicitDefEqProofs := false, maxDischargeDepth := 20}) (disch := first | omega | (simp only [lenE]; done) | (simp only [lenE]; omega) | rfl | (simp only [lenE, markR_len]; done) | (simp only [lenE, markR_len]; omega)) only [runE, mapE, listE, initT_5, initT_6, initT_7, initT_8, resV, oneV, binA, unA, reduceCtorEq, Nat.reduceEqDiff, Nat.reduceAdd, Nat.reduceLT, Nat.reduceLeDiff, Nat.reduceMul, Nat.reduceSub, ↓reduceIte, decide_true, decide_false, Bool.true_eq_false, Bool.false_eq_true, Bool.not_true, Bool.not_false, if_true, if_false, and_true, true_and, memE, celE, w64, Nat.zero_add, Nat.add_zero, Nat.mul_one, putL, and_self, ldn, tm, t0, t1, t5, t6, show ((2 : Int) < 2) = False by simp]
      refine ⟨⟨k + 1, M, cs, by omega, rfl, hb, hoM, hcl, fun j hj => ?_, by congr 1; simp; omega, by simp⟩, ?_⟩
      · by_cases e : j = k
        · subst e; exact ⟨hA (by omega), hB (by omega)⟩
        · exact hpre j (by omega)
      · simp [intOf]; omega
  · have hlt' : ¬ ((k : Int) < L.length) := by omega
    have e : k = L.length := by omega
    simp (config := {implicitDefEqProofs := false, maxDischargeDepth := 20}) (disch := first | omega | (simp only [lenE]; done) | (simp only [lenE]; omega) | rfl | (simp only [lenE, markR_len]; done) | (simp only [lenE, markR_len]; omega)) only [runE, mapE, listE, initT_5, initT_6, initT_7, initT_8, resV, oneV, binA, unA, reduceCtorEq, Nat.reduceEqDiff, Nat.reduceAdd, Nat.reduceLT, Nat.reduceLeDiff, Nat.reduceMul, Nat.reduceSub, ↓reduceIte, decide_true, decide_false, Bool.true_eq_false, Bool.false_eq_true, Bool.not_true, Bool.not_false, if_true, if_false, and_true, true_and, memE, celE, w64, Nat.zero_add, Nat.add_zero, Nat.mul_one, putL, and_self, ldn, tm, t0, t1, t5, hlt']
    subst e
    have hcs : cs = pairsC (pmarks k0 L.length) := pairsC_ext (by rw [pmarks_len]; exact hcl) fun j hj => by
      rw [pmarks_len] at hj
      obtain ⟨e1, e2⟩ := pm_first k0 L.length j hj
      rw [e1, e2]
      exact hpre j hj
    subst hcs
    exact ⟨rfl, hb, PairsO.lv ⟨by rw [pmarks_len]; exact hl, id, fl, by rw [pmarks_len], a, b, hoM⟩ (by have := hb.1; have := h.2.1; omega)⟩
theorem heldIntA2S_rc (m : Mem) (v : Value) (k0 : Int) (n : Nat) (h : PairsA m v (pmarks k0 n)) (h0 : 0 ≤ k0) (h1 : k0 ≤ 68719476736) (hn : n ≤ 1048576) :
    RC Try.prog 60 [v, .int .i64 k0] m fun r new => r = .int .i64 (k0 + 2 * n) ∧ NoRo new := by
  refine rc_of_run mixed ok_laws_heldIntA2S (by simp) (go_start _ _ _ ?_)
  obtain ⟨hb, id, fl, rfl, hc⟩ := h.ro
  rw [pmarks_len] at hc
  rw [pmarks_len]
  simp (config := {implicitDefEqProofs := false, maxDischargeDepth := 20}) (disch := first | omega | (simp only [lenE]; done) | (simp only [lenE]; omega) | rfl | (simp only [lenE, markR_len]; done) | (simp only [lenE, markR_len]; omega)) only [runE, mapE, listE, initT_5, initT_6, initT_7, initT_8, resV, oneV, binA, unA, reduceCtorEq, Nat.reduceEqDiff, Nat.reduceAdd, Nat.reduceLT, Nat.reduceLeDiff, Nat.reduceMul, Nat.reduceSub, ↓reduceIte, decide_true, decide_false, Bool.true_eq_false, Bool.false_eq_true, Bool.not_true, Bool.not_false, if_true, if_false, and_true, true_and, memE, celE, w64, Nat.zero_add, Nat.add_zero, Nat.mul_one, putL, and_self, ldn, c_laws_heldIntA2S, r_laws_heldIntA2S]
  refine loop_inv mixed (fun s => ∃ (k : Nat), k ≤ n ∧ s.m = roM m ∧ s.t 0 = .slice (some ⟨id, 0, none⟩) n fl ∧ s.t 1 = .int .i64 (k0 + 2 * (k : Int)) ∧ s.t 5 = .int .i64 k) (fun s => n - (intOf (s.t 5)).toNat)
    ⟨0, by omega, rfl, rfl, by simp only [put_t, put_t', put_m, putT_t, putT_t', putT_m, init_t, init_m, initT_0, initT_1, initT_2, initT_3, initT_4, initT_5, initT_6, initT_7, initT_8, Nat.reduceEqDiff, ↓reduceIte]; simp, rfl⟩ ?_
  rintro s ⟨k, hk, tm, t0, t1, t5⟩
  by_cases hlt : k < n
  · have hlt' : (k : Int) < n := by omega
    simp (config := {implicitDefEqProofs := false, maxDischargeDepth := 20}) (disch := first | omega | (simp only [lenE]; done) | (simp only [lenE]; omega) | rfl | (simp only [lenE, markR_len]; done) | (simp only [lenE, markR_len]; omega)) only [runE, mapE, listE, initT_5, initT_6, initT_7, initT_8, resV, oneV, binA, unA, reduceCtorEq, Nat.reduceEqDiff, Nat.reduceAdd, Nat.reduceLT, Nat.reduceLeDiff, Nat.reduceMul, Nat.reduceSub, ↓reduceIte, decide_true, decide_false, Bool.true_eq_false, Bool.false_eq_true, Bool.not_true, Bool.not_false, if_true, if_false, and_true, true_and, memE, celE, w64, Nat.zero_add, Nat.add_zero, Nat.mul_one, putL, and_self, ldn, tm, t0, t1, t5, hlt']
    obtain ⟨r1, r2⟩ := hc k hlt
    obtain ⟨e1, e2⟩ := pm_first k0 n k hlt
    rw [e1] at r1
    rw [e2] at r2
    refine loop_inv mixed (fun s => ∃ (i : Int), (i = 0 ∨ i = 1 ∨ i = 2) ∧ s.m = roM m ∧ s.t 0 = .slice (some ⟨id, 0, none⟩) n fl ∧ s.t 1 = .int .i64 (k0 + 2 * (k : Int) + i) ∧ s.t 5 = .int .i64 k ∧ s.t 6 = .int .i64 i) (fun s => 2 - (intOf (s.t 6)).toNat)
      ⟨0, .inl rfl, tm, t0, by simp only [put_t, put_t', put_m, putT_t, putT_t', putT_m, init_t, init_m, initT_0, initT_1, initT_2, initT_3, initT_4, initT_5, initT_6, initT_7, initT_8, Nat.reduceEqDiff, ↓reduceIte, t1]; simp, t5, rfl⟩ ?_
    rintro s ⟨i, hi, tm, t0, t1, t5, t6⟩
    rcases hi with rfl | rfl | rfl
    · rw [Int.add_zero] at t1
      simp (config := {implicitDefEqProofs := false, maxDischargeDepth := 20}) (disch := first | omega | (simp only [lenE]; done) | (simp only [lenE]; omega) | rfl | (simp only [lenE, markR_len]; done) | (simp only [lenE, markR_len]; omega)) only [runE, mapE, listE, initT_5, initT_6, initT_7, initT_8, resV, oneV, binA, unA, reduceCtorEq, Nat.reduceEqDiff, Nat.reduceAdd, Nat.reduceLT, Nat.reduceLeDiff, Nat.reduceMul, Nat.reduceSub, ↓reduceIte, decide_true, decide_false, Bool.true_eq_false, Bool.false_eq_true, Bool.not_true, Bool.not_false, if_true, if_false, and_true, true_and, memE, celE, w64, Nat.zero_add, Nat.add_zero, Nat.mul_one, putL, and_self, ldn, tm, t0, t1, t5, t6, iadA_in hlt, iada_0, iada_1, r1, bne_self_eq_false, show ((0 : Int) < 2) = True by simp]
      refine ⟨⟨1, by omega, rfl, rfl⟩, ?_⟩
      simp [intOf]
    · simp (config := {implicitDefEqProofs := false, maxDischargeDepth := 20}) (disch := first | omega | (simp only [lenE]; done) | (simp only [lenE]; omega) | rfl | (simp only [lenE, markR_len]; done) | (simp only [lenE, markR_len]; omega)) only [runE, mapE, listE, initT_5, initT_6, initT_7, initT_8, resV, oneV, binA, unA, reduceCtorEq, Nat.reduceEqDiff, Nat.reduceAdd, Nat.reduceLT, Nat.reduceLeDiff, Nat.reduceMul, Nat.reduceSub, ↓reduceIte, decide_true, decide_false, Bool.true_eq_false, Bool.false_eq_true, Bool.not_true, Bool.not_false, if_true, if_false, and_true, true_and, memE, celE, w64, Nat.zero_add, Nat.add_zero, Nat.mul_one, putL, and_self, ldn, tm, t0, t1, t5, t6, iadA_in hlt, iada_0, iada_1, r2, bne_self_eq_false, show ((1 : Int) < 2) = True by simp]
      refine ⟨⟨2, by omega, by congr 1; omega, rfl⟩, ?_⟩
      simp [intOf]
    · simp (config := {implicitDefEqProofs := false, maxDischargeDepth := 20}) (disch := first | omega | (simp only [lenE]; done) | (simp only [lenE]; omega) | rfl | (simp only [lenE, markR_len]; done) | (simp only [lenE, markR_len]; omega)) only [runE, mapE, listE, initT_5, initT_6, initT_7, initT_8, resV, oneV, binA, unA, reduceCtorEq, Nat.reduceEqDiff, Nat.reduceAdd, Nat.reduceLT, Nat.reduceLeDiff, Nat.reduceMul, Nat.reduceSub, ↓reduceIte, decide_true, decide_false, Bool.true_eq_false, Bool.false_eq_true, Bool.not_true, Bool.not_false, if_true, if_false, and_true, true_and, memE, celE, w64, Nat.zero_add, Nat.add_zero, Nat.mul_one, putL, and_self, ldn, tm, t0, t1, t5, t6, show ((2 : Int) < 2) = False by simp]
      refine ⟨⟨k + 1, by omega, by congr 1; simp; omega, by simp⟩, ?_⟩
      simp [intOf]; omega
  · have hlt' : ¬ ((k : Int) < n) := by omega
    have e : k = n := by omega
    simp (config := {implicitDefEqProofs := false, maxDischargeDepth := 20}) (disch := first | omega | (simp only [lenE]; done) | (simp only [lenE]; omega) | rfl | (simp only [lenE, markR_len]; done) | (simp only [lenE, markR_len]; omega)) only [runE, mapE, listE, initT_5, initT_6, initT_7, initT_8, resV, oneV, binA, unA, reduceCtorEq, Nat.reduceEqDiff, Nat.reduceAdd, Nat.reduceLT, Nat.reduceLeDiff, Nat.reduceMul, Nat.reduceSub, ↓reduceIte, decide_true, decide_false, Bool.true_eq_false, Bool.false_eq_true, Bool.not_true, Bool.not_false, if_true, if_false, and_true, true_and, memE, celE, w64, Nat.zero_add, Nat.add_zero, Nat.mul_one, putL, and_self, ldn, tm, t0, t1, t5, hlt']
    exact newQ_nil ⟨by rw [e], noRo_nil⟩
end Go.Proofs.Ytnkbjliidenldaa.Ab
