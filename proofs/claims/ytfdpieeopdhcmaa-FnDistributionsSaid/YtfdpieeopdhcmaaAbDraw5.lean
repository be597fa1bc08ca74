/- The draws of chapter 5: weights, charges, orders. -/
import Derived.Test.YtfdpieeopdhcmaaAbDr
namespace Go.Proofs.Ytfdpieeopdhcmaa.Ab
open Go Go.RowKit
set_option linter.unusedVariables false
set_option linter.unusedSimpArgs false

theorem bA (m : Mem) : bslA m 3 1 7 [.int .i64 0, .int .i64 0, .int .i64 0, .int .i64 0, .int .i64 0, .int .i64 0, .int .i64 0] [(0, 1, .int .i64 4), (1, 1, .int .i64 5), (2, 1, .int .i64 6), (3, 1, .int .i64 3), (4, 1, .int .i64 8), (5, 1, .int .i64 1), (6, 1, .int .i64 2)] = some (.slice (some ⟨m.length, 0, none⟩) 7 1, m ++ [rowB [4, 5, 6, 3, 8, 1, 2]]) := rfl
theorem bB (m : Mem) : bslA m 3 1 6 [.int .i64 0, .int .i64 0, .int .i64 0, .int .i64 0, .int .i64 0, .int .i64 0] [(0, 1, .int .i64 1), (1, 1, .int .i64 2), (2, 1, .int .i64 0), (3, 1, .int .i64 3), (4, 1, .int .i64 5), (5, 1, .int .i64 1)] = some (.slice (some ⟨m.length, 0, none⟩) 6 1, m ++ [rowB [1, 2, 0, 3, 5, 1]]) := rfl
theorem bC (m : Mem) : bslA m 3 1 4 [.int .i64 0, .int .i64 0, .int .i64 0, .int .i64 0] [(0, 1, .int .i64 (-1)), (1, 1, .int .i64 1000), (2, 1, .int .i64 1001), (3, 1, .int .i64 4611686018427387904)] = some (.slice (some ⟨m.length, 0, none⟩) 4 1, m ++ [rowB [-1, 1000, 1001, 4611686018427387904]]) := rfl
theorem bD (m : Mem) : bslA m 3 1 9 [.int .i64 0, .int .i64 0, .int .i64 0, .int .i64 0, .int .i64 0, .int .i64 0, .int .i64 0, .int .i64 0, .int .i64 0] [(0, 1, .int .i64 1), (1, 1, .int .i64 2), (2, 1, .int .i64 3), (3, 1, .int .i64 5), (4, 1, .int .i64 0), (5, 1, .int .i64 8), (6, 1, .int .i64 20), (7, 1, .int .i64 21), (8, 1, .int .i64 (-1))] = some (.slice (some ⟨m.length, 0, none⟩) 9 1, m ++ [rowB [1, 2, 3, 5, 0, 8, 20, 21, -1]]) := rfl
theorem bE (m : Mem) : bslA m 3 1 4 [.int .i64 0, .int .i64 0, .int .i64 0, .int .i64 0] [(0, 1, .int .i64 (-1)), (1, 1, .int .i64 15), (2, 1, .int .i64 16), (3, 1, .int .i64 4611686018427387904)] = some (.slice (some ⟨m.length, 0, none⟩) 4 1, m ++ [rowB [-1, 15, 16, 4611686018427387904]]) := rfl
theorem b1d (m : Mem) (x : Int) : bslA m 3 1 1 [.int .i64 0] [(0, 1, .int .i64 x)] = some (.slice (some ⟨m.length, 0, none⟩) 1 1, m ++ [⟨.own, 3, [.int .i64 x]⟩]) := rfl

/-- A list of weights, mostly a distribution. -/
theorem chances_ac (M : Mem) (cb id a : Nat) (l : List Int) (h : CurA M cb l id a) (ha : a ≤ 999999000) :
    AC Try.prog 78 [.pointer (some ⟨id, 0, none⟩)] M fun v M' => ∃ (r : Nat) (L : List Int) (a' : Nat), v = .slice (some ⟨r, 0, none⟩) L.length 1 ∧ L.length ≤ 20 ∧ a' ≤ a + 100 ∧ Dr M M' cb id a' r l L := by
  refine ac_of_run mixed ok_spec_l1Cur__chances (by simp) (go_start _ _ _ ?_)
  have hid := h.lt
  have hcb := h.cblt
  simp (config := {implicitDefEqProofs := false, maxDischargeDepth := 20}) (disch := first | omega | (simp only [lenE]; done) | (simp only [lenE]; omega) | rfl | (simp only [lenE, markR_len]; done) | (simp only [lenE, markR_len]; omega)) only [runE, mapE, listE, initT_5, initT_6, initT_7, initT_8, resV, oneV, binA, unA, reduceCtorEq, Nat.reduceEqDiff, Nat.reduceAdd, Nat.reduceLT, Nat.reduceLeDiff, Nat.reduceMul, Nat.reduceSub, ↓reduceIte, decide_true, decide_false, Bool.true_eq_false, Bool.false_eq_true, Bool.not_true, Bool.not_false, if_true, if_false, and_true, true_and, memE, celE, w64, Nat.zero_add, Nat.add_zero, Nat.mul_one, putL, and_self, ldn, c_spec_l1Cur__chances, r_spec_l1Cur__chances, bsl_none, bA]
  refine callH_ac (among_new (M ++ [rowB []]) cb id a l [4, 5, 6, 3, 8, 1, 2] (h.ext _) (by omega) (by simp) rfl (by simp) (by simp)) ?_
  rintro v M1 ⟨n, hn, rfl, w1, a1, ha1, k1⟩
  have d1 := (Dr.new hid hcb (Cw.refl id M) h (r := M.length) rfl []).draw w1 k1
  obtain ⟨N, rfl, hN1, hN8⟩ : ∃ N : Nat, n = N ∧ 1 ≤ N ∧ N ≤ 8 := by
    simp at hn
    rcases hn with rfl | rfl | rfl | rfl | rfl | rfl | rfl
    · exact ⟨4, rfl, by omega, by omega⟩
    · exact ⟨5, rfl, by omega, by omega⟩
    · exact ⟨6, rfl, by omega, by omega⟩
    · exact ⟨3, rfl, by omega, by omega⟩
    · exact ⟨8, rfl, by omega, by omega⟩
    · exact ⟨1, rfl, by omega, by omega⟩
    · exact ⟨2, rfl, by omega, by omega⟩
  simp (config := {implicitDefEqProofs := false, maxDischargeDepth := 20}) (disch := first | omega | (simp only [lenE]; done) | (simp only [lenE]; omega) | rfl | (simp only [lenE, markR_len]; done) | (simp only [lenE, markR_len]; omega)) only [runE, mapE, listE, initT_5, initT_6, initT_7, initT_8, resV, oneV, binA, unA, reduceCtorEq, Nat.reduceEqDiff, Nat.reduceAdd, Nat.reduceLT, Nat.reduceLeDiff, Nat.reduceMul, Nat.reduceSub, ↓reduceIte, decide_true, decide_false, Bool.true_eq_false, Bool.false_eq_true, Bool.not_true, Bool.not_false, if_true, if_false, and_true, true_and, memE, celE, w64, Nat.zero_add, Nat.add_zero, Nat.mul_one, putL, and_self, ldn]
  refine loop_inv mixed (fun s => ∃ (M' : Mem) (r : Nat) (L : List Int) (a' k : Nat), s.m = M' ∧ Dr M M' cb id a' r l L ∧ L.length + k = N ∧ a' + 2 * k ≤ a + 18 ∧ s.t 0 = .pointer (some ⟨id, 0, none⟩) ∧ s.t 3 = .slice (some ⟨r, 0, none⟩) L.length 1 ∧ s.t 4 = .int .i64 k) (fun s => (intOf (s.t 4)).toNat)
    ⟨M1, M.length, [], a1, N, rfl, d1, by simp, by omega, rfl, rfl, rfl⟩ ?_
  rintro s ⟨M', r, L, a', k, tm, d, hk, hak, t0, t3, t4⟩
  by_cases hlt : 0 < k
  · have hlt' : (0 : Int) < k := by omega
    simp (config := {implicitDefEqProofs := false, maxDischargeDepth := 20}) (disch := first | omega | (simp only [lenE]; done) | (simp only [lenE]; omega) | rfl | (simp only [lenE, markR_len]; done) | (simp only [lenE, markR_len]; omega)) only [runE, mapE, listE, initT_5, initT_6, initT_7, initT_8, resV, oneV, binA, unA, reduceCtorEq, Nat.reduceEqDiff, Nat.reduceAdd, Nat.reduceLT, Nat.reduceLeDiff, Nat.reduceMul, Nat.reduceSub, ↓reduceIte, decide_true, decide_false, Bool.true_eq_false, Bool.false_eq_true, Bool.not_true, Bool.not_false, if_true, if_false, and_true, true_and, memE, celE, w64, Nat.zero_add, Nat.add_zero, Nat.mul_one, putL, and_self, ldn, tm, t0, t3, t4, gt_iff_lt, hlt', bB]
    refine callH_ac (among_new M' cb id a' l [1, 2, 0, 3, 5, 1] d.cur (by omega) (by simp) rfl (by simp) (by simp)) ?_
    rintro v M2 ⟨x, hx, rfl, w2, a2, ha2, k2⟩
    have d2 := d.draw w2 k2
    obtain ⟨M3, ap, d3⟩ := d2.app x (by omega) rfl
    simp (config := {implicitDefEqProofs := false, maxDischargeDepth := 20}) (disch := first | omega | (simp only [lenE]; done) | (simp only [lenE]; omega) | rfl | (simp only [lenE, markR_len]; done) | (simp only [lenE, markR_len]; omega)) only [runE, mapE, listE, initT_5, initT_6, initT_7, initT_8, resV, oneV, binA, unA, reduceCtorEq, Nat.reduceEqDiff, Nat.reduceAdd, Nat.reduceLT, Nat.reduceLeDiff, Nat.reduceMul, Nat.reduceSub, ↓reduceIte, decide_true, decide_false, Bool.true_eq_false, Bool.false_eq_true, Bool.not_true, Bool.not_false, if_true, if_false, and_true, true_and, memE, celE, w64, Nat.zero_add, Nat.add_zero, Nat.mul_one, putL, and_self, ldn, tm, t0, t3, t4, b1d, ap]
    exact ⟨⟨_, _, L ++ [x], a2, k - 1, rfl, d3, by simp; omega, by omega, by simp, by congr 1; omega⟩, by simp [intOf]; omega⟩
  · have hlt' : ¬ ((0 : Int) < k) := by omega
    have e : k = 0 := by omega
    subst e
    have hL1 : 1 ≤ L.length := by omega
    simp (config := {implicitDefEqProofs := false, maxDischargeDepth := 20}) (disch := first | omega | (simp only [lenE]; done) | (simp only [lenE]; omega) | rfl | (simp only [lenE, markR_len]; done) | (simp only [lenE, markR_len]; omega)) only [runE, mapE, listE, initT_5, initT_6, initT_7, initT_8, resV, oneV, binA, unA, reduceCtorEq, Nat.reduceEqDiff, Nat.reduceAdd, Nat.reduceLT, Nat.reduceLeDiff, Nat.reduceMul, Nat.reduceSub, ↓reduceIte, decide_true, decide_false, Bool.true_eq_false, Bool.false_eq_true, Bool.not_true, Bool.not_false, if_true, if_false, and_true, true_and, memE, celE, w64, Nat.zero_add, Nat.add_zero, Nat.mul_one, putL, and_self, ldn, tm, t0, t3, t4, gt_iff_lt, hlt']
    refine callH_ac (pick_ac M' cb id a' l 32 d.cur (by omega) (by omega) (by omega)) ?_
    rintro v M2 ⟨x, rfl, hx0, hx1, w2, a2, ha2, k2⟩
    have d2 := d.draw w2 k2
    by_cases x0 : x = 0
    · have x0' : (x == 0) = true := by simp [x0]
      simp (config := {implicitDefEqProofs := false, maxDischargeDepth := 20}) (disch := first | omega | (simp only [lenE]; done) | (simp only [lenE]; omega) | rfl | (simp only [lenE, markR_len]; done) | (simp only [lenE, markR_len]; omega)) only [runE, mapE, listE, initT_5, initT_6, initT_7, initT_8, resV, oneV, binA, unA, reduceCtorEq, Nat.reduceEqDiff, Nat.reduceAdd, Nat.reduceLT, Nat.reduceLeDiff, Nat.reduceMul, Nat.reduceSub, ↓reduceIte, decide_true, decide_false, Bool.true_eq_false, Bool.false_eq_true, Bool.not_true, Bool.not_false, if_true, if_false, and_true, true_and, memE, celE, w64, Nat.zero_add, Nat.add_zero, Nat.mul_one, putL, and_self, ldn, tm, t0, t3, t4, x0', bC]
      refine callH_ac (among_new M2 cb id a2 l [-1, 1000, 1001, 4611686018427387904] d2.cur (by omega) (by simp) rfl (by simp) (by simp)) ?_
      rintro v M3 ⟨y, hy, rfl, w3, a3, ha3, k3⟩
      have d3 := d2.draw w3 k3
      obtain ⟨hst, d4⟩ := d3.st (j := 0) (by omega) y
      have q1 : iadA 1 (.slice (some ⟨r, 0, none⟩) L.length 1) (.int .i64 0) = some (.pointer (some ⟨r, 0, none⟩)) := by
        have := iadA_in (id := r) (off := 0) (n := L.length) (fl := 1) (sz := 1) (k := .i64) (j := 0) (by omega)
        simpa using this
      simp (config := {implicitDefEqProofs := false, maxDischargeDepth := 20}) (disch := first | omega | (simp only [lenE]; done) | (simp only [lenE]; omega) | rfl | (simp only [lenE, markR_len]; done) | (simp only [lenE, markR_len]; omega)) only [runE, mapE, listE, initT_5, initT_6, initT_7, initT_8, resV, oneV, binA, unA, reduceCtorEq, Nat.reduceEqDiff, Nat.reduceAdd, Nat.reduceLT, Nat.reduceLeDiff, Nat.reduceMul, Nat.reduceSub, ↓reduceIte, decide_true, decide_false, Bool.true_eq_false, Bool.false_eq_true, Bool.not_true, Bool.not_false, if_true, if_false, and_true, true_and, memE, celE, w64, Nat.zero_add, Nat.add_zero, Nat.mul_one, putL, and_self, ldn, tm, t0, t3, t4, q1, hst]
      exact ⟨_, _, a3, by rw [List.length_set], by rw [List.length_set]; omega, by omega, d4⟩
    · have x0' : (x == 0) = false := by simp [x0]
      by_cases x1 : x = 1
      · have x1' : (x == 1) = true := by simp [x1]
        simp (config := {implicitDefEqProofs := false, maxDischargeDepth := 20}) (disch := first | omega | (simp only [lenE]; done) | (simp only [lenE]; omega) | rfl | (simp only [lenE, markR_len]; done) | (simp only [lenE, markR_len]; omega)) only [runE, mapE, listE, initT_5, initT_6, initT_7, initT_8, resV, oneV, binA, unA, reduceCtorEq, Nat.reduceEqDiff, Nat.reduceAdd, Nat.reduceLT, Nat.reduceLeDiff, Nat.reduceMul, Nat.reduceSub, ↓reduceIte, decide_true, decide_false, Bool.true_eq_false, Bool.false_eq_true, Bool.not_true, Bool.not_false, if_true, if_false, and_true, true_and, memE, celE, w64, Nat.zero_add, Nat.add_zero, Nat.mul_one, putL, and_self, ldn, tm, t0, t3, t4, x0', x1']
        refine loop_inv mixed (fun s => ∃ (M' : Mem) (r : Nat) (L : List Int) (a' : Nat), s.m = M' ∧ Dr M M' cb id a' r l L ∧ L.length ≤ 17 ∧ a' ≤ a + 24 + 2 * L.length ∧ s.t 0 = .pointer (some ⟨id, 0, none⟩) ∧ s.t 3 = .slice (some ⟨r, 0, none⟩) L.length 1) (fun s => 20 - lenOfA (s.t 3))
          ⟨M2, r, L, a2, by simp only [put_t, put_t', put_m, putT_t, putT_t', putT_m, init_t, init_m, initT_0, initT_1, initT_2, initT_3, initT_4, initT_5, initT_6, initT_7, initT_8, Nat.reduceEqDiff, ↓reduceIte], d2, by omega, by omega, by simp only [put_t, put_t', put_m, putT_t, putT_t', putT_m, init_t, init_m, initT_0, initT_1, initT_2, initT_3, initT_4, initT_5, initT_6, initT_7, initT_8, Nat.reduceEqDiff, ↓reduceIte, t0], by simp only [put_t, put_t', put_m, putT_t, putT_t', putT_m, init_t, init_m, initT_0, initT_1, initT_2, initT_3, initT_4, initT_5, initT_6, initT_7, initT_8, Nat.reduceEqDiff, ↓reduceIte, t3]⟩ ?_
        clear tm t0 t3 t4
        rintro s ⟨M', r, L, a', tm, d, hL, hak, t0, t3⟩
        simp (config := {implicitDefEqProofs := false, maxDischargeDepth := 20}) (disch := first | omega | (simp only [lenE]; done) | (simp only [lenE]; omega) | rfl | (simp only [lenE, markR_len]; done) | (simp only [lenE, markR_len]; omega)) only [runE, mapE, listE, initT_5, initT_6, initT_7, initT_8, resV, oneV, binA, unA, reduceCtorEq, Nat.reduceEqDiff, Nat.reduceAdd, Nat.reduceLT, Nat.reduceLeDiff, Nat.reduceMul, Nat.reduceSub, ↓reduceIte, decide_true, decide_false, Bool.true_eq_false, Bool.false_eq_true, Bool.not_true, Bool.not_false, if_true, if_false, and_true, true_and, memE, celE, w64, Nat.zero_add, Nat.add_zero, Nat.mul_one, putL, and_self, ldn, tm, t0, t3]
        refine callH_ac (pick_ac M' cb id a' l 3 d.cur (by omega) (by omega) (by omega)) ?_
        rintro v M3 ⟨y, rfl, hy0, hy1, w3, a3, ha3, k3⟩
        have d3 := d.draw w3 k3
        by_cases hlt2 : (L.length : Int) < 15 + y
        · obtain ⟨M4, ap, d4⟩ := d3.app 1 (by omega) rfl
          simp (config := {implicitDefEqProofs := false, maxDischargeDepth := 20}) (disch := first | omega | (simp only [lenE]; done) | (simp only [lenE]; omega) | rfl | (simp only [lenE, markR_len]; done) | (simp only [lenE, markR_len]; omega)) only [runE, mapE, listE, initT_5, initT_6, initT_7, initT_8, resV, oneV, binA, unA, reduceCtorEq, Nat.reduceEqDiff, Nat.reduceAdd, Nat.reduceLT, Nat.reduceLeDiff, Nat.reduceMul, Nat.reduceSub, ↓reduceIte, decide_true, decide_false, Bool.true_eq_false, Bool.false_eq_true, Bool.not_true, Bool.not_false, if_true, if_false, and_true, true_and, memE, celE, w64, Nat.zero_add, Nat.add_zero, Nat.mul_one, putL, and_self, ldn, tm, t0, t3, hlt2, b1d, ap]
          exact ⟨⟨_, _, L ++ [1], a3, rfl, d4, by simp; omega, by simp; omega, by simp⟩, by simp [lenOfA]; omega⟩
        · simp (config := {implicitDefEqProofs := false, maxDischargeDepth := 20}) (disch := first | omega | (simp only [lenE]; done) | (simp only [lenE]; omega) | rfl | (simp only [lenE, markR_len]; done) | (simp only [lenE, markR_len]; omega)) only [runE, mapE, listE, initT_5, initT_6, initT_7, initT_8, resV, oneV, binA, unA, reduceCtorEq, Nat.reduceEqDiff, Nat.reduceAdd, Nat.reduceLT, Nat.reduceLeDiff, Nat.reduceMul, Nat.reduceSub, ↓reduceIte, decide_true, decide_false, Bool.true_eq_false, Bool.false_eq_true, Bool.not_true, Bool.not_false, if_true, if_false, and_true, true_and, memE, celE, w64, Nat.zero_add, Nat.add_zero, Nat.mul_one, putL, and_self, ldn, tm, t0, t3, hlt2]
          exact ⟨_, _, a3, rfl, by omega, by omega, d3⟩
      · have x1' : (x == 1) = false := by simp [x1]
        by_cases x2 : x = 2
        · have x2' : (x == 2) = true := by simp [x2]
          simp (config := {implicitDefEqProofs := false, maxDischargeDepth := 20}) (disch := first | omega | (simp only [lenE]; done) | (simp only [lenE]; omega) | rfl | (simp only [lenE, markR_len]; done) | (simp only [lenE, markR_len]; omega)) only [runE, mapE, listE, initT_5, initT_6, initT_7, initT_8, resV, oneV, binA, unA, reduceCtorEq, Nat.reduceEqDiff, Nat.reduceAdd, Nat.reduceLT, Nat.reduceLeDiff, Nat.reduceMul, Nat.reduceSub, ↓reduceIte, decide_true, decide_false, Bool.true_eq_false, Bool.false_eq_true, Bool.not_true, Bool.not_false, if_true, if_false, and_true, true_and, memE, celE, w64, Nat.zero_add, Nat.add_zero, Nat.mul_one, putL, and_self, ldn, tm, t0, t3, t4, x0', x1', x2']
          refine callH_ac (pick_ac M2 cb id a2 l 4 d2.cur (by omega) (by omega) (by omega)) ?_
          rintro v M3 ⟨y, rfl, hy0, hy1, w3, a3, ha3, k3⟩
          obtain ⟨n, rfl⟩ : ∃ n : Nat, y = n := ⟨y.toNat, by omega⟩
          have d3 := d2.draw w3 k3
          have hmk := mksA_eq (m := M3) (e := 3) (byt := 8) (n := n) (z := .int .i64 0) (a := (n : Int)) rfl (by omega)
          have d4 := Dr.new hid hcb d3.cw d3.cur (r := M3.length) rfl (List.replicate n 0)
          have e4 : rowB (List.replicate n 0) = ⟨.own, 3, List.replicate n (.int .i64 0)⟩ := by simp [rowB]
          rw [e4] at d4
          simp (config := {implicitDefEqProofs := false, maxDischargeDepth := 20}) (disch := first | omega | (simp only [lenE]; done) | (simp only [lenE]; omega) | rfl | (simp only [lenE, markR_len]; done) | (simp only [lenE, markR_len]; omega)) only [runE, mapE, listE, initT_5, initT_6, initT_7, initT_8, resV, oneV, binA, unA, reduceCtorEq, Nat.reduceEqDiff, Nat.reduceAdd, Nat.reduceLT, Nat.reduceLeDiff, Nat.reduceMul, Nat.reduceSub, ↓reduceIte, decide_true, decide_false, Bool.true_eq_false, Bool.false_eq_true, Bool.not_true, Bool.not_false, if_true, if_false, and_true, true_and, memE, celE, w64, Nat.zero_add, Nat.add_zero, Nat.mul_one, putL, and_self, ldn, tm, t0, t3, t4, hmk]
          exact ⟨_, _, a3, by rw [List.length_replicate], by rw [List.length_replicate]; omega, by omega, d4⟩
        · have x2' : (x == 2) = false := by simp [x2]
          simp (config := {implicitDefEqProofs := false, maxDischargeDepth := 20}) (disch := first | omega | (simp only [lenE]; done) | (simp only [lenE]; omega) | rfl | (simp only [lenE, markR_len]; done) | (simp only [lenE, markR_len]; omega)) only [runE, mapE, listE, initT_5, initT_6, initT_7, initT_8, resV, oneV, binA, unA, reduceCtorEq, Nat.reduceEqDiff, Nat.reduceAdd, Nat.reduceLT, Nat.reduceLeDiff, Nat.reduceMul, Nat.reduceSub, ↓reduceIte, decide_true, decide_false, Bool.true_eq_false, Bool.false_eq_true, Bool.not_true, Bool.not_false, if_true, if_false, and_true, true_and, memE, celE, w64, Nat.zero_add, Nat.add_zero, Nat.mul_one, putL, and_self, ldn, tm, t0, t3, t4, x0', x1', x2']
          exact ⟨_, _, a2, rfl, by omega, by omega, d2⟩

theorem charge_ac (M : Mem) (cb id a : Nat) (l : List Int) (h : CurA M cb l id a) (ha : a ≤ 999999000) :
    AC Try.prog 79 [.pointer (some ⟨id, 0, none⟩)] M fun v M' => ∃ (x : Int) (a' : Nat), v = .int .i64 x ∧ a' ≤ a + 10 ∧ Cw id M M' ∧ CurA M' cb l id a' := by
  refine ac_of_run mixed ok_spec_l1Cur__charge (by simp) (go_start _ _ _ ?_)
  have hid := h.lt
  have hcb := h.cblt
  simp (config := {implicitDefEqProofs := false, maxDischargeDepth := 20}) (disch := first | omega | (simp only [lenE]; done) | (simp only [lenE]; omega) | rfl | (simp only [lenE, markR_len]; done) | (simp only [lenE, markR_len]; omega)) only [runE, mapE, listE, initT_5, initT_6, initT_7, initT_8, resV, oneV, binA, unA, reduceCtorEq, Nat.reduceEqDiff, Nat.reduceAdd, Nat.reduceLT, Nat.reduceLeDiff, Nat.reduceMul, Nat.reduceSub, ↓reduceIte, decide_true, decide_false, Bool.true_eq_false, Bool.false_eq_true, Bool.not_true, Bool.not_false, if_true, if_false, and_true, true_and, memE, celE, w64, Nat.zero_add, Nat.add_zero, Nat.mul_one, putL, and_self, ldn, c_spec_l1Cur__charge, r_spec_l1Cur__charge, bD]
  have d0 := Dr.new hid hcb (Cw.refl id M) h (r := M.length) rfl [1, 2, 3, 5, 0, 8, 20, 21, -1]
  refine callH_ac (pick_ac _ cb id a l 24 d0.cur (by omega) (by omega) (by omega)) ?_
  rintro v M1 ⟨y, rfl, hy0, hy1, w1, a1, ha1, k1⟩
  have d1 := d0.draw w1 k1
  have q0 : 0 ≤ y.tdiv 11 ∧ y.tdiv 11 ≤ 2 := by
    rw [Int.tdiv_eq_ediv_of_nonneg hy0]; omega
  obtain ⟨n, hn, hn9⟩ : ∃ n : Nat, 7 + y.tdiv 11 = n ∧ n ≤ 9 := ⟨(7 + y.tdiv 11).toNat, by omega, by omega⟩
  have hi := d1.own.ints (by simp) 1
  obtain ⟨u, eu, hu⟩ := hi.pre (hi := n) (by simpa using hn9)
  have d11 : ¬ ((11 : Int) = 0) := by decide
  rw [show (([1, 2, 3, 5, 0, 8, 20, 21, -1] : List Int).length) = 9 from rfl] at eu
  simp (config := {implicitDefEqProofs := false, maxDischargeDepth := 20}) (disch := first | omega | (simp only [lenE]; done) | (simp only [lenE]; omega) | rfl | (simp only [lenE, markR_len]; done) | (simp only [lenE, markR_len]; omega)) only [runE, mapE, listE, initT_5, initT_6, initT_7, initT_8, resV, oneV, binA, unA, reduceCtorEq, Nat.reduceEqDiff, Nat.reduceAdd, Nat.reduceLT, Nat.reduceLeDiff, Nat.reduceMul, Nat.reduceSub, ↓reduceIte, decide_true, decide_false, Bool.true_eq_false, Bool.false_eq_true, Bool.not_true, Bool.not_false, if_true, if_false, and_true, true_and, memE, celE, w64, Nat.zero_add, Nat.add_zero, Nat.mul_one, putL, and_self, ldn, hn, Option.map_none, eu, d11]
  have hcl : (cutL [1, 2, 3, 5, 0, 8, 20, 21, -1] 0 n).length = n := by rw [cutL_len (by simpa using hn9), Nat.sub_zero]
  refine callH_ac (among_ac M1 cb id a1 l u _ d1.cur (by omega) hu (fun M' w => ?_) (by omega) (by omega)) ?_
  · obtain ⟨u', eu', hu'⟩ := ((w.own d1.own (by have := d1.ge; omega)).ints (by simp) 1).pre (hi := n) (by simpa using hn9)
    rw [show (([1, 2, 3, 5, 0, 8, 20, 21, -1] : List Int).length) = 9 from rfl, eu] at eu'
    cases eu'
    exact hu'
  rintro v M2 ⟨x, hx, rfl, w2, a2, ha2, k2⟩
  simp (config := {implicitDefEqProofs := false, maxDischargeDepth := 20}) (disch := first | omega | (simp only [lenE]; done) | (simp only [lenE]; omega) | rfl | (simp only [lenE, markR_len]; done) | (simp only [lenE, markR_len]; omega)) only [runE, mapE, listE, initT_5, initT_6, initT_7, initT_8, resV, oneV, binA, unA, reduceCtorEq, Nat.reduceEqDiff, Nat.reduceAdd, Nat.reduceLT, Nat.reduceLeDiff, Nat.reduceMul, Nat.reduceSub, ↓reduceIte, decide_true, decide_false, Bool.true_eq_false, Bool.false_eq_true, Bool.not_true, Bool.not_false, if_true, if_false, and_true, true_and, memE, celE, w64, Nat.zero_add, Nat.add_zero, Nat.mul_one, putL, and_self, ldn]
  exact ⟨x, a2, rfl, by omega, (d1.draw w2 k2).cw, k2⟩

theorem order5_ac (M : Mem) (cb id a : Nat) (l : List Int) (h : CurA M cb l id a) (ha : a ≤ 999999000) :
    AC Try.prog 91 [.pointer (some ⟨id, 0, none⟩)] M fun v M' => ∃ (x : Int) (a' : Nat), v = .int .i64 x ∧ a' ≤ a + 10 ∧ Cw id M M' ∧ CurA M' cb l id a' := by
  refine ac_of_run mixed ok_spec_l1Cur__order5 (by simp) (go_start _ _ _ ?_)
  simp (config := {implicitDefEqProofs := false, maxDischargeDepth := 20}) (disch := first | omega | (simp only [lenE]; done) | (simp only [lenE]; omega) | rfl | (simp only [lenE, markR_len]; done) | (simp only [lenE, markR_len]; omega)) only [runE, mapE, listE, initT_5, initT_6, initT_7, initT_8, resV, oneV, binA, unA, reduceCtorEq, Nat.reduceEqDiff, Nat.reduceAdd, Nat.reduceLT, Nat.reduceLeDiff, Nat.reduceMul, Nat.reduceSub, ↓reduceIte, decide_true, decide_false, Bool.true_eq_false, Bool.false_eq_true, Bool.not_true, Bool.not_false, if_true, if_false, and_true, true_and, memE, celE, w64, Nat.zero_add, Nat.add_zero, Nat.mul_one, putL, and_self, ldn, c_spec_l1Cur__order5, r_spec_l1Cur__order5]
  refine callH_ac (one_ac M cb id a l 16 h (by omega) (by omega) (by omega)) ?_
  rintro v M1 ⟨b, rfl, w1, a1, ha1, k1⟩
  have hid := h.lt
  have hcb := h.cblt
  cases b with
  | true =>
    simp (config := {implicitDefEqProofs := false, maxDischargeDepth := 20}) (disch := first | omega | (simp only [lenE]; done) | (simp only [lenE]; omega) | rfl | (simp only [lenE, markR_len]; done) | (simp only [lenE, markR_len]; omega)) only [runE, mapE, listE, initT_5, initT_6, initT_7, initT_8, resV, oneV, binA, unA, reduceCtorEq, Nat.reduceEqDiff, Nat.reduceAdd, Nat.reduceLT, Nat.reduceLeDiff, Nat.reduceMul, Nat.reduceSub, ↓reduceIte, decide_true, decide_false, Bool.true_eq_false, Bool.false_eq_true, Bool.not_true, Bool.not_false, if_true, if_false, and_true, true_and, memE, celE, w64, Nat.zero_add, Nat.add_zero, Nat.mul_one, putL, and_self, ldn, bE]
    refine callH_ac (among_new M1 cb id a1 l [-1, 15, 16, 4611686018427387904] k1 (by omega) (by simp) rfl (by simp) (by simp)) ?_
    rintro v M2 ⟨x, hx, rfl, w2, a2, ha2, k2⟩
    simp (config := {implicitDefEqProofs := false, maxDischargeDepth := 20}) (disch := first | omega | (simp only [lenE]; done) | (simp only [lenE]; omega) | rfl | (simp only [lenE, markR_len]; done) | (simp only [lenE, markR_len]; omega)) only [runE, mapE, listE, initT_5, initT_6, initT_7, initT_8, resV, oneV, binA, unA, reduceCtorEq, Nat.reduceEqDiff, Nat.reduceAdd, Nat.reduceLT, Nat.reduceLeDiff, Nat.reduceMul, Nat.reduceSub, ↓reduceIte, decide_true, decide_false, Bool.true_eq_false, Bool.false_eq_true, Bool.not_true, Bool.not_false, if_true, if_false, and_true, true_and, memE, celE, w64, Nat.zero_add, Nat.add_zero, Nat.mul_one, putL, and_self, ldn]
    exact ⟨x, a2, rfl, by omega, Cw.trans hid w1 w2, k2⟩
  | false =>
    simp (config := {implicitDefEqProofs := false, maxDischargeDepth := 20}) (disch := first | omega | (simp only [lenE]; done) | (simp only [lenE]; omega) | rfl | (simp only [lenE, markR_len]; done) | (simp only [lenE, markR_len]; omega)) only [runE, mapE, listE, initT_5, initT_6, initT_7, initT_8, resV, oneV, binA, unA, reduceCtorEq, Nat.reduceEqDiff, Nat.reduceAdd, Nat.reduceLT, Nat.reduceLeDiff, Nat.reduceMul, Nat.reduceSub, ↓reduceIte, decide_true, decide_false, Bool.true_eq_false, Bool.false_eq_true, Bool.not_true, Bool.not_false, if_true, if_false, and_true, true_and, memE, celE, w64, Nat.zero_add, Nat.add_zero, Nat.mul_one, putL, and_self, ldn]
    refine callH_ac (pick_ac M1 cb id a1 l 9 k1 (by omega) (by omega) (by omega)) ?_
    rintro v M2 ⟨x, rfl, hx0, hx1, w2, a2, ha2, k2⟩
    simp (config := {implicitDefEqProofs := false, maxDischargeDepth := 20}) (disch := first | omega | (simp only [lenE]; done) | (simp only [lenE]; omega) | rfl | (simp only [lenE, markR_len]; done) | (simp only [lenE, markR_len]; omega)) only [runE, mapE, listE, initT_5, initT_6, initT_7, initT_8, resV, oneV, binA, unA, reduceCtorEq, Nat.reduceEqDiff, Nat.reduceAdd, Nat.reduceLT, Nat.reduceLeDiff, Nat.reduceMul, Nat.reduceSub, ↓reduceIte, decide_true, decide_false, Bool.true_eq_false, Bool.false_eq_true, Bool.not_true, Bool.not_false, if_true, if_false, and_true, true_and, memE, celE, w64, Nat.zero_add, Nat.add_zero, Nat.mul_one, putL, and_self, ldn]
    exact ⟨x, a2, rfl, by omega, Cw.trans hid w1 w2, k2⟩
end Go.Proofs.Ytfdpieeopdhcmaa.Ab
