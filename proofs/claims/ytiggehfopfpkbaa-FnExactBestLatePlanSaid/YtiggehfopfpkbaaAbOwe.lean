/- Late plans that cost least: the model's side. -/
import Derived.Test.YtiggehfopfpkbaaAbBestLate
namespace Go.Proofs.Ytiggehfopfpkbaa.Ab
open Go Go.RowKit
set_option linter.unusedVariables false
set_option linter.unusedSimpArgs false

/-- The least costs from a period on, by the balance before it. -/
def oweP (w : Ws) (T t q : Nat) : List Int := (List.range q).map fun (i : Nat) => vO (wayT w t (w.due t + ((i : Int) - T)))
theorem oweP_len (w : Ws) (T t q : Nat) : (oweP w T t q).length = q := by simp [oweP]
theorem oweP_at (w : Ws) (T t : Nat) {q s : Nat} (h : s < q) : (oweP w T t q).getD s 0 = vO (wayT w t (w.due t + ((s : Int) - T))) := by
  simp [oweP, List.getD_eq_getElem?_getD, h]
theorem oweP_s (w : Ws) (T t q : Nat) : oweP w T t (q + 1) = oweP w T t q ++ [vO (wayT w t (w.due t + ((q : Int) - T)))] := by simp [oweP, List.range_succ]
theorem oweP_end (w : Ws) {T : Nat} (hT : w.tot = T) : (List.replicate (2 * T + 1) (-1 : Int)).set T 0 = oweP w T w.n (2 * T + 1) := by
  unfold oweP
  apply List.ext_getElem (by simp)
  intro i h1 h2
  rw [List.getElem_set]
  simp only [List.getElem_replicate, List.getElem_map, List.getElem_range]
  rw [wayT_end, show w.due w.n = w.tot from rfl]
  by_cases e : T = i
  · subst e; rw [if_pos rfl, if_pos (by omega)]; rfl
  · rw [if_neg e, if_neg (by omega)]; rfl
theorem rep_s (x : Int) (q : Nat) : List.replicate (q + 1) x = List.replicate q x ++ [x] := by rw [List.replicate_succ']

set_option maxHeartbeats 4000000 in
theorem l4Owed_rc (m : Mem) (v u : Value) (w : Ws) (hw : WsOk w) (T : Nat) (hT : w.tot = T) (h0 : w.lo = -w.tot) (hrl : w.rates.length = w.n) (hlim : ∀ t, t < w.n → w.lim t = T) (h : CaseA m v w.k) (h' : IntsA m u w.rates) :
    RC Try.prog 98 [v, u] m (AnsT2 m 22 (w.n + 1) (fun t => oweP w T t (2 * T + 1))) := by
  refine rc_of_run mixed ok_spec_l4Owed (by simp) (go_start _ _ _ ?_)
  obtain ⟨v1, v2, v3, v4, rfl, h1, h2, h3, h4⟩ := h.ro.ok
  have hc : CaseA (roM m) (.agg #[v1, v2, v3, v4]) w.k := ⟨_, _, _, _, rfl, h1, h2, h3, h4⟩
  have hu := h'.ro
  have h8 := hw.g.n8
  have hn : w.n = w.k.need.length := rfl
  have hTb := hw.tot
  simp (config := {implicitDefEqProofs := false, maxDischargeDepth := 20}) (disch := first | omega | (simp only [lenE]; done) | (simp only [lenE]; omega) | rfl | (simp only [lenE, markR_len]; done) | (simp only [lenE, markR_len]; omega)) only [runE, mapE, listE, resV, oneV, binA, unA, reduceCtorEq, Nat.reduceEqDiff, Nat.reduceAdd, Nat.reduceLT, Nat.reduceLeDiff, Nat.reduceMul, Nat.reduceSub, ↓reduceIte, decide_true, decide_false, Bool.true_eq_false, Bool.false_eq_true, Bool.not_true, Bool.not_false, if_true, if_false, and_true, true_and, memE, celE, w64, Nat.zero_add, Nat.add_zero, Nat.mul_one, putL, and_self, ldn, c_spec_l4Owed, r_spec_l4Owed]
  refine callH_rc (l2Sum_rc _ v1 w.k.need (h1.ext _) fun j hj => by have := sumTo_in hw.g.need j hj; omega) ?_
  rintro r new ⟨rfl, rfl⟩
  rw [show sumTo w.k.need w.k.need.length = w.tot from rfl, List.append_nil, hT]
  simp (config := {implicitDefEqProofs := false, maxDischargeDepth := 20}) (disch := first | omega | (simp only [lenE]; done) | (simp only [lenE]; omega) | rfl | (simp only [lenE, markR_len]; done) | (simp only [lenE, markR_len]; omega)) only [runE, mapE, listE, resV, oneV, binA, unA, reduceCtorEq, Nat.reduceEqDiff, Nat.reduceAdd, Nat.reduceLT, Nat.reduceLeDiff, Nat.reduceMul, Nat.reduceSub, ↓reduceIte, decide_true, decide_false, Bool.true_eq_false, Bool.false_eq_true, Bool.not_true, Bool.not_false, if_true, if_false, and_true, true_and, memE, celE, w64, Nat.zero_add, Nat.add_zero, Nat.mul_one, putL, and_self, ldn, bsl_none]
  have o0 : OwnR (roM m ++ [⟨.own, 28, [v1, v2, v3, v4]⟩] ++ [⟨.own, 3, ([] : List Int).map (Value.int .i64)⟩]) (m.length + 1) (List.replicate 0 (-1)) := OwnR.end' (l := []) (by simp [roM_len])
  refine loop_inv mixed (fun s => ∃ (q : Nat) (M : Mem) (ra : Nat), q ≤ 2 * T + 1 ∧ s.m = M ∧ Grow (roM m ++ [⟨.own, 28, [v1, v2, v3, v4]⟩]) M ∧ OwnR M ra (List.replicate q (-1)) ∧ m.length + 1 ≤ ra ∧ s.t 1 = u ∧ s.t 2 = .pointer (some ⟨m.length, 0, none⟩) ∧ s.t 5 = .int .i64 T ∧ s.t 6 = .slice (some ⟨ra, 0, none⟩) q 1 ∧ s.t 7 = .int .i64 ((q : Int) - T)) (fun s => (T + 1 - intOf (s.t 7)).toNat)
    ⟨0, _, m.length + 1, by omega, rfl, (Grow.refl _).one _ _, o0, by omega, rfl, rfl, rfl, rfl, rfl⟩ ?_
  rintro s ⟨q, M, ra, hq, tm, hx, hl, hral, t1, t2, t5, t6, t7⟩
  have lM := hx.len
  simp only [List.length_append, List.length_cons, List.length_nil, roM_len] at lM
  by_cases hlt : q < 2 * T + 1
  · have hlt' : (q : Int) - T ≤ T := by omega
    have lr : (List.replicate q (-1 : Int)).length = q := List.length_replicate ..
    have ap := fun id2 h => app_genH (M := M) (x := -1) (id2 := id2) (n := q) hl (by omega) h (by simp)
    simp (config := {implicitDefEqProofs := false, maxDischargeDepth := 20}) (disch := first | omega | (simp only [lenE]; done) | (simp only [lenE]; omega) | rfl | (simp only [lenE, markR_len]; done) | (simp only [lenE, markR_len]; omega)) only [runE, mapE, listE, resV, oneV, binA, unA, reduceCtorEq, Nat.reduceEqDiff, Nat.reduceAdd, Nat.reduceLT, Nat.reduceLeDiff, Nat.reduceMul, Nat.reduceSub, ↓reduceIte, decide_true, decide_false, Bool.true_eq_false, Bool.false_eq_true, Bool.not_true, Bool.not_false, if_true, if_false, and_true, true_and, memE, celE, w64, Nat.zero_add, Nat.add_zero, Nat.mul_one, putL, and_self, ldn, tm, t1, t2, t5, t6, t7, hlt', bsl_one, ap]
    refine ⟨⟨q + 1, _, M.length + 1, by omega, rfl, ((hx.dead (by simp [roM_len]; omega)).one _ _).one _ _, ?_, by omega, by simp, by congr 1; omega⟩, by simp only [intOf]; omega⟩
    rw [rep_s]
    exact OwnR.end' (by simp)
  have hlt' : ¬ ((q : Int) - T ≤ T) := by omega
  have e : q = 2 * T + 1 := by omega
  subst e
  obtain ⟨c0, c1, c2, c3, hml⟩ := hx.box4
  have iT := iad0 (id := ra) (n := 2 * T + 1) (fl := 1) (z := (T : Int)) (j := T) rfl (by omega)
  have st := hl.st (off := T) (x := 0) (by simp; omega)
  rw [oweP_end w hT] at st
  have hl2 : OwnR (M.set ra (rowB (oweP w T w.n (2 * T + 1)))) ra (oweP w T w.n (2 * T + 1)) := OwnR.set_self hl
  have hx2 := hx.put (id := ra) (by simp [roM_len]; omega) 3 ((oweP w T w.n (2 * T + 1)).map (Value.int .i64))
  obtain ⟨M', hM'⟩ : ∃ M', M' = M.set ra (rowB (oweP w T w.n (2 * T + 1))) := ⟨_, rfl⟩
  rw [show (⟨.own, 3, (oweP w T w.n (2 * T + 1)).map (Value.int .i64)⟩ : Blk) = rowB (oweP w T w.n (2 * T + 1)) from rfl] at hx2
  rw [← hM'] at st hl2 hx2
  have lM' : M'.length = M.length := by rw [hM', List.length_set]
  clear hM'
  obtain ⟨e0, -, -, -, hml2⟩ := hx2.box4
  simp (config := {implicitDefEqProofs := false, maxDischargeDepth := 20}) (disch := first | omega | (simp only [lenE]; done) | (simp only [lenE]; omega) | rfl | (simp only [lenE, markR_len]; done) | (simp only [lenE, markR_len]; omega)) only [runE, mapE, listE, resV, oneV, binA, unA, reduceCtorEq, Nat.reduceEqDiff, Nat.reduceAdd, Nat.reduceLT, Nat.reduceLeDiff, Nat.reduceMul, Nat.reduceSub, ↓reduceIte, decide_true, decide_false, Bool.true_eq_false, Bool.false_eq_true, Bool.not_true, Bool.not_false, if_true, if_false, and_true, true_and, memE, celE, w64, Nat.zero_add, Nat.add_zero, Nat.mul_one, putL, and_self, ldn, tm, t1, t2, t5, t6, t7, hlt', iT, st, bsl_sl, e0, (hx2.intsV h1).len]
  have T0 : Tab m.length (M' ++ [⟨.own, 22, [.slice (some ⟨ra, 0, none⟩) (2 * T + 1) 1]⟩]) M'.length 22 3 [.slice (some ⟨ra, 0, none⟩) (2 * T + 1) 1] (rowsF fun i => oweP w T (w.n + i) (2 * T + 1)) :=
    Tab.one (by omega) (Own.end' rfl) (by omega) (Own.ext (cs := (oweP w T w.n (2 * T + 1)).map (Value.int .i64)) hl2 _) (by simp only [rowsF, oweP_len]; rfl)
  clear hlt' hlt hq
  refine loop_inv mixed (fun s => ∃ (j : Nat) (M : Mem) (id : Nat) (vs : List Value), j ≤ w.n ∧ vs.length = w.n - j + 1 ∧ s.m = M ∧ Grow (roM m ++ [⟨.own, 28, [v1, v2, v3, v4]⟩]) M ∧ Tab m.length M id 22 3 vs (rowsF fun i => oweP w T (j + i) (2 * T + 1)) ∧ s.t 1 = u ∧ s.t 2 = .pointer (some ⟨m.length, 0, none⟩) ∧ s.t 5 = .int .i64 T ∧ s.t 8 = .slice (some ⟨id, 0, none⟩) vs.length 1 ∧ s.t 9 = .int .i64 ((j : Int) - 1)) (fun s => (intOf (s.t 9) + 1).toNat)
    ⟨w.n, _, M'.length, _, by omega, by simp, rfl, hx2.one _ _, T0, by simp only [put_t, put_t', put_m, putT_t, putT_t', putT_m, init_t, init_m, initT_0, initT_1, initT_2, initT_3, initT_4, Nat.reduceEqDiff, ↓reduceIte, t1], by simp only [put_t, put_t', put_m, putT_t, putT_t', putT_m, init_t, init_m, initT_0, initT_1, initT_2, initT_3, initT_4, Nat.reduceEqDiff, ↓reduceIte, t2], by simp only [put_t, put_t', put_m, putT_t, putT_t', putT_m, init_t, init_m, initT_0, initT_1, initT_2, initT_3, initT_4, Nat.reduceEqDiff, ↓reduceIte, t5], rfl, by simp only [put_t, put_t', put_m, putT_t, putT_t', putT_m, init_t, init_m, initT_0, initT_1, initT_2, initT_3, initT_4, Nat.reduceEqDiff, ↓reduceIte, hn]⟩ ?_
  clear T0 hl hl2 hx hx2 lM lM' c0 c1 c2 c3 e0 hml hml2 tm t1 t2 t5 t6 t7 st hral iT
  rintro s ⟨j, M, id, vs, hj, hvs, tm, hx, hT2, t1, t2, t5, t8, t9⟩
  cases j with
  | zero =>
    have hz : ¬ ((0 : Int) ≤ ((0 : Nat) : Int) - 1) := by omega
    simp (config := {implicitDefEqProofs := false, maxDischargeDepth := 20}) (disch := first | omega | (simp only [lenE]; done) | (simp only [lenE]; omega) | rfl | (simp only [lenE, markR_len]; done) | (simp only [lenE, markR_len]; omega)) only [runE, mapE, listE, resV, oneV, binA, unA, reduceCtorEq, Nat.reduceEqDiff, Nat.reduceAdd, Nat.reduceLT, Nat.reduceLeDiff, Nat.reduceMul, Nat.reduceSub, ↓reduceIte, decide_true, decide_false, Bool.true_eq_false, Bool.false_eq_true, Bool.not_true, Bool.not_false, if_true, if_false, and_true, true_and, memE, celE, w64, Nat.zero_add, Nat.add_zero, Nat.mul_one, putL, and_self, ldn, tm, t1, t2, t5, t8, t9, hz, ge_iff_le]
    have e : (fun i => oweP w T (0 + i) (2 * T + 1)) = (fun t => oweP w T t (2 * T + 1)) := by funext i; rw [Nat.zero_add]
    rw [e] at hT2
    rw [show vs.length = w.n + 1 by omega]
    exact ext_ansT2 hx.ext (by omega) hT2
  | succ j =>
    have ej : (((j + 1 : Nat) : Int) - 1) = (j : Int) := by omega
    rw [ej] at t9
    have hz : (0 : Int) ≤ (j : Int) := by omega
    have hlimj := hlim j (by omega)
    simp (config := {implicitDefEqProofs := false, maxDischargeDepth := 20}) (disch := first | omega | (simp only [lenE]; done) | (simp only [lenE]; omega) | rfl | (simp only [lenE, markR_len]; done) | (simp only [lenE, markR_len]; omega)) only [runE, mapE, listE, resV, oneV, binA, unA, reduceCtorEq, Nat.reduceEqDiff, Nat.reduceAdd, Nat.reduceLT, Nat.reduceLeDiff, Nat.reduceMul, Nat.reduceSub, ↓reduceIte, decide_true, decide_false, Bool.true_eq_false, Bool.false_eq_true, Bool.not_true, Bool.not_false, if_true, if_false, and_true, true_and, memE, celE, w64, Nat.zero_add, Nat.add_zero, Nat.mul_one, putL, and_self, ldn, tm, t1, t2, t5, t8, t9, hz, ge_iff_le, bsl_none]
    refine loop_inv mixed (fun s => ∃ (q : Nat) (M' : Mem) (ra : Nat), q ≤ 2 * T + 1 ∧ s.m = M' ∧ Grow M M' ∧ OwnR M' ra (oweP w T j q) ∧ M.length ≤ ra ∧ s.t 1 = u ∧ s.t 2 = .pointer (some ⟨m.length, 0, none⟩) ∧ s.t 5 = .int .i64 T ∧ s.t 8 = .slice (some ⟨id, 0, none⟩) vs.length 1 ∧ s.t 9 = .int .i64 j ∧ s.t 10 = .slice (some ⟨ra, 0, none⟩) q 1 ∧ s.t 11 = .int .i64 ((q : Int) - T)) (fun s => (T + 1 - intOf (s.t 11)).toNat)
      ⟨0, _, M.length, by omega, rfl, (Grow.refl M).one _ _, (by show OwnR (M ++ [⟨.own, 3, ([] : List Int).map (Value.int .i64)⟩]) M.length []; exact OwnR.at_end M []), by omega, by simp only [put_t, put_t', put_m, putT_t, putT_t', putT_m, init_t, init_m, initT_0, initT_1, initT_2, initT_3, initT_4, Nat.reduceEqDiff, ↓reduceIte, t1], by simp only [put_t, put_t', put_m, putT_t, putT_t', putT_m, init_t, init_m, initT_0, initT_1, initT_2, initT_3, initT_4, Nat.reduceEqDiff, ↓reduceIte, t2], by simp only [put_t, put_t', put_m, putT_t, putT_t', putT_m, init_t, init_m, initT_0, initT_1, initT_2, initT_3, initT_4, Nat.reduceEqDiff, ↓reduceIte, t5], by simp only [put_t, put_t', put_m, putT_t, putT_t', putT_m, init_t, init_m, initT_0, initT_1, initT_2, initT_3, initT_4, Nat.reduceEqDiff, ↓reduceIte, t8], by simp only [put_t, put_t', put_m, putT_t, putT_t', putT_m, init_t, init_m, initT_0, initT_1, initT_2, initT_3, initT_4, Nat.reduceEqDiff, ↓reduceIte, t9], rfl, rfl⟩ ?_
    clear tm t1 t2 t5 t8 t9
    rintro s ⟨q, M1, ra, hq, tm, hx1, hra, hral, t1, t2, t5, t8, t9, t10, t11⟩
    have hT3 := hT2.grow hx1
    have hx' := hx.trans hx1
    have fl := oweP_len w T j q
    by_cases hlt : q < 2 * T + 1
    · have hlt' : (q : Int) - T ≤ T := by omega
      simp (config := {implicitDefEqProofs := false, maxDischargeDepth := 20}) (disch := first | omega | (simp only [lenE]; done) | (simp only [lenE]; omega) | rfl | (simp only [lenE, markR_len]; done) | (simp only [lenE, markR_len]; omega)) only [runE, mapE, listE, resV, oneV, binA, unA, reduceCtorEq, Nat.reduceEqDiff, Nat.reduceAdd, Nat.reduceLT, Nat.reduceLeDiff, Nat.reduceMul, Nat.reduceSub, ↓reduceIte, decide_true, decide_false, Bool.true_eq_false, Bool.false_eq_true, Bool.not_true, Bool.not_false, if_true, if_false, and_true, true_and, memE, celE, w64, Nat.zero_add, Nat.add_zero, Nat.mul_one, putL, and_self, ldn, tm, t1, t2, t5, t8, t9, t10, t11, hlt']
      refine loop_inv mixed (fun s => ∃ (x : Nat) (M' : Mem), x ≤ T + 1 ∧ s.m = M' ∧ Grow M1 M' ∧ s.t 1 = u ∧ s.t 2 = .pointer (some ⟨m.length, 0, none⟩) ∧ s.t 5 = .int .i64 T ∧ s.t 8 = .slice (some ⟨id, 0, none⟩) vs.length 1 ∧ s.t 9 = .int .i64 j ∧ s.t 10 = .slice (some ⟨ra, 0, none⟩) q 1 ∧ s.t 11 = .int .i64 ((q : Int) - T) ∧ s.t 12 = .int .i64 (vO (least (wayX w (wayT w (j + 1)) j (w.due j + ((q : Int) - T))) x)) ∧ s.t 13 = .int .i64 x) (fun s => T + 1 - (intOf (s.t 13)).toNat)
        ⟨0, M1, by omega, by simp only [put_t, put_t', put_m, putT_t, putT_t', putT_m, init_t, init_m, initT_0, initT_1, initT_2, initT_3, initT_4, Nat.reduceEqDiff, ↓reduceIte, tm], Grow.refl _, by simp only [put_t, put_t', put_m, putT_t, putT_t', putT_m, init_t, init_m, initT_0, initT_1, initT_2, initT_3, initT_4, Nat.reduceEqDiff, ↓reduceIte, t1], by simp only [put_t, put_t', put_m, putT_t, putT_t', putT_m, init_t, init_m, initT_0, initT_1, initT_2, initT_3, initT_4, Nat.reduceEqDiff, ↓reduceIte, t2], by simp only [put_t, put_t', put_m, putT_t, putT_t', putT_m, init_t, init_m, initT_0, initT_1, initT_2, initT_3, initT_4, Nat.reduceEqDiff, ↓reduceIte, t5], by simp only [put_t, put_t', put_m, putT_t, putT_t', putT_m, init_t, init_m, initT_0, initT_1, initT_2, initT_3, initT_4, Nat.reduceEqDiff, ↓reduceIte, t8], by simp only [put_t, put_t', put_m, putT_t, putT_t', putT_m, init_t, init_m, initT_0, initT_1, initT_2, initT_3, initT_4, Nat.reduceEqDiff, ↓reduceIte, t9], by simp only [put_t, put_t', put_m, putT_t, putT_t', putT_m, init_t, init_m, initT_0, initT_1, initT_2, initT_3, initT_4, Nat.reduceEqDiff, ↓reduceIte, t10], by simp only [put_t, put_t', put_m, putT_t, putT_t', putT_m, init_t, init_m, initT_0, initT_1, initT_2, initT_3, initT_4, Nat.reduceEqDiff, ↓reduceIte, t11], rfl, rfl⟩ ?_
      clear tm t1 t2 t5 t8 t9 t10 t11
      rintro s ⟨x, M2, hxl, tm, hx2, t1, t2, t5, t8, t9, t10, t11, t12, t13⟩
      have hxx := hx'.trans hx2
      obtain ⟨c0, c1, c2, c3, hml⟩ := hxx.box4
      have hT4 := hT3.grow hx2
      have iu := hxx.intsV hu
      have i1 := hxx.intsV h1
      have hdj := hw.due j (by omega)
      have hdj1 := hw.due (j + 1) (by omega)
      have dus := due_s w (t := j) (by omega)
      have hstep : wayT w j (w.due j + ((q : Int) - T)) = least (wayX w (wayT w (j + 1)) j (w.due j + ((q : Int) - T))) (T + 1) := by rw [wayT_s w (by omega), hlimj]
      by_cases hlx : x ≤ T
      · have hlx' : (x : Int) ≤ T := by omega
        have b3 := getD_in hw.g.need (k := j) (by omega)
        obtain ⟨F, hF⟩ : ∃ F, F = wayX w (wayT w (j + 1)) j (w.due j + ((q : Int) - T)) := ⟨_, rfl⟩
        rw [← hF] at t12 ⊢
        have eo : w.due j + ((q : Int) - T) + x - w.due (j + 1) = (q : Int) - T + x - w.k.need.getD j 0 := by omega
        simp (config := {implicitDefEqProofs := false, maxDischargeDepth := 20}) (disch := first | omega | (simp only [lenE]; done) | (simp only [lenE]; omega) | rfl | (simp only [lenE, markR_len]; done) | (simp only [lenE, markR_len]; omega)) only [runE, mapE, listE, resV, oneV, binA, unA, reduceCtorEq, Nat.reduceEqDiff, Nat.reduceAdd, Nat.reduceLT, Nat.reduceLeDiff, Nat.reduceMul, Nat.reduceSub, ↓reduceIte, decide_true, decide_false, Bool.true_eq_false, Bool.false_eq_true, Bool.not_true, Bool.not_false, if_true, if_false, and_true, true_and, memE, celE, w64, Nat.zero_add, Nat.add_zero, Nat.mul_one, putL, and_self, ldn, tm, t1, t2, t5, t8, t9, t10, t11, t12, t13, hlx', c0, i1.at_ j (by omega), i1.ld j (by omega)]
        refine callH_rc (l1In_rc _ _ _ _) ?_
        rintro r new ⟨rfl, rfl⟩
        rw [List.append_nil]
        obtain ⟨Lf, hLf⟩ : ∃ Lf, Lf = (q : Int) - T + x - w.k.need.getD j 0 := ⟨_, rfl⟩
        rw [← hLf] at eo ⊢
        by_cases hin : 0 - (T : Int) ≤ Lf ∧ Lf ≤ T
        · obtain ⟨L, hL⟩ : ∃ L : Nat, Lf + T = L := ⟨(Lf + T).toNat, by omega⟩
          have eb : (decide (0 - (T : Int) ≤ Lf) && decide (Lf ≤ T)) = true := by rw [decide_eq_true hin.1, decide_eq_true hin.2]; rfl
          obtain ⟨rid, f, g1, g2, g3⟩ := hT4.2.2 0 (by omega)
          have gv : rdc M2 id 0 = some (.slice (some ⟨rid, 0, none⟩) (oweP w T (j + 1) (2 * T + 1)).length f) := by rw [hT4.2.1.rd]; exact g1
          rw [oweP_len] at gv
          have gr := OwnR.rd' (M := M2) (id := rid) (L := oweP w T (j + 1) (2 * T + 1)) g3 (i := L) (by rw [oweP_len]; omega)
          rw [oweP_at w T (j + 1) (by omega), show w.due (j + 1) + ((L : Int) - T) = w.due j + ((q : Int) - T) + x by omega] at gr
          have i0 := iad0 (id := id) (n := vs.length) (fl := 1) (z := 0) (j := 0) rfl (by omega)
          have iL := iad0 (id := rid) (n := 2 * T + 1) (fl := f) hL (by omega)
          cases hnx : wayT w (j + 1) (w.due j + ((q : Int) - T) + x) with
          | none =>
            have e : least F (x + 1) = least F x := least_no (by rw [hF]; exact wayX_no hnx)
            rw [hnx] at gr
            have hneg : ¬ ((0 : Int) ≤ vO none) := by decide
            simp (config := {implicitDefEqProofs := false, maxDischargeDepth := 20}) (disch := first | omega | (simp only [lenE]; done) | (simp only [lenE]; omega) | rfl | (simp only [lenE, markR_len]; done) | (simp only [lenE, markR_len]; omega)) only [runE, mapE, listE, resV, oneV, binA, unA, reduceCtorEq, Nat.reduceEqDiff, Nat.reduceAdd, Nat.reduceLT, Nat.reduceLeDiff, Nat.reduceMul, Nat.reduceSub, ↓reduceIte, decide_true, decide_false, Bool.true_eq_false, Bool.false_eq_true, Bool.not_true, Bool.not_false, if_true, if_false, and_true, true_and, memE, celE, w64, Nat.zero_add, Nat.add_zero, Nat.mul_one, putL, and_self, ldn, eb, t1, t2, t5, t8, t9, t10, t11, t12, t13, ← hLf, i0, gv, iL, gr, hneg, ge_iff_le]
            exact ⟨⟨x + 1, M2, by omega, rfl, hx2, by rw [e], by simp⟩, by simp [intOf]; omega⟩
          | some r =>
            rw [hnx] at gr
            obtain ⟨rb0, rb1, rb2⟩ := wayT_bd hw (by omega) hnx
            have hpos : (0 : Int) ≤ vO (some r) := rb0
            have hcost : F x = some (stepF w.k w.rates j x Lf + r.1) := by
              rw [hF, wayX_of (by omega) hnx, eo]
            have hsb := stepF_bd hw.g hw.rates j (x := (x : Int)) (b := Lf) (by omega) (by omega) (by omega) (by omega)
            simp (config := {implicitDefEqProofs := false, maxDischargeDepth := 20}) (disch := first | omega | (simp only [lenE]; done) | (simp only [lenE]; omega) | rfl | (simp only [lenE, markR_len]; done) | (simp only [lenE, markR_len]; omega)) only [runE, mapE, listE, resV, oneV, binA, unA, reduceCtorEq, Nat.reduceEqDiff, Nat.reduceAdd, Nat.reduceLT, Nat.reduceLeDiff, Nat.reduceMul, Nat.reduceSub, ↓reduceIte, decide_true, decide_false, Bool.true_eq_false, Bool.false_eq_true, Bool.not_true, Bool.not_false, if_true, if_false, and_true, true_and, memE, celE, w64, Nat.zero_add, Nat.add_zero, Nat.mul_one, putL, and_self, ldn, eb, t1, t2, t5, t8, t9, t10, t11, t12, t13, ← hLf, i0, gv, iL, gr, hpos, ge_iff_le, c0, c1, c2, c3]
            refine rcallH_rc (l4Owe_rc _ _ u w.k w.rates j x Lf (hxx.caseV hc) iu hw.g hrl hw.rates (by omega) (by omega) (by omega) (by omega) (by omega)) ?_
            rintro r2 new ⟨rfl, nr⟩
            have e : vO (least F (x + 1)) = leastV (vO (least F x)) (stepF w.k w.rates j x Lf + r.1) :=
              vO_step hcost (by omega) fun r3 hr3 => by
                obtain ⟨l1, l2, _⟩ := least_some _ _ hr3
                rw [hF] at l2
                obtain ⟨q3, z1, z2, z3⟩ := wayX_some l2
                have := wayT_bd hw (by omega) z2
                have hb3 := wayT_le (by omega) z2
                have := stepF_bd hw.g hw.rates j (x := (r3.2 : Int)) (b := w.due j + ((q : Int) - T) + r3.2 - w.due (j + 1)) (by omega) (by omega) (by omega) (by omega)
                omega
            have ev : vO (some r) = r.1 := rfl
            rw [ev]
            generalize stepF w.k w.rates j x Lf = C at *
            simp (config := {implicitDefEqProofs := false, maxDischargeDepth := 20}) (disch := first | omega | (simp only [lenE]; done) | (simp only [lenE]; omega) | rfl | (simp only [lenE, markR_len]; done) | (simp only [lenE, markR_len]; omega)) only [runE, mapE, listE, resV, oneV, binA, unA, reduceCtorEq, Nat.reduceEqDiff, Nat.reduceAdd, Nat.reduceLT, Nat.reduceLeDiff, Nat.reduceMul, Nat.reduceSub, ↓reduceIte, decide_true, decide_false, Bool.true_eq_false, Bool.false_eq_true, Bool.not_true, Bool.not_false, if_true, if_false, and_true, true_and, memE, celE, w64, Nat.zero_add, Nat.add_zero, Nat.mul_one, putL, and_self, ldn, t1, t2, t5, t8, t9, t10, t11, t12, t13]
            refine rcallH_rc (l4Least_rc _ _ _) ?_
            rintro r4 new4 ⟨rfl, rfl⟩
            rw [List.append_nil]
            simp (config := {implicitDefEqProofs := false, maxDischargeDepth := 20}) (disch := first | omega | (simp only [lenE]; done) | (simp only [lenE]; omega) | rfl | (simp only [lenE, markR_len]; done) | (simp only [lenE, markR_len]; omega)) only [runE, mapE, listE, resV, oneV, binA, unA, reduceCtorEq, Nat.reduceEqDiff, Nat.reduceAdd, Nat.reduceLT, Nat.reduceLeDiff, Nat.reduceMul, Nat.reduceSub, ↓reduceIte, decide_true, decide_false, Bool.true_eq_false, Bool.false_eq_true, Bool.not_true, Bool.not_false, if_true, if_false, and_true, true_and, memE, celE, w64, Nat.zero_add, Nat.add_zero, Nat.mul_one, putL, and_self, ldn, t1, t2, t5, t8, t9, t10, t11, t12, t13]
            exact ⟨⟨x + 1, _, by omega, rfl, hx2.app nr, by rw [e], by simp⟩, by simp [intOf]; omega⟩
        · have eb : (decide (0 - (T : Int) ≤ Lf) && decide (Lf ≤ T)) = false := by
            by_cases h1 : 0 - (T : Int) ≤ Lf
            · rw [decide_eq_true h1, decide_eq_false (fun h2 => hin ⟨h1, h2⟩)]; rfl
            · rw [decide_eq_false h1]; rfl
          have e : least F (x + 1) = least F x := least_no (by
            rw [hF]
            by_cases h1 : 0 - (T : Int) ≤ Lf
            · exact wayX_no (wayT_big w (w.n - (j + 1)) (j + 1) (by omega) _ (by omega))
            · exact wayX_lo (by omega))
          simp (config := {implicitDefEqProofs := false, maxDischargeDepth := 20}) (disch := first | omega | (simp only [lenE]; done) | (simp only [lenE]; omega) | rfl | (simp only [lenE, markR_len]; done) | (simp only [lenE, markR_len]; omega)) only [runE, mapE, listE, resV, oneV, binA, unA, reduceCtorEq, Nat.reduceEqDiff, Nat.reduceAdd, Nat.reduceLT, Nat.reduceLeDiff, Nat.reduceMul, Nat.reduceSub, ↓reduceIte, decide_true, decide_false, Bool.true_eq_false, Bool.false_eq_true, Bool.not_true, Bool.not_false, if_true, if_false, and_true, true_and, memE, celE, w64, Nat.zero_add, Nat.add_zero, Nat.mul_one, putL, and_self, ldn, eb, t1, t2, t5, t8, t9, t10, t11, t12, t13, goG_undef]
          exact ⟨⟨x + 1, M2, by omega, rfl, hx2, by rw [e], by simp⟩, by simp [intOf]; omega⟩
      · have hlx' : ¬ ((x : Int) ≤ T) := by omega
        have e : x = T + 1 := by omega
        subst e
        rw [← hstep] at t12
        have hra2 := hx2.own hra
        simp (config := {implicitDefEqProofs := false, maxDischargeDepth := 20}) (disch := first | omega | (simp only [lenE]; done) | (simp only [lenE]; omega) | rfl | (simp only [lenE, markR_len]; done) | (simp only [lenE, markR_len]; omega)) only [runE, mapE, listE, resV, oneV, binA, unA, reduceCtorEq, Nat.reduceEqDiff, Nat.reduceAdd, Nat.reduceLT, Nat.reduceLeDiff, Nat.reduceMul, Nat.reduceSub, ↓reduceIte, decide_true, decide_false, Bool.true_eq_false, Bool.false_eq_true, Bool.not_true, Bool.not_false, if_true, if_false, and_true, true_and, memE, celE, w64, Nat.zero_add, Nat.add_zero, Nat.mul_one, putL, and_self, ldn, tm, t1, t2, t5, t8, t9, t10, t11, t12, t13, hlx', bsl_one, app_genH hra2 (by omega)]
        have es := oweP_s w T j q
        refine ⟨⟨q + 1, _, M2.length + 1, by omega, rfl, ?_, ?_, ?_, by simp, by congr 1; omega⟩, by simp only [intOf]; omega⟩
        · exact (((hx1.trans hx2).dead hral).one _ _).one _ _
        · rw [es]
          exact OwnR.end' (by simp)
        · have := (hx1.trans hx2).len; omega
    · have hlt' : ¬ ((q : Int) - T ≤ T) := by omega
      have e : q = 2 * T + 1 := by omega
      subst e
      have ap := fun id2 h => app_consB (M := M1) (n := vs.length) (id2 := id2) (fl := 1) (e := 22) (sz := 1) (byt := 24) (ys := [.slice (some ⟨ra, 0, none⟩) (2 * T + 1) 1]) hT3.2.1 h (by omega) rfl hT3.ones (by omega) (by omega)
      simp (config := {implicitDefEqProofs := false, maxDischargeDepth := 20}) (disch := first | omega | (simp only [lenE]; done) | (simp only [lenE]; omega) | rfl | (simp only [lenE, markR_len]; done) | (simp only [lenE, markR_len]; omega)) only [runE, mapE, listE, resV, oneV, binA, unA, reduceCtorEq, Nat.reduceEqDiff, Nat.reduceAdd, Nat.reduceLT, Nat.reduceLeDiff, Nat.reduceMul, Nat.reduceSub, ↓reduceIte, decide_true, decide_false, Bool.true_eq_false, Bool.false_eq_true, Bool.not_true, Bool.not_false, if_true, if_false, and_true, true_and, memE, celE, w64, Nat.zero_add, Nat.add_zero, Nat.mul_one, putL, and_self, ldn, tm, t1, t2, t5, t8, t9, t10, t11, hlt', bsl_sl, ap]
      have lM := hx.len
      have lM1 := hx1.len
      simp only [List.length_append, List.length_cons, List.length_nil, roM_len] at lM
      refine ⟨⟨j, _, M1.length + 1, .slice (some ⟨ra, 0, none⟩) (2 * T + 1) 1 :: vs, by omega, by rw [List.length_cons]; omega, rfl, (hx'.app (noRo_dead noRo_nil)).one _ _, ?_, by rw [List.length_cons, Nat.add_comm 1]; exact ⟨rfl, rfl⟩⟩, by simp only [intOf]; omega⟩
      refine hT3.cons (cs := (oweP w T j (2 * T + 1)).map (Value.int .i64)) (by omega) ?_ (fun _ _ ho => (ho.ext _).ext _) (by omega) (Own.end' (by simp)) (by simp only [rowsF, Nat.add_zero, oweP_len]) fun i hi => by simp only [rowsF]; rw [show j + (i + 1) = j + 1 + i by omega]
      exact Own.ext (Own.ext (cs := (oweP w T j (2 * T + 1)).map (Value.int .i64)) hra _) _
end Go.Proofs.Ytiggehfopfpkbaa.Ab
