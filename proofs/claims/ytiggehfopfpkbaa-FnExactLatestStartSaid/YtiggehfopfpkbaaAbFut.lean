/- The model's table of least costs by the stock before a period; the amounts traced in it. -/
import Derived.Test.YtiggehfopfpkbaaAbTab
import Derived.Test.YtiggehfopfpkbaaAbApp
namespace Go.Proofs.Ytiggehfopfpkbaa.Ab
open Go Go.RowKit
set_option linter.unusedVariables false
set_option linter.unusedSimpArgs false

theorem l4Least_rc (m : Mem) (a b : Int) : RC Try.prog 117 [.int .i64 a, .int .i64 b] m fun r new => r = .int .i64 (leastV a b) ∧ new = [] := by
  refine rc_of_run mixed ok_spec_l4Least (by simp) (go_start _ _ _ ?_)
  by_cases h1 : a < 0
  · simp (config := {implicitDefEqProofs := false, maxDischargeDepth := 20}) (disch := first | omega | (simp only [lenE]; done) | (simp only [lenE]; omega) | rfl | (simp only [lenE, markR_len]; done) | (simp only [lenE, markR_len]; omega)) only [runE, mapE, listE, resV, oneV, binA, unA, reduceCtorEq, Nat.reduceEqDiff, Nat.reduceAdd, Nat.reduceLT, Nat.reduceLeDiff, Nat.reduceMul, Nat.reduceSub, ↓reduceIte, decide_true, decide_false, Bool.true_eq_false, Bool.false_eq_true, Bool.not_true, Bool.not_false, if_true, if_false, and_true, true_and, memE, celE, w64, Nat.zero_add, Nat.add_zero, Nat.mul_one, putL, and_self, ldn, c_spec_l4Least, r_spec_l4Least, goG_undef, h1, ge_iff_le]
    exact newQ_nil ⟨by unfold leastV; rw [if_pos (.inl h1)], rfl⟩
  · by_cases h2 : 0 ≤ b
    · by_cases h3 : b < a
      · simp (config := {implicitDefEqProofs := false, maxDischargeDepth := 20}) (disch := first | omega | (simp only [lenE]; done) | (simp only [lenE]; omega) | rfl | (simp only [lenE, markR_len]; done) | (simp only [lenE, markR_len]; omega)) only [runE, mapE, listE, resV, oneV, binA, unA, reduceCtorEq, Nat.reduceEqDiff, Nat.reduceAdd, Nat.reduceLT, Nat.reduceLeDiff, Nat.reduceMul, Nat.reduceSub, ↓reduceIte, decide_true, decide_false, Bool.true_eq_false, Bool.false_eq_true, Bool.not_true, Bool.not_false, if_true, if_false, and_true, true_and, memE, celE, w64, Nat.zero_add, Nat.add_zero, Nat.mul_one, putL, and_self, ldn, c_spec_l4Least, r_spec_l4Least, goG_undef, h1, h2, h3, ge_iff_le]
        exact newQ_nil ⟨by unfold leastV; rw [if_pos (.inr ⟨h2, h3⟩)], rfl⟩
      · simp (config := {implicitDefEqProofs := false, maxDischargeDepth := 20}) (disch := first | omega | (simp only [lenE]; done) | (simp only [lenE]; omega) | rfl | (simp only [lenE, markR_len]; done) | (simp only [lenE, markR_len]; omega)) only [runE, mapE, listE, resV, oneV, binA, unA, reduceCtorEq, Nat.reduceEqDiff, Nat.reduceAdd, Nat.reduceLT, Nat.reduceLeDiff, Nat.reduceMul, Nat.reduceSub, ↓reduceIte, decide_true, decide_false, Bool.true_eq_false, Bool.false_eq_true, Bool.not_true, Bool.not_false, if_true, if_false, and_true, true_and, memE, celE, w64, Nat.zero_add, Nat.add_zero, Nat.mul_one, putL, and_self, ldn, c_spec_l4Least, r_spec_l4Least, goG_undef, h1, h2, h3, ge_iff_le]
        exact newQ_nil ⟨by unfold leastV; rw [if_neg (by omega)], rfl⟩
    · simp (config := {implicitDefEqProofs := false, maxDischargeDepth := 20}) (disch := first | omega | (simp only [lenE]; done) | (simp only [lenE]; omega) | rfl | (simp only [lenE, markR_len]; done) | (simp only [lenE, markR_len]; omega)) only [runE, mapE, listE, resV, oneV, binA, unA, reduceCtorEq, Nat.reduceEqDiff, Nat.reduceAdd, Nat.reduceLT, Nat.reduceLeDiff, Nat.reduceMul, Nat.reduceSub, ↓reduceIte, decide_true, decide_false, Bool.true_eq_false, Bool.false_eq_true, Bool.not_true, Bool.not_false, if_true, if_false, and_true, true_and, memE, celE, w64, Nat.zero_add, Nat.add_zero, Nat.mul_one, putL, and_self, ldn, c_spec_l4Least, r_spec_l4Least, goG_undef, h1, h2, ge_iff_le]
      exact newQ_nil ⟨by unfold leastV; rw [if_neg (by omega)], rfl⟩
theorem l4Can_rc (m : Mem) (v u : Value) (k : Cs) (lims : List Int) (h : CaseA m v k) (h' : IntsA m u lims) :
    RC Try.prog 69 [v, u] m (AnsV (.bool (canB k lims))) := by
  refine rc_of_run mixed ok_spec_l4Can (by simp) (go_start _ _ _ ?_)
  obtain ⟨v1, v2, v3, v4, rfl, h1, h2, h3, h4⟩ := h.ro.ok
  have hu := h'.ro
  simp (config := {implicitDefEqProofs := false, maxDischargeDepth := 20}) (disch := first | omega | (simp only [lenE]; done) | (simp only [lenE]; omega) | rfl | (simp only [lenE, markR_len]; done) | (simp only [lenE, markR_len]; omega)) only [runE, mapE, listE, resV, oneV, binA, unA, reduceCtorEq, Nat.reduceEqDiff, Nat.reduceAdd, Nat.reduceLT, Nat.reduceLeDiff, Nat.reduceMul, Nat.reduceSub, ↓reduceIte, decide_true, decide_false, Bool.true_eq_false, Bool.false_eq_true, Bool.not_true, Bool.not_false, if_true, if_false, and_true, true_and, memE, celE, w64, Nat.zero_add, Nat.add_zero, Nat.mul_one, putL, and_self, ldn, c_spec_l4Can, r_spec_l4Can]
  have C := specCanMeet_rc (roM m ++ [⟨.own, 28, [v1, v2, v3, v4]⟩]) (.agg #[v1, v2, v3, v4]) u k lims ⟨_, _, _, _, rfl, h1.ext _, h2.ext _, h3.ext _, h4.ext _⟩ (hu.ext _)
  have hb : canB k lims = true → rowsB k lims 160 = true := fun h => by unfold canB at h; simp only [Bool.and_eq_true] at h; exact h.1
  generalize canB k lims = b at *
  generalize rowsB k lims 160 = c at *
  refine callH_rc C ?_
  rintro r new ⟨rfl, nr1⟩
  cases b with
  | false =>
    simp (config := {implicitDefEqProofs := false, maxDischargeDepth := 20}) (disch := first | omega | (simp only [lenE]; done) | (simp only [lenE]; omega) | rfl | (simp only [lenE, markR_len]; done) | (simp only [lenE, markR_len]; omega)) only [runE, mapE, listE, resV, oneV, binA, unA, reduceCtorEq, Nat.reduceEqDiff, Nat.reduceAdd, Nat.reduceLT, Nat.reduceLeDiff, Nat.reduceMul, Nat.reduceSub, ↓reduceIte, decide_true, decide_false, Bool.true_eq_false, Bool.false_eq_true, Bool.not_true, Bool.not_false, if_true, if_false, and_true, true_and, memE, celE, w64, Nat.zero_add, Nat.add_zero, Nat.mul_one, putL, and_self, ldn, ext_2_0, ext_2_1]
    exact ext_ansV (((Ext.refl m).one _ _).app nr1) rfl
  | true =>
    rw [hb rfl]
    simp (config := {implicitDefEqProofs := false, maxDischargeDepth := 20}) (disch := first | omega | (simp only [lenE]; done) | (simp only [lenE]; omega) | rfl | (simp only [lenE, markR_len]; done) | (simp only [lenE, markR_len]; omega)) only [runE, mapE, listE, resV, oneV, binA, unA, reduceCtorEq, Nat.reduceEqDiff, Nat.reduceAdd, Nat.reduceLT, Nat.reduceLeDiff, Nat.reduceMul, Nat.reduceSub, ↓reduceIte, decide_true, decide_false, Bool.true_eq_false, Bool.false_eq_true, Bool.not_true, Bool.not_false, if_true, if_false, and_true, true_and, memE, celE, w64, Nat.zero_add, Nat.add_zero, Nat.mul_one, putL, and_self, ldn, ext_2_0, ext_2_1]
    exact ext_ansV (((Ext.refl m).one _ _).app nr1) rfl

/-- The least costs from a period on, by the stock before it; the first of them. -/
def futP (w : Ws) (t s : Nat) : List Int := (List.range s).map fun (i : Nat) => vO (wayT w t (w.due t + i))
def futR (w : Ws) (t : Nat) : List Int := futP w t (w.tot.toNat + 1)
theorem futP_len (w : Ws) (t s : Nat) : (futP w t s).length = s := by simp [futP]
theorem futR_len (w : Ws) (t : Nat) : (futR w t).length = w.tot.toNat + 1 := futP_len w t _
theorem futR_at (w : Ws) (t : Nat) {s : Nat} (h : s < w.tot.toNat + 1) : (futR w t).getD s 0 = vO (wayT w t (w.due t + s)) := by
  simp [futR, futP, List.getD_eq_getElem?_getD, h]
theorem futP_s (w : Ws) (t s : Nat) : futP w t (s + 1) = futP w t s ++ [vO (wayT w t (w.due t + s))] := by simp [futP, List.range_succ]
/-- The last row while it is being made. -/
def lastP (N s : Nat) : List Int := (List.range N).map fun (i : Nat) => if 1 ≤ i ∧ i < s then -1 else 0
theorem lastP_len (N s : Nat) : (lastP N s).length = N := by simp [lastP]
theorem lastP_one (N : Nat) : lastP N 1 = List.replicate N 0 := by
  unfold lastP
  apply List.ext_getElem (by simp)
  intro i h1 h2
  simp only [List.getElem_map, List.getElem_range, List.getElem_replicate]
  rw [if_neg (by omega)]
theorem lastP_set {N s : Nat} (h1 : 1 ≤ s) (h : s < N) : (lastP N s).set s (-1) = lastP N (s + 1) := by
  unfold lastP
  apply List.ext_getElem (by simp)
  intro i g1 g2
  rw [List.getElem_set]
  simp only [List.getElem_map, List.getElem_range]
  by_cases e : s = i
  · subst e; rw [if_pos rfl, if_pos (by omega)]
  · rw [if_neg e]
    by_cases h3 : 1 ≤ i ∧ i < s
    · rw [if_pos h3, if_pos (by omega)]
    · rw [if_neg h3, if_neg (by omega)]
theorem lastP_end (w : Ws) : lastP (w.tot.toNat + 1) (w.tot.toNat + 1) = futR w w.n := by
  unfold lastP futR futP
  apply List.ext_getElem (by simp)
  intro i g1 g2
  simp only [List.getElem_map, List.getElem_range]
  have hi : i < w.tot.toNat + 1 := by simpa using g1
  rw [wayT_end, show w.due w.n = w.tot from rfl]
  by_cases e : i = 0
  · subst e; rw [if_neg (by omega), if_pos (by omega)]; rfl
  · rw [if_pos (by omega), if_neg (by omega)]; rfl
theorem due_s (w : Ws) {t : Nat} (h : t < w.n) : w.due (t + 1) = w.due t + w.k.need.getD t 0 := sumTo_s h

set_option maxHeartbeats 4000000 in
theorem l4Future_rc (m : Mem) (v u : Value) (w : Ws) (hw : WsOk w) (h0 : w.lo = 0) (h : CaseA m v w.k) (h' : IntsA m u w.lims) :
    RC Try.prog 71 [v, u] m (AnsT2 m 22 (w.n + 1) (futR w)) := by
  refine rc_of_run mixed ok_spec_l4Future (by simp) (go_start _ _ _ ?_)
  obtain ⟨v1, v2, v3, v4, rfl, h1, h2, h3, h4⟩ := h.ro.ok
  have hc : CaseA (roM m) (.agg #[v1, v2, v3, v4]) w.k := ⟨_, _, _, _, rfl, h1, h2, h3, h4⟩
  have hu := h'.ro
  have h8 := hw.g.n8
  have hn : w.n = w.k.need.length := rfl
  have hT := hw.tot
  have hll := hw.ll
  simp (config := {implicitDefEqProofs := false, maxDischargeDepth := 20}) (disch := first | omega | (simp only [lenE]; done) | (simp only [lenE]; omega) | rfl | (simp only [lenE, markR_len]; done) | (simp only [lenE, markR_len]; omega)) only [runE, mapE, listE, resV, oneV, binA, unA, reduceCtorEq, Nat.reduceEqDiff, Nat.reduceAdd, Nat.reduceLT, Nat.reduceLeDiff, Nat.reduceMul, Nat.reduceSub, ↓reduceIte, decide_true, decide_false, Bool.true_eq_false, Bool.false_eq_true, Bool.not_true, Bool.not_false, if_true, if_false, and_true, true_and, memE, celE, w64, Nat.zero_add, Nat.add_zero, Nat.mul_one, putL, and_self, ldn, c_spec_l4Future, r_spec_l4Future]
  refine callH_rc (l2Sum_rc _ v1 w.k.need (h1.ext _) fun j hj => by have := sumTo_in hw.g.need j hj; omega) ?_
  rintro r new ⟨rfl, rfl⟩
  rw [show sumTo w.k.need w.k.need.length = w.tot from rfl, List.append_nil]
  obtain ⟨T, hTT⟩ : ∃ T, T = w.tot.toNat := ⟨_, rfl⟩
  have eT : w.tot = (T : Int) := by omega
  have eN : w.tot + 1 = ((T + 1 : Nat) : Int) := by omega
  have mk := fun M => mksA_eq (m := M) (e := 3) (byt := 8) (z := .int .i64 0) eN (by omega)
  simp (config := {implicitDefEqProofs := false, maxDischargeDepth := 20}) (disch := first | omega | (simp only [lenE]; done) | (simp only [lenE]; omega) | rfl | (simp only [lenE, markR_len]; done) | (simp only [lenE, markR_len]; omega)) only [runE, mapE, listE, resV, oneV, binA, unA, reduceCtorEq, Nat.reduceEqDiff, Nat.reduceAdd, Nat.reduceLT, Nat.reduceLeDiff, Nat.reduceMul, Nat.reduceSub, ↓reduceIte, decide_true, decide_false, Bool.true_eq_false, Bool.false_eq_true, Bool.not_true, Bool.not_false, if_true, if_false, and_true, true_and, memE, celE, w64, Nat.zero_add, Nat.add_zero, Nat.mul_one, putL, and_self, ldn, mk]
  have o0 : OwnR (roM m ++ [⟨.own, 28, [v1, v2, v3, v4]⟩] ++ [⟨.own, 3, List.replicate (T + 1) (.int .i64 0)⟩]) (m.length + 1) (lastP (T + 1) 1) := by
    rw [lastP_one]; exact OwnR.zeros (by simp [roM_len])
  refine loop_inv mixed (fun s => ∃ (q : Nat) (M : Mem), 1 ≤ q ∧ q ≤ T + 1 ∧ s.m = M ∧ Grow (roM m ++ [⟨.own, 28, [v1, v2, v3, v4]⟩]) M ∧ OwnR M (m.length + 1) (lastP (T + 1) q) ∧ s.t 1 = u ∧ s.t 2 = .pointer (some ⟨m.length, 0, none⟩) ∧ s.t 5 = .int .i64 T ∧ s.t 6 = .slice (some ⟨m.length + 1, 0, none⟩) (T + 1) 1 ∧ s.t 7 = .int .i64 q) (fun s => T + 1 - (intOf (s.t 7)).toNat)
    ⟨1, _, by omega, by omega, rfl, (Grow.refl _).one _ _, o0, rfl, rfl, by simp only [put_t, put_t', put_m, putT_t, putT_t', putT_m, init_t, init_m, initT_0, initT_1, initT_2, initT_3, initT_4, Nat.reduceEqDiff, ↓reduceIte]; rw [eT], rfl, rfl⟩ ?_
  rintro s ⟨q, M, hq1, hq, tm, hx, hl, t1, t2, t5, t6, t7⟩
  by_cases hlt : q ≤ T
  · have hlt' : (q : Int) ≤ T := by omega
    have ll := lastP_len (T + 1) q
    have st := hl.st (off := q) (x := -1) (by omega)
    simp (config := {implicitDefEqProofs := false, maxDischargeDepth := 20}) (disch := first | omega | (simp only [lenE]; done) | (simp only [lenE]; omega) | rfl | (simp only [lenE, markR_len]; done) | (simp only [lenE, markR_len]; omega)) only [runE, mapE, listE, resV, oneV, binA, unA, reduceCtorEq, Nat.reduceEqDiff, Nat.reduceAdd, Nat.reduceLT, Nat.reduceLeDiff, Nat.reduceMul, Nat.reduceSub, ↓reduceIte, decide_true, decide_false, Bool.true_eq_false, Bool.false_eq_true, Bool.not_true, Bool.not_false, if_true, if_false, and_true, true_and, memE, celE, w64, Nat.zero_add, Nat.add_zero, Nat.mul_one, putL, and_self, ldn, tm, t1, t2, t5, t6, t7, hlt', iadA_in (show q < T + 1 by omega), st]
    refine ⟨⟨q + 1, _, by omega, by omega, rfl, hx.put (by simp [roM_len]) _ _, ?_, by simp⟩, by simp [intOf]; omega⟩
    rw [← lastP_set hq1 (by omega)]
    exact OwnR.set_self hl
  have hlt' : ¬ ((q : Int) ≤ T) := by omega
  have e : q = T + 1 := by omega
  subst e
  rw [hTT, lastP_end] at hl
  obtain ⟨c0, c1, c2, c3, hml⟩ := hx.box4
  simp (config := {implicitDefEqProofs := false, maxDischargeDepth := 20}) (disch := first | omega | (simp only [lenE]; done) | (simp only [lenE]; omega) | rfl | (simp only [lenE, markR_len]; done) | (simp only [lenE, markR_len]; omega)) only [runE, mapE, listE, resV, oneV, binA, unA, reduceCtorEq, Nat.reduceEqDiff, Nat.reduceAdd, Nat.reduceLT, Nat.reduceLeDiff, Nat.reduceMul, Nat.reduceSub, ↓reduceIte, decide_true, decide_false, Bool.true_eq_false, Bool.false_eq_true, Bool.not_true, Bool.not_false, if_true, if_false, and_true, true_and, memE, celE, w64, Nat.zero_add, Nat.add_zero, Nat.mul_one, putL, and_self, ldn, tm, t1, t2, t5, t6, t7, hlt', bsl_sl, c0, (hx.intsV h1).len]
  have lM := hx.len
  simp only [List.length_append, List.length_cons, List.length_nil, roM_len] at lM
  have T0 : Tab m.length (M ++ [⟨.own, 22, [.slice (some ⟨m.length + 1, 0, none⟩) (T + 1) 1]⟩]) M.length 22 3 [.slice (some ⟨m.length + 1, 0, none⟩) (T + 1) 1] (rowsF fun i => futR w (w.n + i)) :=
    Tab.one (by omega) (Own.end' rfl) (by omega) (Own.ext (cs := (futR w w.n).map (Value.int .i64)) hl _) (by unfold rowsF; rw [futR_len, ← hTT]; rfl)
  clear hlt' hlt hq hq1
  -- the rows from behind
  refine loop_inv mixed (fun s => ∃ (j : Nat) (M : Mem) (id : Nat) (vs : List Value), j ≤ w.n ∧ vs.length = w.n - j + 1 ∧ s.m = M ∧ Grow (roM m ++ [⟨.own, 28, [v1, v2, v3, v4]⟩]) M ∧ Tab m.length M id 22 3 vs (rowsF fun i => futR w (j + i)) ∧ s.t 1 = u ∧ s.t 2 = .pointer (some ⟨m.length, 0, none⟩) ∧ s.t 5 = .int .i64 T ∧ s.t 8 = .slice (some ⟨id, 0, none⟩) vs.length 1 ∧ s.t 9 = .int .i64 ((j : Int) - 1)) (fun s => (intOf (s.t 9) + 1).toNat)
    ⟨w.n, _, M.length, _, by omega, by simp, rfl, hx.one _ _, T0, by simp only [put_t, put_t', put_m, putT_t, putT_t', putT_m, init_t, init_m, initT_0, initT_1, initT_2, initT_3, initT_4, Nat.reduceEqDiff, ↓reduceIte, t1], by simp only [put_t, put_t', put_m, putT_t, putT_t', putT_m, init_t, init_m, initT_0, initT_1, initT_2, initT_3, initT_4, Nat.reduceEqDiff, ↓reduceIte, t2], by simp only [put_t, put_t', put_m, putT_t, putT_t', putT_m, init_t, init_m, initT_0, initT_1, initT_2, initT_3, initT_4, Nat.reduceEqDiff, ↓reduceIte, t5], rfl, by simp only [put_t, put_t', put_m, putT_t, putT_t', putT_m, init_t, init_m, initT_0, initT_1, initT_2, initT_3, initT_4, Nat.reduceEqDiff, ↓reduceIte, hn]⟩ ?_
  clear T0 hl hx lM c0 c1 c2 c3 hml tm t1 t2 t5 t6 t7
  rintro s ⟨j, M, id, vs, hj, hvs, tm, hx, hT2, t1, t2, t5, t8, t9⟩
  cases j with
  | zero =>
    have hz : ¬ ((0 : Int) ≤ ((0 : Nat) : Int) - 1) := by omega
    simp (config := {implicitDefEqProofs := false, maxDischargeDepth := 20}) (disch := first | omega | (simp only [lenE]; done) | (simp only [lenE]; omega) | rfl | (simp only [lenE, markR_len]; done) | (simp only [lenE, markR_len]; omega)) only [runE, mapE, listE, resV, oneV, binA, unA, reduceCtorEq, Nat.reduceEqDiff, Nat.reduceAdd, Nat.reduceLT, Nat.reduceLeDiff, Nat.reduceMul, Nat.reduceSub, ↓reduceIte, decide_true, decide_false, Bool.true_eq_false, Bool.false_eq_true, Bool.not_true, Bool.not_false, if_true, if_false, and_true, true_and, memE, celE, w64, Nat.zero_add, Nat.add_zero, Nat.mul_one, putL, and_self, ldn, tm, t1, t2, t5, t8, t9, hz, ge_iff_le]
    have e : (fun i => futR w (0 + i)) = futR w := by funext i; rw [Nat.zero_add]
    rw [e] at hT2
    have := ext_ansT2 (fl := 1) hx.ext (by omega : vs.length = w.n + 1) hT2
    rwa [← (by omega : vs.length = w.n + 1)] at this ⊢
  | succ j =>
    have ej : (((j + 1 : Nat) : Int) - 1) = (j : Int) := by omega
    rw [ej] at t9
    have hz : (0 : Int) ≤ (j : Int) := by omega
    simp (config := {implicitDefEqProofs := false, maxDischargeDepth := 20}) (disch := first | omega | (simp only [lenE]; done) | (simp only [lenE]; omega) | rfl | (simp only [lenE, markR_len]; done) | (simp only [lenE, markR_len]; omega)) only [runE, mapE, listE, resV, oneV, binA, unA, reduceCtorEq, Nat.reduceEqDiff, Nat.reduceAdd, Nat.reduceLT, Nat.reduceLeDiff, Nat.reduceMul, Nat.reduceSub, ↓reduceIte, decide_true, decide_false, Bool.true_eq_false, Bool.false_eq_true, Bool.not_true, Bool.not_false, if_true, if_false, and_true, true_and, memE, celE, w64, Nat.zero_add, Nat.add_zero, Nat.mul_one, putL, and_self, ldn, tm, t1, t2, t5, t8, t9, hz, ge_iff_le, bsl_none]
    refine loop_inv mixed (fun s => ∃ (q : Nat) (M' : Mem) (ra : Nat), q ≤ T + 1 ∧ s.m = M' ∧ Grow M M' ∧ OwnR M' ra (futP w j q) ∧ M.length ≤ ra ∧ s.t 1 = u ∧ s.t 2 = .pointer (some ⟨m.length, 0, none⟩) ∧ s.t 5 = .int .i64 T ∧ s.t 8 = .slice (some ⟨id, 0, none⟩) vs.length 1 ∧ s.t 9 = .int .i64 j ∧ s.t 10 = .slice (some ⟨ra, 0, none⟩) q 1 ∧ s.t 11 = .int .i64 q) (fun s => T + 1 - (intOf (s.t 11)).toNat)
      ⟨0, _, M.length, by omega, rfl, (Grow.refl M).one _ _, (by show OwnR (M ++ [⟨.own, 3, ([] : List Int).map (Value.int .i64)⟩]) M.length []; exact OwnR.at_end M []), by omega, by simp only [put_t, put_t', put_m, putT_t, putT_t', putT_m, init_t, init_m, initT_0, initT_1, initT_2, initT_3, initT_4, Nat.reduceEqDiff, ↓reduceIte, t1], by simp only [put_t, put_t', put_m, putT_t, putT_t', putT_m, init_t, init_m, initT_0, initT_1, initT_2, initT_3, initT_4, Nat.reduceEqDiff, ↓reduceIte, t2], by simp only [put_t, put_t', put_m, putT_t, putT_t', putT_m, init_t, init_m, initT_0, initT_1, initT_2, initT_3, initT_4, Nat.reduceEqDiff, ↓reduceIte, t5], by simp only [put_t, put_t', put_m, putT_t, putT_t', putT_m, init_t, init_m, initT_0, initT_1, initT_2, initT_3, initT_4, Nat.reduceEqDiff, ↓reduceIte, t8], by simp only [put_t, put_t', put_m, putT_t, putT_t', putT_m, init_t, init_m, initT_0, initT_1, initT_2, initT_3, initT_4, Nat.reduceEqDiff, ↓reduceIte, t9], rfl, rfl⟩ ?_
    clear tm t1 t2 t5 t8 t9
    rintro s ⟨q, M1, ra, hq, tm, hx1, hra, hral, t1, t2, t5, t8, t9, t10, t11⟩
    have hT3 := hT2.grow hx1
    have hx' := hx.trans hx1
    have fl := futP_len w j q
    by_cases hlt : q ≤ T
    · have hlt' : (q : Int) ≤ T := by omega
      simp (config := {implicitDefEqProofs := false, maxDischargeDepth := 20}) (disch := first | omega | (simp only [lenE]; done) | (simp only [lenE]; omega) | rfl | (simp only [lenE, markR_len]; done) | (simp only [lenE, markR_len]; omega)) only [runE, mapE, listE, resV, oneV, binA, unA, reduceCtorEq, Nat.reduceEqDiff, Nat.reduceAdd, Nat.reduceLT, Nat.reduceLeDiff, Nat.reduceMul, Nat.reduceSub, ↓reduceIte, decide_true, decide_false, Bool.true_eq_false, Bool.false_eq_true, Bool.not_true, Bool.not_false, if_true, if_false, and_true, true_and, memE, celE, w64, Nat.zero_add, Nat.add_zero, Nat.mul_one, putL, and_self, ldn, tm, t1, t2, t5, t8, t9, t10, t11, hlt']
      refine loop_inv mixed (fun s => ∃ (x : Nat) (M' : Mem), x ≤ w.lim j + 1 ∧ s.m = M' ∧ Grow M1 M' ∧ s.t 1 = u ∧ s.t 2 = .pointer (some ⟨m.length, 0, none⟩) ∧ s.t 5 = .int .i64 T ∧ s.t 8 = .slice (some ⟨id, 0, none⟩) vs.length 1 ∧ s.t 9 = .int .i64 j ∧ s.t 10 = .slice (some ⟨ra, 0, none⟩) q 1 ∧ s.t 11 = .int .i64 q ∧ s.t 12 = .int .i64 (vO (least (wayX w (wayT w (j + 1)) j (w.due j + q)) x)) ∧ s.t 13 = .int .i64 x) (fun s => w.lim j + 1 - (intOf (s.t 13)).toNat)
        ⟨0, M1, by omega, by simp only [put_t, put_t', put_m, putT_t, putT_t', putT_m, init_t, init_m, initT_0, initT_1, initT_2, initT_3, initT_4, Nat.reduceEqDiff, ↓reduceIte, tm], Grow.refl _, by simp only [put_t, put_t', put_m, putT_t, putT_t', putT_m, init_t, init_m, initT_0, initT_1, initT_2, initT_3, initT_4, Nat.reduceEqDiff, ↓reduceIte, t1], by simp only [put_t, put_t', put_m, putT_t, putT_t', putT_m, init_t, init_m, initT_0, initT_1, initT_2, initT_3, initT_4, Nat.reduceEqDiff, ↓reduceIte, t2], by simp only [put_t, put_t', put_m, putT_t, putT_t', putT_m, init_t, init_m, initT_0, initT_1, initT_2, initT_3, initT_4, Nat.reduceEqDiff, ↓reduceIte, t5], by simp only [put_t, put_t', put_m, putT_t, putT_t', putT_m, init_t, init_m, initT_0, initT_1, initT_2, initT_3, initT_4, Nat.reduceEqDiff, ↓reduceIte, t8], by simp only [put_t, put_t', put_m, putT_t, putT_t', putT_m, init_t, init_m, initT_0, initT_1, initT_2, initT_3, initT_4, Nat.reduceEqDiff, ↓reduceIte, t9], by simp only [put_t, put_t', put_m, putT_t, putT_t', putT_m, init_t, init_m, initT_0, initT_1, initT_2, initT_3, initT_4, Nat.reduceEqDiff, ↓reduceIte, t10], by simp only [put_t, put_t', put_m, putT_t, putT_t', putT_m, init_t, init_m, initT_0, initT_1, initT_2, initT_3, initT_4, Nat.reduceEqDiff, ↓reduceIte, t11], rfl, rfl⟩ ?_
      clear tm t1 t2 t5 t8 t9 t10 t11
      rintro s ⟨x, M2, hxl, tm, hx2, t1, t2, t5, t8, t9, t10, t11, t12, t13⟩
      have hxx := hx'.trans hx2
      obtain ⟨c0, c1, c2, c3, hml⟩ := hxx.box4
      have hT4 := hT3.grow hx2
      have iu := hxx.intsV hu
      have i1 := hxx.intsV h1
      have hlm := hw.lim j
      have hdj := hw.due j (by omega)
      have hdj1 := hw.due (j + 1) (by omega)
      have dus := due_s w (t := j) (by omega)
      have hstep : wayT w j (w.due j + q) = least (wayX w (wayT w (j + 1)) j (w.due j + q)) (w.lim j + 1) := wayT_s w (by omega) _
      by_cases hlx : x ≤ w.lim j
      · have hlx' : (x : Int) ≤ w.lims.getD j 0 := by omega
        have b3 := getD_in hw.g.need (k := j) (by omega)
        obtain ⟨F, hF⟩ : ∃ F, F = wayX w (wayT w (j + 1)) j (w.due j + q) := ⟨_, rfl⟩
        rw [← hF] at t12 ⊢
        have eo : w.due j + q + x - w.due (j + 1) = (q : Int) + x - w.k.need.getD j 0 := by omega
        simp (config := {implicitDefEqProofs := false, maxDischargeDepth := 20}) (disch := first | omega | (simp only [lenE]; done) | (simp only [lenE]; omega) | rfl | (simp only [lenE, markR_len]; done) | (simp only [lenE, markR_len]; omega)) only [runE, mapE, listE, resV, oneV, binA, unA, reduceCtorEq, Nat.reduceEqDiff, Nat.reduceAdd, Nat.reduceLT, Nat.reduceLeDiff, Nat.reduceMul, Nat.reduceSub, ↓reduceIte, decide_true, decide_false, Bool.true_eq_false, Bool.false_eq_true, Bool.not_true, Bool.not_false, if_true, if_false, and_true, true_and, memE, celE, w64, Nat.zero_add, Nat.add_zero, Nat.mul_one, putL, and_self, ldn, tm, t1, t2, t5, t8, t9, t10, t11, t12, t13, iu.at_ j (by omega), iu.ld j (by omega), hlx', c0, i1.at_ j (by omega), i1.ld j (by omega)]
        refine callH_rc (l1In_rc _ _ _ _) ?_
        rintro r new ⟨rfl, rfl⟩
        rw [List.append_nil]
        have keep : ∀ M', Grow M2 M' → least F (x + 1) = least F x → _ := fun M' hg e => (⟨x + 1, M', by omega, rfl, hx2.trans hg, by rw [e], by simp⟩ : ∃ (x' : Nat) (M'' : Mem), x' ≤ w.lim j + 1 ∧ M' = M'' ∧ Grow M1 M'' ∧ Value.int .i64 (vO (least F x)) = .int .i64 (vO (least F x')) ∧ Value.int .i64 ((x : Int) + 1) = .int .i64 x')
        by_cases hin : 0 ≤ (q : Int) + x - w.k.need.getD j 0 ∧ (q : Int) + x - w.k.need.getD j 0 ≤ T
        · obtain ⟨L, hL⟩ : ∃ L : Nat, (q : Int) + x - w.k.need.getD j 0 = L := ⟨((q : Int) + x - w.k.need.getD j 0).toNat, by omega⟩
          have eb : (decide (0 ≤ (q : Int) + x - w.k.need.getD j 0) && decide ((q : Int) + x - w.k.need.getD j 0 ≤ T)) = true := by rw [decide_eq_true hin.1, decide_eq_true hin.2]; rfl
          obtain ⟨rid, f, g1, g2, g3⟩ := hT4.2.2 0 (by omega)
          have gv : rdc M2 id 0 = some (.slice (some ⟨rid, 0, none⟩) (futR w (j + 1)).length f) := by rw [hT4.2.1.rd]; exact g1
          have gl := futR_len w (j + 1)
          rw [gl, ← hTT] at gv
          have gr := OwnR.rd' (M := M2) (id := rid) (L := futR w (j + 1)) g3 (i := L) (by omega)
          rw [futR_at w (j + 1) (by omega), show w.due (j + 1) + (L : Int) = w.due j + q + x by omega] at gr
          have i0 : iadA 1 (.slice (some ⟨id, 0, none⟩) vs.length 1) (.int .i64 0) = some (.pointer (some ⟨id, 0, none⟩)) := by
            have := iadA_at (id := id) (off := 0) (n := vs.length) (fl := 1) (sz := 1) (k := .i64) (z := 0) (j := 0) rfl (by omega)
            simpa using this
          have iL : iadA 1 (.slice (some ⟨rid, 0, none⟩) (T + 1) f) (.int .i64 ((q : Int) + x - w.k.need.getD j 0)) = some (.pointer (some ⟨rid, L, none⟩)) := by
            have := iadA_at (id := rid) (off := 0) (n := T + 1) (fl := f) (sz := 1) (k := .i64) hL (by omega)
            simpa using this
          cases hnx : wayT w (j + 1) (w.due j + q + x) with
          | none =>
            have e : least F (x + 1) = least F x := least_no (by rw [hF]; exact wayX_no hnx)
            rw [hnx] at gr
            have hneg : ¬ ((0 : Int) ≤ vO none) := by decide
            simp (config := {implicitDefEqProofs := false, maxDischargeDepth := 20}) (disch := first | omega | (simp only [lenE]; done) | (simp only [lenE]; omega) | rfl | (simp only [lenE, markR_len]; done) | (simp only [lenE, markR_len]; omega)) only [runE, mapE, listE, resV, oneV, binA, unA, reduceCtorEq, Nat.reduceEqDiff, Nat.reduceAdd, Nat.reduceLT, Nat.reduceLeDiff, Nat.reduceMul, Nat.reduceSub, ↓reduceIte, decide_true, decide_false, Bool.true_eq_false, Bool.false_eq_true, Bool.not_true, Bool.not_false, if_true, if_false, and_true, true_and, memE, celE, w64, Nat.zero_add, Nat.add_zero, Nat.mul_one, putL, and_self, ldn, eb, t1, t2, t5, t8, t9, t10, t11, t12, t13, i0, gv, iL, gr, hneg, ge_iff_le]
            exact ⟨keep _ (Grow.refl _) e, by simp [intOf]; omega⟩
          | some r =>
            rw [hnx] at gr
            obtain ⟨rb0, rb1, rb2⟩ := wayT_bd hw (by omega) hnx
            have hpos : (0 : Int) ≤ vO (some r) := rb0
            have hcost : F x = some (stepF w.k w.rates j x ((q : Int) + x - w.k.need.getD j 0) + r.1) := by
              rw [hF, wayX_of (by omega) hnx, eo]
            have hsb := stepF_bd hw.g hw.rates j (x := (x : Int)) (b := (q : Int) + x - w.k.need.getD j 0) (by omega) (by omega) (by omega) (by omega)
            simp (config := {implicitDefEqProofs := false, maxDischargeDepth := 20}) (disch := first | omega | (simp only [lenE]; done) | (simp only [lenE]; omega) | rfl | (simp only [lenE, markR_len]; done) | (simp only [lenE, markR_len]; omega)) only [runE, mapE, listE, resV, oneV, binA, unA, reduceCtorEq, Nat.reduceEqDiff, Nat.reduceAdd, Nat.reduceLT, Nat.reduceLeDiff, Nat.reduceMul, Nat.reduceSub, ↓reduceIte, decide_true, decide_false, Bool.true_eq_false, Bool.false_eq_true, Bool.not_true, Bool.not_false, if_true, if_false, and_true, true_and, memE, celE, w64, Nat.zero_add, Nat.add_zero, Nat.mul_one, putL, and_self, ldn, eb, t1, t2, t5, t8, t9, t10, t11, t12, t13, i0, gv, iL, gr, hpos, ge_iff_le, c0, c1, c2, c3]
            refine rcallH_rc (l4Step_rc _ _ w.k j x ((q : Int) + x - w.k.need.getD j 0) (hxx.caseV hc) hw.g (by omega) (by omega) (by omega) (by omega) (by omega) w.rates) ?_
            rintro r2 new ⟨rfl, nr⟩
            have e : vO (least F (x + 1)) = leastV (vO (least F x)) (stepF w.k w.rates j x ((q : Int) + x - w.k.need.getD j 0) + r.1) :=
              vO_step hcost (by omega) fun r3 hr3 => by
                obtain ⟨_, l2, _⟩ := least_some _ _ hr3
                rw [hF] at l2
                obtain ⟨q3, z1, z2, z3⟩ := wayX_some l2
                have := wayT_bd hw (by omega) z2
                have hb3 := wayT_le (by omega) z2
                have := stepF_bd hw.g hw.rates j (x := (r3.2 : Int)) (b := w.due j + q + r3.2 - w.due (j + 1)) (by omega) (by omega) (by omega) (by omega)
                omega
            have ev : vO (some r) = r.1 := rfl
            rw [ev]
            generalize stepF w.k w.rates j x ((q : Int) + x - w.k.need.getD j 0) = C at *
            simp (config := {implicitDefEqProofs := false, maxDischargeDepth := 20}) (disch := first | omega | (simp only [lenE]; done) | (simp only [lenE]; omega) | rfl | (simp only [lenE, markR_len]; done) | (simp only [lenE, markR_len]; omega)) only [runE, mapE, listE, resV, oneV, binA, unA, reduceCtorEq, Nat.reduceEqDiff, Nat.reduceAdd, Nat.reduceLT, Nat.reduceLeDiff, Nat.reduceMul, Nat.reduceSub, ↓reduceIte, decide_true, decide_false, Bool.true_eq_false, Bool.false_eq_true, Bool.not_true, Bool.not_false, if_true, if_false, and_true, true_and, memE, celE, w64, Nat.zero_add, Nat.add_zero, Nat.mul_one, putL, and_self, ldn, t1, t2, t5, t8, t9, t10, t11, t12, t13]
            refine rcallH_rc (l4Least_rc _ _ _) ?_
            rintro r4 new4 ⟨rfl, rfl⟩
            rw [List.append_nil]
            simp (config := {implicitDefEqProofs := false, maxDischargeDepth := 20}) (disch := first | omega | (simp only [lenE]; done) | (simp only [lenE]; omega) | rfl | (simp only [lenE, markR_len]; done) | (simp only [lenE, markR_len]; omega)) only [runE, mapE, listE, resV, oneV, binA, unA, reduceCtorEq, Nat.reduceEqDiff, Nat.reduceAdd, Nat.reduceLT, Nat.reduceLeDiff, Nat.reduceMul, Nat.reduceSub, ↓reduceIte, decide_true, decide_false, Bool.true_eq_false, Bool.false_eq_true, Bool.not_true, Bool.not_false, if_true, if_false, and_true, true_and, memE, celE, w64, Nat.zero_add, Nat.add_zero, Nat.mul_one, putL, and_self, ldn, t1, t2, t5, t8, t9, t10, t11, t12, t13]
            exact ⟨⟨x + 1, _, by omega, rfl, hx2.app nr, by rw [e], by simp⟩, by simp [intOf]; omega⟩
        · have eb : (decide (0 ≤ (q : Int) + x - w.k.need.getD j 0) && decide ((q : Int) + x - w.k.need.getD j 0 ≤ T)) = false := by
            by_cases h1 : 0 ≤ (q : Int) + x - w.k.need.getD j 0
            · rw [decide_eq_true h1, decide_eq_false (fun h2 => hin ⟨h1, h2⟩)]; rfl
            · rw [decide_eq_false h1]; rfl
          have e : least F (x + 1) = least F x := least_no (by
            rw [hF]
            by_cases h1 : 0 ≤ (q : Int) + x - w.k.need.getD j 0
            · exact wayX_no (wayT_big w (w.n - (j + 1)) (j + 1) (by omega) _ (by omega))
            · exact wayX_lo (by omega))
          simp (config := {implicitDefEqProofs := false, maxDischargeDepth := 20}) (disch := first | omega | (simp only [lenE]; done) | (simp only [lenE]; omega) | rfl | (simp only [lenE, markR_len]; done) | (simp only [lenE, markR_len]; omega)) only [runE, mapE, listE, resV, oneV, binA, unA, reduceCtorEq, Nat.reduceEqDiff, Nat.reduceAdd, Nat.reduceLT, Nat.reduceLeDiff, Nat.reduceMul, Nat.reduceSub, ↓reduceIte, decide_true, decide_false, Bool.true_eq_false, Bool.false_eq_true, Bool.not_true, Bool.not_false, if_true, if_false, and_true, true_and, memE, celE, w64, Nat.zero_add, Nat.add_zero, Nat.mul_one, putL, and_self, ldn, eb, t1, t2, t5, t8, t9, t10, t11, t12, t13, goG_undef]
          exact ⟨keep _ (Grow.refl _) e, by simp [intOf]; omega⟩
      · have hlx' : ¬ ((x : Int) ≤ w.lims.getD j 0) := by omega
        have e : x = w.lim j + 1 := by omega
        subst e
        rw [← hstep] at t12
        have hra2 := hx2.own hra
        simp (config := {implicitDefEqProofs := false, maxDischargeDepth := 20}) (disch := first | omega | (simp only [lenE]; done) | (simp only [lenE]; omega) | rfl | (simp only [lenE, markR_len]; done) | (simp only [lenE, markR_len]; omega)) only [runE, mapE, listE, resV, oneV, binA, unA, reduceCtorEq, Nat.reduceEqDiff, Nat.reduceAdd, Nat.reduceLT, Nat.reduceLeDiff, Nat.reduceMul, Nat.reduceSub, ↓reduceIte, decide_true, decide_false, Bool.true_eq_false, Bool.false_eq_true, Bool.not_true, Bool.not_false, if_true, if_false, and_true, true_and, memE, celE, w64, Nat.zero_add, Nat.add_zero, Nat.mul_one, putL, and_self, ldn, tm, t1, t2, t5, t8, t9, t10, t11, t12, t13, iu.at_ j (by omega), iu.ld j (by omega), hlx', bsl_one, app_genH hra2 (by omega)]
        have es := futP_s w j q
        refine ⟨⟨q + 1, _, M2.length + 1, by omega, rfl, ?_, ?_, ?_, by simp, by simp⟩, by simp [intOf]; omega⟩
        · exact (((hx1.trans hx2).dead hral).one _ _).one _ _
        · rw [es]
          exact OwnR.end' (by simp)
        · have := (hx1.trans hx2).len; omega
    · have hlt' : ¬ ((q : Int) ≤ T) := by omega
      have e : q = T + 1 := by omega
      subst e
      have hfe : futP w j (T + 1) = futR w j := by rw [hTT]; rfl
      rw [hfe] at hra
      have ap := fun id2 h => app_consB (M := M1) (n := vs.length) (id2 := id2) (fl := 1) (e := 22) (sz := 1) (byt := 24) (ys := [.slice (some ⟨ra, 0, none⟩) (T + 1) 1]) hT3.2.1 h (by omega) rfl hT3.ones (by omega) (by omega)
      simp (config := {implicitDefEqProofs := false, maxDischargeDepth := 20}) (disch := first | omega | (simp only [lenE]; done) | (simp only [lenE]; omega) | rfl | (simp only [lenE, markR_len]; done) | (simp only [lenE, markR_len]; omega)) only [runE, mapE, listE, resV, oneV, binA, unA, reduceCtorEq, Nat.reduceEqDiff, Nat.reduceAdd, Nat.reduceLT, Nat.reduceLeDiff, Nat.reduceMul, Nat.reduceSub, ↓reduceIte, decide_true, decide_false, Bool.true_eq_false, Bool.false_eq_true, Bool.not_true, Bool.not_false, if_true, if_false, and_true, true_and, memE, celE, w64, Nat.zero_add, Nat.add_zero, Nat.mul_one, putL, and_self, ldn, tm, t1, t2, t5, t8, t9, t10, t11, hlt', bsl_sl, ap]
      have lM := hx.len
      have lM1 := hx1.len
      simp only [List.length_append, List.length_cons, List.length_nil, roM_len] at lM
      refine ⟨⟨j, _, M1.length + 1, .slice (some ⟨ra, 0, none⟩) (T + 1) 1 :: vs, by omega, by rw [List.length_cons]; omega, rfl, (hx'.app (noRo_dead noRo_nil)).one _ _, ?_, by rw [List.length_cons, Nat.add_comm 1]; exact ⟨rfl, rfl⟩⟩, by simp only [intOf]; omega⟩
      refine hT3.cons (cs := (futR w j).map (Value.int .i64)) (by omega) ?_ (fun _ _ ho => (ho.ext _).ext _) (by omega) (Own.end' (by simp)) (by simp only [rowsF, Nat.add_zero, futR_len, ← hTT]) fun i hi => by simp only [rowsF]; rw [show j + (i + 1) = j + 1 + i by omega]
      exact Own.ext (Own.ext (cs := (futR w j).map (Value.int .i64)) hra _) _
end Go.Proofs.Ytiggehfopfpkbaa.Ab
