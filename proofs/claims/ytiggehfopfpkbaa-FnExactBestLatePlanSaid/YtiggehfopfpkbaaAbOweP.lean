/- BestLatePlan, LeastLate in the model. -/
import Derived.Test.YtiggehfopfpkbaaAbOwe
namespace Go.Proofs.Ytiggehfopfpkbaa.Ab
open Go Go.RowKit
set_option linter.unusedVariables false
set_option linter.unusedSimpArgs false

theorem AnsT2.raw {m new : Mem} {e : TypeId} {N : Nat} {R : Nat → List Int} {r : Value} (h : AnsT2 m e N R r new) : NoRo new ∧ ∃ id fl, r = .slice (some ⟨id, 0, none⟩) N fl ∧ m.length ≤ id ∧ ∀ j, j < N → ∃ rid f, rdc (m ++ new) id j = some (.slice (some ⟨rid, 0, none⟩) (R j).length f) ∧ m.length ≤ rid ∧ ∀ s, s < (R j).length → rdc (m ++ new) rid s = some (.int .i64 ((R j).getD s 0)) := by
  obtain ⟨h1, id, fl, vs, rfl, hN, hT⟩ := h
  refine ⟨h1, id, fl, rfl, hT.1, fun j hj => ?_⟩
  obtain ⟨rid, f, g1, g2, g3⟩ := hT.2.2 j (by omega)
  exact ⟨rid, f, by rw [hT.2.1.rd]; exact g1, g2, fun s hs => OwnR.rd' (L := R j) g3 hs⟩
theorem lateW_lim (k : Cs) (rates : List Int) {T : Nat} (h : (lateW k rates).tot = T) (t : Nat) (ht : t < (lateW k rates).n) : (lateW k rates).lim t = T := by
  have ht' : t < k.need.length := ht
  have e : (lateW k rates).tot = sumTo k.need k.need.length := rfl
  unfold Ws.lim
  simp only [lateW]
  rw [List.getD_eq_getElem?_getD, List.getElem?_replicate, if_pos ht', Option.getD_some]
  omega

theorem specLeastLate_rc (m : Mem) (v u : Value) (k : Cs) (rates : List Int) (h : CaseA m v k) (h' : IntsA m u rates) :
    RC Try.prog 54 [v, u] m (AnsV (.tuple #[.int .i64 (leastLateA k rates), .bool (rowsB k rates 9)])) := by
  refine rc_of_run mixed ok_spec_LeastLate (by simp) (go_start _ _ _ ?_)
  obtain ⟨v1, v2, v3, v4, rfl, h1, h2, h3, h4⟩ := h.ro.ok
  have hc : CaseA (roM m) (.agg #[v1, v2, v3, v4]) k := ⟨_, _, _, _, rfl, h1, h2, h3, h4⟩
  have hu := h'.ro
  simp (config := {implicitDefEqProofs := false, maxDischargeDepth := 20}) (disch := first | omega | (simp only [lenE]; done) | (simp only [lenE]; omega) | rfl | (simp only [lenE, markR_len]; done) | (simp only [lenE, markR_len]; omega)) only [runE, mapE, listE, resV, oneV, binA, unA, reduceCtorEq, Nat.reduceEqDiff, Nat.reduceAdd, Nat.reduceLT, Nat.reduceLeDiff, Nat.reduceMul, Nat.reduceSub, ↓reduceIte, decide_true, decide_false, Bool.true_eq_false, Bool.false_eq_true, Bool.not_true, Bool.not_false, if_true, if_false, and_true, true_and, memE, celE, w64, Nat.zero_add, Nat.add_zero, Nat.mul_one, putL, and_self, ldn, c_spec_LeastLate, r_spec_LeastLate]
  refine callH_rc (l4Rates_rc _ _ u k rates (hc.ext _) (hu.ext _)) ?_
  rintro r new ⟨rfl, nr1⟩
  have hx : Grow (roM m ++ [⟨.own, 28, [v1, v2, v3, v4]⟩]) (roM m ++ [⟨.own, 28, [v1, v2, v3, v4]⟩] ++ new) := (Grow.refl _).app nr1
  cases hg : rowsB k rates 9 with
  | false =>
    simp (config := {implicitDefEqProofs := false, maxDischargeDepth := 20}) (disch := first | omega | (simp only [lenE]; done) | (simp only [lenE]; omega) | rfl | (simp only [lenE, markR_len]; done) | (simp only [lenE, markR_len]; omega)) only [runE, mapE, listE, resV, oneV, binA, unA, reduceCtorEq, Nat.reduceEqDiff, Nat.reduceAdd, Nat.reduceLT, Nat.reduceLeDiff, Nat.reduceMul, Nat.reduceSub, ↓reduceIte, decide_true, decide_false, Bool.true_eq_false, Bool.false_eq_true, Bool.not_true, Bool.not_false, if_true, if_false, and_true, true_and, memE, celE, w64, Nat.zero_add, Nat.add_zero, Nat.mul_one, putL, and_self, ldn]
    rw [leastLateA_no hg]
    exact ext_ansV hx.ext rfl
  | true =>
    obtain ⟨hw, hs, r0, hr0⟩ := late_way hg
    obtain ⟨p1, p2, p3⟩ := rowsB_iff.1 hg
    have h8 := p1.n8
    have hTb := hw.tot
    obtain ⟨T, hT⟩ : ∃ T : Nat, (lateW k rates).tot = T := ⟨(lateW k rates).tot.toNat, by omega⟩
    have hsum : sumTo k.need k.need.length = (T : Int) := hT
    rw [leastLateA_yes hg]
    simp (config := {implicitDefEqProofs := false, maxDischargeDepth := 20}) (disch := first | omega | (simp only [lenE]; done) | (simp only [lenE]; omega) | rfl | (simp only [lenE, markR_len]; done) | (simp only [lenE, markR_len]; omega)) only [runE, mapE, listE, resV, oneV, binA, unA, reduceCtorEq, Nat.reduceEqDiff, Nat.reduceAdd, Nat.reduceLT, Nat.reduceLeDiff, Nat.reduceMul, Nat.reduceSub, ↓reduceIte, decide_true, decide_false, Bool.true_eq_false, Bool.false_eq_true, Bool.not_true, Bool.not_false, if_true, if_false, and_true, true_and, memE, celE, w64, Nat.zero_add, Nat.add_zero, Nat.mul_one, putL, and_self, ldn]
    refine rcallH_rc (l4Owed_rc _ _ u (lateW k rates) hw T hT rfl p3 (lateW_lim k rates hT) (hx.caseV hc) (hx.intsV hu)) ?_
    intro r new2 hA
    obtain ⟨nr2, id, fl, rfl, hb, hat⟩ := hA.raw
    obtain ⟨rid, f, k1, kb, k2⟩ := hat 0 (Nat.succ_pos _)
    rw [oweP_len] at k1 k2
    have k2 := k2 T (by omega)
    rw [oweP_at _ _ _ (by omega), show (lateW k rates).due 0 + ((T : Int) - T) = 0 by rw [show (lateW k rates).due 0 = 0 from rfl]; omega] at k2
    have hx2 := hx.app nr2
    obtain ⟨M0, hM0⟩ : ∃ M0, M0 = roM m ++ [⟨.own, 28, [v1, v2, v3, v4]⟩] ++ new ++ new2 := ⟨_, rfl⟩
    rw [← hM0] at hx2 k1 k2 ⊢
    clear hM0
    obtain ⟨c0, c1, c2, c3, hml⟩ := hx2.box4
    have i0 := iad0 (id := id) (n := (lateW k rates).n + 1) (fl := fl) (z := 0) (j := 0) rfl (Nat.succ_pos _)
    have iT := iad0 (id := rid) (n := 2 * T + 1) (fl := f) (z := (T : Int)) (j := T) rfl (by omega)
    simp (config := {implicitDefEqProofs := false, maxDischargeDepth := 20}) (disch := first | omega | (simp only [lenE]; done) | (simp only [lenE]; omega) | rfl | (simp only [lenE, markR_len]; done) | (simp only [lenE, markR_len]; omega)) only [runE, mapE, listE, resV, oneV, binA, unA, reduceCtorEq, Nat.reduceEqDiff, Nat.reduceAdd, Nat.reduceLT, Nat.reduceLeDiff, Nat.reduceMul, Nat.reduceSub, ↓reduceIte, decide_true, decide_false, Bool.true_eq_false, Bool.false_eq_true, Bool.not_true, Bool.not_false, if_true, if_false, and_true, true_and, memE, celE, w64, Nat.zero_add, Nat.add_zero, Nat.mul_one, putL, and_self, ldn, i0, k1, c0]
    refine rcallH_rc (l2Sum_rc _ v1 k.need (hx2.intsV h1) fun j hj => by have := sumTo_in p1.need j hj; omega) ?_
    rintro r new3 ⟨rfl, rfl⟩
    rw [List.append_nil, hsum]
    simp (config := {implicitDefEqProofs := false, maxDischargeDepth := 20}) (disch := first | omega | (simp only [lenE]; done) | (simp only [lenE]; omega) | rfl | (simp only [lenE, markR_len]; done) | (simp only [lenE, markR_len]; omega)) only [runE, mapE, listE, resV, oneV, binA, unA, reduceCtorEq, Nat.reduceEqDiff, Nat.reduceAdd, Nat.reduceLT, Nat.reduceLeDiff, Nat.reduceMul, Nat.reduceSub, ↓reduceIte, decide_true, decide_false, Bool.true_eq_false, Bool.false_eq_true, Bool.not_true, Bool.not_false, if_true, if_false, and_true, true_and, memE, celE, w64, Nat.zero_add, Nat.add_zero, Nat.mul_one, putL, and_self, ldn, iT, k2]
    exact ext_ansV hx2.ext rfl

set_option maxHeartbeats 8000000 in
theorem specBestLate_rc (m : Mem) (v u : Value) (k : Cs) (rates : List Int) (h : CaseA m v k) (h' : IntsA m u rates) :
    RC Try.prog 52 [v, u] m (AnsL m (bestLateA k rates) (rowsB k rates 9)) := by
  refine rc_of_run mixed ok_spec_BestLatePlan (by simp) (go_start _ _ _ ?_)
  obtain ⟨v1, v2, v3, v4, rfl, h1, h2, h3, h4⟩ := h.ro.ok
  have hc : CaseA (roM m) (.agg #[v1, v2, v3, v4]) k := ⟨_, _, _, _, rfl, h1, h2, h3, h4⟩
  have hu := h'.ro
  simp (config := {implicitDefEqProofs := false, maxDischargeDepth := 20}) (disch := first | omega | (simp only [lenE]; done) | (simp only [lenE]; omega) | rfl | (simp only [lenE, markR_len]; done) | (simp only [lenE, markR_len]; omega)) only [runE, mapE, listE, resV, oneV, binA, unA, reduceCtorEq, Nat.reduceEqDiff, Nat.reduceAdd, Nat.reduceLT, Nat.reduceLeDiff, Nat.reduceMul, Nat.reduceSub, ↓reduceIte, decide_true, decide_false, Bool.true_eq_false, Bool.false_eq_true, Bool.not_true, Bool.not_false, if_true, if_false, and_true, true_and, memE, celE, w64, Nat.zero_add, Nat.add_zero, Nat.mul_one, putL, and_self, ldn, c_spec_BestLatePlan, r_spec_BestLatePlan, bsl_none]
  refine callH_rc (l4Rates_rc _ _ u k rates ((hc.ext _).ext _) ((hu.ext _).ext _)) ?_
  rintro r new ⟨rfl, nr1⟩
  have hx : Grow (roM m ++ [⟨.own, 28, [v1, v2, v3, v4]⟩]) (roM m ++ [⟨.own, 28, [v1, v2, v3, v4]⟩] ++ [⟨.own, 3, []⟩] ++ new) := ((Grow.refl _).one _ _).app nr1
  have o0 : OwnR (roM m ++ [⟨.own, 28, [v1, v2, v3, v4]⟩] ++ [⟨.own, 3, []⟩] ++ new) (m.length + 1) [] := OwnR.ext (OwnR.end' (l := []) (by simp [roM_len])) new
  cases hg : rowsB k rates 9 with
  | false =>
    simp (config := {implicitDefEqProofs := false, maxDischargeDepth := 20}) (disch := first | omega | (simp only [lenE]; done) | (simp only [lenE]; omega) | rfl | (simp only [lenE, markR_len]; done) | (simp only [lenE, markR_len]; omega)) only [runE, mapE, listE, resV, oneV, binA, unA, reduceCtorEq, Nat.reduceEqDiff, Nat.reduceAdd, Nat.reduceLT, Nat.reduceLeDiff, Nat.reduceMul, Nat.reduceSub, ↓reduceIte, decide_true, decide_false, Bool.true_eq_false, Bool.false_eq_true, Bool.not_true, Bool.not_false, if_true, if_false, and_true, true_and, memE, celE, w64, Nat.zero_add, Nat.add_zero, Nat.mul_one, putL, and_self, ldn]
    rw [bestLateA_no hg]
    exact ext_ansL hx.ext o0 (by omega) rfl (by simp)
  | true =>
    obtain ⟨hw, hs, hway⟩ := late_way hg
    obtain ⟨p1, p2, p3⟩ := rowsB_iff.1 hg
    have hTb := hw.tot
    obtain ⟨T, hT⟩ : ∃ T : Nat, (lateW k rates).tot = T := ⟨(lateW k rates).tot.toNat, by omega⟩
    have hsum : sumTo k.need k.need.length = (T : Int) := hT
    have hlim := lateW_lim k rates hT
    rw [bestLateA_yes hg]
    obtain ⟨w, hwe⟩ : ∃ w, w = lateW k rates := ⟨_, rfl⟩
    have hk : w.k = k := by rw [hwe]; rfl
    have hra' : w.rates = rates := by rw [hwe]; rfl
    have h0 : w.lo = -w.tot := by rw [hwe]; rfl
    rw [← hwe] at hw hway hs hTb hT hlim ⊢
    clear hwe
    subst hk
    subst hra'
    have h8 := hw.g.n8
    have hn : w.n = w.k.need.length := rfl
    have hpl := planW_len w
    simp (config := {implicitDefEqProofs := false, maxDischargeDepth := 20}) (disch := first | omega | (simp only [lenE]; done) | (simp only [lenE]; omega) | rfl | (simp only [lenE, markR_len]; done) | (simp only [lenE, markR_len]; omega)) only [runE, mapE, listE, resV, oneV, binA, unA, reduceCtorEq, Nat.reduceEqDiff, Nat.reduceAdd, Nat.reduceLT, Nat.reduceLeDiff, Nat.reduceMul, Nat.reduceSub, ↓reduceIte, decide_true, decide_false, Bool.true_eq_false, Bool.false_eq_true, Bool.not_true, Bool.not_false, if_true, if_false, and_true, true_and, memE, celE, w64, Nat.zero_add, Nat.add_zero, Nat.mul_one, putL, and_self, ldn]
    refine rcallH_rc (l4Owed_rc _ _ u w hw T hT h0 p3 hlim (hx.caseV hc) (hx.intsV hu)) ?_
    intro r new2 hA
    obtain ⟨nr2, id, fl, rfl, hidb, hat0⟩ := hA.raw
    simp only [List.length_append, List.length_cons, List.length_nil, roM_len, oweP_len] at hidb hat0
    obtain ⟨M0, hM0⟩ : ∃ M0, M0 = roM m ++ [⟨.own, 28, [v1, v2, v3, v4]⟩] ++ [⟨.own, 3, []⟩] ++ new ++ new2 := ⟨_, rfl⟩
    have hx := hx.app nr2
    have o0 := o0.ext new2
    rw [← hM0] at hx o0 hat0 ⊢
    clear hM0
    obtain ⟨c0, c1, c2, c3, hml⟩ := hx.box4
    simp (config := {implicitDefEqProofs := false, maxDischargeDepth := 20}) (disch := first | omega | (simp only [lenE]; done) | (simp only [lenE]; omega) | rfl | (simp only [lenE, markR_len]; done) | (simp only [lenE, markR_len]; omega)) only [runE, mapE, listE, resV, oneV, binA, unA, reduceCtorEq, Nat.reduceEqDiff, Nat.reduceAdd, Nat.reduceLT, Nat.reduceLeDiff, Nat.reduceMul, Nat.reduceSub, ↓reduceIte, decide_true, decide_false, Bool.true_eq_false, Bool.false_eq_true, Bool.not_true, Bool.not_false, if_true, if_false, and_true, true_and, memE, celE, w64, Nat.zero_add, Nat.add_zero, Nat.mul_one, putL, and_self, ldn, c0]
    refine rcallH_rc (l2Sum_rc _ v1 w.k.need (hx.intsV h1) fun j hj => by have := sumTo_in p1.need j hj; omega) ?_
    rintro r new3 ⟨rfl, rfl⟩
    rw [List.append_nil, hsum]
    simp (config := {implicitDefEqProofs := false, maxDischargeDepth := 20}) (disch := first | omega | (simp only [lenE]; done) | (simp only [lenE]; omega) | rfl | (simp only [lenE, markR_len]; done) | (simp only [lenE, markR_len]; omega)) only [runE, mapE, listE, resV, oneV, binA, unA, reduceCtorEq, Nat.reduceEqDiff, Nat.reduceAdd, Nat.reduceLT, Nat.reduceLeDiff, Nat.reduceMul, Nat.reduceSub, ↓reduceIte, decide_true, decide_false, Bool.true_eq_false, Bool.false_eq_true, Bool.not_true, Bool.not_false, if_true, if_false, and_true, true_and, memE, celE, w64, Nat.zero_add, Nat.add_zero, Nat.mul_one, putL, and_self, ldn]
    refine loop_inv mixed (fun s => ∃ (t : Nat) (M : Mem) (ra : Nat), t ≤ w.n ∧ s.m = M ∧ Grow (roM m ++ [⟨.own, 28, [v1, v2, v3, v4]⟩]) M ∧ (∀ i k v, i ≠ m.length + 1 → rdc M0 i k = some v → rdc M i k = some v) ∧ (ra = m.length + 1 ∨ M0.length ≤ ra) ∧ M0.length ≤ M.length ∧ OwnR M ra (planW w t) ∧ m.length + 1 ≤ ra ∧ s.t 1 = u ∧ s.t 2 = .pointer (some ⟨m.length, 0, none⟩) ∧ s.t 6 = .slice (some ⟨ra, 0, none⟩) (planW w t).length 1 ∧ s.t 7 = .int .i64 (ordW w t - w.due t) ∧ s.t 8 = .slice (some ⟨id, 0, none⟩) (w.n + 1) fl ∧ s.t 9 = .int .i64 T ∧ s.t 10 = .int .i64 t) (fun s => w.n - (intOf (s.t 10)).toNat)
      ⟨0, _, m.length + 1, by omega, rfl, hx, fun _ _ _ _ h => h, .inl rfl, Nat.le_refl _, o0, by omega, rfl, rfl, rfl, rfl, rfl, rfl, rfl⟩ ?_
    clear o0 hx c0 c1 c2 c3 hml
    rintro s ⟨t, M, ra, ht, tm, hx, hK, hra0, hM0M, hra, hral, t1, t2, t6, t7, t8, t9, t10⟩
    obtain ⟨c0, c1, c2, c3, hml⟩ := hx.box4
    have i1 := hx.intsV h1
    by_cases hlt : t < w.n
    · have hlt' : (t : Int) < w.k.need.length := by omega
      obtain ⟨r, q, w1, w2, w3, w4, w5, w6, w7⟩ := pW_step hway hlt
      have b3 := getD_in hw.g.need (k := t) (by omega)
      have hlm := hlim t hlt
      have hdj := hw.due t (by omega)
      have hdj1 := hw.due (t + 1) (by omega)
      have dus := due_s w hlt
      have hoi := ordW_in hway ht
      have hoi1 := ordW_in hway (t := t + 1) (by omega)
      have eo1 : ordW w (t + 1) = ordW w t + r.2 := by rw [ordW, amtW_some w1]
      obtain ⟨B, hB⟩ : ∃ B : Int, B = ordW w t - w.due t := ⟨_, rfl⟩
      rw [← hB] at t7
      simp (config := {implicitDefEqProofs := false, maxDischargeDepth := 20}) (disch := first | omega | (simp only [lenE]; done) | (simp only [lenE]; omega) | rfl | (simp only [lenE, markR_len]; done) | (simp only [lenE, markR_len]; omega)) only [runE, mapE, listE, resV, oneV, binA, unA, reduceCtorEq, Nat.reduceEqDiff, Nat.reduceAdd, Nat.reduceLT, Nat.reduceLeDiff, Nat.reduceMul, Nat.reduceSub, ↓reduceIte, decide_true, decide_false, Bool.true_eq_false, Bool.false_eq_true, Bool.not_true, Bool.not_false, if_true, if_false, and_true, true_and, memE, celE, w64, Nat.zero_add, Nat.add_zero, Nat.mul_one, putL, and_self, ldn, tm, t1, t2, t6, t7, t8, t9, t10, c0, i1.len, hlt']
      refine loop_inv mixed (fun s => ∃ (x : Nat) (M' : Mem), x ≤ r.2 ∧ s.m = M' ∧ Grow M M' ∧ s.t 1 = u ∧ s.t 2 = .pointer (some ⟨m.length, 0, none⟩) ∧ s.t 6 = .slice (some ⟨ra, 0, none⟩) (planW w t).length 1 ∧ s.t 7 = .int .i64 B ∧ s.t 8 = .slice (some ⟨id, 0, none⟩) (w.n + 1) fl ∧ s.t 9 = .int .i64 T ∧ s.t 10 = .int .i64 t ∧ s.t 11 = .int .i64 x) (fun s => r.2 - (intOf (s.t 11)).toNat)
        ⟨0, M, by omega, by simp only [put_t, put_t', put_m, putT_t, putT_t', putT_m, init_t, init_m, initT_0, initT_1, initT_2, initT_3, initT_4, Nat.reduceEqDiff, ↓reduceIte, tm], Grow.refl _, by simp only [put_t, put_t', put_m, putT_t, putT_t', putT_m, init_t, init_m, initT_0, initT_1, initT_2, initT_3, initT_4, Nat.reduceEqDiff, ↓reduceIte, t1], by simp only [put_t, put_t', put_m, putT_t, putT_t', putT_m, init_t, init_m, initT_0, initT_1, initT_2, initT_3, initT_4, Nat.reduceEqDiff, ↓reduceIte, t2], by simp only [put_t, put_t', put_m, putT_t, putT_t', putT_m, init_t, init_m, initT_0, initT_1, initT_2, initT_3, initT_4, Nat.reduceEqDiff, ↓reduceIte, t6], by simp only [put_t, put_t', put_m, putT_t, putT_t', putT_m, init_t, init_m, initT_0, initT_1, initT_2, initT_3, initT_4, Nat.reduceEqDiff, ↓reduceIte, t7], by simp only [put_t, put_t', put_m, putT_t, putT_t', putT_m, init_t, init_m, initT_0, initT_1, initT_2, initT_3, initT_4, Nat.reduceEqDiff, ↓reduceIte, t8], by simp only [put_t, put_t', put_m, putT_t, putT_t', putT_m, init_t, init_m, initT_0, initT_1, initT_2, initT_3, initT_4, Nat.reduceEqDiff, ↓reduceIte, t9], by simp only [put_t, put_t', put_m, putT_t, putT_t', putT_m, init_t, init_m, initT_0, initT_1, initT_2, initT_3, initT_4, Nat.reduceEqDiff, ↓reduceIte, t10], rfl⟩ ?_
      clear tm t1 t2 t6 t7 t8 t9 t10
      rintro s ⟨x, M2, hxr, tm, hx2, t1, t2, t6, t7, t8, t9, t10, t11⟩
      have hxx := hx.trans hx2
      obtain ⟨d0, d1, d2, d3, hml2⟩ := hxx.box4
      have j1 := hxx.intsV h1
      have ju := hxx.intsV hu
      obtain ⟨rid1, f1', k1, kl1, k2⟩ := hat0 (t + 1) (by omega)
      obtain ⟨rid0, f0', k3, kl0, k4⟩ := hat0 t (by omega)
      have k1 := hx2.rd (hK _ _ _ (by omega) k1)
      have k3 := hx2.rd (hK _ _ _ (by omega) k3)
      obtain ⟨Lf, hLf⟩ : ∃ Lf, Lf = B + x - w.k.need.getD t 0 := ⟨_, rfl⟩
      obtain ⟨L, hL⟩ : ∃ L : Nat, Lf + T = L := ⟨(Lf + T).toNat, by omega⟩
      obtain ⟨S, hS⟩ : ∃ S : Nat, B + T = S := ⟨(B + T).toNat, by omega⟩
      have a1 := hx2.rd (hK _ _ _ (by omega) (k2 L (by omega)))
      have a0 := hx2.rd (hK _ _ _ (by omega) (k4 S (by omega)))
      rw [oweP_at w T _ (by omega), show w.due (t + 1) + ((L : Int) - T) = ordW w t + x by omega] at a1
      rw [oweP_at w T _ (by omega), show w.due t + ((S : Int) - T) = ordW w t by omega, w1, show vO (some r) = r.1 from rfl] at a0
      have ia := iad0 (id := id) (n := w.n + 1) (fl := fl) (z := (t : Int) + 1) (j := t + 1) (by omega) (by omega)
      have ic := iad0 (id := id) (n := w.n + 1) (fl := fl) (z := (t : Int)) (j := t) (by omega) (by omega)
      have iL := iad0 (id := rid1) (n := 2 * T + 1) (fl := f1') hL (by omega)
      have iS := iad0 (id := rid0) (n := 2 * T + 1) (fl := f0') hS (by omega)
      have eo : ordW w t + x - w.due (t + 1) = Lf := by omega
      cases hnx : wayT w (t + 1) (ordW w t + x) with
      | none =>
        rw [hnx] at a1
        have hneg : ¬ ((0 : Int) ≤ vO none) := by decide
        have hne : x ≠ r.2 := fun e => by
          rw [← e, wayX_no hnx] at w7
          cases w7
        simp (config := {implicitDefEqProofs := false, maxDischargeDepth := 20}) (disch := first | omega | (simp only [lenE]; done) | (simp only [lenE]; omega) | rfl | (simp only [lenE, markR_len]; done) | (simp only [lenE, markR_len]; omega)) only [runE, mapE, listE, resV, oneV, binA, unA, reduceCtorEq, Nat.reduceEqDiff, Nat.reduceAdd, Nat.reduceLT, Nat.reduceLeDiff, Nat.reduceMul, Nat.reduceSub, ↓reduceIte, decide_true, decide_false, Bool.true_eq_false, Bool.false_eq_true, Bool.not_true, Bool.not_false, if_true, if_false, and_true, true_and, memE, celE, w64, Nat.zero_add, Nat.add_zero, Nat.mul_one, putL, and_self, ldn, tm, t1, t2, t6, t7, t8, t9, t10, t11, d0, j1.at_ t (by omega), j1.ld t (by omega), ← hLf, ia, k1, iL, a1, hneg, ge_iff_le, goG_undef]
        exact ⟨⟨x + 1, M2, by omega, rfl, hx2, by simp⟩, by simp [intOf]; omega⟩
      | some y =>
        rw [hnx] at a1
        obtain ⟨rb0, rb1, rb2⟩ := wayT_bd hw (by omega) hnx
        have hpos : (0 : Int) ≤ y.1 := rb0
        rw [show vO (some y) = y.1 from rfl] at a1
        have hcost : wayX w (wayT w (t + 1)) t (ordW w t) x = some (stepF w.k w.rates t x Lf + y.1) := by rw [wayX_of (by omega) hnx, eo]
        have hsb := stepF_bd hw.g hw.rates t (x := (x : Int)) (b := Lf) (by omega) (by omega) (by omega) (by omega)
        simp (config := {implicitDefEqProofs := false, maxDischargeDepth := 20}) (disch := first | omega | (simp only [lenE]; done) | (simp only [lenE]; omega) | rfl | (simp only [lenE, markR_len]; done) | (simp only [lenE, markR_len]; omega)) only [runE, mapE, listE, resV, oneV, binA, unA, reduceCtorEq, Nat.reduceEqDiff, Nat.reduceAdd, Nat.reduceLT, Nat.reduceLeDiff, Nat.reduceMul, Nat.reduceSub, ↓reduceIte, decide_true, decide_false, Bool.true_eq_false, Bool.false_eq_true, Bool.not_true, Bool.not_false, if_true, if_false, and_true, true_and, memE, celE, w64, Nat.zero_add, Nat.add_zero, Nat.mul_one, putL, and_self, ldn, tm, t1, t2, t6, t7, t8, t9, t10, t11, d0, d1, d2, d3, j1.at_ t (by omega), j1.ld t (by omega), ← hLf, ia, k1, iL, a1, hpos, ge_iff_le, goG_undef, ic, k3, iS, a0]
        refine rcallH_rc (l4Owe_rc _ _ u w.k w.rates t x Lf (hxx.caseV hc) ju hw.g p3 hw.rates (by omega) (by omega) (by omega) (by omega) (by omega)) ?_
        rintro r4 new4 ⟨rfl, nr4⟩
        generalize stepF w.k w.rates t x Lf = C at *
        have hx5 := hxx.app nr4
        have hG5 := hx2.app nr4
        obtain ⟨M5, hM5⟩ : ∃ M5, M5 = M2 ++ new4 := ⟨_, rfl⟩
        rw [← hM5] at hx5 hG5 ⊢
        clear hM5
        by_cases heq' : C + y.1 = r.1
        · have hxe : x = r.2 := by
            rcases Nat.lt_or_ge x r.2 with h | h
            · exact absurd (by rw [hcost, heq']) (way_first hlt w1 x h)
            · omega
          have heq : (C + y.1 == r.1) = true := by rw [heq']; simp
          have pl := hpl t
          have hra5 := hG5.own hra
          have lM5 := hx5.len
          simp only [List.length_append, List.length_cons, List.length_nil, roM_len] at lM5
          have hG := hx5.dead (id := ra) (by simp [roM_len]; omega)
          obtain ⟨f0, -, -, -, hml5⟩ := hG.box4
          have j2 := hG.intsV h1
          have hRd : ∀ i k v, i ≠ m.length + 1 → rdc M0 i k = some v → rdc (M5.set ra deadB ++ [⟨.own, 3, [.int .i64 (x : Int)]⟩] ++ [⟨.own, 3, (planW w t ++ [(x : Int)]).map (Value.int .i64)⟩]) i k = some v := fun i k v hne hv => by
            have hl := rdc_lt' hv
            have h5 := hG5.rd (hK i k v hne hv)
            refine rdc_ext (rdc_ext ?_)
            unfold rdc at h5 ⊢
            rw [List.getElem?_set_ne (by omega)]; exact h5
          have hb := app_genH (x := (x : Int)) (id2 := M5.length) (n := (planW w t).length) hra5 (by omega) rfl rfl
          have ep : planW w (t + 1) = planW w t ++ [(x : Int)] := by rw [planW, amtW_some w1, ← hxe]
          have hL1 : ordW w (t + 1) - w.due (t + 1) = Lf := by omega
          simp (config := {implicitDefEqProofs := false, maxDischargeDepth := 20}) (disch := first | omega | (simp only [lenE]; done) | (simp only [lenE]; omega) | rfl | (simp only [lenE, markR_len]; done) | (simp only [lenE, markR_len]; omega)) only [runE, mapE, listE, resV, oneV, binA, unA, reduceCtorEq, Nat.reduceEqDiff, Nat.reduceAdd, Nat.reduceLT, Nat.reduceLeDiff, Nat.reduceMul, Nat.reduceSub, ↓reduceIte, decide_true, decide_false, Bool.true_eq_false, Bool.false_eq_true, Bool.not_true, Bool.not_false, if_true, if_false, and_true, true_and, memE, celE, w64, Nat.zero_add, Nat.add_zero, Nat.mul_one, putL, and_self, ldn, t1, t2, t6, t7, t8, t9, t10, t11, heq, bsl_one, hb, f0, j2.at_ t (by omega), ((j2.ext _).ext _).ld t (by omega), ← hLf, goG_undef]
          refine ⟨⟨t + 1, _, _, by omega, rfl, (hG.one _ _).one _ _, hRd, .inr ?_, ?_, ?_, ?_, by rw [ep, List.length_append, List.length_singleton], by rw [hL1], by simp⟩, by simp [intOf]; omega⟩
          · have := hG5.len; omega
          · have := hG5.len; simp; omega
          · rw [ep]; exact OwnR.end' (by simp)
          · omega
        · have heq : (C + y.1 == r.1) = false := by simpa using heq'
          have hne : x ≠ r.2 := fun e => heq' (by rw [← e, hcost] at w7; exact Option.some.inj w7)
          simp (config := {implicitDefEqProofs := false, maxDischargeDepth := 20}) (disch := first | omega | (simp only [lenE]; done) | (simp only [lenE]; omega) | rfl | (simp only [lenE, markR_len]; done) | (simp only [lenE, markR_len]; omega)) only [runE, mapE, listE, resV, oneV, binA, unA, reduceCtorEq, Nat.reduceEqDiff, Nat.reduceAdd, Nat.reduceLT, Nat.reduceLeDiff, Nat.reduceMul, Nat.reduceSub, ↓reduceIte, decide_true, decide_false, Bool.true_eq_false, Bool.false_eq_true, Bool.not_true, Bool.not_false, if_true, if_false, and_true, true_and, memE, celE, w64, Nat.zero_add, Nat.add_zero, Nat.mul_one, putL, and_self, ldn, t1, t2, t6, t7, t8, t9, t10, t11, heq]
          exact ⟨⟨x + 1, _, by omega, rfl, hG5, by simp⟩, by simp [intOf]; omega⟩
    · have hlt' : ¬ ((t : Int) < w.k.need.length) := by omega
      have e : t = w.n := by omega
      subst e
      have pl := hpl w.n
      simp (config := {implicitDefEqProofs := false, maxDischargeDepth := 20}) (disch := first | omega | (simp only [lenE]; done) | (simp only [lenE]; omega) | rfl | (simp only [lenE, markR_len]; done) | (simp only [lenE, markR_len]; omega)) only [runE, mapE, listE, resV, oneV, binA, unA, reduceCtorEq, Nat.reduceEqDiff, Nat.reduceAdd, Nat.reduceLT, Nat.reduceLeDiff, Nat.reduceMul, Nat.reduceSub, ↓reduceIte, decide_true, decide_false, Bool.true_eq_false, Bool.false_eq_true, Bool.not_true, Bool.not_false, if_true, if_false, and_true, true_and, memE, celE, w64, Nat.zero_add, Nat.add_zero, Nat.mul_one, putL, and_self, ldn, tm, t1, t2, t6, t7, t8, t9, t10, c0, i1.len, hlt']
      exact ext_ansL hx.ext hra (by omega) rfl (by rw [← hn]; omega)
end Go.Proofs.Ytiggehfopfpkbaa.Ab
