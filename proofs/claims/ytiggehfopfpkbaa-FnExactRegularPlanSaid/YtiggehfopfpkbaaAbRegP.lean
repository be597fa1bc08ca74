/- The model's table of pairs; RegularPlan. -/
import Derived.Test.YtiggehfopfpkbaaAbReg
import Derived.Test.YtiggehfopfpkbaaAbSearch
namespace Go.Proofs.Ytiggehfopfpkbaa.Ab
open Go Go.RowKit
set_option linter.unusedVariables false
set_option linter.unusedSimpArgs false

theorem bld_p (a b : Int) : bldA [.int .i64 0, .int .i64 0] [(0, 1, .int .i64 a), (1, 1, .int .i64 b)] = some (.agg #[.int .i64 a, .int .i64 b]) := rfl
theorem bld_p0 : bldA [.int .i64 0, .int .i64 0] [] = some (.agg #[.int .i64 0, .int .i64 0]) := rfl
theorem bsl_p {m : Mem} {e : TypeId} (a b : Int) : bslA m e 2 1 [.int .i64 0, .int .i64 0] [(0, 2, .agg #[.int .i64 a, .int .i64 b])] = some (.slice (some ⟨m.length, 0, none⟩) 1 2, m ++ [⟨.own, e, [.int .i64 a, .int .i64 b]⟩]) := rfl
theorem bsl_p0 {m : Mem} {e : TypeId} : bslA m e 2 0 [] [] = some (.slice (some ⟨m.length, 0, none⟩) 0 2, m ++ [⟨.own, e, []⟩]) := rfl

set_option maxHeartbeats 4000000 in
theorem l4Rest_rc (m : Mem) (v u pv : Value) (w : Ws) (hw : WsOk w) (h0 : w.lo = 0) (t q : Nat) (b : Bool) (h : CaseA m v w.k) (h' : IntsA m u w.lims) (h'' : PairsA m pv w (t + 1)) (ht : t < w.n) (hq : q ≤ w.tot.toNat) :
    RC Try.prog 120 [v, u, pv, .int .i64 t, .int .i64 q, .bool b] m (AnsV (.int .i64 (vO (regT w t (w.due t + q) b)))) := by
  refine rc_of_run mixed ok_spec_l4Rest (by simp) (go_start _ _ _ ?_)
  obtain ⟨v1, v2, v3, v4, rfl, h1, h2, h3, h4⟩ := h.ro.ok
  have hc : CaseA (roM m) (.agg #[v1, v2, v3, v4]) w.k := ⟨_, _, _, _, rfl, h1, h2, h3, h4⟩
  have hu := h'.ro
  have hP := h''.ro
  have h8 := hw.g.n8
  have hn : w.n = w.k.need.length := rfl
  have hT := hw.tot
  have hll := hw.ll
  have hlm := hw.lim t
  have hdj := hw.due t (by omega)
  have hdj1 := hw.due (t + 1) (by omega)
  have dus := due_s w ht
  obtain ⟨T, hTT⟩ : ∃ T, T = w.tot.toNat := ⟨_, rfl⟩
  obtain ⟨rid, f, rfl, hat⟩ := hP
  have hPA : PairsA (roM m) (.slice (some ⟨rid, 0, none⟩) (w.tot.toNat + 1) f) w (t + 1) := ⟨rid, f, rfl, hat⟩
  rw [← hTT] at hPA ⊢
  simp (config := {implicitDefEqProofs := false, maxDischargeDepth := 20}) (disch := first | omega | (simp only [lenE]; done) | (simp only [lenE]; omega) | rfl | (simp only [lenE, markR_len]; done) | (simp only [lenE, markR_len]; omega)) only [runE, mapE, listE, resV, oneV, binA, unA, reduceCtorEq, Nat.reduceEqDiff, Nat.reduceAdd, Nat.reduceLT, Nat.reduceLeDiff, Nat.reduceMul, Nat.reduceSub, ↓reduceIte, decide_true, decide_false, Bool.true_eq_false, Bool.false_eq_true, Bool.not_true, Bool.not_false, if_true, if_false, and_true, true_and, memE, celE, w64, Nat.zero_add, Nat.add_zero, Nat.mul_one, putL, and_self, ldn, c_spec_l4Rest, r_spec_l4Rest, initT_5]
  refine loop_inv mixed (fun s => ∃ (x : Nat) (M : Mem), x ≤ w.lim t + 1 ∧ s.m = M ∧ Grow (roM m ++ [⟨.own, 28, [v1, v2, v3, v4]⟩]) M ∧ s.t 1 = u ∧ s.t 2 = .slice (some ⟨rid, 0, none⟩) (T + 1) f ∧ s.t 3 = .int .i64 t ∧ s.t 4 = .int .i64 q ∧ s.t 5 = .bool b ∧ s.t 6 = .pointer (some ⟨m.length, 0, none⟩) ∧ s.t 13 = .int .i64 (vO (least (regX w (regT w (t + 1)) t (w.due t + q) b) x)) ∧ s.t 14 = .int .i64 x) (fun s => w.lim t + 1 - (intOf (s.t 14)).toNat)
    ⟨0, _, by omega, rfl, Grow.refl _, rfl, rfl, rfl, rfl, rfl, rfl, rfl, rfl⟩ ?_
  rintro s ⟨x, M, hxl, tm, hx, t1, t2, t3, t4, t5, t6, t13, t14⟩
  obtain ⟨c0, c1, c2, c3, hml⟩ := hx.box4
  have iu := hx.intsV hu
  have i1 := hx.intsV h1
  have hstep : regT w t (w.due t + q) b = least (regX w (regT w (t + 1)) t (w.due t + q) b) (w.lim t + 1) := regT_s w ht _ _
  by_cases hlx : x ≤ w.lim t
  · have hlx' : (x : Int) ≤ w.lims.getD t 0 := by omega
    have b3 := getD_in hw.g.need (k := t) (by omega)
    have eo : w.due t + q + x - w.due (t + 1) = (q : Int) + x - w.k.need.getD t 0 := by omega
    simp (config := {implicitDefEqProofs := false, maxDischargeDepth := 20}) (disch := first | omega | (simp only [lenE]; done) | (simp only [lenE]; omega) | rfl | (simp only [lenE, markR_len]; done) | (simp only [lenE, markR_len]; omega)) only [runE, mapE, listE, resV, oneV, binA, unA, reduceCtorEq, Nat.reduceEqDiff, Nat.reduceAdd, Nat.reduceLT, Nat.reduceLeDiff, Nat.reduceMul, Nat.reduceSub, ↓reduceIte, decide_true, decide_false, Bool.true_eq_false, Bool.false_eq_true, Bool.not_true, Bool.not_false, if_true, if_false, and_true, true_and, memE, celE, w64, Nat.zero_add, Nat.add_zero, Nat.mul_one, putL, and_self, ldn, tm, t1, t2, t3, t4, t5, t6, t13, t14, iu.at_ t (by omega), iu.ld t (by omega), hlx', c0, i1.at_ t (by omega), i1.ld t (by omega)]
    refine callH_rc (l1In_rc _ _ _ _) ?_
    rintro r new ⟨rfl, rfl⟩
    rw [List.append_nil]
    have eT1 : ((T + 1 : Nat) : Int) - 1 = T := by omega
    rw [eT1]
    by_cases hin : 0 ≤ (q : Int) + x - w.k.need.getD t 0 ∧ (q : Int) + x - w.k.need.getD t 0 ≤ T
    · obtain ⟨L, hL⟩ : ∃ L : Nat, (q : Int) + x - w.k.need.getD t 0 = L := ⟨((q : Int) + x - w.k.need.getD t 0).toNat, by omega⟩
      rw [hL] at hin ⊢
      have eb : (decide (0 ≤ (L : Int)) && decide ((L : Int) ≤ T)) = true := by rw [decide_eq_true hin.1, decide_eq_true hin.2]; rfl
      have nb := nowV_bd hw ht (w.due t + q) b x
      simp (config := {implicitDefEqProofs := false, maxDischargeDepth := 20}) (disch := first | omega | (simp only [lenE]; done) | (simp only [lenE]; omega) | rfl | (simp only [lenE, markR_len]; done) | (simp only [lenE, markR_len]; omega)) only [runE, mapE, listE, resV, oneV, binA, unA, reduceCtorEq, Nat.reduceEqDiff, Nat.reduceAdd, Nat.reduceLT, Nat.reduceLeDiff, Nat.reduceMul, Nat.reduceSub, ↓reduceIte, decide_true, decide_false, Bool.true_eq_false, Bool.false_eq_true, Bool.not_true, Bool.not_false, if_true, if_false, and_true, true_and, memE, celE, w64, Nat.zero_add, Nat.add_zero, Nat.mul_one, putL, and_self, ldn, eb, t1, t2, t3, t4, t5, t6, t13, t14, hL]
      refine callH_rc (l4Now_rc _ _ _ w hw h0 t x L (w.due t + q) b iu (by rw [hTT] at hPA ⊢; exact (hPA.ext _).grow hx) ht (by omega) (by omega)) ?_
      rintro r new ⟨rfl, nr⟩
      have hxn := hx.app nr
      obtain ⟨d0, d1, d2, d3, hml2⟩ := hxn.box4
      by_cases hp : 0 ≤ nowV w t (w.due t + q) b x
      · have hyes := regX_yes (w := w) (t := t) (o := w.due t + q) (u := b) (x := x) (by omega) hp
        rw [eo, hL] at hyes
        have hsb := stepF_bd hw.g hw.rates t (x := (x : Int)) (b := (L : Int)) (by omega) (by omega) (by omega) (by omega)
        have e : vO (least (regX w (regT w (t + 1)) t (w.due t + q) b) (x + 1)) = leastV (vO (least (regX w (regT w (t + 1)) t (w.due t + q) b) x)) (stepF w.k w.rates t x (L : Int) + nowV w t (w.due t + q) b x) :=
          vO_step hyes (by omega) fun r3 hr3 => by
            obtain ⟨z1, l2, _⟩ := least_some _ _ hr3
            obtain ⟨q3, _, y1, y2, y3⟩ := regX_some l2
            have := regT_bd hw (by omega) y2
            have := stepF_bd hw.g hw.rates t (x := (r3.2 : Int)) (b := w.due t + q + r3.2 - w.due (t + 1)) (by omega) (by omega) (by omega) (by omega)
            omega
        simp (config := {implicitDefEqProofs := false, maxDischargeDepth := 20}) (disch := first | omega | (simp only [lenE]; done) | (simp only [lenE]; omega) | rfl | (simp only [lenE, markR_len]; done) | (simp only [lenE, markR_len]; omega)) only [runE, mapE, listE, resV, oneV, binA, unA, reduceCtorEq, Nat.reduceEqDiff, Nat.reduceAdd, Nat.reduceLT, Nat.reduceLeDiff, Nat.reduceMul, Nat.reduceSub, ↓reduceIte, decide_true, decide_false, Bool.true_eq_false, Bool.false_eq_true, Bool.not_true, Bool.not_false, if_true, if_false, and_true, true_and, memE, celE, w64, Nat.zero_add, Nat.add_zero, Nat.mul_one, putL, and_self, ldn, t1, t2, t3, t4, t5, t6, t13, t14, hp, ge_iff_le, d0, d1, d2, d3]
        refine callH_rc (l4Step_rc _ _ w.k t x (L : Int) (hxn.caseV hc) hw.g (by omega) (by omega) (by omega) (by omega) (by omega) w.rates) ?_
        rintro r2 new2 ⟨rfl, nr2⟩
        generalize stepF w.k w.rates t x (L : Int) = C at *
        simp (config := {implicitDefEqProofs := false, maxDischargeDepth := 20}) (disch := first | omega | (simp only [lenE]; done) | (simp only [lenE]; omega) | rfl | (simp only [lenE, markR_len]; done) | (simp only [lenE, markR_len]; omega)) only [runE, mapE, listE, resV, oneV, binA, unA, reduceCtorEq, Nat.reduceEqDiff, Nat.reduceAdd, Nat.reduceLT, Nat.reduceLeDiff, Nat.reduceMul, Nat.reduceSub, ↓reduceIte, decide_true, decide_false, Bool.true_eq_false, Bool.false_eq_true, Bool.not_true, Bool.not_false, if_true, if_false, and_true, true_and, memE, celE, w64, Nat.zero_add, Nat.add_zero, Nat.mul_one, putL, and_self, ldn, t1, t2, t3, t4, t5, t6, t13, t14]
        refine callH_rc (l4Least_rc _ _ _) ?_
        rintro r4 new4 ⟨rfl, rfl⟩
        rw [List.append_nil]
        simp (config := {implicitDefEqProofs := false, maxDischargeDepth := 20}) (disch := first | omega | (simp only [lenE]; done) | (simp only [lenE]; omega) | rfl | (simp only [lenE, markR_len]; done) | (simp only [lenE, markR_len]; omega)) only [runE, mapE, listE, resV, oneV, binA, unA, reduceCtorEq, Nat.reduceEqDiff, Nat.reduceAdd, Nat.reduceLT, Nat.reduceLeDiff, Nat.reduceMul, Nat.reduceSub, ↓reduceIte, decide_true, decide_false, Bool.true_eq_false, Bool.false_eq_true, Bool.not_true, Bool.not_false, if_true, if_false, and_true, true_and, memE, celE, w64, Nat.zero_add, Nat.add_zero, Nat.mul_one, putL, and_self, ldn, t1, t2, t3, t4, t5, t6, t13, t14]
        exact ⟨⟨x + 1, _, by omega, rfl, hxn.app nr2, by rw [e], by simp⟩, by simp [intOf]; omega⟩
      · have e := least_no (regX_no hw ht (o := w.due t + q) (u := b) (x := x) (by omega))
        simp (config := {implicitDefEqProofs := false, maxDischargeDepth := 20}) (disch := first | omega | (simp only [lenE]; done) | (simp only [lenE]; omega) | rfl | (simp only [lenE, markR_len]; done) | (simp only [lenE, markR_len]; omega)) only [runE, mapE, listE, resV, oneV, binA, unA, reduceCtorEq, Nat.reduceEqDiff, Nat.reduceAdd, Nat.reduceLT, Nat.reduceLeDiff, Nat.reduceMul, Nat.reduceSub, ↓reduceIte, decide_true, decide_false, Bool.true_eq_false, Bool.false_eq_true, Bool.not_true, Bool.not_false, if_true, if_false, and_true, true_and, memE, celE, w64, Nat.zero_add, Nat.add_zero, Nat.mul_one, putL, and_self, ldn, t1, t2, t3, t4, t5, t6, t13, t14, hp, ge_iff_le]
        exact ⟨⟨x + 1, _, by omega, rfl, hxn, by rw [e], by simp⟩, by simp [intOf]; omega⟩
    · have eb : (decide (0 ≤ (q : Int) + x - w.k.need.getD t 0) && decide ((q : Int) + x - w.k.need.getD t 0 ≤ T)) = false := by
        by_cases h1 : 0 ≤ (q : Int) + x - w.k.need.getD t 0
        · rw [decide_eq_true h1, decide_eq_false (fun h2 => hin ⟨h1, h2⟩)]; rfl
        · rw [decide_eq_false h1]; rfl
      have e := least_no (regX_far ht (o := w.due t + q) (u := b) (x := x) (by omega))
      simp (config := {implicitDefEqProofs := false, maxDischargeDepth := 20}) (disch := first | omega | (simp only [lenE]; done) | (simp only [lenE]; omega) | rfl | (simp only [lenE, markR_len]; done) | (simp only [lenE, markR_len]; omega)) only [runE, mapE, listE, resV, oneV, binA, unA, reduceCtorEq, Nat.reduceEqDiff, Nat.reduceAdd, Nat.reduceLT, Nat.reduceLeDiff, Nat.reduceMul, Nat.reduceSub, ↓reduceIte, decide_true, decide_false, Bool.true_eq_false, Bool.false_eq_true, Bool.not_true, Bool.not_false, if_true, if_false, and_true, true_and, memE, celE, w64, Nat.zero_add, Nat.add_zero, Nat.mul_one, putL, and_self, ldn, eb, t1, t2, t3, t4, t5, t6, t13, t14]
      exact ⟨⟨x + 1, M, by omega, rfl, hx, by rw [e], by simp⟩, by simp [intOf]; omega⟩
  · have hlx' : ¬ ((x : Int) ≤ w.lims.getD t 0) := by omega
    have e : x = w.lim t + 1 := by omega
    subst e
    rw [← hstep] at t13
    simp (config := {implicitDefEqProofs := false, maxDischargeDepth := 20}) (disch := first | omega | (simp only [lenE]; done) | (simp only [lenE]; omega) | rfl | (simp only [lenE, markR_len]; done) | (simp only [lenE, markR_len]; omega)) only [runE, mapE, listE, resV, oneV, binA, unA, reduceCtorEq, Nat.reduceEqDiff, Nat.reduceAdd, Nat.reduceLT, Nat.reduceLeDiff, Nat.reduceMul, Nat.reduceSub, ↓reduceIte, decide_true, decide_false, Bool.true_eq_false, Bool.false_eq_true, Bool.not_true, Bool.not_false, if_true, if_false, and_true, true_and, memE, celE, w64, Nat.zero_add, Nat.add_zero, Nat.mul_one, putL, and_self, ldn, tm, t1, t2, t3, t4, t5, t6, t13, t14, iu.at_ t (by omega), iu.ld t (by omega), hlx']
    exact ext_ansV hx.ext rfl

theorem pairC_end0 (w : Ws) : pairL w w.n 1 = [.int .i64 0, .int .i64 0] := by
  rw [pairL_s, show pairL w w.n 0 = [] from rfl, List.nil_append]
  unfold pairC
  rw [regT_end, regT_end, if_pos (by rw [show w.due w.n = w.tot from rfl]; omega)]; rfl
theorem pairC_end1 (w : Ws) {s : Nat} (h : 1 ≤ s) : pairC w w.n s = [.int .i64 (-1), .int .i64 (-1)] := by
  unfold pairC
  rw [regT_end, regT_end, if_neg (by rw [show w.due w.n = w.tot from rfl]; omega)]; rfl
def PairRow (m : Mem) (rid : Nat) (w : Ws) (t : Nat) : Prop := ∀ s, s < w.tot.toNat + 1 → rdc m rid (s * 2) = some (.int .i64 (vO (regT w t (w.due t + s) false))) ∧ rdc m rid (s * 2 + 1) = some (.int .i64 (vO (regT w t (w.due t + s) true)))
theorem PairRow.keep {m m' : Mem} {rid : Nat} {w : Ws} {t : Nat} (h : PairRow m rid w t) (hk : ∀ (k : Nat) (v : Value), rdc m rid k = some v → rdc m' rid k = some v) : PairRow m' rid w t :=
  fun s hs => ⟨hk _ _ (h s hs).1, hk _ _ (h s hs).2⟩
theorem PairRow.pairs {m : Mem} {rid f : Nat} {w : Ws} {t : Nat} (h : PairRow m rid w t) : PairsA m (.slice (some ⟨rid, 0, none⟩) (w.tot.toNat + 1) f) w t := ⟨rid, f, rfl, h⟩
/-- An answer: rows of rows of pairs. -/
def AnsP2 (m : Mem) (w : Ws) (r : Value) (new : Mem) : Prop :=
  NoRo new ∧ ∃ id fl, r = .slice (some ⟨id, 0, none⟩) (w.n + 1) fl ∧ m.length ≤ id ∧ ∀ j, j ≤ w.n → ∃ rid f, rdc (m ++ new) id j = some (.slice (some ⟨rid, 0, none⟩) (w.tot.toNat + 1) f) ∧ m.length ≤ rid ∧ PairRow (m ++ new) rid w j
theorem ext_ansP2 {m M : Mem} {w : Ws} {id fl : Nat} {e : TypeId} {vs : List Value} (h : Ext m M) (hN : vs.length = w.n + 1) (hT : Tab m.length M id e 74 vs (fun j => (w.tot.toNat + 1, pairL w j (w.tot.toNat + 1)))) :
    newQ m (AnsP2 m w) (.slice (some ⟨id, 0, none⟩) (w.n + 1) fl) M := by
  obtain ⟨n0, rfl, h0⟩ := h
  refine ⟨n0, rfl, h0, h0, id, fl, rfl, hT.1, fun j hj => ?_⟩
  obtain ⟨rid, f, g1, g2, g3⟩ := hT.2.2 j (by omega)
  refine ⟨rid, f, by rw [← rdc_roM2, hT.2.1.rd]; exact g1, g2, ?_⟩
  obtain ⟨rid', f', e, hat⟩ := pairs_own (f := f) g3
  cases e
  exact PairRow.keep (m := roM m ++ n0) hat fun k v hv => by rw [← rdc_roM2]; exact hv

set_option maxHeartbeats 4000000 in
theorem l4Pairs_rc (m : Mem) (v u : Value) (w : Ws) (hw : WsOk w) (h0 : w.lo = 0) (h : CaseA m v w.k) (h' : IntsA m u w.lims) :
    RC Try.prog 82 [v, u] m (AnsP2 m w) := by
  refine rc_of_run mixed ok_spec_l4Pairs (by simp) (go_start _ _ _ ?_)
  obtain ⟨v1, v2, v3, v4, rfl, h1, h2, h3, h4⟩ := h.ro.ok
  have hc : CaseA (roM m) (.agg #[v1, v2, v3, v4]) w.k := ⟨_, _, _, _, rfl, h1, h2, h3, h4⟩
  have hu := h'.ro
  have h8 := hw.g.n8
  have hn : w.n = w.k.need.length := rfl
  have hT := hw.tot
  have hll := hw.ll
  simp (config := {implicitDefEqProofs := false, maxDischargeDepth := 20}) (disch := first | omega | (simp only [lenE]; done) | (simp only [lenE]; omega) | rfl | (simp only [lenE, markR_len]; done) | (simp only [lenE, markR_len]; omega)) only [runE, mapE, listE, resV, oneV, binA, unA, reduceCtorEq, Nat.reduceEqDiff, Nat.reduceAdd, Nat.reduceLT, Nat.reduceLeDiff, Nat.reduceMul, Nat.reduceSub, ↓reduceIte, decide_true, decide_false, Bool.true_eq_false, Bool.false_eq_true, Bool.not_true, Bool.not_false, if_true, if_false, and_true, true_and, memE, celE, w64, Nat.zero_add, Nat.add_zero, Nat.mul_one, putL, and_self, ldn, c_spec_l4Pairs, r_spec_l4Pairs]
  refine callH_rc (l2Sum_rc _ v1 w.k.need (h1.ext _) fun j hj => by have := sumTo_in hw.g.need j hj; omega) ?_
  rintro r new ⟨rfl, rfl⟩
  rw [show sumTo w.k.need w.k.need.length = w.tot from rfl, List.append_nil]
  obtain ⟨T, hTT⟩ : ∃ T, T = w.tot.toNat := ⟨_, rfl⟩
  have eT : w.tot = (T : Int) := by omega
  simp (config := {implicitDefEqProofs := false, maxDischargeDepth := 20}) (disch := first | omega | (simp only [lenE]; done) | (simp only [lenE]; omega) | rfl | (simp only [lenE, markR_len]; done) | (simp only [lenE, markR_len]; omega)) only [runE, mapE, listE, resV, oneV, binA, unA, reduceCtorEq, Nat.reduceEqDiff, Nat.reduceAdd, Nat.reduceLT, Nat.reduceLeDiff, Nat.reduceMul, Nat.reduceSub, ↓reduceIte, decide_true, decide_false, Bool.true_eq_false, Bool.false_eq_true, Bool.not_true, Bool.not_false, if_true, if_false, and_true, true_and, memE, celE, w64, Nat.zero_add, Nat.add_zero, Nat.mul_one, putL, and_self, ldn, bld_p0, bsl_p]
  have o0 : Own (roM m ++ [⟨.own, 28, [v1, v2, v3, v4]⟩] ++ [⟨.own, 74, [.int .i64 0, .int .i64 0]⟩]) (m.length + 1) 74 (pairL w w.n 1) := by
    rw [pairC_end0]; exact Own.end' (by simp [roM_len])
  refine loop_inv mixed (fun s => ∃ (q : Nat) (M : Mem) (ra : Nat), 1 ≤ q ∧ q ≤ T + 1 ∧ s.m = M ∧ Grow (roM m ++ [⟨.own, 28, [v1, v2, v3, v4]⟩]) M ∧ Own M ra 74 (pairL w w.n q) ∧ m.length + 1 ≤ ra ∧ s.t 1 = u ∧ s.t 2 = .pointer (some ⟨m.length, 0, none⟩) ∧ s.t 5 = .int .i64 T ∧ s.t 6 = .slice (some ⟨ra, 0, none⟩) q 2 ∧ s.t 7 = .int .i64 q) (fun s => T + 1 - (intOf (s.t 7)).toNat)
    ⟨1, _, m.length + 1, by omega, by omega, rfl, (Grow.refl _).one _ _, o0, by omega, rfl, rfl, by simp only [put_t, put_t', put_m, putT_t, putT_t', putT_m, init_t, init_m, initT_0, initT_1, initT_2, initT_3, initT_4, Nat.reduceEqDiff, ↓reduceIte]; rw [eT], rfl, rfl⟩ ?_
  rintro s ⟨q, M, ra, hq1, hq, tm, hx, hl, hral, t1, t2, t5, t6, t7⟩
  have lM := hx.len
  simp only [List.length_append, List.length_cons, List.length_nil, roM_len] at lM
  by_cases hlt : q ≤ T
  · have hlt' : (q : Int) ≤ T := by omega
    have ap := fun id2 h => app_genB (M := M) (id2 := id2) (n := q) (e := 74) (sz := 2) (byt := 16) (ys := [.int .i64 (-1), .int .i64 (-1)]) hl h (pairL_len _ _ _) rfl rfl (by omega) (by omega)
    simp (config := {implicitDefEqProofs := false, maxDischargeDepth := 20}) (disch := first | omega | (simp only [lenE]; done) | (simp only [lenE]; omega) | rfl | (simp only [lenE, markR_len]; done) | (simp only [lenE, markR_len]; omega)) only [runE, mapE, listE, resV, oneV, binA, unA, reduceCtorEq, Nat.reduceEqDiff, Nat.reduceAdd, Nat.reduceLT, Nat.reduceLeDiff, Nat.reduceMul, Nat.reduceSub, ↓reduceIte, decide_true, decide_false, Bool.true_eq_false, Bool.false_eq_true, Bool.not_true, Bool.not_false, if_true, if_false, and_true, true_and, memE, celE, w64, Nat.zero_add, Nat.add_zero, Nat.mul_one, putL, and_self, ldn, tm, t1, t2, t5, t6, t7, hlt', bld_p, bsl_p, ap]
    refine ⟨⟨q + 1, _, M.length + 1, by omega, by omega, rfl, ((hx.dead (by simp [roM_len]; omega)).one _ _).one _ _, ?_, by omega, by simp, by simp⟩, by simp [intOf]; omega⟩
    rw [pairL_s, pairC_end1 w hq1]
    exact Own.end' (by simp)
  have hlt' : ¬ ((q : Int) ≤ T) := by omega
  have e : q = T + 1 := by omega
  subst e
  obtain ⟨c0, c1, c2, c3, hml⟩ := hx.box4
  simp (config := {implicitDefEqProofs := false, maxDischargeDepth := 20}) (disch := first | omega | (simp only [lenE]; done) | (simp only [lenE]; omega) | rfl | (simp only [lenE, markR_len]; done) | (simp only [lenE, markR_len]; omega)) only [runE, mapE, listE, resV, oneV, binA, unA, reduceCtorEq, Nat.reduceEqDiff, Nat.reduceAdd, Nat.reduceLT, Nat.reduceLeDiff, Nat.reduceMul, Nat.reduceSub, ↓reduceIte, decide_true, decide_false, Bool.true_eq_false, Bool.false_eq_true, Bool.not_true, Bool.not_false, if_true, if_false, and_true, true_and, memE, celE, w64, Nat.zero_add, Nat.add_zero, Nat.mul_one, putL, and_self, ldn, tm, t1, t2, t5, t6, t7, hlt', bsl_sl, c0, (hx.intsV h1).len]
  have T0 : Tab m.length (M ++ [⟨.own, 70, [.slice (some ⟨ra, 0, none⟩) (T + 1) 2]⟩]) M.length 70 74 [.slice (some ⟨ra, 0, none⟩) (T + 1) 2] (fun i => (T + 1, pairL w (w.n + i) (T + 1))) :=
    Tab.one (by omega) (Own.end' rfl) (by omega) (hl.ext _) rfl
  clear hlt' hlt hq hq1
  refine loop_inv mixed (fun s => ∃ (j : Nat) (M : Mem) (id : Nat) (vs : List Value), j ≤ w.n ∧ vs.length = w.n - j + 1 ∧ s.m = M ∧ Grow (roM m ++ [⟨.own, 28, [v1, v2, v3, v4]⟩]) M ∧ Tab m.length M id 70 74 vs (fun i => (T + 1, pairL w (j + i) (T + 1))) ∧ s.t 1 = u ∧ s.t 2 = .pointer (some ⟨m.length, 0, none⟩) ∧ s.t 5 = .int .i64 T ∧ s.t 8 = .slice (some ⟨id, 0, none⟩) vs.length 1 ∧ s.t 9 = .int .i64 ((j : Int) - 1)) (fun s => (intOf (s.t 9) + 1).toNat)
    ⟨w.n, _, M.length, _, by omega, by simp, rfl, hx.one _ _, T0, by simp only [put_t, put_t', put_m, putT_t, putT_t', putT_m, init_t, init_m, initT_0, initT_1, initT_2, initT_3, initT_4, Nat.reduceEqDiff, ↓reduceIte, t1], by simp only [put_t, put_t', put_m, putT_t, putT_t', putT_m, init_t, init_m, initT_0, initT_1, initT_2, initT_3, initT_4, Nat.reduceEqDiff, ↓reduceIte, t2], by simp only [put_t, put_t', put_m, putT_t, putT_t', putT_m, init_t, init_m, initT_0, initT_1, initT_2, initT_3, initT_4, Nat.reduceEqDiff, ↓reduceIte, t5], rfl, by simp only [put_t, put_t', put_m, putT_t, putT_t', putT_m, init_t, init_m, initT_0, initT_1, initT_2, initT_3, initT_4, Nat.reduceEqDiff, ↓reduceIte, hn]⟩ ?_
  clear T0 hl hx lM c0 c1 c2 c3 hml tm t1 t2 t5 t6 t7 hral
  rintro s ⟨j, M, id, vs, hj, hvs, tm, hx, hT2, t1, t2, t5, t8, t9⟩
  cases j with
  | zero =>
    have hz : ¬ ((0 : Int) ≤ ((0 : Nat) : Int) - 1) := by omega
    simp (config := {implicitDefEqProofs := false, maxDischargeDepth := 20}) (disch := first | omega | (simp only [lenE]; done) | (simp only [lenE]; omega) | rfl | (simp only [lenE, markR_len]; done) | (simp only [lenE, markR_len]; omega)) only [runE, mapE, listE, resV, oneV, binA, unA, reduceCtorEq, Nat.reduceEqDiff, Nat.reduceAdd, Nat.reduceLT, Nat.reduceLeDiff, Nat.reduceMul, Nat.reduceSub, ↓reduceIte, decide_true, decide_false, Bool.true_eq_false, Bool.false_eq_true, Bool.not_true, Bool.not_false, if_true, if_false, and_true, true_and, memE, celE, w64, Nat.zero_add, Nat.add_zero, Nat.mul_one, putL, and_self, ldn, tm, t1, t2, t5, t8, t9, hz, ge_iff_le]
    have e : (fun i => (T + 1, pairL w (0 + i) (T + 1))) = (fun j => (w.tot.toNat + 1, pairL w j (w.tot.toNat + 1))) := by funext i; rw [Nat.zero_add, hTT]
    rw [e] at hT2
    rw [show vs.length = w.n + 1 by omega]
    exact ext_ansP2 hx.ext (by omega) hT2
  | succ j =>
    have ej : (((j + 1 : Nat) : Int) - 1) = (j : Int) := by omega
    rw [ej] at t9
    have hz : (0 : Int) ≤ (j : Int) := by omega
    simp (config := {implicitDefEqProofs := false, maxDischargeDepth := 20}) (disch := first | omega | (simp only [lenE]; done) | (simp only [lenE]; omega) | rfl | (simp only [lenE, markR_len]; done) | (simp only [lenE, markR_len]; omega)) only [runE, mapE, listE, resV, oneV, binA, unA, reduceCtorEq, Nat.reduceEqDiff, Nat.reduceAdd, Nat.reduceLT, Nat.reduceLeDiff, Nat.reduceMul, Nat.reduceSub, ↓reduceIte, decide_true, decide_false, Bool.true_eq_false, Bool.false_eq_true, Bool.not_true, Bool.not_false, if_true, if_false, and_true, true_and, memE, celE, w64, Nat.zero_add, Nat.add_zero, Nat.mul_one, putL, and_self, ldn, tm, t1, t2, t5, t8, t9, hz, ge_iff_le, bsl_p0]
    refine loop_inv mixed (fun s => ∃ (q : Nat) (M' : Mem) (ra : Nat), q ≤ T + 1 ∧ s.m = M' ∧ Grow M M' ∧ Own M' ra 74 (pairL w j q) ∧ M.length ≤ ra ∧ s.t 1 = u ∧ s.t 2 = .pointer (some ⟨m.length, 0, none⟩) ∧ s.t 5 = .int .i64 T ∧ s.t 8 = .slice (some ⟨id, 0, none⟩) vs.length 1 ∧ s.t 9 = .int .i64 j ∧ s.t 10 = .slice (some ⟨ra, 0, none⟩) q 2 ∧ s.t 11 = .int .i64 q) (fun s => T + 1 - (intOf (s.t 11)).toNat)
      ⟨0, _, M.length, by omega, rfl, (Grow.refl M).one _ _, (by show Own (M ++ [⟨.own, 74, []⟩]) M.length 74 []; exact Own.end' rfl), by omega, by simp only [put_t, put_t', put_m, putT_t, putT_t', putT_m, init_t, init_m, initT_0, initT_1, initT_2, initT_3, initT_4, Nat.reduceEqDiff, ↓reduceIte, t1], by simp only [put_t, put_t', put_m, putT_t, putT_t', putT_m, init_t, init_m, initT_0, initT_1, initT_2, initT_3, initT_4, Nat.reduceEqDiff, ↓reduceIte, t2], by simp only [put_t, put_t', put_m, putT_t, putT_t', putT_m, init_t, init_m, initT_0, initT_1, initT_2, initT_3, initT_4, Nat.reduceEqDiff, ↓reduceIte, t5], by simp only [put_t, put_t', put_m, putT_t, putT_t', putT_m, init_t, init_m, initT_0, initT_1, initT_2, initT_3, initT_4, Nat.reduceEqDiff, ↓reduceIte, t8], by simp only [put_t, put_t', put_m, putT_t, putT_t', putT_m, init_t, init_m, initT_0, initT_1, initT_2, initT_3, initT_4, Nat.reduceEqDiff, ↓reduceIte, t9], rfl, rfl⟩ ?_
    clear tm t1 t2 t5 t8 t9
    rintro s ⟨q, M1, ra, hq, tm, hx1, hra, hral, t1, t2, t5, t8, t9, t10, t11⟩
    have hT3 := hT2.grow hx1
    have hx' := hx.trans hx1
    by_cases hlt : q ≤ T
    · have hlt' : (q : Int) ≤ T := by omega
      obtain ⟨c0, c1, c2, c3, hml⟩ := hx'.box4
      obtain ⟨rid, f, g1, g2, g3⟩ := hT3.2.2 0 (by omega)
      rw [Nat.add_zero] at g3
      have gv : rdc M1 id 0 = some (.slice (some ⟨rid, 0, none⟩) (T + 1) f) := by rw [hT3.2.1.rd]; exact g1
      have hPA : PairsA M1 (.slice (some ⟨rid, 0, none⟩) (T + 1) f) w (j + 1) := by
        have := pairs_own (f := f) (w := w) (t := j + 1) (M := M1) (rid := rid) (e := 74) (by rw [← hTT]; exact g3)
        rw [← hTT] at this; exact this
      have i0 := iad0 (id := id) (n := vs.length) (fl := 1) (z := 0) (j := 0) rfl (by omega)
      simp (config := {implicitDefEqProofs := false, maxDischargeDepth := 20}) (disch := first | omega | (simp only [lenE]; done) | (simp only [lenE]; omega) | rfl | (simp only [lenE, markR_len]; done) | (simp only [lenE, markR_len]; omega)) only [runE, mapE, listE, resV, oneV, binA, unA, reduceCtorEq, Nat.reduceEqDiff, Nat.reduceAdd, Nat.reduceLT, Nat.reduceLeDiff, Nat.reduceMul, Nat.reduceSub, ↓reduceIte, decide_true, decide_false, Bool.true_eq_false, Bool.false_eq_true, Bool.not_true, Bool.not_false, if_true, if_false, and_true, true_and, memE, celE, w64, Nat.zero_add, Nat.add_zero, Nat.mul_one, putL, and_self, ldn, tm, t1, t2, t5, t8, t9, t10, t11, hlt', i0, gv, c0, c1, c2, c3]
      refine rcallH_rc (l4Rest_rc _ _ _ _ w hw h0 j q false (hx'.caseV hc) (hx'.intsV hu) hPA (by omega) (by omega)) ?_
      rintro r n1 ⟨rfl, nr1⟩
      simp (config := {implicitDefEqProofs := false, maxDischargeDepth := 20}) (disch := first | omega | (simp only [lenE]; done) | (simp only [lenE]; omega) | rfl | (simp only [lenE, markR_len]; done) | (simp only [lenE, markR_len]; omega)) only [runE, mapE, listE, resV, oneV, binA, unA, reduceCtorEq, Nat.reduceEqDiff, Nat.reduceAdd, Nat.reduceLT, Nat.reduceLeDiff, Nat.reduceMul, Nat.reduceSub, ↓reduceIte, decide_true, decide_false, Bool.true_eq_false, Bool.false_eq_true, Bool.not_true, Bool.not_false, if_true, if_false, and_true, true_and, memE, celE, w64, Nat.zero_add, Nat.add_zero, Nat.mul_one, putL, and_self, ldn]
      refine rcallH_rc (l4Rest_rc _ _ _ _ w hw h0 j q true ((hx'.app nr1).caseV hc) ((hx'.app nr1).intsV hu) (hPA.ext _) (by omega) (by omega)) ?_
      rintro r n2 ⟨rfl, nr2⟩
      have hra2 := (hra.ext n1).ext n2
      have ap := fun id2 h => app_genB (M := M1 ++ n1 ++ n2) (id2 := id2) (n := q) (e := 74) (sz := 2) (byt := 16) (ys := [.int .i64 (vO (regT w j (w.due j + q) false)), .int .i64 (vO (regT w j (w.due j + q) true))]) hra2 h (pairL_len _ _ _) rfl rfl (by omega) (by omega)
      simp (config := {implicitDefEqProofs := false, maxDischargeDepth := 20}) (disch := first | omega | (simp only [lenE]; done) | (simp only [lenE]; omega) | rfl | (simp only [lenE, markR_len]; done) | (simp only [lenE, markR_len]; omega)) only [runE, mapE, listE, resV, oneV, binA, unA, reduceCtorEq, Nat.reduceEqDiff, Nat.reduceAdd, Nat.reduceLT, Nat.reduceLeDiff, Nat.reduceMul, Nat.reduceSub, ↓reduceIte, decide_true, decide_false, Bool.true_eq_false, Bool.false_eq_true, Bool.not_true, Bool.not_false, if_true, if_false, and_true, true_and, memE, celE, w64, Nat.zero_add, Nat.add_zero, Nat.mul_one, putL, and_self, ldn, t1, t2, t5, t8, t9, t10, t11, bld_p, bsl_p, ap]
      have lM1 := hx1.len
      refine ⟨⟨q + 1, _, M1.length + n1.length + n2.length + 1, by omega, rfl, ((((hx1.app nr1).app nr2).dead hral).one _ _).one _ _, ?_, ?_, by simp, by simp⟩, by simp [intOf]; omega⟩
      · rw [pairL_s]
        exact Own.end' (by simp; omega)
      · omega
    · have hlt' : ¬ ((q : Int) ≤ T) := by omega
      have e : q = T + 1 := by omega
      subst e
      have ap := fun id2 h => app_consB (M := M1) (n := vs.length) (id2 := id2) (fl := 1) (e := 70) (sz := 1) (byt := 24) (ys := [.slice (some ⟨ra, 0, none⟩) (T + 1) 2]) hT3.2.1 h (by omega) rfl hT3.ones (by omega) (by omega)
      simp (config := {implicitDefEqProofs := false, maxDischargeDepth := 20}) (disch := first | omega | (simp only [lenE]; done) | (simp only [lenE]; omega) | rfl | (simp only [lenE, markR_len]; done) | (simp only [lenE, markR_len]; omega)) only [runE, mapE, listE, resV, oneV, binA, unA, reduceCtorEq, Nat.reduceEqDiff, Nat.reduceAdd, Nat.reduceLT, Nat.reduceLeDiff, Nat.reduceMul, Nat.reduceSub, ↓reduceIte, decide_true, decide_false, Bool.true_eq_false, Bool.false_eq_true, Bool.not_true, Bool.not_false, if_true, if_false, and_true, true_and, memE, celE, w64, Nat.zero_add, Nat.add_zero, Nat.mul_one, putL, and_self, ldn, tm, t1, t2, t5, t8, t9, t10, t11, hlt', bsl_sl, ap]
      have lM := hx.len
      have lM1 := hx1.len
      simp only [List.length_append, List.length_cons, List.length_nil, roM_len] at lM
      refine ⟨⟨j, _, M1.length + 1, .slice (some ⟨ra, 0, none⟩) (T + 1) 2 :: vs, by omega, by rw [List.length_cons]; omega, rfl, (hx'.app (noRo_dead noRo_nil)).one _ _, ?_, by rw [List.length_cons, Nat.add_comm 1]; exact ⟨rfl, rfl⟩⟩, by simp only [intOf]; omega⟩
      exact hT3.cons (cs := pairL w j (T + 1)) (by omega) ((hra.ext _).ext _) (fun _ _ ho => (ho.ext _).ext _) (by omega) (Own.end' (by simp)) (by simp only [Nat.add_zero]) fun i hi => by rw [show j + (i + 1) = j + 1 + i by omega]

theorem useW_s (w : Ws) (t : Nat) : useW w (t + 1) = (decide (0 < ordW w (t + 1) - w.due (t + 1)) && (useW w t || partW w t (amtW w t (ordW w t)))) := rfl
set_option maxHeartbeats 8000000 in
theorem specRegPlan_rc (m : Mem) (v u : Value) (k : Cs) (lims : List Int) (h : CaseA m v k) (h' : IntsA m u lims) :
    RC Try.prog 44 [v, u] m (AnsL m (limitedA k lims) (canB k lims)) := by
  refine rc_of_run mixed ok_spec_RegularPlan (by simp) (go_start _ _ _ ?_)
  obtain ⟨v1, v2, v3, v4, rfl, h1, h2, h3, h4⟩ := h.ro.ok
  have hc : CaseA (roM m) (.agg #[v1, v2, v3, v4]) k := ⟨_, _, _, _, rfl, h1, h2, h3, h4⟩
  have hu := h'.ro
  simp (config := {implicitDefEqProofs := false, maxDischargeDepth := 20}) (disch := first | omega | (simp only [lenE]; done) | (simp only [lenE]; omega) | rfl | (simp only [lenE, markR_len]; done) | (simp only [lenE, markR_len]; omega)) only [runE, mapE, listE, resV, oneV, binA, unA, reduceCtorEq, Nat.reduceEqDiff, Nat.reduceAdd, Nat.reduceLT, Nat.reduceLeDiff, Nat.reduceMul, Nat.reduceSub, ↓reduceIte, decide_true, decide_false, Bool.true_eq_false, Bool.false_eq_true, Bool.not_true, Bool.not_false, if_true, if_false, and_true, true_and, memE, celE, w64, Nat.zero_add, Nat.add_zero, Nat.mul_one, putL, and_self, ldn, c_spec_RegularPlan, r_spec_RegularPlan, bsl_none]
  refine callH_rc (l4Can_rc _ _ u k lims ((hc.ext _).ext _) ((hu.ext _).ext _)) ?_
  rintro r new ⟨rfl, nr1⟩
  have hx : Grow (roM m ++ [⟨.own, 28, [v1, v2, v3, v4]⟩]) (roM m ++ [⟨.own, 28, [v1, v2, v3, v4]⟩] ++ [⟨.own, 3, []⟩] ++ new) := ((Grow.refl _).one _ _).app nr1
  have o0 : OwnR (roM m ++ [⟨.own, 28, [v1, v2, v3, v4]⟩] ++ [⟨.own, 3, []⟩] ++ new) (m.length + 1) [] := OwnR.ext (OwnR.end' (l := []) (by simp [roM_len])) new
  cases hg : canB k lims with
  | false =>
    simp (config := {implicitDefEqProofs := false, maxDischargeDepth := 20}) (disch := first | omega | (simp only [lenE]; done) | (simp only [lenE]; omega) | rfl | (simp only [lenE, markR_len]; done) | (simp only [lenE, markR_len]; omega)) only [runE, mapE, listE, resV, oneV, binA, unA, reduceCtorEq, Nat.reduceEqDiff, Nat.reduceAdd, Nat.reduceLT, Nat.reduceLeDiff, Nat.reduceMul, Nat.reduceSub, ↓reduceIte, decide_true, decide_false, Bool.true_eq_false, Bool.false_eq_true, Bool.not_true, Bool.not_false, if_true, if_false, and_true, true_and, memE, celE, w64, Nat.zero_add, Nat.add_zero, Nat.mul_one, putL, and_self, ldn]
    rw [limitedA_no hg]
    exact ext_ansL hx.ext o0 (by omega) rfl (by simp)
  | true =>
    obtain ⟨hw, hway⟩ := can_way hg
    rw [limitedA_yes hg]
    obtain ⟨w, hwe⟩ : ∃ w, w = limW k lims := ⟨_, rfl⟩
    have hk : w.k = k := by rw [hwe]; rfl
    have hlm' : w.lims = lims := by rw [hwe]; rfl
    have h0 : w.lo = 0 := by rw [hwe]; rfl
    rw [← hwe] at hw hway ⊢
    clear hwe
    subst hk
    subst hlm'
    have h8 := hw.g.n8
    have hn : w.n = w.k.need.length := rfl
    have hT := hw.tot
    have hll := hw.ll
    have hpl := planW_len w
    have rw_ := reg_way hw h0 hway
    simp (config := {implicitDefEqProofs := false, maxDischargeDepth := 20}) (disch := first | omega | (simp only [lenE]; done) | (simp only [lenE]; omega) | rfl | (simp only [lenE, markR_len]; done) | (simp only [lenE, markR_len]; omega)) only [runE, mapE, listE, resV, oneV, binA, unA, reduceCtorEq, Nat.reduceEqDiff, Nat.reduceAdd, Nat.reduceLT, Nat.reduceLeDiff, Nat.reduceMul, Nat.reduceSub, ↓reduceIte, decide_true, decide_false, Bool.true_eq_false, Bool.false_eq_true, Bool.not_true, Bool.not_false, if_true, if_false, and_true, true_and, memE, celE, w64, Nat.zero_add, Nat.add_zero, Nat.mul_one, putL, and_self, ldn]
    refine callH_rc (l4Pairs_rc _ _ u w hw h0 (hx.caseV hc) (hx.intsV hu)) ?_
    rintro r new2 ⟨nr2, id, fl, rfl, hidb, hat0⟩
    simp only [List.length_append, List.length_cons, List.length_nil, roM_len] at hidb hat0
    obtain ⟨M0, hM0⟩ : ∃ M0, M0 = roM m ++ [⟨.own, 28, [v1, v2, v3, v4]⟩] ++ [⟨.own, 3, []⟩] ++ new ++ new2 := ⟨_, rfl⟩
    have hx := hx.app nr2
    have o0 := o0.ext new2
    simp (config := {implicitDefEqProofs := false, maxDischargeDepth := 20}) (disch := first | omega | (simp only [lenE]; done) | (simp only [lenE]; omega) | rfl | (simp only [lenE, markR_len]; done) | (simp only [lenE, markR_len]; omega)) only [runE, mapE, listE, resV, oneV, binA, unA, reduceCtorEq, Nat.reduceEqDiff, Nat.reduceAdd, Nat.reduceLT, Nat.reduceLeDiff, Nat.reduceMul, Nat.reduceSub, ↓reduceIte, decide_true, decide_false, Bool.true_eq_false, Bool.false_eq_true, Bool.not_true, Bool.not_false, if_true, if_false, and_true, true_and, memE, celE, w64, Nat.zero_add, Nat.add_zero, Nat.mul_one, putL, and_self, ldn]
    rw [← hM0] at hx o0 hat0 ⊢
    clear hM0
    refine loop_inv mixed (fun s => ∃ (t : Nat) (M : Mem) (ra : Nat), t ≤ w.n ∧ s.m = M ∧ Grow (roM m ++ [⟨.own, 28, [v1, v2, v3, v4]⟩]) M ∧ (∀ i k v, i ≠ m.length + 1 → rdc M0 i k = some v → rdc M i k = some v) ∧ (ra = m.length + 1 ∨ M0.length ≤ ra) ∧ M0.length ≤ M.length ∧ OwnR M ra (planW w t) ∧ m.length + 1 ≤ ra ∧ s.t 1 = u ∧ s.t 2 = .pointer (some ⟨m.length, 0, none⟩) ∧ s.t 6 = .slice (some ⟨ra, 0, none⟩) (planW w t).length 1 ∧ s.t 7 = .int .i64 (ordW w t - w.due t) ∧ s.t 8 = .bool (useW w t) ∧ s.t 9 = .slice (some ⟨id, 0, none⟩) (w.n + 1) fl ∧ s.t 10 = .int .i64 t) (fun s => w.n - (intOf (s.t 10)).toNat)
      ⟨0, _, m.length + 1, by omega, rfl, hx, fun _ _ _ _ h => h, .inl rfl, Nat.le_refl _, o0, by omega, rfl, rfl, rfl, rfl, rfl, rfl, rfl⟩ ?_
    clear o0 hx
    rintro s ⟨t, M, ra, ht, tm, hx, hK, hra0, hM0M, hra, hral, t1, t2, t6, t7, t8, t9, t10⟩
    obtain ⟨c0, c1, c2, c3, hml⟩ := hx.box4
    have i1 := hx.intsV h1
    by_cases hlt : t < w.n
    · have hlt' : (t : Int) < w.k.need.length := by omega
      obtain ⟨r, q, w1, w2, w3, w4, w5, w6, w7⟩ := pW_step hway hlt
      have g1 := rw_ (w.n - t) t (by omega)
      have b3 := getD_in hw.g.need (k := t) (by omega)
      have hlm := hw.lim t
      have hdj := hw.due t (by omega)
      have hdj1 := hw.due (t + 1) (by omega)
      have dus := due_s w hlt
      have hod := ordW_due hway ht
      have hoi := ordW_in hway ht
      have hoi1 := ordW_in hway (t := t + 1) (by omega)
      have hdz : t = 0 → w.due t = 0 := fun e => by rw [e]; rfl
      have hoz : t = 0 → ordW w t = 0 := fun e => by rw [e]; rfl
      have eo1 : ordW w (t + 1) = ordW w t + r.2 := by rw [ordW, amtW_some w1]
      have eu1 : useW w (t + 1) = (decide (0 < ordW w (t + 1) - w.due (t + 1)) && (useW w t || partW w t r.2)) := by rw [useW_s, amtW_some w1]
      rw [w1] at g1
      have g1' := g1
      rw [regT_s w hlt] at g1'
      obtain ⟨z1, z2, z3⟩ := least_some _ _ g1'
      obtain ⟨S, hS⟩ : ∃ S : Nat, ordW w t - w.due t = S := ⟨(ordW w t - w.due t).toNat, by omega⟩
      rw [hS] at t7
      simp (config := {implicitDefEqProofs := false, maxDischargeDepth := 20}) (disch := first | omega | (simp only [lenE]; done) | (simp only [lenE]; omega) | rfl | (simp only [lenE, markR_len]; done) | (simp only [lenE, markR_len]; omega)) only [runE, mapE, listE, resV, oneV, binA, unA, reduceCtorEq, Nat.reduceEqDiff, Nat.reduceAdd, Nat.reduceLT, Nat.reduceLeDiff, Nat.reduceMul, Nat.reduceSub, ↓reduceIte, decide_true, decide_false, Bool.true_eq_false, Bool.false_eq_true, Bool.not_true, Bool.not_false, if_true, if_false, and_true, true_and, memE, celE, w64, Nat.zero_add, Nat.add_zero, Nat.mul_one, putL, and_self, ldn, tm, t1, t2, t6, t7, t8, t9, t10, c0, i1.len, hlt', i1.at_ t (by omega), i1.ld t (by omega)]
      refine callH_rc (most_rc _ _ _) ?_
      rintro r0 new0 ⟨rfl, rfl⟩
      rw [List.append_nil]
      obtain ⟨X0, hX0⟩ : ∃ X0 : Nat, max (w.k.need.getD t 0 - (S : Int)) 0 = X0 := ⟨(max (w.k.need.getD t 0 - (S : Int)) 0).toNat, by omega⟩
      rw [hX0]
      simp (config := {implicitDefEqProofs := false, maxDischargeDepth := 20}) (disch := first | omega | (simp only [lenE]; done) | (simp only [lenE]; omega) | rfl | (simp only [lenE, markR_len]; done) | (simp only [lenE, markR_len]; omega)) only [runE, mapE, listE, resV, oneV, binA, unA, reduceCtorEq, Nat.reduceEqDiff, Nat.reduceAdd, Nat.reduceLT, Nat.reduceLeDiff, Nat.reduceMul, Nat.reduceSub, ↓reduceIte, decide_true, decide_false, Bool.true_eq_false, Bool.false_eq_true, Bool.not_true, Bool.not_false, if_true, if_false, and_true, true_and, memE, celE, w64, Nat.zero_add, Nat.add_zero, Nat.mul_one, putL, and_self, ldn, t1, t2, t6, t7, t8, t9, t10]
      refine loop_inv mixed (fun s => ∃ (x : Nat) (M' : Mem), X0 ≤ x ∧ x ≤ r.2 ∧ s.m = M' ∧ Grow M M' ∧ s.t 1 = u ∧ s.t 2 = .pointer (some ⟨m.length, 0, none⟩) ∧ s.t 6 = .slice (some ⟨ra, 0, none⟩) (planW w t).length 1 ∧ s.t 7 = .int .i64 S ∧ s.t 8 = .bool (useW w t) ∧ s.t 9 = .slice (some ⟨id, 0, none⟩) (w.n + 1) fl ∧ s.t 10 = .int .i64 t ∧ s.t 11 = .int .i64 x) (fun s => r.2 - (intOf (s.t 11)).toNat)
        ⟨X0, M, by omega, by omega, by simp only [put_t, put_t', put_m, putT_t, putT_t', putT_m, init_t, init_m, initT_0, initT_1, initT_2, initT_3, initT_4, Nat.reduceEqDiff, ↓reduceIte, tm], Grow.refl _, by simp only [put_t, put_t', put_m, putT_t, putT_t', putT_m, init_t, init_m, initT_0, initT_1, initT_2, initT_3, initT_4, Nat.reduceEqDiff, ↓reduceIte, t1], by simp only [put_t, put_t', put_m, putT_t, putT_t', putT_m, init_t, init_m, initT_0, initT_1, initT_2, initT_3, initT_4, Nat.reduceEqDiff, ↓reduceIte, t2], by simp only [put_t, put_t', put_m, putT_t, putT_t', putT_m, init_t, init_m, initT_0, initT_1, initT_2, initT_3, initT_4, Nat.reduceEqDiff, ↓reduceIte, t6], by simp only [put_t, put_t', put_m, putT_t, putT_t', putT_m, init_t, init_m, initT_0, initT_1, initT_2, initT_3, initT_4, Nat.reduceEqDiff, ↓reduceIte, t7], by simp only [put_t, put_t', put_m, putT_t, putT_t', putT_m, init_t, init_m, initT_0, initT_1, initT_2, initT_3, initT_4, Nat.reduceEqDiff, ↓reduceIte, t8], by simp only [put_t, put_t', put_m, putT_t, putT_t', putT_m, init_t, init_m, initT_0, initT_1, initT_2, initT_3, initT_4, Nat.reduceEqDiff, ↓reduceIte, t9], by simp only [put_t, put_t', put_m, putT_t, putT_t', putT_m, init_t, init_m, initT_0, initT_1, initT_2, initT_3, initT_4, Nat.reduceEqDiff, ↓reduceIte, t10], rfl⟩ ?_
      clear tm t1 t2 t6 t7 t8 t9 t10
      rintro s ⟨x, M2, hx0, hxr, tm, hx2, t1, t2, t6, t7, t8, t9, t10, t11⟩
      have hxx := hx.trans hx2
      obtain ⟨d0, d1, d2, d3, hml2⟩ := hxx.box4
      have j1 := hxx.intsV h1
      have ju := hxx.intsV hu
      obtain ⟨rid1, f1', k1, kl1, k2⟩ := hat0 (t + 1) (by omega)
      obtain ⟨rid0, f0', k3, kl0, k4⟩ := hat0 t (by omega)
      have k1 := hx2.rd (hK _ _ _ (by omega) k1)
      have k2 := k2.keep fun _ _ h => hx2.rd (hK _ _ _ (by omega) h)
      have k3 := hx2.rd (hK _ _ _ (by omega) k3)
      have k4 := k4.keep fun _ _ h => hx2.rd (hK _ _ _ (by omega) h)
      obtain ⟨L, hL⟩ : ∃ L : Nat, (S : Int) + x - w.k.need.getD t 0 = L := ⟨((S : Int) + x - w.k.need.getD t 0).toNat, by omega⟩
      have ia := iad0 (id := id) (n := w.n + 1) (fl := fl) (z := (t : Int) + 1) (j := t + 1) (by omega) (by omega)
      have ic := iad0 (id := id) (n := w.n + 1) (fl := fl) (z := (t : Int)) (j := t) (by omega) (by omega)
      have eo : ordW w t + x - w.due (t + 1) = (L : Int) := by omega
      have nb := nowV_bd hw hlt (ordW w t) (useW w t) x
      simp (config := {implicitDefEqProofs := false, maxDischargeDepth := 20}) (disch := first | omega | (simp only [lenE]; done) | (simp only [lenE]; omega) | rfl | (simp only [lenE, markR_len]; done) | (simp only [lenE, markR_len]; omega)) only [runE, mapE, listE, resV, oneV, binA, unA, reduceCtorEq, Nat.reduceEqDiff, Nat.reduceAdd, Nat.reduceLT, Nat.reduceLeDiff, Nat.reduceMul, Nat.reduceSub, ↓reduceIte, decide_true, decide_false, Bool.true_eq_false, Bool.false_eq_true, Bool.not_true, Bool.not_false, if_true, if_false, and_true, true_and, memE, celE, w64, Nat.zero_add, Nat.add_zero, Nat.mul_one, putL, and_self, ldn, tm, t1, t2, t6, t7, t8, t9, t10, t11, d0, j1.at_ t (by omega), j1.ld t (by omega), hL, ia, k1]
      refine callH_rc (l4Now_rc _ u _ w hw h0 t x L (ordW w t) (useW w t) ju k2.pairs hlt eo (by omega)) ?_
      rintro r3 new3 ⟨rfl, nr3⟩
      have hx3 := hxx.app nr3
      obtain ⟨e0, e1, e2, e3, hml3⟩ := hx3.box4
      have lM2 := hxx.len
      simp only [List.length_append, List.length_cons, List.length_nil, roM_len] at lM2
      by_cases hp : 0 ≤ nowV w t (ordW w t) (useW w t) x
      · have hyes := regX_yes (w := w) (t := t) (o := ordW w t) (u := useW w t) (x := x) (by omega) hp
        rw [eo] at hyes
        have hsb := stepF_bd hw.g hw.rates t (x := (x : Int)) (b := (L : Int)) (by omega) (by omega) (by omega) (by omega)
        obtain ⟨a0, a1⟩ := k4 S (by omega)
        rw [show w.due t + (S : Int) = ordW w t by omega] at a0 a1
        have a0 := rdc_ext (new := new3) a0
        have a1 := rdc_ext (new := new3) a1
        have k3 := rdc_ext (new := new3) k3
        have iS : iadA 2 (.slice (some ⟨rid0, 0, none⟩) (w.tot.toNat + 1) f0') (.int .i64 (S : Int)) = some (.pointer (some ⟨rid0, S * 2, none⟩)) := by
          have := iadA_at (id := rid0) (off := 0) (n := w.tot.toNat + 1) (fl := f0') (sz := 2) (k := .i64) (z := (S : Int)) (j := S) rfl (by omega)
          simpa using this
        obtain ⟨M3, hM3⟩ : ∃ M3, M3 = M2 ++ new3 := ⟨_, rfl⟩
        rw [← hM3] at a0 a1 k3 e0 e1 e2 e3 hx3 hml3 ⊢
        have hG3 : Grow M M3 := by rw [hM3]; exact hx2.app nr3
        clear hM3
        simp (config := {implicitDefEqProofs := false, maxDischargeDepth := 20}) (disch := first | omega | (simp only [lenE]; done) | (simp only [lenE]; omega) | rfl | (simp only [lenE, markR_len]; done) | (simp only [lenE, markR_len]; omega)) only [runE, mapE, listE, resV, oneV, binA, unA, reduceCtorEq, Nat.reduceEqDiff, Nat.reduceAdd, Nat.reduceLT, Nat.reduceLeDiff, Nat.reduceMul, Nat.reduceSub, ↓reduceIte, decide_true, decide_false, Bool.true_eq_false, Bool.false_eq_true, Bool.not_true, Bool.not_false, if_true, if_false, and_true, true_and, memE, celE, w64, Nat.zero_add, Nat.add_zero, Nat.mul_one, putL, and_self, ldn, t1, t2, t6, t7, t8, t9, t10, t11, hp, ge_iff_le, e0, e1, e2, e3, ic, k3, iS, a0, a1]
        refine rcallH_rc (l4Step_rc _ _ w.k t x (L : Int) (hx3.caseV hc) hw.g (by omega) (by omega) (by omega) (by omega) (by omega) w.rates) ?_
        rintro r4 new4 ⟨rfl, nr4⟩
        generalize stepF w.k w.rates t x (L : Int) = C at *
        simp (config := {implicitDefEqProofs := false, maxDischargeDepth := 20}) (disch := first | omega | (simp only [lenE]; done) | (simp only [lenE]; omega) | rfl | (simp only [lenE, markR_len]; done) | (simp only [lenE, markR_len]; omega)) only [runE, mapE, listE, resV, oneV, binA, unA, reduceCtorEq, Nat.reduceEqDiff, Nat.reduceAdd, Nat.reduceLT, Nat.reduceLeDiff, Nat.reduceMul, Nat.reduceSub, ↓reduceIte, decide_true, decide_false, Bool.true_eq_false, Bool.false_eq_true, Bool.not_true, Bool.not_false, if_true, if_false, and_true, true_and, memE, celE, w64, Nat.zero_add, Nat.add_zero, Nat.mul_one, putL, and_self, ldn, t1, t2, t6, t7, t8, t9, t10, t11]
        have hC := l4Cost_rc (M3 ++ new4) (vO (regT w t (ordW w t) false)) (vO (regT w t (ordW w t) true)) (useW w t)
        rw [show (if useW w t = true then vO (regT w t (ordW w t) true) else vO (regT w t (ordW w t) false)) = r.1 by
          rw [show (if useW w t = true then vO (regT w t (ordW w t) true) else vO (regT w t (ordW w t) false)) = vO (regT w t (ordW w t) (useW w t)) by cases useW w t <;> rfl, g1]; rfl] at hC
        refine rcallH_rc hC ?_
        rintro r5 new5 ⟨rfl, nr5⟩
        have hx5 := (hx3.app nr4).app nr5
        have hG5 := (hG3.app nr4).app nr5
        obtain ⟨M5, hM5⟩ : ∃ M5, M5 = M3 ++ new4 ++ new5 := ⟨_, rfl⟩
        rw [← hM5] at hx5 hG5 ⊢
        clear hM5
        by_cases heq' : C + nowV w t (ordW w t) (useW w t) x = r.1
        · have hxe : x = r.2 := by
            rcases Nat.lt_or_ge x r.2 with h | h
            · have := (z3 x _ (by omega) hyes).2 h
              omega
            · omega
          have heq : (C + nowV w t (ordW w t) (useW w t) x == r.1) = true := by rw [heq']; simp
          have pl := hpl t
          have hra5 := hG5.own hra
          have lM5 := hx5.len
          simp only [List.length_append, List.length_cons, List.length_nil, roM_len] at lM5
          obtain ⟨f0, -, -, -, hml5⟩ := hx5.box4
          have j2 := hx5.intsV h1
          have ju5 := hx5.intsV hu
          have hG := hx5.dead (id := ra) (by simp [roM_len]; omega)
          have hRd : ∀ i k v, i ≠ m.length + 1 → rdc M0 i k = some v → rdc (M5.set ra deadB ++ [⟨.own, 3, [.int .i64 (x : Int)]⟩] ++ [⟨.own, 3, (planW w t ++ [(x : Int)]).map (Value.int .i64)⟩]) i k = some v := fun i k v hne hv => by
            have hl := rdc_lt' hv
            have h5 := hG5.rd (hK i k v hne hv)
            refine rdc_ext (rdc_ext ?_)
            unfold rdc at h5 ⊢
            rw [List.getElem?_set_ne (by omega)]; exact h5
          have hb := app_genH (x := (x : Int)) (id2 := M5.length) (n := (planW w t).length) hra5 (by omega) rfl rfl
          have ep : planW w (t + 1) = planW w t ++ [(x : Int)] := by rw [planW, amtW_some w1, ← hxe]
          have hL1 : ordW w (t + 1) - w.due (t + 1) = (L : Int) := by omega
          rw [hL1, ← hxe] at eu1
          by_cases hL0 : (0 : Int) < (L : Int)
          · cases hu0 : useW w t with
            | true =>
              rw [hu0] at t8 eu1 heq
              simp (config := {implicitDefEqProofs := false, maxDischargeDepth := 20}) (disch := first | omega | (simp only [lenE]; done) | (simp only [lenE]; omega) | rfl | (simp only [lenE, markR_len]; done) | (simp only [lenE, markR_len]; omega)) only [runE, mapE, listE, resV, oneV, binA, unA, reduceCtorEq, Nat.reduceEqDiff, Nat.reduceAdd, Nat.reduceLT, Nat.reduceLeDiff, Nat.reduceMul, Nat.reduceSub, ↓reduceIte, decide_true, decide_false, Bool.true_eq_false, Bool.false_eq_true, Bool.not_true, Bool.not_false, if_true, if_false, and_true, true_and, memE, celE, w64, Nat.zero_add, Nat.add_zero, Nat.mul_one, putL, and_self, ldn, t1, t2, t6, t7, t8, t9, t10, t11, heq, bsl_one, hb, f0, j2.at_ t (by omega), j2.ld t (by omega), hL, goG_undef, gt_iff_lt, hL0]
              refine ⟨⟨t + 1, _, _, by omega, rfl, (hG.one _ _).one _ _, hRd, .inr ?_, ?_, ?_, ?_, by rw [ep, List.length_append, List.length_singleton], by rw [hL1], by rw [eu1]; rw [decide_eq_true hL0]; rfl, by simp⟩, by simp [intOf]; omega⟩
              · have := hG5.len; omega
              · have := hG5.len; simp; omega
              · rw [ep]; exact OwnR.end' (by simp)
              · omega
            | false =>
              rw [hu0] at t8 eu1 heq
              by_cases hxp : (0 : Int) < (x : Int)
              · by_cases hxl : (x : Int) < w.lims.getD t 0
                · have epw : partW w t x = true := by unfold partW; rw [decide_eq_true (by omega), decide_eq_true (by omega)]; rfl
                  simp (config := {implicitDefEqProofs := false, maxDischargeDepth := 20}) (disch := first | omega | (simp only [lenE]; done) | (simp only [lenE]; omega) | rfl | (simp only [lenE, markR_len]; done) | (simp only [lenE, markR_len]; omega)) only [runE, mapE, listE, resV, oneV, binA, unA, reduceCtorEq, Nat.reduceEqDiff, Nat.reduceAdd, Nat.reduceLT, Nat.reduceLeDiff, Nat.reduceMul, Nat.reduceSub, ↓reduceIte, decide_true, decide_false, Bool.true_eq_false, Bool.false_eq_true, Bool.not_true, Bool.not_false, if_true, if_false, and_true, true_and, memE, celE, w64, Nat.zero_add, Nat.add_zero, Nat.mul_one, putL, and_self, ldn, t1, t2, t6, t7, t8, t9, t10, t11, heq, bsl_one, hb, f0, j2.at_ t (by omega), j2.ld t (by omega), hL, goG_undef, gt_iff_lt, hL0, hxp, ju5.at_ t (by omega), ju5.ld t (by omega), hxl]
                  refine ⟨⟨t + 1, _, _, by omega, rfl, (hG.one _ _).one _ _, hRd, .inr ?_, ?_, ?_, ?_, by rw [ep, List.length_append, List.length_singleton], by rw [hL1], by rw [eu1]; rw [decide_eq_true hL0, epw]; rfl, by simp⟩, by simp [intOf]; omega⟩
                  · have := hG5.len; omega
                  · have := hG5.len; simp; omega
                  · rw [ep]; exact OwnR.end' (by simp)
                  · omega
                · have epw : partW w t x = false := by unfold partW; rw [decide_eq_false (show ¬ (x < w.lim t) by omega)]; simp
                  simp (config := {implicitDefEqProofs := false, maxDischargeDepth := 20}) (disch := first | omega | (simp only [lenE]; done) | (simp only [lenE]; omega) | rfl | (simp only [lenE, markR_len]; done) | (simp only [lenE, markR_len]; omega)) only [runE, mapE, listE, resV, oneV, binA, unA, reduceCtorEq, Nat.reduceEqDiff, Nat.reduceAdd, Nat.reduceLT, Nat.reduceLeDiff, Nat.reduceMul, Nat.reduceSub, ↓reduceIte, decide_true, decide_false, Bool.true_eq_false, Bool.false_eq_true, Bool.not_true, Bool.not_false, if_true, if_false, and_true, true_and, memE, celE, w64, Nat.zero_add, Nat.add_zero, Nat.mul_one, putL, and_self, ldn, t1, t2, t6, t7, t8, t9, t10, t11, heq, bsl_one, hb, f0, j2.at_ t (by omega), j2.ld t (by omega), hL, goG_undef, gt_iff_lt, hL0, hxp, ju5.at_ t (by omega), ju5.ld t (by omega), hxl]
                  refine ⟨⟨t + 1, _, _, by omega, rfl, (hG.one _ _).one _ _, hRd, .inr ?_, ?_, ?_, ?_, by rw [ep, List.length_append, List.length_singleton], by rw [hL1], by rw [eu1]; rw [decide_eq_true hL0, epw]; rfl, by simp⟩, by simp [intOf]; omega⟩
                  · have := hG5.len; omega
                  · have := hG5.len; simp; omega
                  · rw [ep]; exact OwnR.end' (by simp)
                  · omega
              · have epw : partW w t x = false := by unfold partW; rw [decide_eq_false (show ¬ (0 < x) by omega)]; simp
                simp (config := {implicitDefEqProofs := false, maxDischargeDepth := 20}) (disch := first | omega | (simp only [lenE]; done) | (simp only [lenE]; omega) | rfl | (simp only [lenE, markR_len]; done) | (simp only [lenE, markR_len]; omega)) only [runE, mapE, listE, resV, oneV, binA, unA, reduceCtorEq, Nat.reduceEqDiff, Nat.reduceAdd, Nat.reduceLT, Nat.reduceLeDiff, Nat.reduceMul, Nat.reduceSub, ↓reduceIte, decide_true, decide_false, Bool.true_eq_false, Bool.false_eq_true, Bool.not_true, Bool.not_false, if_true, if_false, and_true, true_and, memE, celE, w64, Nat.zero_add, Nat.add_zero, Nat.mul_one, putL, and_self, ldn, t1, t2, t6, t7, t8, t9, t10, t11, heq, bsl_one, hb, f0, j2.at_ t (by omega), j2.ld t (by omega), hL, goG_undef, gt_iff_lt, hL0, hxp]
                refine ⟨⟨t + 1, _, _, by omega, rfl, (hG.one _ _).one _ _, hRd, .inr ?_, ?_, ?_, ?_, by rw [ep, List.length_append, List.length_singleton], by rw [hL1], by rw [eu1]; rw [decide_eq_true hL0, epw]; rfl, by simp⟩, by simp [intOf]; omega⟩
                · have := hG5.len; omega
                · have := hG5.len; simp; omega
                · rw [ep]; exact OwnR.end' (by simp)
                · omega
          · have eu2 : useW w (t + 1) = false := by rw [eu1, decide_eq_false hL0]; rfl
            simp (config := {implicitDefEqProofs := false, maxDischargeDepth := 20}) (disch := first | omega | (simp only [lenE]; done) | (simp only [lenE]; omega) | rfl | (simp only [lenE, markR_len]; done) | (simp only [lenE, markR_len]; omega)) only [runE, mapE, listE, resV, oneV, binA, unA, reduceCtorEq, Nat.reduceEqDiff, Nat.reduceAdd, Nat.reduceLT, Nat.reduceLeDiff, Nat.reduceMul, Nat.reduceSub, ↓reduceIte, decide_true, decide_false, Bool.true_eq_false, Bool.false_eq_true, Bool.not_true, Bool.not_false, if_true, if_false, and_true, true_and, memE, celE, w64, Nat.zero_add, Nat.add_zero, Nat.mul_one, putL, and_self, ldn, t1, t2, t6, t7, t8, t9, t10, t11, heq, bsl_one, hb, f0, j2.at_ t (by omega), j2.ld t (by omega), hL, goG_undef, gt_iff_lt, hL0]
            refine ⟨⟨t + 1, _, _, by omega, rfl, (hG.one _ _).one _ _, hRd, .inr ?_, ?_, ?_, ?_, by rw [ep, List.length_append, List.length_singleton], by rw [hL1], by rw [eu1]; rw [decide_eq_false hL0]; rfl, by simp⟩, by simp [intOf]; omega⟩
            · have := hG5.len; omega
            · have := hG5.len; simp; omega
            · rw [ep]; exact OwnR.end' (by simp)
            · omega
        · have heq : (C + nowV w t (ordW w t) (useW w t) x == r.1) = false := by simpa using heq'
          have hne : x ≠ r.2 := fun e => heq' (by rw [← e, hyes] at z2; exact Option.some.inj z2)
          simp (config := {implicitDefEqProofs := false, maxDischargeDepth := 20}) (disch := first | omega | (simp only [lenE]; done) | (simp only [lenE]; omega) | rfl | (simp only [lenE, markR_len]; done) | (simp only [lenE, markR_len]; omega)) only [runE, mapE, listE, resV, oneV, binA, unA, reduceCtorEq, Nat.reduceEqDiff, Nat.reduceAdd, Nat.reduceLT, Nat.reduceLeDiff, Nat.reduceMul, Nat.reduceSub, ↓reduceIte, decide_true, decide_false, Bool.true_eq_false, Bool.false_eq_true, Bool.not_true, Bool.not_false, if_true, if_false, and_true, true_and, memE, celE, w64, Nat.zero_add, Nat.add_zero, Nat.mul_one, putL, and_self, ldn, t1, t2, t6, t7, t8, t9, t10, t11, heq]
          exact ⟨⟨x + 1, _, by omega, by omega, rfl, hG5, by simp⟩, by simp [intOf]; omega⟩
      · have hne : x ≠ r.2 := fun e => by
          rw [← e, regX_no hw hlt (by omega)] at z2
          cases z2
        simp (config := {implicitDefEqProofs := false, maxDischargeDepth := 20}) (disch := first | omega | (simp only [lenE]; done) | (simp only [lenE]; omega) | rfl | (simp only [lenE, markR_len]; done) | (simp only [lenE, markR_len]; omega)) only [runE, mapE, listE, resV, oneV, binA, unA, reduceCtorEq, Nat.reduceEqDiff, Nat.reduceAdd, Nat.reduceLT, Nat.reduceLeDiff, Nat.reduceMul, Nat.reduceSub, ↓reduceIte, decide_true, decide_false, Bool.true_eq_false, Bool.false_eq_true, Bool.not_true, Bool.not_false, if_true, if_false, and_true, true_and, memE, celE, w64, Nat.zero_add, Nat.add_zero, Nat.mul_one, putL, and_self, ldn, t1, t2, t6, t7, t8, t9, t10, t11, hp, ge_iff_le, goG_undef]
        exact ⟨⟨x + 1, _, by omega, by omega, rfl, hx2.app nr3, by simp⟩, by simp [intOf]; omega⟩
    · have hlt' : ¬ ((t : Int) < w.k.need.length) := by omega
      have e : t = w.n := by omega
      subst e
      have pl := hpl w.n
      simp (config := {implicitDefEqProofs := false, maxDischargeDepth := 20}) (disch := first | omega | (simp only [lenE]; done) | (simp only [lenE]; omega) | rfl | (simp only [lenE, markR_len]; done) | (simp only [lenE, markR_len]; omega)) only [runE, mapE, listE, resV, oneV, binA, unA, reduceCtorEq, Nat.reduceEqDiff, Nat.reduceAdd, Nat.reduceLT, Nat.reduceLeDiff, Nat.reduceMul, Nat.reduceSub, ↓reduceIte, decide_true, decide_false, Bool.true_eq_false, Bool.false_eq_true, Bool.not_true, Bool.not_false, if_true, if_false, and_true, true_and, memE, celE, w64, Nat.zero_add, Nat.add_zero, Nat.mul_one, putL, and_self, ldn, tm, t1, t2, t6, t7, t8, t9, t10, c0, i1.len, hlt']
      exact ext_ansL hx.ext hra (by omega) rfl (by rw [← hn]; omega)

theorem implRegPlan_rc (m : Mem) (v u : Value) (k : Cs) (lims : List Int) (h : CaseA m v k) (h' : IntsA m u lims) :
    RC Try.prog 45 [v, u] m (AnsL m (limitedA k lims) (canB k lims)) := by
  refine rc_of_run mixed ok_impl_RegularPlan (by simp) (go_start _ _ _ ?_)
  obtain ⟨v1, v2, v3, v4, rfl, h1, h2, h3, h4⟩ := h.ro.ok
  have hc : CaseA (roM m) (.agg #[v1, v2, v3, v4]) k := ⟨_, _, _, _, rfl, h1, h2, h3, h4⟩
  have hu := h'.ro
  simp (config := {implicitDefEqProofs := false, maxDischargeDepth := 20}) (disch := first | omega | (simp only [lenE]; done) | (simp only [lenE]; omega) | rfl | (simp only [lenE, markR_len]; done) | (simp only [lenE, markR_len]; omega)) only [runE, mapE, listE, resV, oneV, binA, unA, reduceCtorEq, Nat.reduceEqDiff, Nat.reduceAdd, Nat.reduceLT, Nat.reduceLeDiff, Nat.reduceMul, Nat.reduceSub, ↓reduceIte, decide_true, decide_false, Bool.true_eq_false, Bool.false_eq_true, Bool.not_true, Bool.not_false, if_true, if_false, and_true, true_and, memE, celE, w64, Nat.zero_add, Nat.add_zero, Nat.mul_one, putL, and_self, ldn, c_impl_RegularPlan, r_impl_RegularPlan]
  refine callH_rc (implLimited_rc _ _ u k lims (hc.ext _) (hu.ext _)) ?_
  intro r new hA
  obtain ⟨d1, f1, rfl, l1, o1, hle, nr⟩ := hA.row
  have hx : Grow (roM m ++ [⟨.own, 28, [v1, v2, v3, v4]⟩]) (roM m ++ [⟨.own, 28, [v1, v2, v3, v4]⟩] ++ new) := (Grow.refl _).app nr
  simp only [List.length_append, List.length_cons, List.length_nil, roM_len] at l1
  simp (config := {implicitDefEqProofs := false, maxDischargeDepth := 20}) (disch := first | omega | (simp only [lenE]; done) | (simp only [lenE]; omega) | rfl | (simp only [lenE, markR_len]; done) | (simp only [lenE, markR_len]; omega)) only [runE, mapE, listE, resV, oneV, binA, unA, reduceCtorEq, Nat.reduceEqDiff, Nat.reduceAdd, Nat.reduceLT, Nat.reduceLeDiff, Nat.reduceMul, Nat.reduceSub, ↓reduceIte, decide_true, decide_false, Bool.true_eq_false, Bool.false_eq_true, Bool.not_true, Bool.not_false, if_true, if_false, and_true, true_and, memE, celE, w64, Nat.zero_add, Nat.add_zero, Nat.mul_one, putL, and_self, ldn, ext_2_0, ext_2_1]
  exact ext_ansL hx.ext o1 (by omega) rfl hle
end Go.Proofs.Ytiggehfopfpkbaa.Ab
