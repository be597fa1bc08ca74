/- Whether a plan is regular: IsRegular. -/
import Derived.Test.YtiggehfopfpkbaaAbPart
import Derived.Test.YtiggehfopfpkbaaAbTab
namespace Go.Proofs.Ytiggehfopfpkbaa.Ab
open Go Go.RowKit
set_option linter.unusedVariables false
set_option linter.unusedSimpArgs false

/-- Whether one of the d numbers from a on is x. -/
def hasX (l : List Int) (x : Int) (a : Nat) : Nat → Bool
  | 0 => false
  | d + 1 => hasX l x a d || (x == l.getD (a + d) 0)
theorem hasX_mono {l : List Int} {x : Int} {a d : Nat} (h : hasX l x a d = true) : ∀ e, d ≤ e → hasX l x a e = true := by
  intro e he
  induction e with
  | zero => rw [show d = 0 by omega] at h; exact h
  | succ e ih =>
    by_cases hd : d = e + 1
    · rw [← hd]; exact h
    · rw [hasX, ih (by omega)]; rfl
theorem hasX_cut {l : List Int} {x : Int} {a b : Nat} : ∀ d, a + d ≤ b → hasX (cutL l a b) x 0 d = hasX l x a d := by
  intro d
  induction d with
  | zero => intro _; rfl
  | succ d ih => intro h; rw [hasX, hasX, ih (by omega), Nat.zero_add, cutL_at (by omega)]
/-- A 0 between any of the first places and the next. -/
def gapsB (L st : List Int) : Nat → Bool
  | 0 => true
  | i + 1 => gapsB L st i && hasX st 0 (L.getD i 0).toNat ((L.getD (i + 1) 0).toNat - (L.getD i 0).toNat)
theorem gapsB_no {L st : List Int} {i : Nat} (h : gapsB L st i = false) : ∀ j, i ≤ j → gapsB L st j = false := by
  intro j hj
  induction j with
  | zero => rw [show i = 0 by omega] at h; exact h
  | succ j ih =>
    by_cases e : i = j + 1
    · rw [← e]; exact h
    · rw [gapsB, ih (by omega)]; rfl
def regA (k : Cs) (lims plan : List Int) : Bool := gapsB (partL lims plan) (stocksL plan k.need) ((partL lims plan).length - 1)

theorem index_rc (m : Mem) (v : Value) (l : List Int) (x : Int) (h : IntsA m v l) (h8 : l.length ≤ 1048576) :
    RC Try.prog 119 [v, .int .i64 x] m fun r new => (∃ z : Int, r = .int .i64 z ∧ decide (0 ≤ z) = hasX l x 0 l.length) ∧ new = [] := by
  refine rc_of_run mixed ok_slices_Index (by simp) (go_start _ _ _ ?_)
  have i := h.ro
  simp (config := {implicitDefEqProofs := false, maxDischargeDepth := 20}) (disch := first | omega | (simp only [lenE]; done) | (simp only [lenE]; omega) | rfl | (simp only [lenE, markR_len]; done) | (simp only [lenE, markR_len]; omega)) only [runE, mapE, listE, resV, oneV, binA, unA, reduceCtorEq, Nat.reduceEqDiff, Nat.reduceAdd, Nat.reduceLT, Nat.reduceLeDiff, Nat.reduceMul, Nat.reduceSub, ↓reduceIte, decide_true, decide_false, Bool.true_eq_false, Bool.false_eq_true, Bool.not_true, Bool.not_false, if_true, if_false, and_true, true_and, memE, celE, w64, Nat.zero_add, Nat.add_zero, Nat.mul_one, putL, and_self, ldn, c_slices_Index, r_slices_Index, i.len]
  refine loop_inv mixed (fun s => ∃ j : Nat, j ≤ l.length ∧ hasX l x 0 j = false ∧ s.t 0 = v ∧ s.t 1 = .int .i64 x ∧ s.t 7 = .int .i64 l.length ∧ s.t 8 = .int .i64 j ∧ s.m = roM m) (fun s => l.length - (intOf (s.t 8)).toNat)
    ⟨0, by omega, rfl, rfl, rfl, rfl, rfl, rfl⟩ ?_
  rintro s ⟨j, hj, hno, t0, t1, t7, t8, tm⟩
  by_cases hlt : j < l.length
  · have hlt' : (j : Int) < l.length := by omega
    cases hb : (x == l.getD j 0) with
    | true =>
      have e : hasX l x 0 (j + 1) = true := by rw [hasX, Nat.zero_add, hb, hno]; rfl
      simp (config := {implicitDefEqProofs := false, maxDischargeDepth := 20}) (disch := first | omega | (simp only [lenE]; done) | (simp only [lenE]; omega) | rfl | (simp only [lenE, markR_len]; done) | (simp only [lenE, markR_len]; omega)) only [runE, mapE, listE, resV, oneV, binA, unA, reduceCtorEq, Nat.reduceEqDiff, Nat.reduceAdd, Nat.reduceLT, Nat.reduceLeDiff, Nat.reduceMul, Nat.reduceSub, ↓reduceIte, decide_true, decide_false, Bool.true_eq_false, Bool.false_eq_true, Bool.not_true, Bool.not_false, if_true, if_false, and_true, true_and, memE, celE, w64, Nat.zero_add, Nat.add_zero, Nat.mul_one, putL, and_self, ldn, tm, t0, t1, t7, t8, hlt', i.at_ j hlt, i.ld j hlt, hb]
      exact newQ_nil ⟨⟨_, rfl, by rw [hasX_mono e _ (by omega)]; simp⟩, rfl⟩
    | false =>
      simp (config := {implicitDefEqProofs := false, maxDischargeDepth := 20}) (disch := first | omega | (simp only [lenE]; done) | (simp only [lenE]; omega) | rfl | (simp only [lenE, markR_len]; done) | (simp only [lenE, markR_len]; omega)) only [runE, mapE, listE, resV, oneV, binA, unA, reduceCtorEq, Nat.reduceEqDiff, Nat.reduceAdd, Nat.reduceLT, Nat.reduceLeDiff, Nat.reduceMul, Nat.reduceSub, ↓reduceIte, decide_true, decide_false, Bool.true_eq_false, Bool.false_eq_true, Bool.not_true, Bool.not_false, if_true, if_false, and_true, true_and, memE, celE, w64, Nat.zero_add, Nat.add_zero, Nat.mul_one, putL, and_self, ldn, tm, t0, t1, t7, t8, hlt', i.at_ j hlt, i.ld j hlt, hb]
      exact ⟨⟨j + 1, by omega, by rw [hasX, Nat.zero_add, hb, hno]; rfl, by simp⟩, by simp [intOf]; omega⟩
  · have hlt' : ¬ ((j : Int) < l.length) := by omega
    have e : j = l.length := by omega
    subst e
    simp (config := {implicitDefEqProofs := false, maxDischargeDepth := 20}) (disch := first | omega | (simp only [lenE]; done) | (simp only [lenE]; omega) | rfl | (simp only [lenE, markR_len]; done) | (simp only [lenE, markR_len]; omega)) only [runE, mapE, listE, resV, oneV, binA, unA, reduceCtorEq, Nat.reduceEqDiff, Nat.reduceAdd, Nat.reduceLT, Nat.reduceLeDiff, Nat.reduceMul, Nat.reduceSub, ↓reduceIte, decide_true, decide_false, Bool.true_eq_false, Bool.false_eq_true, Bool.not_true, Bool.not_false, if_true, if_false, and_true, true_and, memE, celE, w64, Nat.zero_add, Nat.add_zero, Nat.mul_one, putL, and_self, ldn, tm, t0, t1, t7, t8, hlt']
    exact newQ_nil ⟨⟨_, rfl, by rw [hno]; decide⟩, rfl⟩
theorem contains_rc (m : Mem) (v : Value) (l : List Int) (x : Int) (h : IntsA m v l) (h8 : l.length ≤ 1048576) :
    RC Try.prog 81 [v, .int .i64 x] m fun r new => r = .bool (hasX l x 0 l.length) ∧ new = [] := by
  refine rc_of_run mixed ok_slices_Contains (by simp) (go_start _ _ _ ?_)
  have i := h.ro
  simp (config := {implicitDefEqProofs := false, maxDischargeDepth := 20}) (disch := first | omega | (simp only [lenE]; done) | (simp only [lenE]; omega) | rfl | (simp only [lenE, markR_len]; done) | (simp only [lenE, markR_len]; omega)) only [runE, mapE, listE, resV, oneV, binA, unA, reduceCtorEq, Nat.reduceEqDiff, Nat.reduceAdd, Nat.reduceLT, Nat.reduceLeDiff, Nat.reduceMul, Nat.reduceSub, ↓reduceIte, decide_true, decide_false, Bool.true_eq_false, Bool.false_eq_true, Bool.not_true, Bool.not_false, if_true, if_false, and_true, true_and, memE, celE, w64, Nat.zero_add, Nat.add_zero, Nat.mul_one, putL, and_self, ldn, c_slices_Contains, r_slices_Contains]
  refine callH_rc (index_rc _ v l x i h8) ?_
  rintro r new ⟨⟨z, rfl, hz⟩, rfl⟩
  rw [List.append_nil]
  simp (config := {implicitDefEqProofs := false, maxDischargeDepth := 20}) (disch := first | omega | (simp only [lenE]; done) | (simp only [lenE]; omega) | rfl | (simp only [lenE, markR_len]; done) | (simp only [lenE, markR_len]; omega)) only [runE, mapE, listE, resV, oneV, binA, unA, reduceCtorEq, Nat.reduceEqDiff, Nat.reduceAdd, Nat.reduceLT, Nat.reduceLeDiff, Nat.reduceMul, Nat.reduceSub, ↓reduceIte, decide_true, decide_false, Bool.true_eq_false, Bool.false_eq_true, Bool.not_true, Bool.not_false, if_true, if_false, and_true, true_and, memE, celE, w64, Nat.zero_add, Nat.add_zero, Nat.mul_one, putL, and_self, ldn, ge_iff_le]
  exact newQ_nil ⟨by rw [hz], rfl⟩

set_option maxHeartbeats 4000000 in
theorem l4Regular_rc (m : Mem) (v u u2 : Value) (k : Cs) (lims plan : List Int) (h : CaseA m v k) (h' : IntsA m u lims) (h'' : IntsA m u2 plan) (hk : keptB k lims plan = true) :
    RC Try.prog 80 [v, u, u2] m (AnsV (.bool (regA k lims plan))) := by
  refine rc_of_run mixed ok_spec_l4Regular (by simp) (go_start _ _ _ ?_)
  obtain ⟨v1, v2, v3, v4, rfl, h1, h2, h3, h4⟩ := h.ro.ok
  have hc : CaseA (roM m) (.agg #[v1, v2, v3, v4]) k := ⟨_, _, _, _, rfl, h1, h2, h3, h4⟩
  have hu := h'.ro
  have hp := h''.ro
  obtain ⟨b1, b2, b3⟩ := kept_iff hk
  obtain ⟨hg, hpl⟩ := two_iff.1 b1
  simp (config := {implicitDefEqProofs := false, maxDischargeDepth := 20}) (disch := first | omega | (simp only [lenE]; done) | (simp only [lenE]; omega) | rfl | (simp only [lenE, markR_len]; done) | (simp only [lenE, markR_len]; omega)) only [runE, mapE, listE, resV, oneV, binA, unA, reduceCtorEq, Nat.reduceEqDiff, Nat.reduceAdd, Nat.reduceLT, Nat.reduceLeDiff, Nat.reduceMul, Nat.reduceSub, ↓reduceIte, decide_true, decide_false, Bool.true_eq_false, Bool.false_eq_true, Bool.not_true, Bool.not_false, if_true, if_false, and_true, true_and, memE, celE, w64, Nat.zero_add, Nat.add_zero, Nat.mul_one, putL, and_self, ldn, c_spec_l4Regular, r_spec_l4Regular]
  refine rcallH_rc (l4Partial_rc _ u u2 lims plan (hu.ext _) (hp.ext _) b2 b3) ?_
  intro r new hA
  obtain ⟨ia, fa, rfl, ga, oA, la, nr1⟩ := hA.row
  have hx : Grow (roM m ++ [⟨.own, 28, [v1, v2, v3, v4]⟩]) (roM m ++ [⟨.own, 28, [v1, v2, v3, v4]⟩] ++ new) := (Grow.refl _).app nr1
  simp (config := {implicitDefEqProofs := false, maxDischargeDepth := 20}) (disch := first | omega | (simp only [lenE]; done) | (simp only [lenE]; omega) | rfl | (simp only [lenE, markR_len]; done) | (simp only [lenE, markR_len]; omega)) only [runE, mapE, listE, resV, oneV, binA, unA, reduceCtorEq, Nat.reduceEqDiff, Nat.reduceAdd, Nat.reduceLT, Nat.reduceLeDiff, Nat.reduceMul, Nat.reduceSub, ↓reduceIte, decide_true, decide_false, Bool.true_eq_false, Bool.false_eq_true, Bool.not_true, Bool.not_false, if_true, if_false, and_true, true_and, memE, celE, w64, Nat.zero_add, Nat.add_zero, Nat.mul_one, putL, and_self, ldn]
  refine rcallH_rc (l2Stocks_rc _ _ u2 k plan (hx.caseV hc) (hx.intsV hp) hg hpl.1 hpl.2.1) ?_
  intro r new2 hB
  obtain ⟨ib, fb, rfl, gb, oB, lb, nr2⟩ := hB.row
  have hx2 := hx.app nr2
  have hsl := stocksL_len plan k.need
  have hpin := picksI_in (partAt lims plan) plan.length
  have hpup := picksI_up (partAt lims plan) plan.length
  have hpln := picksI_len (partAt lims plan) plan.length
  unfold regA
  rw [show picksI (partAt lims plan) plan.length = partL lims plan from rfl] at hpin hpup hpln
  generalize partL lims plan = L at *
  generalize stocksL plan k.need = st at *
  have oA2 := oA.ext new2
  obtain ⟨M, hM⟩ : ∃ M, M = roM m ++ [⟨.own, 28, [v1, v2, v3, v4]⟩] ++ new ++ new2 := ⟨_, rfl⟩
  simp (config := {implicitDefEqProofs := false, maxDischargeDepth := 20}) (disch := first | omega | (simp only [lenE]; done) | (simp only [lenE]; omega) | rfl | (simp only [lenE, markR_len]; done) | (simp only [lenE, markR_len]; omega)) only [runE, mapE, listE, resV, oneV, binA, unA, reduceCtorEq, Nat.reduceEqDiff, Nat.reduceAdd, Nat.reduceLT, Nat.reduceLeDiff, Nat.reduceMul, Nat.reduceSub, ↓reduceIte, decide_true, decide_false, Bool.true_eq_false, Bool.false_eq_true, Bool.not_true, Bool.not_false, if_true, if_false, and_true, true_and, memE, celE, w64, Nat.zero_add, Nat.add_zero, Nat.mul_one, putL, and_self, ldn]
  rw [← hM] at oA2 oB hx2 ⊢
  clear hM
  have iA := oA2.ints (by omega) fa
  have iB := oB.ints (by omega) fb
  refine loop_inv mixed (fun s => ∃ q : Nat, q ≤ L.length - 1 ∧ gapsB L st q = true ∧ s.t 7 = .slice (some ⟨ia, 0, none⟩) L.length fa ∧ s.t 8 = .slice (some ⟨ib, 0, none⟩) st.length fb ∧ s.t 9 = .int .i64 ((q : Int) + 1) ∧ s.m = M) (fun s => L.length + 1 - (intOf (s.t 9)).toNat)
    ⟨0, by omega, rfl, rfl, rfl, rfl, rfl⟩ ?_
  rintro s ⟨q, hq, hgq, t7, t8, t9, tm⟩
  by_cases hlt : q + 1 < L.length
  · have hlt' : (q : Int) + 1 < L.length := by omega
    have hup := hpup q hlt
    have hpin' : ∀ x ∈ L, 0 ≤ x ∧ x ≤ (plan.length : Int) - 1 := fun x hx => by have := hpin x hx; omega
    have in1 := getD_in hpin' (k := q) (by omega)
    have in2 := getD_in hpin' (k := q + 1) (by omega)
    obtain ⟨a, ha⟩ : ∃ a : Nat, L.getD q 0 = a := ⟨(L.getD q 0).toNat, by omega⟩
    obtain ⟨b, hb⟩ : ∃ b : Nat, L.getD (q + 1) 0 = b := ⟨(L.getD (q + 1) 0).toNat, by omega⟩
    have hgs : gapsB L st (q + 1) = hasX st 0 a (b - a) := by rw [gapsB, hgq, Bool.true_and, ha, hb]; rfl
    have r1 := oA2.rd' (i := q) (by omega)
    have r2 := oA2.rd' (i := q + 1) (by omega)
    rw [ha] at r1
    rw [hb] at r2
    have i1 := iad0 (id := ia) (n := L.length) (fl := fa) (z := (q : Int) + 1 - 1) (j := q) (by omega) (by omega)
    have i2 := iad0 (id := ia) (n := L.length) (fl := fa) (z := (q : Int) + 1) (j := q + 1) (by omega) (by omega)
    simp (config := {implicitDefEqProofs := false, maxDischargeDepth := 20}) (disch := first | omega | (simp only [lenE]; done) | (simp only [lenE]; omega) | rfl | (simp only [lenE, markR_len]; done) | (simp only [lenE, markR_len]; omega)) only [runE, mapE, listE, resV, oneV, binA, unA, reduceCtorEq, Nat.reduceEqDiff, Nat.reduceAdd, Nat.reduceLT, Nat.reduceLeDiff, Nat.reduceMul, Nat.reduceSub, ↓reduceIte, decide_true, decide_false, Bool.true_eq_false, Bool.false_eq_true, Bool.not_true, Bool.not_false, if_true, if_false, and_true, true_and, memE, celE, w64, Nat.zero_add, Nat.add_zero, Nat.mul_one, putL, and_self, ldn, tm, t7, t8, t9, hlt', i1, r1]
    refine loop_inv mixed (fun s => ∃ d : Nat, d ≤ b - a ∧ s.t 7 = .slice (some ⟨ia, 0, none⟩) L.length fa ∧ s.t 8 = .slice (some ⟨ib, 0, none⟩) st.length fb ∧ s.t 9 = .int .i64 ((q : Int) + 1) ∧ s.t 10 = .bool (hasX st 0 a d) ∧ s.t 11 = .int .i64 ((a + d : Nat) : Int) ∧ s.m = M) (fun s => b - (intOf (s.t 11)).toNat)
      ⟨0, by omega, by simp only [put_t, put_t', put_m, putT_t, putT_t', putT_m, init_t, init_m, initT_0, initT_1, initT_2, initT_3, initT_4, Nat.reduceEqDiff, ↓reduceIte, t7], by simp only [put_t, put_t', put_m, putT_t, putT_t', putT_m, init_t, init_m, initT_0, initT_1, initT_2, initT_3, initT_4, Nat.reduceEqDiff, ↓reduceIte, t8], by simp only [put_t, put_t', put_m, putT_t, putT_t', putT_m, init_t, init_m, initT_0, initT_1, initT_2, initT_3, initT_4, Nat.reduceEqDiff, ↓reduceIte, t9], rfl, rfl, by simp only [put_t, put_t', put_m, putT_t, putT_t', putT_m, init_t, init_m, initT_0, initT_1, initT_2, initT_3, initT_4, Nat.reduceEqDiff, ↓reduceIte, tm]⟩ ?_
    clear tm t7 t8 t9
    rintro s ⟨d, hd, t7, t8, t9, t10, t11, tm⟩
    by_cases hld : a + d < b
    · have hld' : ((a + d : Nat) : Int) < b := by omega
      have es : ((a + (d + 1) : Nat) : Int) = ((a + d : Nat) : Int) + 1 := by omega
      cases hX : hasX st 0 a d with
      | true =>
        rw [hX] at t10
        have e : hasX st 0 a (d + 1) = true := by rw [hasX, hX]; rfl
        simp (config := {implicitDefEqProofs := false, maxDischargeDepth := 20}) (disch := first | omega | (simp only [lenE]; done) | (simp only [lenE]; omega) | rfl | (simp only [lenE, markR_len]; done) | (simp only [lenE, markR_len]; omega)) only [runE, mapE, listE, resV, oneV, binA, unA, reduceCtorEq, Nat.reduceEqDiff, Nat.reduceAdd, Nat.reduceLT, Nat.reduceLeDiff, Nat.reduceMul, Nat.reduceSub, ↓reduceIte, decide_true, decide_false, Bool.true_eq_false, Bool.false_eq_true, Bool.not_true, Bool.not_false, if_true, if_false, and_true, true_and, memE, celE, w64, Nat.zero_add, Nat.add_zero, Nat.mul_one, putL, and_self, ldn, tm, t7, t8, t9, t10, t11, i2, r2, hld']
        exact ⟨⟨d + 1, by omega, by rw [e], by rw [es]⟩, by simp only [intOf]; omega⟩
      | false =>
        rw [hX] at t10
        by_cases hz : st.getD (a + d) 0 = 0
        · have e : hasX st 0 a (d + 1) = true := by rw [hasX, hX, hz]; rfl
          have hz' : (st.getD (a + d) 0 == 0) = true := by rw [hz]; rfl
          simp (config := {implicitDefEqProofs := false, maxDischargeDepth := 20}) (disch := first | omega | (simp only [lenE]; done) | (simp only [lenE]; omega) | rfl | (simp only [lenE, markR_len]; done) | (simp only [lenE, markR_len]; omega)) only [runE, mapE, listE, resV, oneV, binA, unA, reduceCtorEq, Nat.reduceEqDiff, Nat.reduceAdd, Nat.reduceLT, Nat.reduceLeDiff, Nat.reduceMul, Nat.reduceSub, ↓reduceIte, decide_true, decide_false, Bool.true_eq_false, Bool.false_eq_true, Bool.not_true, Bool.not_false, if_true, if_false, and_true, true_and, memE, celE, w64, Nat.zero_add, Nat.add_zero, Nat.mul_one, putL, and_self, ldn, tm, t7, t8, t9, t10, t11, i2, r2, hld', iB.at_ (a + d) (by omega), iB.ld (a + d) (by omega), hz']
          exact ⟨⟨d + 1, by omega, by rw [e], by rw [es]⟩, by simp only [intOf]; omega⟩
        · have hz' : (st.getD (a + d) 0 == 0) = false := by simpa using hz
          have e : hasX st 0 a (d + 1) = false := by rw [hasX, hX, Bool.false_or, beq_eq_false_iff_ne]; exact fun h => hz h.symm
          simp (config := {implicitDefEqProofs := false, maxDischargeDepth := 20}) (disch := first | omega | (simp only [lenE]; done) | (simp only [lenE]; omega) | rfl | (simp only [lenE, markR_len]; done) | (simp only [lenE, markR_len]; omega)) only [runE, mapE, listE, resV, oneV, binA, unA, reduceCtorEq, Nat.reduceEqDiff, Nat.reduceAdd, Nat.reduceLT, Nat.reduceLeDiff, Nat.reduceMul, Nat.reduceSub, ↓reduceIte, decide_true, decide_false, Bool.true_eq_false, Bool.false_eq_true, Bool.not_true, Bool.not_false, if_true, if_false, and_true, true_and, memE, celE, w64, Nat.zero_add, Nat.add_zero, Nat.mul_one, putL, and_self, ldn, tm, t7, t8, t9, t10, t11, i2, r2, hld', iB.at_ (a + d) (by omega), iB.ld (a + d) (by omega), hz']
          exact ⟨⟨d + 1, by omega, by rw [e], by rw [es]⟩, by simp only [intOf]; omega⟩
    · have hld' : ¬ (((a + d : Nat) : Int) < b) := by omega
      have e : d = b - a := by omega
      rw [e, ← hgs] at t10
      cases hX : gapsB L st (q + 1) with
      | true =>
        rw [hX] at t10
        simp (config := {implicitDefEqProofs := false, maxDischargeDepth := 20}) (disch := first | omega | (simp only [lenE]; done) | (simp only [lenE]; omega) | rfl | (simp only [lenE, markR_len]; done) | (simp only [lenE, markR_len]; omega)) only [runE, mapE, listE, resV, oneV, binA, unA, reduceCtorEq, Nat.reduceEqDiff, Nat.reduceAdd, Nat.reduceLT, Nat.reduceLeDiff, Nat.reduceMul, Nat.reduceSub, ↓reduceIte, decide_true, decide_false, Bool.true_eq_false, Bool.false_eq_true, Bool.not_true, Bool.not_false, if_true, if_false, and_true, true_and, memE, celE, w64, Nat.zero_add, Nat.add_zero, Nat.mul_one, putL, and_self, ldn, tm, t7, t8, t9, t10, t11, i2, r2, hld']
        exact ⟨⟨q + 1, by omega, hX, rfl⟩, by simp only [intOf]; omega⟩
      | false =>
        rw [hX] at t10
        rw [gapsB_no hX _ (by omega)]
        simp (config := {implicitDefEqProofs := false, maxDischargeDepth := 20}) (disch := first | omega | (simp only [lenE]; done) | (simp only [lenE]; omega) | rfl | (simp only [lenE, markR_len]; done) | (simp only [lenE, markR_len]; omega)) only [runE, mapE, listE, resV, oneV, binA, unA, reduceCtorEq, Nat.reduceEqDiff, Nat.reduceAdd, Nat.reduceLT, Nat.reduceLeDiff, Nat.reduceMul, Nat.reduceSub, ↓reduceIte, decide_true, decide_false, Bool.true_eq_false, Bool.false_eq_true, Bool.not_true, Bool.not_false, if_true, if_false, and_true, true_and, memE, celE, w64, Nat.zero_add, Nat.add_zero, Nat.mul_one, putL, and_self, ldn, tm, t7, t8, t9, t10, t11, i2, r2, hld']
        exact ext_ansV hx2.ext rfl
  · have hlt' : ¬ ((q : Int) + 1 < L.length) := by omega
    have e : q = L.length - 1 := by omega
    rw [← e, hgq]
    simp (config := {implicitDefEqProofs := false, maxDischargeDepth := 20}) (disch := first | omega | (simp only [lenE]; done) | (simp only [lenE]; omega) | rfl | (simp only [lenE, markR_len]; done) | (simp only [lenE, markR_len]; omega)) only [runE, mapE, listE, resV, oneV, binA, unA, reduceCtorEq, Nat.reduceEqDiff, Nat.reduceAdd, Nat.reduceLT, Nat.reduceLeDiff, Nat.reduceMul, Nat.reduceSub, ↓reduceIte, decide_true, decide_false, Bool.true_eq_false, Bool.false_eq_true, Bool.not_true, Bool.not_false, if_true, if_false, and_true, true_and, memE, celE, w64, Nat.zero_add, Nat.add_zero, Nat.mul_one, putL, and_self, ldn, tm, t7, t8, t9, hlt']
    exact ext_ansV hx2.ext rfl

theorem specRegular_rc (m : Mem) (v u u2 : Value) (k : Cs) (lims plan : List Int) (h : CaseA m v k) (h' : IntsA m u lims) (h'' : IntsA m u2 plan) :
    RC Try.prog 42 [v, u, u2] m (AnsV (.tuple #[.bool (keptB k lims plan && regA k lims plan), .bool (keptB k lims plan)])) := by
  refine rc_of_run mixed ok_spec_IsRegular (by simp) (go_start _ _ _ ?_)
  obtain ⟨v1, v2, v3, v4, rfl, h1, h2, h3, h4⟩ := h.ro.ok
  have hc : CaseA (roM m) (.agg #[v1, v2, v3, v4]) k := ⟨_, _, _, _, rfl, h1, h2, h3, h4⟩
  have hu := h'.ro
  have hp := h''.ro
  simp (config := {implicitDefEqProofs := false, maxDischargeDepth := 20}) (disch := first | omega | (simp only [lenE]; done) | (simp only [lenE]; omega) | rfl | (simp only [lenE, markR_len]; done) | (simp only [lenE, markR_len]; omega)) only [runE, mapE, listE, resV, oneV, binA, unA, reduceCtorEq, Nat.reduceEqDiff, Nat.reduceAdd, Nat.reduceLT, Nat.reduceLeDiff, Nat.reduceMul, Nat.reduceSub, ↓reduceIte, decide_true, decide_false, Bool.true_eq_false, Bool.false_eq_true, Bool.not_true, Bool.not_false, if_true, if_false, and_true, true_and, memE, celE, w64, Nat.zero_add, Nat.add_zero, Nat.mul_one, putL, and_self, ldn, c_spec_IsRegular, r_spec_IsRegular]
  refine callH_rc (l4Kept_rc _ _ u u2 k lims plan (hc.ext _) (hu.ext _) (hp.ext _)) ?_
  rintro r new ⟨rfl, nr1⟩
  have hx : Grow (roM m ++ [⟨.own, 28, [v1, v2, v3, v4]⟩]) (roM m ++ [⟨.own, 28, [v1, v2, v3, v4]⟩] ++ new) := (Grow.refl _).app nr1
  cases hg : keptB k lims plan with
  | false =>
    simp (config := {implicitDefEqProofs := false, maxDischargeDepth := 20}) (disch := first | omega | (simp only [lenE]; done) | (simp only [lenE]; omega) | rfl | (simp only [lenE, markR_len]; done) | (simp only [lenE, markR_len]; omega)) only [runE, mapE, listE, resV, oneV, binA, unA, reduceCtorEq, Nat.reduceEqDiff, Nat.reduceAdd, Nat.reduceLT, Nat.reduceLeDiff, Nat.reduceMul, Nat.reduceSub, ↓reduceIte, decide_true, decide_false, Bool.true_eq_false, Bool.false_eq_true, Bool.not_true, Bool.not_false, if_true, if_false, and_true, true_and, memE, celE, w64, Nat.zero_add, Nat.add_zero, Nat.mul_one, putL, and_self, ldn]
    exact ext_ansV hx.ext rfl
  | true =>
    simp (config := {implicitDefEqProofs := false, maxDischargeDepth := 20}) (disch := first | omega | (simp only [lenE]; done) | (simp only [lenE]; omega) | rfl | (simp only [lenE, markR_len]; done) | (simp only [lenE, markR_len]; omega)) only [runE, mapE, listE, resV, oneV, binA, unA, reduceCtorEq, Nat.reduceEqDiff, Nat.reduceAdd, Nat.reduceLT, Nat.reduceLeDiff, Nat.reduceMul, Nat.reduceSub, ↓reduceIte, decide_true, decide_false, Bool.true_eq_false, Bool.false_eq_true, Bool.not_true, Bool.not_false, if_true, if_false, and_true, true_and, memE, celE, w64, Nat.zero_add, Nat.add_zero, Nat.mul_one, putL, and_self, ldn]
    refine callH_rc (l4Regular_rc _ _ u u2 k lims plan (hx.caseV hc) (hx.intsV hu) (hx.intsV hp) hg) ?_
    rintro r new2 ⟨rfl, nr2⟩
    simp (config := {implicitDefEqProofs := false, maxDischargeDepth := 20}) (disch := first | omega | (simp only [lenE]; done) | (simp only [lenE]; omega) | rfl | (simp only [lenE, markR_len]; done) | (simp only [lenE, markR_len]; omega)) only [runE, mapE, listE, resV, oneV, binA, unA, reduceCtorEq, Nat.reduceEqDiff, Nat.reduceAdd, Nat.reduceLT, Nat.reduceLeDiff, Nat.reduceMul, Nat.reduceSub, ↓reduceIte, decide_true, decide_false, Bool.true_eq_false, Bool.false_eq_true, Bool.not_true, Bool.not_false, if_true, if_false, and_true, true_and, memE, celE, w64, Nat.zero_add, Nat.add_zero, Nat.mul_one, putL, and_self, ldn]
    exact ext_ansV (hx.app nr2).ext (by simp)

set_option maxHeartbeats 4000000 in
theorem implRegular_rc (m : Mem) (v u u2 : Value) (k : Cs) (lims plan : List Int) (h : CaseA m v k) (h' : IntsA m u lims) (h'' : IntsA m u2 plan) :
    RC Try.prog 43 [v, u, u2] m (AnsV (.tuple #[.bool (keptB k lims plan && regA k lims plan), .bool (keptB k lims plan)])) := by
  refine rc_of_run mixed ok_impl_IsRegular (by simp) (go_start _ _ _ ?_)
  obtain ⟨v1, v2, v3, v4, rfl, h1, h2, h3, h4⟩ := h.ro.ok
  have hc : CaseA (roM m) (.agg #[v1, v2, v3, v4]) k := ⟨_, _, _, _, rfl, h1, h2, h3, h4⟩
  have hu := h'.ro
  have hp := h''.ro
  simp (config := {implicitDefEqProofs := false, maxDischargeDepth := 20}) (disch := first | omega | (simp only [lenE]; done) | (simp only [lenE]; omega) | rfl | (simp only [lenE, markR_len]; done) | (simp only [lenE, markR_len]; omega)) only [runE, mapE, listE, resV, oneV, binA, unA, reduceCtorEq, Nat.reduceEqDiff, Nat.reduceAdd, Nat.reduceLT, Nat.reduceLeDiff, Nat.reduceMul, Nat.reduceSub, ↓reduceIte, decide_true, decide_false, Bool.true_eq_false, Bool.false_eq_true, Bool.not_true, Bool.not_false, if_true, if_false, and_true, true_and, memE, celE, w64, Nat.zero_add, Nat.add_zero, Nat.mul_one, putL, and_self, ldn, c_impl_IsRegular, r_impl_IsRegular]
  refine callH_rc (implPartial_rc _ _ u u2 k lims plan (hc.ext _) (hu.ext _) (hp.ext _)) ?_
  intro r new hA
  obtain ⟨ia, fa, rfl, ga, oA, la, nr1⟩ := hA.row
  have hx : Grow (roM m ++ [⟨.own, 28, [v1, v2, v3, v4]⟩]) (roM m ++ [⟨.own, 28, [v1, v2, v3, v4]⟩] ++ new) := (Grow.refl _).app nr1
  cases hk : keptB k lims plan with
  | false =>
    simp (config := {implicitDefEqProofs := false, maxDischargeDepth := 20}) (disch := first | omega | (simp only [lenE]; done) | (simp only [lenE]; omega) | rfl | (simp only [lenE, markR_len]; done) | (simp only [lenE, markR_len]; omega)) only [runE, mapE, listE, resV, oneV, binA, unA, reduceCtorEq, Nat.reduceEqDiff, Nat.reduceAdd, Nat.reduceLT, Nat.reduceLeDiff, Nat.reduceMul, Nat.reduceSub, ↓reduceIte, decide_true, decide_false, Bool.true_eq_false, Bool.false_eq_true, Bool.not_true, Bool.not_false, if_true, if_false, and_true, true_and, memE, celE, w64, Nat.zero_add, Nat.add_zero, Nat.mul_one, putL, and_self, ldn, ext_2_0, ext_2_1]
    exact ext_ansV hx.ext rfl
  | true =>
    obtain ⟨b1, b2, b3⟩ := kept_iff hk
    obtain ⟨hg, hpl⟩ := two_iff.1 b1
    simp (config := {implicitDefEqProofs := false, maxDischargeDepth := 20}) (disch := first | omega | (simp only [lenE]; done) | (simp only [lenE]; omega) | rfl | (simp only [lenE, markR_len]; done) | (simp only [lenE, markR_len]; omega)) only [runE, mapE, listE, resV, oneV, binA, unA, reduceCtorEq, Nat.reduceEqDiff, Nat.reduceAdd, Nat.reduceLT, Nat.reduceLeDiff, Nat.reduceMul, Nat.reduceSub, ↓reduceIte, decide_true, decide_false, Bool.true_eq_false, Bool.false_eq_true, Bool.not_true, Bool.not_false, if_true, if_false, and_true, true_and, memE, celE, w64, Nat.zero_add, Nat.add_zero, Nat.mul_one, putL, and_self, ldn, ext_2_0, ext_2_1]
    have C := implStocksOf_rc _ _ u2 k plan (hx.caseV hc) (hx.intsV hp)
    rw [stocksA_yes b1, b1] at C
    refine callH_rc C ?_
    intro r new2 hB
    obtain ⟨ib, fb, rfl, gb, oB, lb, nr2⟩ := hB.row
    have hx2 := hx.app nr2
    rw [partialA_yes hk] at oA la ⊢
    have hsl := stocksL_len plan k.need
    have hpin := picksI_in (partAt lims plan) plan.length
    have hpup := picksI_up (partAt lims plan) plan.length
    have hpln := picksI_len (partAt lims plan) plan.length
    unfold regA
    rw [show picksI (partAt lims plan) plan.length = partL lims plan from rfl] at hpin hpup hpln
    generalize partL lims plan = L at *
    generalize stocksL plan k.need = st at *
    have oA2 := oA.ext new2
    obtain ⟨M, hM⟩ : ∃ M, M = roM m ++ [⟨.own, 28, [v1, v2, v3, v4]⟩] ++ new ++ new2 := ⟨_, rfl⟩
    simp (config := {implicitDefEqProofs := false, maxDischargeDepth := 20}) (disch := first | omega | (simp only [lenE]; done) | (simp only [lenE]; omega) | rfl | (simp only [lenE, markR_len]; done) | (simp only [lenE, markR_len]; omega)) only [runE, mapE, listE, resV, oneV, binA, unA, reduceCtorEq, Nat.reduceEqDiff, Nat.reduceAdd, Nat.reduceLT, Nat.reduceLeDiff, Nat.reduceMul, Nat.reduceSub, ↓reduceIte, decide_true, decide_false, Bool.true_eq_false, Bool.false_eq_true, Bool.not_true, Bool.not_false, if_true, if_false, and_true, true_and, memE, celE, w64, Nat.zero_add, Nat.add_zero, Nat.mul_one, putL, and_self, ldn, ext_2_0, ext_2_1]
    rw [← hM] at oA2 oB hx2 ⊢
    clear hM C
    have iA := oA2.ints (by omega) fa
    have iB := oB.ints (by omega) fb
    refine loop_inv mixed (fun s => ∃ q : Nat, q ≤ L.length - 1 ∧ gapsB L st q = true ∧ s.t 8 = .slice (some ⟨ia, 0, none⟩) L.length fa ∧ s.t 10 = .slice (some ⟨ib, 0, none⟩) st.length fb ∧ s.t 12 = .int .i64 ((q : Int) + 1) ∧ s.m = M) (fun s => L.length + 1 - (intOf (s.t 12)).toNat)
      ⟨0, by omega, rfl, rfl, rfl, rfl, rfl⟩ ?_
    rintro s ⟨q, hq, hgq, t8, t10, t12, tm⟩
    by_cases hlt : q + 1 < L.length
    · have hlt' : (q : Int) + 1 < L.length := by omega
      have hup := hpup q hlt
      have hpin' : ∀ x ∈ L, 0 ≤ x ∧ x ≤ (plan.length : Int) - 1 := fun x hx => by have := hpin x hx; omega
      have in1 := getD_in hpin' (k := q) (by omega)
      have in2 := getD_in hpin' (k := q + 1) (by omega)
      obtain ⟨a, ha⟩ : ∃ a : Nat, L.getD q 0 = a := ⟨(L.getD q 0).toNat, by omega⟩
      obtain ⟨b, hb⟩ : ∃ b : Nat, L.getD (q + 1) 0 = b := ⟨(L.getD (q + 1) 0).toNat, by omega⟩
      have hgs : gapsB L st (q + 1) = hasX st 0 a (b - a) := by rw [gapsB, hgq, Bool.true_and, ha, hb]; rfl
      have r1 := oA2.rd' (i := q) (by omega)
      have r2 := oA2.rd' (i := q + 1) (by omega)
      rw [ha] at r1
      rw [hb] at r2
      have i1 := iad0 (id := ia) (n := L.length) (fl := fa) (z := (q : Int) + 1 - 1) (j := q) (by omega) (by omega)
      have i2 := iad0 (id := ia) (n := L.length) (fl := fa) (z := (q : Int) + 1) (j := q + 1) (by omega) (by omega)
      obtain ⟨sv, e1, e2⟩ := iB.cut (lo := a) (hi := b) (by omega) (by omega)
      simp (config := {implicitDefEqProofs := false, maxDischargeDepth := 20}) (disch := first | omega | (simp only [lenE]; done) | (simp only [lenE]; omega) | rfl | (simp only [lenE, markR_len]; done) | (simp only [lenE, markR_len]; omega)) only [runE, mapE, listE, resV, oneV, binA, unA, reduceCtorEq, Nat.reduceEqDiff, Nat.reduceAdd, Nat.reduceLT, Nat.reduceLeDiff, Nat.reduceMul, Nat.reduceSub, ↓reduceIte, decide_true, decide_false, Bool.true_eq_false, Bool.false_eq_true, Bool.not_true, Bool.not_false, if_true, if_false, and_true, true_and, memE, celE, w64, Nat.zero_add, Nat.add_zero, Nat.mul_one, putL, and_self, ldn, tm, t8, t10, t12, hlt', i1, r1, i2, r2, e1]
      refine rcallH_rc (contains_rc _ _ _ 0 e2 (by rw [cutL_len (by omega)]; omega)) ?_
      rintro r new3 ⟨rfl, rfl⟩
      rw [List.append_nil, cutL_len (show b ≤ st.length by omega), hasX_cut _ (by omega), ← hgs]
      cases hX : gapsB L st (q + 1) with
      | true =>
        simp (config := {implicitDefEqProofs := false, maxDischargeDepth := 20}) (disch := first | omega | (simp only [lenE]; done) | (simp only [lenE]; omega) | rfl | (simp only [lenE, markR_len]; done) | (simp only [lenE, markR_len]; omega)) only [runE, mapE, listE, resV, oneV, binA, unA, reduceCtorEq, Nat.reduceEqDiff, Nat.reduceAdd, Nat.reduceLT, Nat.reduceLeDiff, Nat.reduceMul, Nat.reduceSub, ↓reduceIte, decide_true, decide_false, Bool.true_eq_false, Bool.false_eq_true, Bool.not_true, Bool.not_false, if_true, if_false, and_true, true_and, memE, celE, w64, Nat.zero_add, Nat.add_zero, Nat.mul_one, putL, and_self, ldn, t8, t10, t12]
        exact ⟨⟨q + 1, by omega, hX, rfl⟩, by simp only [intOf]; omega⟩
      | false =>
        rw [gapsB_no hX _ (by omega)]
        simp (config := {implicitDefEqProofs := false, maxDischargeDepth := 20}) (disch := first | omega | (simp only [lenE]; done) | (simp only [lenE]; omega) | rfl | (simp only [lenE, markR_len]; done) | (simp only [lenE, markR_len]; omega)) only [runE, mapE, listE, resV, oneV, binA, unA, reduceCtorEq, Nat.reduceEqDiff, Nat.reduceAdd, Nat.reduceLT, Nat.reduceLeDiff, Nat.reduceMul, Nat.reduceSub, ↓reduceIte, decide_true, decide_false, Bool.true_eq_false, Bool.false_eq_true, Bool.not_true, Bool.not_false, if_true, if_false, and_true, true_and, memE, celE, w64, Nat.zero_add, Nat.add_zero, Nat.mul_one, putL, and_self, ldn, t8, t10, t12]
        exact ext_ansV hx2.ext rfl
    · have hlt' : ¬ ((q : Int) + 1 < L.length) := by omega
      have e : q = L.length - 1 := by omega
      rw [← e, hgq]
      simp (config := {implicitDefEqProofs := false, maxDischargeDepth := 20}) (disch := first | omega | (simp only [lenE]; done) | (simp only [lenE]; omega) | rfl | (simp only [lenE, markR_len]; done) | (simp only [lenE, markR_len]; omega)) only [runE, mapE, listE, resV, oneV, binA, unA, reduceCtorEq, Nat.reduceEqDiff, Nat.reduceAdd, Nat.reduceLT, Nat.reduceLeDiff, Nat.reduceMul, Nat.reduceSub, ↓reduceIte, decide_true, decide_false, Bool.true_eq_false, Bool.false_eq_true, Bool.not_true, Bool.not_false, if_true, if_false, and_true, true_and, memE, celE, w64, Nat.zero_add, Nat.add_zero, Nat.mul_one, putL, and_self, ldn, tm, t8, t10, t12, hlt']
      exact ext_ansV hx2.ext rfl
end Go.Proofs.Ytiggehfopfpkbaa.Ab
