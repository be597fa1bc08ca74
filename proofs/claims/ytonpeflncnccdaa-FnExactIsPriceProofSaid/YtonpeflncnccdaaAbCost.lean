/- The parts of a plan's cost: PlanCost, CostParts. -/
import Derived.Test.YtonpeflncnccdaaAbEarly
namespace Go.Proofs.Ytonpeflncnccdaa.Ab
open Go Go.RowKit
set_option linter.unusedVariables false
set_option linter.unusedSimpArgs false

theorem cSet_s (k : Cs) (plan : List Int) (t : Nat) : cSet k plan (t + 1) = if 0 < plan.getD t 0 then cSet k plan t + k.setup.getD t 0 else cSet k plan t := rfl
theorem cUnit_s (k : Cs) (plan : List Int) (t : Nat) : cUnit k plan (t + 1) = cUnit k plan t + k.unit.getD t 0 * plan.getD t 0 := rfl
theorem cHold_s (k : Cs) (plan : List Int) (t : Nat) : cHold k plan (t + 1) = cHold k plan t + k.hold.getD t 0 * stk plan k.need t := rfl
/-- What keeps the sums small. -/
theorem cost_bounds {k : Cs} {plan : List Int} (hg : Good k) (hp : ∀ x ∈ plan, 0 ≤ x ∧ x ≤ 160) (t : Nat) (ht : t ≤ 8) :
    (0 ≤ cSet k plan t ∧ cSet k plan t ≤ 1000) ∧ (0 ≤ cUnit k plan t ∧ cUnit k plan t ≤ 20000) ∧ (-20000 ≤ cHold k plan t ∧ cHold k plan t ≤ 200000) := by
  have h1 := cSet_bound (plan := plan) hg t
  have h2 := cUnit_bound hg hp t
  have h3 := cHold_bound hg hp t (by omega)
  refine ⟨⟨h1.1, by omega⟩, ⟨h2.1, by omega⟩, by omega, by omega⟩
theorem prod_bounds {k : Cs} {plan : List Int} (hg : Good k) (hp : ∀ x ∈ plan, 0 ≤ x ∧ x ≤ 160) (t : Nat) (ht : t < 8) :
    (0 ≤ k.unit.getD t 0 * plan.getD t 0 ∧ k.unit.getD t 0 * plan.getD t 0 ≤ 1440) ∧ (-1620 ≤ k.hold.getD t 0 * stk plan k.need t ∧ k.hold.getD t 0 * stk plan k.need t ≤ 12960) := by
  have h1 := getD_bound (m := 9) (by omega) hg.unit t
  have h2 := getD_bound (m := 160) (by omega) hp t
  have h3 := getD_bound (m := 9) (by omega) hg.hold t
  have h4 := stk_bound hg hp t (by omega)
  refine ⟨mul_bound h1.1 h1.2 h2.1 h2.2, ?_⟩
  rcases Int.le_total 0 (stk plan k.need t) with h | h
  · have := mul_bound h3.1 h3.2 h h4.2
    omega
  · have := mul_bound h3.1 h3.2 (b := - stk plan k.need t) (n := 180) (by omega) (by omega)
    rw [Int.mul_neg] at this
    omega
/-- A block of three numbers. -/
theorem ld3 {m : Mem} {id : Nat} {a b c : Value} {e : TypeId} (h : m[id]? = some ⟨.own, e, [a, b, c]⟩) : ldA m (some 3) (.pointer (some ⟨id, 0, none⟩)) = some (.agg #[a, b, c]) := by
  simp [ldA, rdn, rdc, h]
theorem iada0 {id : Nat} : iadaA 1 3 (.pointer (some ⟨id, 0, none⟩)) (.int .i64 0) = some (.pointer (some ⟨id, 0, none⟩)) := rfl
theorem iada1 {id : Nat} : iadaA 1 3 (.pointer (some ⟨id, 0, none⟩)) (.int .i64 1) = some (.pointer (some ⟨id, 1, none⟩)) := rfl
theorem iada2 {id : Nat} : iadaA 1 3 (.pointer (some ⟨id, 0, none⟩)) (.int .i64 2) = some (.pointer (some ⟨id, 2, none⟩)) := rfl
theorem bld_nil (z : List Value) : bldA z [] = some (.agg z.toArray) := rfl

theorem l2Parts_rc (m : Mem) (v u : Value) (k : Cs) (plan : List Int) (h : CaseA m v k) (h' : IntsA m u plan) (hg : Good k) (hl : plan.length = k.need.length) (hp : ∀ x ∈ plan, 0 ≤ x ∧ x ≤ 160) :
    RC Try.prog 74 [v, u] m (AnsV (.agg #[.int .i64 (cSet k plan plan.length), .int .i64 (cUnit k plan plan.length), .int .i64 (cHold k plan plan.length)])) := by
  refine rc_of_run mixed ok_spec_l2Parts (by simp) (go_start _ _ _ ?_)
  obtain ⟨v1, v2, v3, v4, rfl, h1, h2, h3, h4⟩ := h.ro.ok
  have hu := h'.ro
  have h8 := hg.n8
  simp (config := {implicitDefEqProofs := false, maxDischargeDepth := 20}) (disch := first | omega | (simp only [lenE]; done) | (simp only [lenE]; omega) | rfl | (simp only [lenE, markR_len]; done) | (simp only [lenE, markR_len]; omega)) only [runE, mapE, listE, initT_5, initT_6, initT_7, initT_8, resV, oneV, binA, unA, reduceCtorEq, Nat.reduceEqDiff, Nat.reduceAdd, Nat.reduceLT, Nat.reduceLeDiff, Nat.reduceMul, Nat.reduceSub, ↓reduceIte, decide_true, decide_false, Bool.true_eq_false, Bool.false_eq_true, Bool.not_true, Bool.not_false, if_true, if_false, and_true, true_and, memE, celE, w64, Nat.zero_add, Nat.add_zero, Nat.mul_one, putL, and_self, ldn, c_spec_l2Parts, r_spec_l2Parts, bld_nil]
  refine callH_rc (l2Stocks_rc _ _ u k plan ⟨_, _, _, _, rfl, (h1.ext _).ext _, (h2.ext _).ext _, (h3.ext _).ext _, (h4.ext _).ext _⟩ ((hu.ext _).ext _) hg hl hp) ?_
  intro r new hA
  obtain ⟨sid, fl, rfl, hge, hown, hle, nrn⟩ := hA.row
  have hsl := stocksL_len plan k.need
  have hat : ∀ t, t < plan.length → (stocksL plan k.need).getD t 0 = stk plan k.need t := fun t ht => stocksL_at ht
  generalize stocksL plan k.need = st at *
  simp (config := {implicitDefEqProofs := false, maxDischargeDepth := 20}) (disch := first | omega | (simp only [lenE]; done) | (simp only [lenE]; omega) | rfl | (simp only [lenE, markR_len]; done) | (simp only [lenE, markR_len]; omega)) only [runE, mapE, listE, initT_5, initT_6, initT_7, initT_8, resV, oneV, binA, unA, reduceCtorEq, Nat.reduceEqDiff, Nat.reduceAdd, Nat.reduceLT, Nat.reduceLeDiff, Nat.reduceMul, Nat.reduceSub, ↓reduceIte, decide_true, decide_false, Bool.true_eq_false, Bool.false_eq_true, Bool.not_true, Bool.not_false, if_true, if_false, and_true, true_and, memE, celE, w64, Nat.zero_add, Nat.add_zero, Nat.mul_one, putL, and_self, ldn, bld_nil]
  refine loop_inv mixed (fun s => ∃ t : Nat, t ≤ plan.length ∧ s.t 1 = u ∧ s.t 2 = .pointer (some ⟨m.length, 0, none⟩) ∧ s.t 4 = .pointer (some ⟨m.length + 1, 0, none⟩) ∧ s.t 5 = .pointer (some ⟨m.length + 1 + 1 + new.length, 0, none⟩) ∧ s.t 6 = .slice (some ⟨sid, 0, none⟩) st.length fl ∧ s.t 7 = .int .i64 t ∧
    s.m = roM m ++ [⟨.own, 28, [v1, v2, v3, v4]⟩] ++ [⟨.own, 76, [.int .i64 0, .int .i64 0, .int .i64 0]⟩] ++ new ++ [⟨.own, 76, [.int .i64 (cSet k plan t), .int .i64 (cUnit k plan t), .int .i64 (cHold k plan t)]⟩]) (fun s => plan.length - (intOf (s.t 7)).toNat)
    ⟨0, by omega, rfl, rfl, rfl, rfl, rfl, rfl, rfl⟩ ?_
  rintro s ⟨t, hk, t1, t2, t4, t5, t6, t7, tm⟩
  by_cases hlt : t < plan.length
  · have hlt' : (t : Int) < plan.length := by omega
    obtain ⟨e1, e2, e3, -, -⟩ := hown.ints (by omega) fl
    have q4 : ∀ b : Blk, ldA (roM m ++ [⟨.own, 28, [v1, v2, v3, v4]⟩] ++ [⟨.own, 76, [.int .i64 0, .int .i64 0, .int .i64 0]⟩] ++ new ++ [b]) none (pAt (.slice (some ⟨sid, 0, none⟩) st.length fl) t) = some (.int .i64 (stk plan k.need t)) := fun b => by
      have := ((hown.ext [b]).ints (by omega) fl).ld t (by omega)
      rw [hat t hlt] at this
      exact this
    have cb := cost_bounds hg hp t (by omega)
    have cb2 := cost_bounds hg hp (t + 1) (by omega)
    have pb := prod_bounds hg hp t (by omega)
    have sb := getD_bound (m := 99) (by omega) hg.setup t
    by_cases hb : 0 < plan.getD t 0
    · simp (config := {implicitDefEqProofs := false, maxDischargeDepth := 20}) (disch := first | omega | (simp only [lenE]; done) | (simp only [lenE]; omega) | rfl | (simp only [lenE, markR_len]; done) | (simp only [lenE, markR_len]; omega)) only [runE, mapE, listE, initT_5, initT_6, initT_7, initT_8, resV, oneV, binA, unA, reduceCtorEq, Nat.reduceEqDiff, Nat.reduceAdd, Nat.reduceLT, Nat.reduceLeDiff, Nat.reduceMul, Nat.reduceSub, ↓reduceIte, decide_true, decide_false, Bool.true_eq_false, Bool.false_eq_true, Bool.not_true, Bool.not_false, if_true, if_false, and_true, true_and, memE, celE, w64, Nat.zero_add, Nat.add_zero, Nat.mul_one, putL, and_self, ldn, t1, t2, t4, t5, t6, t7, tm, hu.len, hu.at_ t hlt, ((((hu.ext [_]).ext [_]).ext new).ext [_]).ld t hlt, hlt', gt_iff_lt, hb, iada0, iada1, iada2, h2.at_ t (by rw [hg.ls]; omega), ((((h2.ext [_]).ext [_]).ext new).ext [_]).ld t (by rw [hg.ls]; omega), h3.at_ t (by rw [hg.lu]; omega), ((((h3.ext [_]).ext [_]).ext new).ext [_]).ld t (by rw [hg.lu]; omega), h4.at_ t (by rw [hg.lh]; omega), ((((h4.ext [_]).ext [_]).ext new).ext [_]).ld t (by rw [hg.lh]; omega), e3 t (by omega), q4]
      exact ⟨⟨t + 1, by omega, by simp, by rw [cSet_s, if_pos hb, cUnit_s, cHold_s]⟩, by simp [intOf]; omega⟩
    · simp (config := {implicitDefEqProofs := false, maxDischargeDepth := 20}) (disch := first | omega | (simp only [lenE]; done) | (simp only [lenE]; omega) | rfl | (simp only [lenE, markR_len]; done) | (simp only [lenE, markR_len]; omega)) only [runE, mapE, listE, initT_5, initT_6, initT_7, initT_8, resV, oneV, binA, unA, reduceCtorEq, Nat.reduceEqDiff, Nat.reduceAdd, Nat.reduceLT, Nat.reduceLeDiff, Nat.reduceMul, Nat.reduceSub, ↓reduceIte, decide_true, decide_false, Bool.true_eq_false, Bool.false_eq_true, Bool.not_true, Bool.not_false, if_true, if_false, and_true, true_and, memE, celE, w64, Nat.zero_add, Nat.add_zero, Nat.mul_one, putL, and_self, ldn, t1, t2, t4, t5, t6, t7, tm, hu.len, hu.at_ t hlt, ((((hu.ext [_]).ext [_]).ext new).ext [_]).ld t hlt, hlt', gt_iff_lt, hb, iada0, iada1, iada2, h2.at_ t (by rw [hg.ls]; omega), ((((h2.ext [_]).ext [_]).ext new).ext [_]).ld t (by rw [hg.ls]; omega), h3.at_ t (by rw [hg.lu]; omega), ((((h3.ext [_]).ext [_]).ext new).ext [_]).ld t (by rw [hg.lu]; omega), h4.at_ t (by rw [hg.lh]; omega), ((((h4.ext [_]).ext [_]).ext new).ext [_]).ld t (by rw [hg.lh]; omega), e3 t (by omega), q4]
      exact ⟨⟨t + 1, by omega, by simp, by rw [cSet_s, if_neg hb, cUnit_s, cHold_s]⟩, by simp [intOf]; omega⟩
  · have hlt' : ¬ ((t : Int) < plan.length) := by omega
    have e : t = plan.length := by omega
    subst e
    simp (config := {implicitDefEqProofs := false, maxDischargeDepth := 20}) (disch := first | omega | (simp only [lenE]; done) | (simp only [lenE]; omega) | rfl | (simp only [lenE, markR_len]; done) | (simp only [lenE, markR_len]; omega)) only [runE, mapE, listE, initT_5, initT_6, initT_7, initT_8, resV, oneV, binA, unA, reduceCtorEq, Nat.reduceEqDiff, Nat.reduceAdd, Nat.reduceLT, Nat.reduceLeDiff, Nat.reduceMul, Nat.reduceSub, ↓reduceIte, decide_true, decide_false, Bool.true_eq_false, Bool.false_eq_true, Bool.not_true, Bool.not_false, if_true, if_false, and_true, true_and, memE, celE, w64, Nat.zero_add, Nat.add_zero, Nat.mul_one, putL, and_self, ldn, t1, t2, t4, t5, t6, t7, tm, hu.len, hlt']
    exact ext_ansV (((((Ext.refl m).one _ _).one _ _).app nrn).one _ _) rfl

theorem costOf_def (k : Cs) (plan : List Int) : costOf k plan = cSet k plan plan.length + cUnit k plan plan.length + cHold k plan plan.length := rfl
theorem l2Cost_rc (m : Mem) (v u : Value) (k : Cs) (plan : List Int) (h : CaseA m v k) (h' : IntsA m u plan) (hg : Good k) (hl : plan.length = k.need.length) (hp : ∀ x ∈ plan, 0 ≤ x ∧ x ≤ 160) :
    RC Try.prog 51 [v, u] m (AnsV (.int .i64 (costOf k plan))) := by
  refine rc_of_run mixed ok_spec_l2Cost (by simp) (go_start _ _ _ ?_)
  obtain ⟨v1, v2, v3, v4, rfl, h1, h2, h3, h4⟩ := h.ro.ok
  have hu := h'.ro
  have h8 := hg.n8
  simp (config := {implicitDefEqProofs := false, maxDischargeDepth := 20}) (disch := first | omega | (simp only [lenE]; done) | (simp only [lenE]; omega) | rfl | (simp only [lenE, markR_len]; done) | (simp only [lenE, markR_len]; omega)) only [runE, mapE, listE, initT_5, initT_6, initT_7, initT_8, resV, oneV, binA, unA, reduceCtorEq, Nat.reduceEqDiff, Nat.reduceAdd, Nat.reduceLT, Nat.reduceLeDiff, Nat.reduceMul, Nat.reduceSub, ↓reduceIte, decide_true, decide_false, Bool.true_eq_false, Bool.false_eq_true, Bool.not_true, Bool.not_false, if_true, if_false, and_true, true_and, memE, celE, w64, Nat.zero_add, Nat.add_zero, Nat.mul_one, putL, and_self, ldn, c_spec_l2Cost, r_spec_l2Cost]
  refine callH_rc (l2Parts_rc _ _ u k plan ⟨_, _, _, _, rfl, h1.ext _, h2.ext _, h3.ext _, h4.ext _⟩ (hu.ext _) hg hl hp) ?_
  rintro r new ⟨rfl, nr⟩
  have cb := cost_bounds hg hp plan.length (by omega)
  simp (config := {implicitDefEqProofs := false, maxDischargeDepth := 20}) (disch := first | omega | (simp only [lenE]; done) | (simp only [lenE]; omega) | rfl | (simp only [lenE, markR_len]; done) | (simp only [lenE, markR_len]; omega)) only [runE, mapE, listE, initT_5, initT_6, initT_7, initT_8, resV, oneV, binA, unA, reduceCtorEq, Nat.reduceEqDiff, Nat.reduceAdd, Nat.reduceLT, Nat.reduceLeDiff, Nat.reduceMul, Nat.reduceSub, ↓reduceIte, decide_true, decide_false, Bool.true_eq_false, Bool.false_eq_true, Bool.not_true, Bool.not_false, if_true, if_false, and_true, true_and, memE, celE, w64, Nat.zero_add, Nat.add_zero, Nat.mul_one, putL, and_self, ldn, iada0, iada1, iada2]
  exact ext_ansV ((((Ext.refl m).one _ _).app nr).one _ _) rfl
def costA (k : Cs) (plan : List Int) : Int := if two k plan then costOf k plan else 0
def partA (f : Cs → List Int → Nat → Int) (k : Cs) (plan : List Int) : Int := if two k plan then f k plan plan.length else 0
theorem partA_no (f : Cs → List Int → Nat → Int) {k : Cs} {plan : List Int} (h : two k plan = false) : partA f k plan = 0 := by unfold partA; rw [h]; rfl
theorem partA_yes (f : Cs → List Int → Nat → Int) {k : Cs} {plan : List Int} (h : two k plan = true) : partA f k plan = f k plan plan.length := by unfold partA; rw [h]; rfl
theorem costA_no {k : Cs} {plan : List Int} (h : two k plan = false) : costA k plan = 0 := by unfold costA; rw [h]; rfl
theorem costA_yes {k : Cs} {plan : List Int} (h : two k plan = true) : costA k plan = costOf k plan := by unfold costA; rw [h]; rfl
theorem implCostParts_rc (m : Mem) (v u : Value) (k : Cs) (plan : List Int) (h : CaseA m v k) (h' : IntsA m u plan) :
    RC Try.prog 77 [v, u] m (AnsV (.tuple #[.int .i64 (partA cSet k plan), .int .i64 (partA cUnit k plan), .int .i64 (partA cHold k plan), .bool (two k plan)])) := by
  refine rc_of_run mixed ok_impl_CostParts (by simp) (go_start _ _ _ ?_)
  obtain ⟨v1, v2, v3, v4, rfl, h1, h2, h3, h4⟩ := h.ro.ok
  have hu := h'.ro
  simp (config := {implicitDefEqProofs := false, maxDischargeDepth := 20}) (disch := first | omega | (simp only [lenE]; done) | (simp only [lenE]; omega) | rfl | (simp only [lenE, markR_len]; done) | (simp only [lenE, markR_len]; omega)) only [runE, mapE, listE, initT_5, initT_6, initT_7, initT_8, resV, oneV, binA, unA, reduceCtorEq, Nat.reduceEqDiff, Nat.reduceAdd, Nat.reduceLT, Nat.reduceLeDiff, Nat.reduceMul, Nat.reduceSub, ↓reduceIte, decide_true, decide_false, Bool.true_eq_false, Bool.false_eq_true, Bool.not_true, Bool.not_false, if_true, if_false, and_true, true_and, memE, celE, w64, Nat.zero_add, Nat.add_zero, Nat.mul_one, putL, and_self, ldn, c_impl_CostParts, r_impl_CostParts]
  refine callH_rc (implStocksOf_rc _ _ u k plan ⟨_, _, _, _, rfl, h1.ext _, h2.ext _, h3.ext _, h4.ext _⟩ (hu.ext _)) ?_
  intro r new hA
  obtain ⟨sid, fl, rfl, hge, hown, hle, nr⟩ := hA.row
  have hx : Ext m (roM m ++ [⟨.own, 28, [v1, v2, v3, v4]⟩] ++ new) := ((Ext.refl m).one _ _).app nr
  unfold partA
  cases hg : two k plan with
  | false =>
    simp (config := {implicitDefEqProofs := false, maxDischargeDepth := 20}) (disch := first | omega | (simp only [lenE]; done) | (simp only [lenE]; omega) | rfl | (simp only [lenE, markR_len]; done) | (simp only [lenE, markR_len]; omega)) only [runE, mapE, listE, initT_5, initT_6, initT_7, initT_8, resV, oneV, binA, unA, reduceCtorEq, Nat.reduceEqDiff, Nat.reduceAdd, Nat.reduceLT, Nat.reduceLeDiff, Nat.reduceMul, Nat.reduceSub, ↓reduceIte, decide_true, decide_false, Bool.true_eq_false, Bool.false_eq_true, Bool.not_true, Bool.not_false, if_true, if_false, and_true, true_and, memE, celE, w64, Nat.zero_add, Nat.add_zero, Nat.mul_one, putL, and_self, ldn, ext_2_0, ext_2_1]
    exact ext_ansV hx rfl
  | true =>
    obtain ⟨b1, hl, hp⟩ := two_bounds hg
    have h8 := b1.n8
    rw [stocksA_yes hg] at *
    have hsl := stocksL_len plan k.need
    have hat : ∀ t, t < plan.length → (stocksL plan k.need).getD t 0 = stk plan k.need t := fun t ht => stocksL_at ht
    generalize stocksL plan k.need = st at *
    obtain ⟨e1, e2, e3, e4, -⟩ := hown.ints (by omega) fl
    simp (config := {implicitDefEqProofs := false, maxDischargeDepth := 20}) (disch := first | omega | (simp only [lenE]; done) | (simp only [lenE]; omega) | rfl | (simp only [lenE, markR_len]; done) | (simp only [lenE, markR_len]; omega)) only [runE, mapE, listE, initT_5, initT_6, initT_7, initT_8, resV, oneV, binA, unA, reduceCtorEq, Nat.reduceEqDiff, Nat.reduceAdd, Nat.reduceLT, Nat.reduceLeDiff, Nat.reduceMul, Nat.reduceSub, ↓reduceIte, decide_true, decide_false, Bool.true_eq_false, Bool.false_eq_true, Bool.not_true, Bool.not_false, if_true, if_false, and_true, true_and, memE, celE, w64, Nat.zero_add, Nat.add_zero, Nat.mul_one, putL, and_self, ldn, ext_2_0, ext_2_1, hu.len]
    refine loop_inv mixed (fun s => ∃ t : Nat, t ≤ plan.length ∧ s.t 2 = .pointer (some ⟨m.length, 0, none⟩) ∧ s.t 8 = .slice (some ⟨sid, 0, none⟩) st.length fl ∧ s.t 10 = .int .i64 (cSet k plan t) ∧ s.t 11 = .int .i64 (cUnit k plan t) ∧ s.t 12 = .int .i64 (cHold k plan t) ∧ s.t 23 = u ∧ s.t 24 = .int .i64 plan.length ∧ s.t 25 = .int .i64 t ∧
      s.m = roM m ++ [⟨.own, 28, [v1, v2, v3, v4]⟩] ++ new) (fun s => plan.length - (intOf (s.t 25)).toNat)
      ⟨0, by omega, rfl, rfl, rfl, rfl, rfl, rfl, rfl, rfl, rfl⟩ ?_
    rintro s ⟨t, hk, t2, t8, t10, t11, t12, t23, t24, t25, tm⟩
    by_cases hlt : t < plan.length
    · have hlt' : (t : Int) < plan.length := by omega
      have q4 := e4 t (by omega)
      rw [hat t hlt] at q4
      have cb := cost_bounds b1 hp t (by omega)
      have pb := prod_bounds b1 hp t (by omega)
      have sb := getD_bound (m := 99) (by omega) b1.setup t
      by_cases hb : 0 < plan.getD t 0
      · simp (config := {implicitDefEqProofs := false, maxDischargeDepth := 20}) (disch := first | omega | (simp only [lenE]; done) | (simp only [lenE]; omega) | rfl | (simp only [lenE, markR_len]; done) | (simp only [lenE, markR_len]; omega)) only [runE, mapE, listE, initT_5, initT_6, initT_7, initT_8, resV, oneV, binA, unA, reduceCtorEq, Nat.reduceEqDiff, Nat.reduceAdd, Nat.reduceLT, Nat.reduceLeDiff, Nat.reduceMul, Nat.reduceSub, ↓reduceIte, decide_true, decide_false, Bool.true_eq_false, Bool.false_eq_true, Bool.not_true, Bool.not_false, if_true, if_false, and_true, true_and, memE, celE, w64, Nat.zero_add, Nat.add_zero, Nat.mul_one, putL, and_self, ldn, t2, t8, t10, t11, t12, t23, t24, t25, tm, hu.at_ t hlt, ((hu.ext [_]).ext new).ld t hlt, hlt', gt_iff_lt, hb, h2.at_ t (by rw [b1.ls]; omega), ((h2.ext [_]).ext new).ld t (by rw [b1.ls]; omega), h3.at_ t (by rw [b1.lu]; omega), ((h3.ext [_]).ext new).ld t (by rw [b1.lu]; omega), h4.at_ t (by rw [b1.lh]; omega), ((h4.ext [_]).ext new).ld t (by rw [b1.lh]; omega), e3 t (by omega), q4]
        exact ⟨⟨t + 1, by omega, by rw [cSet_s, if_pos hb], by rw [cUnit_s], by rw [cHold_s], by simp⟩, by simp [intOf]; omega⟩
      · simp (config := {implicitDefEqProofs := false, maxDischargeDepth := 20}) (disch := first | omega | (simp only [lenE]; done) | (simp only [lenE]; omega) | rfl | (simp only [lenE, markR_len]; done) | (simp only [lenE, markR_len]; omega)) only [runE, mapE, listE, initT_5, initT_6, initT_7, initT_8, resV, oneV, binA, unA, reduceCtorEq, Nat.reduceEqDiff, Nat.reduceAdd, Nat.reduceLT, Nat.reduceLeDiff, Nat.reduceMul, Nat.reduceSub, ↓reduceIte, decide_true, decide_false, Bool.true_eq_false, Bool.false_eq_true, Bool.not_true, Bool.not_false, if_true, if_false, and_true, true_and, memE, celE, w64, Nat.zero_add, Nat.add_zero, Nat.mul_one, putL, and_self, ldn, t2, t8, t10, t11, t12, t23, t24, t25, tm, hu.at_ t hlt, ((hu.ext [_]).ext new).ld t hlt, hlt', gt_iff_lt, hb, h3.at_ t (by rw [b1.lu]; omega), ((h3.ext [_]).ext new).ld t (by rw [b1.lu]; omega), h4.at_ t (by rw [b1.lh]; omega), ((h4.ext [_]).ext new).ld t (by rw [b1.lh]; omega), e3 t (by omega), q4]
        exact ⟨⟨t + 1, by omega, by rw [cSet_s, if_neg hb], by rw [cUnit_s], by rw [cHold_s], by simp⟩, by simp [intOf]; omega⟩
    · have hlt' : ¬ ((t : Int) < plan.length) := by omega
      have e : t = plan.length := by omega
      subst e
      simp (config := {implicitDefEqProofs := false, maxDischargeDepth := 20}) (disch := first | omega | (simp only [lenE]; done) | (simp only [lenE]; omega) | rfl | (simp only [lenE, markR_len]; done) | (simp only [lenE, markR_len]; omega)) only [runE, mapE, listE, initT_5, initT_6, initT_7, initT_8, resV, oneV, binA, unA, reduceCtorEq, Nat.reduceEqDiff, Nat.reduceAdd, Nat.reduceLT, Nat.reduceLeDiff, Nat.reduceMul, Nat.reduceSub, ↓reduceIte, decide_true, decide_false, Bool.true_eq_false, Bool.false_eq_true, Bool.not_true, Bool.not_false, if_true, if_false, and_true, true_and, memE, celE, w64, Nat.zero_add, Nat.add_zero, Nat.mul_one, putL, and_self, ldn, t2, t8, t10, t11, t12, t23, t24, t25, tm, hlt']
      exact ext_ansV hx rfl

end Go.Proofs.Ytonpeflncnccdaa.Ab
