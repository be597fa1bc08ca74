/- The amounts traced in the table; the model's LimitedPlan, LimitedCost. -/
import Derived.Test.YtiggehfopfpkbaaAbFut
import Derived.Test.YtiggehfopfpkbaaRegMath
namespace Go.Proofs.Ytiggehfopfpkbaa.Ab
open Go Go.RowKit
set_option linter.unusedVariables false
set_option linter.unusedSimpArgs false

theorem ordW_due {w : Ws} (h : ∃ r, wayT w 0 0 = some r) {t : Nat} (ht : t ≤ w.n) : t = 0 ∨ w.lo ≤ ordW w t - w.due t := by
  cases t with
  | zero => exact .inl rfl
  | succ t =>
    obtain ⟨r, q, h1, h2, h3, h4, h5, h6, h7⟩ := pW_step h (t := t) (by omega)
    exact .inr h5
theorem TabR.at_ {m : Mem} {v : Value} {N : Nat} {R : Nat → List Int} (h : TabR m v N R) : ∃ id fl, v = .slice (some ⟨id, 0, none⟩) N fl ∧ ∀ j, j < N → ∃ rid f, rdc m id j = some (.slice (some ⟨rid, 0, none⟩) (R j).length f) ∧ ∀ s, s < (R j).length → rdc m rid s = some (.int .i64 ((R j).getD s 0)) := h.ok

set_option maxHeartbeats 4000000 in
theorem l4Traced_rc (m : Mem) (v tv : Value) (w : Ws) (hw : WsOk w) (h0 : w.lo = 0) (hway : ∃ r, wayT w 0 0 = some r) (h : CaseA m v w.k) (h' : TabR m tv (w.n + 1) (futR w)) :
    RC Try.prog 70 [v, tv] m (AnsR m (planW w w.n)) := by
  refine rc_of_run mixed ok_spec_l4Traced (by simp) (go_start _ _ _ ?_)
  obtain ⟨v1, v2, v3, v4, rfl, h1, h2, h3, h4⟩ := h.ro.ok
  have hc : CaseA (roM m) (.agg #[v1, v2, v3, v4]) w.k := ⟨_, _, _, _, rfl, h1, h2, h3, h4⟩
  have hT0 := h'.ro
  have h8 := hw.g.n8
  have hn : w.n = w.k.need.length := rfl
  have hT := hw.tot
  have hpl := planW_len w
  simp (config := {implicitDefEqProofs := false, maxDischargeDepth := 20}) (disch := first | omega | (simp only [lenE]; done) | (simp only [lenE]; omega) | rfl | (simp only [lenE, markR_len]; done) | (simp only [lenE, markR_len]; omega)) only [runE, mapE, listE, resV, oneV, binA, unA, reduceCtorEq, Nat.reduceEqDiff, Nat.reduceAdd, Nat.reduceLT, Nat.reduceLeDiff, Nat.reduceMul, Nat.reduceSub, ↓reduceIte, decide_true, decide_false, Bool.true_eq_false, Bool.false_eq_true, Bool.not_true, Bool.not_false, if_true, if_false, and_true, true_and, memE, celE, w64, Nat.zero_add, Nat.add_zero, Nat.mul_one, putL, and_self, ldn, c_spec_l4Traced, r_spec_l4Traced, bsl_none]
  have o0 : OwnR (roM m ++ [⟨.own, 28, [v1, v2, v3, v4]⟩] ++ [⟨.own, 3, ([] : List Int).map (Value.int .i64)⟩]) (m.length + 1) (planW w 0) := OwnR.end' (by simp [roM_len])
  refine loop_inv mixed (fun s => ∃ (t : Nat) (M : Mem) (ra : Nat), t ≤ w.n ∧ s.m = M ∧ Grow (roM m ++ [⟨.own, 28, [v1, v2, v3, v4]⟩]) M ∧ OwnR M ra (planW w t) ∧ m.length + 1 ≤ ra ∧ s.t 1 = tv ∧ s.t 2 = .pointer (some ⟨m.length, 0, none⟩) ∧ s.t 5 = .slice (some ⟨ra, 0, none⟩) (planW w t).length 1 ∧ s.t 6 = .int .i64 (ordW w t - w.due t) ∧ s.t 7 = .int .i64 t) (fun s => w.n - (intOf (s.t 7)).toNat)
    ⟨0, _, m.length + 1, by omega, rfl, (Grow.refl _).one _ _, o0, by omega, rfl, rfl, rfl, rfl, rfl⟩ ?_
  clear o0
  rintro s ⟨t, M, ra, ht, tm, hx, hra, hral, t1, t2, t5, t6, t7⟩
  obtain ⟨c0, c1, c2, c3, hml⟩ := hx.box4
  have i1 := hx.intsV h1
  by_cases hlt : t < w.n
  · have hlt' : (t : Int) < w.k.need.length := by omega
    obtain ⟨r, q, w1, w2, w3, w4, w5, w6, w7⟩ := pW_step hway hlt
    have b3 := getD_in hw.g.need (k := t) (by omega)
    have hdj := hw.due t (by omega)
    have hdj1 := hw.due (t + 1) (by omega)
    have dus := due_s w hlt
    have hod := ordW_due hway ht
    have hoi := ordW_in hway ht
    have hoi1 := ordW_in hway (t := t + 1) (by omega)
    have hdz : t = 0 → w.due t = 0 := fun e => by rw [e]; rfl
    have hoz : t = 0 → ordW w t = 0 := fun e => by rw [e]; rfl
    have eo1 : ordW w (t + 1) = ordW w t + r.2 := by rw [ordW, amtW_some w1]
    obtain ⟨S, hS⟩ : ∃ S : Nat, ordW w t - w.due t = S := ⟨(ordW w t - w.due t).toNat, by omega⟩
    rw [hS] at t6
    simp (config := {implicitDefEqProofs := false, maxDischargeDepth := 20}) (disch := first | omega | (simp only [lenE]; done) | (simp only [lenE]; omega) | rfl | (simp only [lenE, markR_len]; done) | (simp only [lenE, markR_len]; omega)) only [runE, mapE, listE, resV, oneV, binA, unA, reduceCtorEq, Nat.reduceEqDiff, Nat.reduceAdd, Nat.reduceLT, Nat.reduceLeDiff, Nat.reduceMul, Nat.reduceSub, ↓reduceIte, decide_true, decide_false, Bool.true_eq_false, Bool.false_eq_true, Bool.not_true, Bool.not_false, if_true, if_false, and_true, true_and, memE, celE, w64, Nat.zero_add, Nat.add_zero, Nat.mul_one, putL, and_self, ldn, tm, t1, t2, t5, t6, t7, c0, i1.len, hlt', i1.at_ t (by omega), i1.ld t (by omega)]
    refine callH_rc (most_rc _ _ _) ?_
    rintro r0 new0 ⟨rfl, rfl⟩
    rw [List.append_nil]
    obtain ⟨X0, hX0⟩ : ∃ X0 : Nat, max (w.k.need.getD t 0 - (S : Int)) 0 = X0 := ⟨(max (w.k.need.getD t 0 - (S : Int)) 0).toNat, by omega⟩
    rw [hX0]
    simp (config := {implicitDefEqProofs := false, maxDischargeDepth := 20}) (disch := first | omega | (simp only [lenE]; done) | (simp only [lenE]; omega) | rfl | (simp only [lenE, markR_len]; done) | (simp only [lenE, markR_len]; omega)) only [runE, mapE, listE, resV, oneV, binA, unA, reduceCtorEq, Nat.reduceEqDiff, Nat.reduceAdd, Nat.reduceLT, Nat.reduceLeDiff, Nat.reduceMul, Nat.reduceSub, ↓reduceIte, decide_true, decide_false, Bool.true_eq_false, Bool.false_eq_true, Bool.not_true, Bool.not_false, if_true, if_false, and_true, true_and, memE, celE, w64, Nat.zero_add, Nat.add_zero, Nat.mul_one, putL, and_self, ldn, t1, t2, t5, t6, t7]
    refine loop_inv mixed (fun s => ∃ (x : Nat) (M' : Mem), X0 ≤ x ∧ x ≤ r.2 ∧ s.m = M' ∧ Grow M M' ∧ s.t 1 = tv ∧ s.t 2 = .pointer (some ⟨m.length, 0, none⟩) ∧ s.t 5 = .slice (some ⟨ra, 0, none⟩) (planW w t).length 1 ∧ s.t 6 = .int .i64 S ∧ s.t 7 = .int .i64 t ∧ s.t 8 = .int .i64 x) (fun s => r.2 - (intOf (s.t 8)).toNat)
      ⟨X0, M, by omega, by omega, by simp only [put_t, put_t', put_m, putT_t, putT_t', putT_m, init_t, init_m, initT_0, initT_1, initT_2, initT_3, initT_4, Nat.reduceEqDiff, ↓reduceIte, tm], Grow.refl _, by simp only [put_t, put_t', put_m, putT_t, putT_t', putT_m, init_t, init_m, initT_0, initT_1, initT_2, initT_3, initT_4, Nat.reduceEqDiff, ↓reduceIte, t1], by simp only [put_t, put_t', put_m, putT_t, putT_t', putT_m, init_t, init_m, initT_0, initT_1, initT_2, initT_3, initT_4, Nat.reduceEqDiff, ↓reduceIte, t2], by simp only [put_t, put_t', put_m, putT_t, putT_t', putT_m, init_t, init_m, initT_0, initT_1, initT_2, initT_3, initT_4, Nat.reduceEqDiff, ↓reduceIte, t5], by simp only [put_t, put_t', put_m, putT_t, putT_t', putT_m, init_t, init_m, initT_0, initT_1, initT_2, initT_3, initT_4, Nat.reduceEqDiff, ↓reduceIte, t6], by simp only [put_t, put_t', put_m, putT_t, putT_t', putT_m, init_t, init_m, initT_0, initT_1, initT_2, initT_3, initT_4, Nat.reduceEqDiff, ↓reduceIte, t7], rfl⟩ ?_
    clear tm t1 t2 t5 t6 t7
    rintro s ⟨x, M2, hx0, hxr, tm, hx2, t1, t2, t5, t6, t7, t8⟩
    have hxx := hx.trans hx2
    obtain ⟨d0, d1, d2, d3, hml2⟩ := hxx.box4
    have j1 := hxx.intsV h1
    have hT2 := (hT0.ext _).grow hxx
    obtain ⟨id, fl, rfl, hat⟩ := hT2.at_
    obtain ⟨rid, f, g1, g2⟩ := hat (t + 1) (by omega)
    obtain ⟨rid', f', g1', g2'⟩ := hat t (by omega)
    rw [futR_len] at g1 g2 g1' g2'
    obtain ⟨L, hL⟩ : ∃ L : Nat, (S : Int) + x - w.k.need.getD t 0 = L := ⟨((S : Int) + x - w.k.need.getD t 0).toNat, by omega⟩
    have gr := g2 L (by omega)
    rw [futR_at w _ (by omega), show w.due (t + 1) + (L : Int) = ordW w t + x by omega] at gr
    have gr' := g2' S (by omega)
    rw [futR_at w _ (by omega), show w.due t + (S : Int) = ordW w t by omega, w1, show vO (some r) = r.1 from rfl] at gr'
    have ia := iad0 (id := id) (n := w.n + 1) (fl := fl) (z := (t : Int) + 1) (j := t + 1) (by omega) (by omega)
    have ib := iad0 (id := rid) (n := w.tot.toNat + 1) (fl := f) hL (by omega)
    have ic := iad0 (id := id) (n := w.n + 1) (fl := fl) (z := (t : Int)) (j := t) (by omega) (by omega)
    have idd := iad0 (id := rid') (n := w.tot.toNat + 1) (fl := f') (z := (S : Int)) (j := S) (by omega) (by omega)
    have eo : ordW w t + x - w.due (t + 1) = (S : Int) + x - w.k.need.getD t 0 := by omega
    cases hnx : wayT w (t + 1) (ordW w t + x) with
    | none =>
      rw [hnx] at gr
      have hneg : vO none < 0 := by decide
      have hne : x ≠ r.2 := fun e => by
        rw [← e, wayX_no hnx] at w7
        cases w7
      simp (config := {implicitDefEqProofs := false, maxDischargeDepth := 20}) (disch := first | omega | (simp only [lenE]; done) | (simp only [lenE]; omega) | rfl | (simp only [lenE, markR_len]; done) | (simp only [lenE, markR_len]; omega)) only [runE, mapE, listE, resV, oneV, binA, unA, reduceCtorEq, Nat.reduceEqDiff, Nat.reduceAdd, Nat.reduceLT, Nat.reduceLeDiff, Nat.reduceMul, Nat.reduceSub, ↓reduceIte, decide_true, decide_false, Bool.true_eq_false, Bool.false_eq_true, Bool.not_true, Bool.not_false, if_true, if_false, and_true, true_and, memE, celE, w64, Nat.zero_add, Nat.add_zero, Nat.mul_one, putL, and_self, ldn, tm, t1, t2, t5, t6, t7, t8, ia, g1, d0, j1.at_ t (by omega), j1.ld t (by omega), ib, gr, hneg, goG_undef]
      exact ⟨⟨x + 1, M2, by omega, by omega, rfl, hx2, by simp⟩, by simp [intOf]; omega⟩
    | some y =>
      rw [hnx] at gr
      obtain ⟨rb0, rb1, rb2⟩ := wayT_bd hw (by omega) hnx
      have hneg : ¬ (y.1 < 0) := by omega
      have hcost : wayX w (wayT w (t + 1)) t (ordW w t) x = some (stepF w.k w.rates t x ((S : Int) + x - w.k.need.getD t 0) + y.1) := by rw [wayX_of (by omega) hnx, eo]
      have hsb := stepF_bd hw.g hw.rates t (x := (x : Int)) (b := (S : Int) + x - w.k.need.getD t 0) (by omega) (by have := (hw.lim t).1; omega) (by omega) (by omega)
      have ev : vO (some y) = y.1 := rfl
      rw [ev] at gr
      simp (config := {implicitDefEqProofs := false, maxDischargeDepth := 20}) (disch := first | omega | (simp only [lenE]; done) | (simp only [lenE]; omega) | rfl | (simp only [lenE, markR_len]; done) | (simp only [lenE, markR_len]; omega)) only [runE, mapE, listE, resV, oneV, binA, unA, reduceCtorEq, Nat.reduceEqDiff, Nat.reduceAdd, Nat.reduceLT, Nat.reduceLeDiff, Nat.reduceMul, Nat.reduceSub, ↓reduceIte, decide_true, decide_false, Bool.true_eq_false, Bool.false_eq_true, Bool.not_true, Bool.not_false, if_true, if_false, and_true, true_and, memE, celE, w64, Nat.zero_add, Nat.add_zero, Nat.mul_one, putL, and_self, ldn, tm, t1, t2, t5, t6, t7, t8, ia, g1, d0, d1, d2, d3, j1.at_ t (by omega), j1.ld t (by omega), ib, gr, hneg, goG_undef, ic, g1', idd, gr']
      refine rcallH_rc (l4Step_rc _ _ w.k t x ((S : Int) + x - w.k.need.getD t 0) (hxx.caseV hc) hw.g (by omega) (by omega) (by have := (hw.lim t).1; omega) (by omega) (by omega) w.rates) ?_
      rintro r2 new ⟨rfl, nr⟩
      generalize stepF w.k w.rates t x ((S : Int) + x - w.k.need.getD t 0) = C at *
      by_cases heq : C + y.1 = r.1
      · have hxe : x = r.2 := by
          rcases Nat.lt_or_ge x r.2 with h | h
          · exact absurd (by rw [hcost, heq]) (way_first hlt w1 x h)
          · omega
        have hb : (C + y.1 != r.1) = false := by rw [heq]; simp
        have hra2 := (hx2.own hra).ext new
        have pl := hpl t
        have hG := (hxx.app nr).dead (id := ra) (by simp [roM_len]; omega)
        obtain ⟨e0, -, -, -, hmG⟩ := hG.box4
        have jG := hG.intsV h1
        simp (config := {implicitDefEqProofs := false, maxDischargeDepth := 20}) (disch := first | omega | (simp only [lenE]; done) | (simp only [lenE]; omega) | rfl | (simp only [lenE, markR_len]; done) | (simp only [lenE, markR_len]; omega)) only [runE, mapE, listE, resV, oneV, binA, unA, reduceCtorEq, Nat.reduceEqDiff, Nat.reduceAdd, Nat.reduceLT, Nat.reduceLeDiff, Nat.reduceMul, Nat.reduceSub, ↓reduceIte, decide_true, decide_false, Bool.true_eq_false, Bool.false_eq_true, Bool.not_true, Bool.not_false, if_true, if_false, and_true, true_and, memE, celE, w64, Nat.zero_add, Nat.add_zero, Nat.mul_one, putL, and_self, ldn, t1, t2, t5, t6, t7, t8, hb, bsl_one, app_genH hra2 (by omega), e0, jG.at_ t (by omega), ((jG.ext _).ext _).ld t (by omega)]
        have lM2 := hxx.len
        simp only [List.length_append, List.length_cons, List.length_nil, roM_len] at lM2
        have ep : planW w (t + 1) = planW w t ++ [(x : Int)] := by rw [planW, amtW_some w1, ← hxe]
        refine ⟨⟨t + 1, _, _, by omega, rfl, (hG.one _ _).one _ _, ?_, ?_, by rw [ep, List.length_append, List.length_singleton], by rw [eo1]; congr 1; omega, by simp⟩, by simp [intOf]; omega⟩
        · rw [ep]; exact OwnR.end' (by simp)
        · omega
      · have hne : x ≠ r.2 := fun e => heq (by rw [← e, hcost] at w7; exact Option.some.inj w7)
        have hb : (C + y.1 != r.1) = true := by simpa using heq
        simp (config := {implicitDefEqProofs := false, maxDischargeDepth := 20}) (disch := first | omega | (simp only [lenE]; done) | (simp only [lenE]; omega) | rfl | (simp only [lenE, markR_len]; done) | (simp only [lenE, markR_len]; omega)) only [runE, mapE, listE, resV, oneV, binA, unA, reduceCtorEq, Nat.reduceEqDiff, Nat.reduceAdd, Nat.reduceLT, Nat.reduceLeDiff, Nat.reduceMul, Nat.reduceSub, ↓reduceIte, decide_true, decide_false, Bool.true_eq_false, Bool.false_eq_true, Bool.not_true, Bool.not_false, if_true, if_false, and_true, true_and, memE, celE, w64, Nat.zero_add, Nat.add_zero, Nat.mul_one, putL, and_self, ldn, t1, t2, t5, t6, t7, t8, hb]
        exact ⟨⟨x + 1, _, by omega, by omega, rfl, hx2.app nr, by simp⟩, by simp [intOf]; omega⟩
  · have hlt' : ¬ ((t : Int) < w.k.need.length) := by omega
    have e : t = w.n := by omega
    subst e
    have pl := hpl w.n
    simp (config := {implicitDefEqProofs := false, maxDischargeDepth := 20}) (disch := first | omega | (simp only [lenE]; done) | (simp only [lenE]; omega) | rfl | (simp only [lenE, markR_len]; done) | (simp only [lenE, markR_len]; omega)) only [runE, mapE, listE, resV, oneV, binA, unA, reduceCtorEq, Nat.reduceEqDiff, Nat.reduceAdd, Nat.reduceLT, Nat.reduceLeDiff, Nat.reduceMul, Nat.reduceSub, ↓reduceIte, decide_true, decide_false, Bool.true_eq_false, Bool.false_eq_true, Bool.not_true, Bool.not_false, if_true, if_false, and_true, true_and, memE, celE, w64, Nat.zero_add, Nat.add_zero, Nat.mul_one, putL, and_self, ldn, tm, t1, t2, t5, t6, t7, c0, i1.len, hlt']
    exact ext_ansR hx.ext hra (by omega) rfl (by omega)

/-- The search within limits. -/
def limW (k : Cs) (lims : List Int) : Ws := ⟨k, lims, [], 0⟩
def limitedA (k : Cs) (lims : List Int) : List Int := if canB k lims then planW (limW k lims) k.need.length else []
def limCostA (k : Cs) (lims : List Int) : Int := if canB k lims then vO (wayT (limW k lims) 0 0) else 0
theorem limitedA_no {k : Cs} {lims : List Int} (h : canB k lims = false) : limitedA k lims = [] := by unfold limitedA; rw [h]; rfl
theorem limitedA_yes {k : Cs} {lims : List Int} (h : canB k lims = true) : limitedA k lims = planW (limW k lims) k.need.length := by unfold limitedA; rw [h]; rfl
theorem limCostA_no {k : Cs} {lims : List Int} (h : canB k lims = false) : limCostA k lims = 0 := by unfold limCostA; rw [h]; rfl
theorem limCostA_yes {k : Cs} {lims : List Int} (h : canB k lims = true) : limCostA k lims = vO (wayT (limW k lims) 0 0) := by unfold limCostA; rw [h]; rfl
theorem limW_ok {k : Cs} {lims : List Int} (g1 : Good k) (g2 : ∀ x ∈ lims, 0 ≤ x ∧ x ≤ 160) (g3 : lims.length = k.need.length) : WsOk (limW k lims) :=
  ⟨g1, g3, g2, fun x hx => by simp [limW] at hx, by simp [limW]⟩
theorem can_iff {k : Cs} {lims : List Int} (h : canB k lims = true) : Good k ∧ (∀ x ∈ lims, 0 ≤ x ∧ x ≤ 160) ∧ lims.length = k.need.length ∧ ∀ t, t ≤ k.need.length → 0 ≤ nowK lims k.need t := by
  unfold canB at h
  simp only [Bool.and_eq_true, decide_eq_true_eq] at h
  obtain ⟨g1, g2, g3⟩ := rowsB_iff.1 h.1
  refine ⟨g1, g2, g3, fun t ht => ?_⟩
  cases t with
  | zero => simp [nowK, sumTo]
  | succ t => exact shortF_none _ _ h.2 t (by omega) (by omega)
theorem can_way {k : Cs} {lims : List Int} (h : canB k lims = true) : WsOk (limW k lims) ∧ ∃ r, wayT (limW k lims) 0 0 = some r := by
  obtain ⟨g1, g2, g3, g4⟩ := can_iff h
  have hw := limW_ok g1 g2 g3
  exact ⟨hw, way_can0 hw (by simp [limW]) fun t ht => g4 t ht⟩

theorem specLimited_rc (m : Mem) (v u : Value) (k : Cs) (lims : List Int) (h : CaseA m v k) (h' : IntsA m u lims) :
    RC Try.prog 31 [v, u] m (AnsL m (limitedA k lims) (canB k lims)) := by
  refine rc_of_run mixed ok_spec_LimitedPlan (by simp) (go_start _ _ _ ?_)
  obtain ⟨v1, v2, v3, v4, rfl, h1, h2, h3, h4⟩ := h.ro.ok
  have hc : CaseA (roM m) (.agg #[v1, v2, v3, v4]) k := ⟨_, _, _, _, rfl, h1, h2, h3, h4⟩
  have hu := h'.ro
  simp (config := {implicitDefEqProofs := false, maxDischargeDepth := 20}) (disch := first | omega | (simp only [lenE]; done) | (simp only [lenE]; omega) | rfl | (simp only [lenE, markR_len]; done) | (simp only [lenE, markR_len]; omega)) only [runE, mapE, listE, resV, oneV, binA, unA, reduceCtorEq, Nat.reduceEqDiff, Nat.reduceAdd, Nat.reduceLT, Nat.reduceLeDiff, Nat.reduceMul, Nat.reduceSub, ↓reduceIte, decide_true, decide_false, Bool.true_eq_false, Bool.false_eq_true, Bool.not_true, Bool.not_false, if_true, if_false, and_true, true_and, memE, celE, w64, Nat.zero_add, Nat.add_zero, Nat.mul_one, putL, and_self, ldn, c_spec_LimitedPlan, r_spec_LimitedPlan]
  refine callH_rc (l4Can_rc _ _ u k lims (hc.ext _) (hu.ext _)) ?_
  rintro r new ⟨rfl, nr1⟩
  have hx : Grow (roM m ++ [⟨.own, 28, [v1, v2, v3, v4]⟩]) (roM m ++ [⟨.own, 28, [v1, v2, v3, v4]⟩] ++ new) := (Grow.refl _).app nr1
  cases hg : canB k lims with
  | false =>
    simp (config := {implicitDefEqProofs := false, maxDischargeDepth := 20}) (disch := first | omega | (simp only [lenE]; done) | (simp only [lenE]; omega) | rfl | (simp only [lenE, markR_len]; done) | (simp only [lenE, markR_len]; omega)) only [runE, mapE, listE, resV, oneV, binA, unA, reduceCtorEq, Nat.reduceEqDiff, Nat.reduceAdd, Nat.reduceLT, Nat.reduceLeDiff, Nat.reduceMul, Nat.reduceSub, ↓reduceIte, decide_true, decide_false, Bool.true_eq_false, Bool.false_eq_true, Bool.not_true, Bool.not_false, if_true, if_false, and_true, true_and, memE, celE, w64, Nat.zero_add, Nat.add_zero, Nat.mul_one, putL, and_self, ldn, bsl_none]
    rw [limitedA_no hg]
    refine ext_ansL (hx.ext.one _ _) (OwnR.end' (l := []) ?_) (by omega) rfl (by simp)
    simp only [List.length_append, List.length_cons, List.length_nil, roM_len]
  | true =>
    obtain ⟨hw, hway⟩ := can_way hg
    rw [limitedA_yes hg]
    have h8 := hw.g.n8
    have pl := planW_len (limW k lims) k.need.length
    simp (config := {implicitDefEqProofs := false, maxDischargeDepth := 20}) (disch := first | omega | (simp only [lenE]; done) | (simp only [lenE]; omega) | rfl | (simp only [lenE, markR_len]; done) | (simp only [lenE, markR_len]; omega)) only [runE, mapE, listE, resV, oneV, binA, unA, reduceCtorEq, Nat.reduceEqDiff, Nat.reduceAdd, Nat.reduceLT, Nat.reduceLeDiff, Nat.reduceMul, Nat.reduceSub, ↓reduceIte, decide_true, decide_false, Bool.true_eq_false, Bool.false_eq_true, Bool.not_true, Bool.not_false, if_true, if_false, and_true, true_and, memE, celE, w64, Nat.zero_add, Nat.add_zero, Nat.mul_one, putL, and_self, ldn]
    refine rcallH_rc (l4Future_rc _ _ u (limW k lims) hw rfl (hx.caseV hc) (hx.intsV hu)) ?_
    rintro r new2 ⟨nr2, id, fl, vs, rfl, hvs, hT⟩
    simp (config := {implicitDefEqProofs := false, maxDischargeDepth := 20}) (disch := first | omega | (simp only [lenE]; done) | (simp only [lenE]; omega) | rfl | (simp only [lenE, markR_len]; done) | (simp only [lenE, markR_len]; omega)) only [runE, mapE, listE, resV, oneV, binA, unA, reduceCtorEq, Nat.reduceEqDiff, Nat.reduceAdd, Nat.reduceLT, Nat.reduceLeDiff, Nat.reduceMul, Nat.reduceSub, ↓reduceIte, decide_true, decide_false, Bool.true_eq_false, Bool.false_eq_true, Bool.not_true, Bool.not_false, if_true, if_false, and_true, true_and, memE, celE, w64, Nat.zero_add, Nat.add_zero, Nat.mul_one, putL, and_self, ldn]
    refine rcallH_rc (l4Traced_rc _ _ _ (limW k lims) hw rfl hway ((hx.app nr2).caseV hc) (hT.read hvs.symm)) ?_
    intro r new3 hA
    obtain ⟨d1, f1, rfl, l1, o1, hle, nr3⟩ := hA.row
    simp only [List.length_append, List.length_cons, List.length_nil, roM_len] at l1
    simp (config := {implicitDefEqProofs := false, maxDischargeDepth := 20}) (disch := first | omega | (simp only [lenE]; done) | (simp only [lenE]; omega) | rfl | (simp only [lenE, markR_len]; done) | (simp only [lenE, markR_len]; omega)) only [runE, mapE, listE, resV, oneV, binA, unA, reduceCtorEq, Nat.reduceEqDiff, Nat.reduceAdd, Nat.reduceLT, Nat.reduceLeDiff, Nat.reduceMul, Nat.reduceSub, ↓reduceIte, decide_true, decide_false, Bool.true_eq_false, Bool.false_eq_true, Bool.not_true, Bool.not_false, if_true, if_false, and_true, true_and, memE, celE, w64, Nat.zero_add, Nat.add_zero, Nat.mul_one, putL, and_self, ldn]
    exact ext_ansL ((hx.app nr2).app nr3).ext o1 (by omega) rfl (by rw [show planW (limW k lims) (limW k lims).n = planW (limW k lims) k.need.length from rfl] at hle; exact hle)

theorem rows0 {w : Ws} (hw : WsOk w) {base id : Nat} {M : Mem} {e : TypeId} {vs : List Value} (hT : Tab base M id e 3 vs (rowsF (futR w))) (hvs : vs.length = w.n + 1) :
    ∃ rid f, rdc M id 0 = some (.slice (some ⟨rid, 0, none⟩) (w.tot.toNat + 1) f) ∧ rdc M rid 0 = some (.int .i64 (vO (wayT w 0 0))) := by
  obtain ⟨id', fl, e, hat⟩ := (hT.read (fl := 0) rfl).at_
  cases e
  obtain ⟨rid, f, g1, g2⟩ := hat 0 (by omega)
  rw [futR_len] at g1 g2
  have := g2 0 (by omega)
  rw [futR_at w 0 (by omega), show w.due 0 + ((0 : Nat) : Int) = 0 from rfl] at this
  exact ⟨rid, f, g1, this⟩
theorem specLimCost_rc (m : Mem) (v u : Value) (k : Cs) (lims : List Int) (h : CaseA m v k) (h' : IntsA m u lims) :
    RC Try.prog 36 [v, u] m (AnsV (.tuple #[.int .i64 (limCostA k lims), .bool (canB k lims)])) := by
  refine rc_of_run mixed ok_spec_LimitedCost (by simp) (go_start _ _ _ ?_)
  obtain ⟨v1, v2, v3, v4, rfl, h1, h2, h3, h4⟩ := h.ro.ok
  have hc : CaseA (roM m) (.agg #[v1, v2, v3, v4]) k := ⟨_, _, _, _, rfl, h1, h2, h3, h4⟩
  have hu := h'.ro
  simp (config := {implicitDefEqProofs := false, maxDischargeDepth := 20}) (disch := first | omega | (simp only [lenE]; done) | (simp only [lenE]; omega) | rfl | (simp only [lenE, markR_len]; done) | (simp only [lenE, markR_len]; omega)) only [runE, mapE, listE, resV, oneV, binA, unA, reduceCtorEq, Nat.reduceEqDiff, Nat.reduceAdd, Nat.reduceLT, Nat.reduceLeDiff, Nat.reduceMul, Nat.reduceSub, ↓reduceIte, decide_true, decide_false, Bool.true_eq_false, Bool.false_eq_true, Bool.not_true, Bool.not_false, if_true, if_false, and_true, true_and, memE, celE, w64, Nat.zero_add, Nat.add_zero, Nat.mul_one, putL, and_self, ldn, c_spec_LimitedCost, r_spec_LimitedCost]
  refine callH_rc (l4Can_rc _ _ u k lims (hc.ext _) (hu.ext _)) ?_
  rintro r new ⟨rfl, nr1⟩
  have hx : Grow (roM m ++ [⟨.own, 28, [v1, v2, v3, v4]⟩]) (roM m ++ [⟨.own, 28, [v1, v2, v3, v4]⟩] ++ new) := (Grow.refl _).app nr1
  cases hg : canB k lims with
  | false =>
    simp (config := {implicitDefEqProofs := false, maxDischargeDepth := 20}) (disch := first | omega | (simp only [lenE]; done) | (simp only [lenE]; omega) | rfl | (simp only [lenE, markR_len]; done) | (simp only [lenE, markR_len]; omega)) only [runE, mapE, listE, resV, oneV, binA, unA, reduceCtorEq, Nat.reduceEqDiff, Nat.reduceAdd, Nat.reduceLT, Nat.reduceLeDiff, Nat.reduceMul, Nat.reduceSub, ↓reduceIte, decide_true, decide_false, Bool.true_eq_false, Bool.false_eq_true, Bool.not_true, Bool.not_false, if_true, if_false, and_true, true_and, memE, celE, w64, Nat.zero_add, Nat.add_zero, Nat.mul_one, putL, and_self, ldn]
    rw [limCostA_no hg]
    exact ext_ansV hx.ext rfl
  | true =>
    obtain ⟨hw, hway⟩ := can_way hg
    rw [limCostA_yes hg]
    have h8 := hw.g.n8
    simp (config := {implicitDefEqProofs := false, maxDischargeDepth := 20}) (disch := first | omega | (simp only [lenE]; done) | (simp only [lenE]; omega) | rfl | (simp only [lenE, markR_len]; done) | (simp only [lenE, markR_len]; omega)) only [runE, mapE, listE, resV, oneV, binA, unA, reduceCtorEq, Nat.reduceEqDiff, Nat.reduceAdd, Nat.reduceLT, Nat.reduceLeDiff, Nat.reduceMul, Nat.reduceSub, ↓reduceIte, decide_true, decide_false, Bool.true_eq_false, Bool.false_eq_true, Bool.not_true, Bool.not_false, if_true, if_false, and_true, true_and, memE, celE, w64, Nat.zero_add, Nat.add_zero, Nat.mul_one, putL, and_self, ldn]
    refine callH_rc (l4Future_rc _ _ u (limW k lims) hw rfl (hx.caseV hc) (hx.intsV hu)) ?_
    rintro r new2 ⟨nr2, id, fl, vs, rfl, hvs, hT⟩
    obtain ⟨rid, f, g1, g2⟩ := rows0 hw hT hvs
    have q1 := iad0 (id := id) (n := (limW k lims).n + 1) (fl := fl) (z := 0) (j := 0) rfl (Nat.succ_pos _)
    have q2 := iad0 (id := rid) (n := (limW k lims).tot.toNat + 1) (fl := f) (z := 0) (j := 0) rfl (Nat.succ_pos _)
    simp (config := {implicitDefEqProofs := false, maxDischargeDepth := 20}) (disch := first | omega | (simp only [lenE]; done) | (simp only [lenE]; omega) | rfl | (simp only [lenE, markR_len]; done) | (simp only [lenE, markR_len]; omega)) only [runE, mapE, listE, resV, oneV, binA, unA, reduceCtorEq, Nat.reduceEqDiff, Nat.reduceAdd, Nat.reduceLT, Nat.reduceLeDiff, Nat.reduceMul, Nat.reduceSub, ↓reduceIte, decide_true, decide_false, Bool.true_eq_false, Bool.false_eq_true, Bool.not_true, Bool.not_false, if_true, if_false, and_true, true_and, memE, celE, w64, Nat.zero_add, Nat.add_zero, Nat.mul_one, putL, and_self, ldn, q1, q2, g1, g2]
    exact ext_ansV (hx.app nr2).ext rfl
end Go.Proofs.Ytiggehfopfpkbaa.Ab
