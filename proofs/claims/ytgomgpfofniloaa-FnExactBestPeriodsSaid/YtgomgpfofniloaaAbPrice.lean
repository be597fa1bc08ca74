/- Fair prices that are found, and price proofs: FairPrices, IsPriceProof. -/
import Derived.Test.YtgomgpfofniloaaAbClaim
namespace Go.Proofs.Ytgomgpfofniloaa.Ab
open Go Go.RowKit
set_option linter.unusedVariables false
set_option linter.unusedSimpArgs false

theorem IntsA.cellsV {m : Mem} {u : Value} {l : List Int} (h : IntsA m u l) : u.cells = #[u] := by
  rcases h.form with ⟨rfl, _⟩ | ⟨id, off, fl, rfl⟩ <;> rfl
theorem priceBy_in {k : Cs} (hg : Good k) {ps : List Int} (hp : ∀ x ∈ ps, 0 ≤ x ∧ x ≤ 9999) {t i : Nat} (hl : ps.length ≤ 8) (hit : i ≤ t) (ht : t ≤ 8) :
    -100000 ≤ priceBy k ps t i ∧ priceBy k ps t i ≤ 1719 ∧ 0 ≤ k.need.getD t 0 * rateF k i t ∧ k.need.getD t 0 * rateF k i t ≤ 1620 ∧ 0 ≤ k.setup.getD i 0 ∧ k.setup.getD i 0 ≤ 99 := by
  have b1 := nr_in hg hit ht
  have b2 := getD_bound (m := 99) (by omega) hg.setup i
  have b3 := claimS_in hg hp i ps.length (by omega)
  unfold priceBy claimF
  omega

theorem fairPrice1_rc (m : Mem) (cb tb bb : Nat) (u v1 v2 v3 v4 : Value) (k : Cs) (ps : List Int) (t i : Nat)
    (r0 : rdc m cb 0 = some v1) (r1 : rdc m cb 1 = some v2) (r2 : rdc m cb 2 = some v3) (r3 : rdc m cb 3 = some v4) (rt : rdc m tb 0 = some (.int .i64 t)) (rb : rdc m bb 0 = some u)
    (h : CaseA m (.agg #[v1, v2, v3, v4]) k) (h' : IntsA m u ps) (hg : Good k) (hl : ps.length ≤ k.need.length) (hp : ∀ x ∈ ps, 0 ≤ x ∧ x ≤ 9999) (ht : t < k.need.length) (hit : i ≤ t) :
    RC Try.prog 120 [.int .i64 i, .pointer (some ⟨cb, 0, none⟩), .pointer (some ⟨tb, 0, none⟩), .pointer (some ⟨bb, 0, none⟩)] m (AnsV (.int .i64 (priceBy k ps t i))) := by
  refine rc_of_run mixed ok_impl_fairPrice_1 (by simp) (go_start _ _ _ ?_)
  have hc := h.ro
  obtain ⟨w1, w2, w3, w4, he, h1, h2, h3, h4⟩ := h.ro.ok
  cases he
  have hu := h'.ro
  have h8 := hg.n8
  have g0 := hg.ls
  rw [← rdc_roM] at r0 r1 r2 r3 rt rb
  have b := priceBy_in hg hp (t := t) (i := i) (by omega) hit (by omega)
  simp (config := {implicitDefEqProofs := false, maxDischargeDepth := 20}) (disch := first | omega | (simp only [lenE]; done) | (simp only [lenE]; omega) | rfl | (simp only [lenE, markR_len]; done) | (simp only [lenE, markR_len]; omega)) only [runE, mapE, listE, resV, oneV, binA, unA, reduceCtorEq, Nat.reduceEqDiff, Nat.reduceAdd, Nat.reduceLT, Nat.reduceLeDiff, Nat.reduceMul, Nat.reduceSub, ↓reduceIte, decide_true, decide_false, Bool.true_eq_false, Bool.false_eq_true, Bool.not_true, Bool.not_false, if_true, if_false, and_true, true_and, memE, celE, w64, Nat.zero_add, Nat.add_zero, Nat.mul_one, putL, and_self, ldn, c_impl_fairPrice_1, r_impl_fairPrice_1, r0, r1, r2, r3, rt, rb, h1.at_ t (by omega), h1.ld t (by omega), h2.at_ i (by omega), h2.ld i (by omega)]
  refine rcallH_rc (rateFrom_rc _ _ k i t hc hg (by omega) hit (by omega)) ?_
  rintro r new ⟨rfl, nr⟩
  simp (config := {implicitDefEqProofs := false, maxDischargeDepth := 20}) (disch := first | omega | (simp only [lenE]; done) | (simp only [lenE]; omega) | rfl | (simp only [lenE, markR_len]; done) | (simp only [lenE, markR_len]; omega)) only [runE, mapE, listE, resV, oneV, binA, unA, reduceCtorEq, Nat.reduceEqDiff, Nat.reduceAdd, Nat.reduceLT, Nat.reduceLeDiff, Nat.reduceMul, Nat.reduceSub, ↓reduceIte, decide_true, decide_false, Bool.true_eq_false, Bool.false_eq_true, Bool.not_true, Bool.not_false, if_true, if_false, and_true, true_and, memE, celE, w64, Nat.zero_add, Nat.add_zero, Nat.mul_one, putL, and_self, ldn]
  refine rcallH_rc (claimBy_rc _ _ u k ps i (hc.ext _) (hu.ext _) hg hl hp (by omega)) ?_
  rintro r new2 ⟨rfl, nr2⟩
  unfold priceBy at b ⊢
  simp (config := {implicitDefEqProofs := false, maxDischargeDepth := 20}) (disch := first | omega | (simp only [lenE]; done) | (simp only [lenE]; omega) | rfl | (simp only [lenE, markR_len]; done) | (simp only [lenE, markR_len]; omega)) only [runE, mapE, listE, resV, oneV, binA, unA, reduceCtorEq, Nat.reduceEqDiff, Nat.reduceAdd, Nat.reduceLT, Nat.reduceLeDiff, Nat.reduceMul, Nat.reduceSub, ↓reduceIte, decide_true, decide_false, Bool.true_eq_false, Bool.false_eq_true, Bool.not_true, Bool.not_false, if_true, if_false, and_true, true_and, memE, celE, w64, Nat.zero_add, Nat.add_zero, Nat.mul_one, putL, and_self, ldn]
  exact ext_ansV (((Ext.refl m).app nr).app nr2) rfl

theorem fairPrice_rc (m : Mem) (v u : Value) (k : Cs) (ps : List Int) (t : Nat) (h : CaseA m v k) (h' : IntsA m u ps) (hg : Good k) (hl : ps.length ≤ k.need.length) (hp : ∀ x ∈ ps, 0 ≤ x ∧ x ≤ 9999) (ht : t < k.need.length) :
    RC Try.prog 92 [v, u, .int .i64 t] m (AnsV (.int .i64 (priceF k ps t))) := by
  refine rc_of_run mixed ok_impl_fairPrice (by simp) (go_start _ _ _ ?_)
  obtain ⟨v1, v2, v3, v4, rfl, h1, h2, h3, h4⟩ := h.ro.ok
  have hc : CaseA (roM m) (.agg #[v1, v2, v3, v4]) k := ⟨_, _, _, _, rfl, h1, h2, h3, h4⟩
  have hu := h'.ro
  have hcu := hu.cellsV
  have h8 := hg.n8
  obtain ⟨M1, hM1⟩ : ∃ M1, M1 = roM m ++ [⟨.own, 28, [v1, v2, v3, v4]⟩] ++ [⟨.own, 22, [u]⟩] ++ [⟨.own, 3, [.int .i64 t]⟩] := ⟨_, rfl⟩
  have c0 : rdc M1 m.length 0 = some v1 := by rw [hM1]; exact rdc_ext (rdc_ext (by rw [rdc_box (roM_len m).symm]; rfl))
  have c1 : rdc M1 m.length 1 = some v2 := by rw [hM1]; exact rdc_ext (rdc_ext (by rw [rdc_box (roM_len m).symm]; rfl))
  have c2 : rdc M1 m.length 2 = some v3 := by rw [hM1]; exact rdc_ext (rdc_ext (by rw [rdc_box (roM_len m).symm]; rfl))
  have c3 : rdc M1 m.length 3 = some v4 := by rw [hM1]; exact rdc_ext (rdc_ext (by rw [rdc_box (roM_len m).symm]; rfl))
  have cu : rdc M1 (m.length + 1) 0 = some u := by rw [hM1]; exact rdc_ext (by rw [rdc_box (by simp [roM_len])]; rfl)
  have ct : rdc M1 (m.length + 1 + 1) 0 = some (.int .i64 t) := by rw [hM1, rdc_box (by simp [roM_len])]; rfl
  have hcM : CaseA M1 (.agg #[v1, v2, v3, v4]) k := by rw [hM1]; exact ((hc.ext _).ext _).ext _
  have huM : IntsA M1 u ps := by rw [hM1]; exact ((hu.ext _).ext _).ext _
  have i1 : IntsA M1 v1 k.need := by rw [hM1]; exact ((h1.ext _).ext _).ext _
  have hx1 : Ext m M1 := by rw [hM1]; exact (((Ext.refl m).one _ _).one _ _).one _ _
  have lM1 : M1.length = m.length + 3 := by rw [hM1]; simp [roM_len]
  simp (config := {implicitDefEqProofs := false, maxDischargeDepth := 20}) (disch := first | omega | (simp only [lenE]; done) | (simp only [lenE]; omega) | rfl | (simp only [lenE, markR_len]; done) | (simp only [lenE, markR_len]; omega)) only [runE, mapE, listE, resV, oneV, binA, unA, reduceCtorEq, Nat.reduceEqDiff, Nat.reduceAdd, Nat.reduceLT, Nat.reduceLeDiff, Nat.reduceMul, Nat.reduceSub, ↓reduceIte, decide_true, decide_false, Bool.true_eq_false, Bool.false_eq_true, Bool.not_true, Bool.not_false, if_true, if_false, and_true, true_and, memE, celE, w64, Nat.zero_add, Nat.add_zero, Nat.mul_one, putL, and_self, ldn, c_impl_fairPrice, r_impl_fairPrice, hcu]
  rw [← hM1]
  by_cases hz : k.need.getD t 0 = 0
  · have hz' : (k.need.getD t 0 == 0) = true := by rw [hz]; rfl
    have e : priceF k ps t = 0 := by unfold priceF; rw [if_pos hz]
    rw [e]
    simp (config := {implicitDefEqProofs := false, maxDischargeDepth := 20}) (disch := first | omega | (simp only [lenE]; done) | (simp only [lenE]; omega) | rfl | (simp only [lenE, markR_len]; done) | (simp only [lenE, markR_len]; omega)) only [runE, mapE, listE, resV, oneV, binA, unA, reduceCtorEq, Nat.reduceEqDiff, Nat.reduceAdd, Nat.reduceLT, Nat.reduceLeDiff, Nat.reduceMul, Nat.reduceSub, ↓reduceIte, decide_true, decide_false, Bool.true_eq_false, Bool.false_eq_true, Bool.not_true, Bool.not_false, if_true, if_false, and_true, true_and, memE, celE, w64, Nat.zero_add, Nat.add_zero, Nat.mul_one, putL, and_self, ldn, c0, ct, i1.at_ t (by omega), i1.ld t (by omega), hz']
    exact ext_ansV hx1 rfl
  · have hz' : (k.need.getD t 0 == 0) = false := by simp only [beq_eq_false_iff_ne]; exact hz
    have e : priceF k ps t = minQ (priceBy k ps t) t t := by unfold priceF; rw [if_neg hz, minQ_eq]
    rw [e]
    simp (config := {implicitDefEqProofs := false, maxDischargeDepth := 20}) (disch := first | omega | (simp only [lenE]; done) | (simp only [lenE]; omega) | rfl | (simp only [lenE, markR_len]; done) | (simp only [lenE, markR_len]; omega)) only [runE, mapE, listE, resV, oneV, binA, unA, reduceCtorEq, Nat.reduceEqDiff, Nat.reduceAdd, Nat.reduceLT, Nat.reduceLeDiff, Nat.reduceMul, Nat.reduceSub, ↓reduceIte, decide_true, decide_false, Bool.true_eq_false, Bool.false_eq_true, Bool.not_true, Bool.not_false, if_true, if_false, and_true, true_and, memE, celE, w64, Nat.zero_add, Nat.add_zero, Nat.mul_one, putL, and_self, ldn, c0, ct, i1.at_ t (by omega), i1.ld t (by omega), hz']
    refine callH_rc (fairPrice1_rc M1 _ _ _ u v1 v2 v3 v4 k ps t t c0 c1 c2 c3 ct cu hcM huM hg hl hp ht (Nat.le_refl _)) ?_
    rintro r new ⟨rfl, nr⟩
    have hy := (Grow.refl M1).app nr
    simp (config := {implicitDefEqProofs := false, maxDischargeDepth := 20}) (disch := first | omega | (simp only [lenE]; done) | (simp only [lenE]; omega) | rfl | (simp only [lenE, markR_len]; done) | (simp only [lenE, markR_len]; omega)) only [runE, mapE, listE, resV, oneV, binA, unA, reduceCtorEq, Nat.reduceEqDiff, Nat.reduceAdd, Nat.reduceLT, Nat.reduceLeDiff, Nat.reduceMul, Nat.reduceSub, ↓reduceIte, decide_true, decide_false, Bool.true_eq_false, Bool.false_eq_true, Bool.not_true, Bool.not_false, if_true, if_false, and_true, true_and, memE, celE, w64, Nat.zero_add, Nat.add_zero, Nat.mul_one, putL, and_self, ldn, ct]
    have hb : ∀ i, i ≤ t → -100000 ≤ priceBy k ps t i ∧ priceBy k ps t i ≤ 1719 := fun i hi => by
      have := priceBy_in hg hp (t := t) (i := i) (by omega) hi (by omega)
      omega
    refine loop_inv mixed (fun s => ∃ (x : Nat) (M : Mem), x ≤ t ∧ s.t 7 = .func (.func 120) #[] #[.pointer (some ⟨m.length, 0, none⟩), .pointer (some ⟨m.length + 1 + 1, 0, none⟩), .pointer (some ⟨m.length + 1, 0, none⟩)] ∧ s.t 8 = .int .i64 (minQ (priceBy k ps t) t x) ∧ s.t 20 = .int .i64 t ∧ s.t 21 = .int .i64 x ∧ s.m = M ∧ Grow M1 M) (fun s => t - (intOf (s.t 21)).toNat)
      ⟨0, _, by omega, rfl, rfl, rfl, rfl, rfl, hy⟩ ?_
    rintro s ⟨x, M, hxt, t7, t8, t20, t21, tm, hxM⟩
    by_cases hlt : x < t
    · have hlt' : (x : Int) < t := by omega
      simp (config := {implicitDefEqProofs := false, maxDischargeDepth := 20}) (disch := first | omega | (simp only [lenE]; done) | (simp only [lenE]; omega) | rfl | (simp only [lenE, markR_len]; done) | (simp only [lenE, markR_len]; omega)) only [runE, mapE, listE, resV, oneV, binA, unA, reduceCtorEq, Nat.reduceEqDiff, Nat.reduceAdd, Nat.reduceLT, Nat.reduceLeDiff, Nat.reduceMul, Nat.reduceSub, ↓reduceIte, decide_true, decide_false, Bool.true_eq_false, Bool.false_eq_true, Bool.not_true, Bool.not_false, if_true, if_false, and_true, true_and, memE, celE, w64, Nat.zero_add, Nat.add_zero, Nat.mul_one, putL, and_self, ldn, t7, t8, t20, t21, tm, hlt']
      refine callH_rc (fairPrice1_rc M _ _ _ u v1 v2 v3 v4 k ps t x (hxM.rd c0) (hxM.rd c1) (hxM.rd c2) (hxM.rd c3) (hxM.rd ct) (hxM.rd cu) (hxM.case hcM) (hxM.ints huM) hg hl hp ht (by omega)) ?_
      rintro r new2 ⟨rfl, nr2⟩
      simp (config := {implicitDefEqProofs := false, maxDischargeDepth := 20}) (disch := first | omega | (simp only [lenE]; done) | (simp only [lenE]; omega) | rfl | (simp only [lenE, markR_len]; done) | (simp only [lenE, markR_len]; omega)) only [runE, mapE, listE, resV, oneV, binA, unA, reduceCtorEq, Nat.reduceEqDiff, Nat.reduceAdd, Nat.reduceLT, Nat.reduceLeDiff, Nat.reduceMul, Nat.reduceSub, ↓reduceIte, decide_true, decide_false, Bool.true_eq_false, Bool.false_eq_true, Bool.not_true, Bool.not_false, if_true, if_false, and_true, true_and, memE, celE, w64, Nat.zero_add, Nat.add_zero, Nat.mul_one, putL, and_self, ldn, t7, t8, t20, t21, tm]
      exact ⟨⟨x + 1, _, by omega, rfl, by simp, rfl, hxM.app nr2⟩, by simp [intOf]; omega⟩
    · have hlt' : ¬ ((x : Int) < t) := by omega
      have e : x = t := by omega
      subst e
      simp (config := {implicitDefEqProofs := false, maxDischargeDepth := 20}) (disch := first | omega | (simp only [lenE]; done) | (simp only [lenE]; omega) | rfl | (simp only [lenE, markR_len]; done) | (simp only [lenE, markR_len]; omega)) only [runE, mapE, listE, resV, oneV, binA, unA, reduceCtorEq, Nat.reduceEqDiff, Nat.reduceAdd, Nat.reduceLT, Nat.reduceLeDiff, Nat.reduceMul, Nat.reduceSub, ↓reduceIte, decide_true, decide_false, Bool.true_eq_false, Bool.false_eq_true, Bool.not_true, Bool.not_false, if_true, if_false, and_true, true_and, memE, celE, w64, Nat.zero_add, Nat.add_zero, Nat.mul_one, putL, and_self, ldn, t7, t8, t20, t21, tm, hlt']
      exact ext_ansV (hx1.grow hxM) rfl

theorem fairP_s (k : Cs) (t : Nat) : fairP k (t + 1) = fairP k t ++ [priceF k (fairP k t) t] := rfl
theorem fairP_in {k : Cs} (hg : Good k) (t : Nat) (h8 : t ≤ 8) : ∀ x ∈ fairP k t, 0 ≤ x ∧ x ≤ 9999 := fun x hx => by
  have := (fairP_inv hg t h8).2 x hx
  omega
def minZ (f : Nat → Int) : Nat → Int
  | 0 => 0
  | x + 1 => minB f x

theorem l3Best_rc (m : Mem) (v : Value) (k : Cs) (h : CaseA m v k) (hg : Good k) :
    RC Try.prog 91 [v] m (AnsR m (fairP k k.need.length)) := by
  refine rc_of_run mixed ok_spec_l3Best (by simp) (go_start _ _ _ ?_)
  obtain ⟨v1, v2, v3, v4, rfl, h1, h2, h3, h4⟩ := h.ro.ok
  have hc : CaseA (roM m) (.agg #[v1, v2, v3, v4]) k := ⟨_, _, _, _, rfl, h1, h2, h3, h4⟩
  have h8 := hg.n8
  have g0 := hg.ls
  simp (config := {implicitDefEqProofs := false, maxDischargeDepth := 20}) (disch := first | omega | (simp only [lenE]; done) | (simp only [lenE]; omega) | rfl | (simp only [lenE, markR_len]; done) | (simp only [lenE, markR_len]; omega)) only [runE, mapE, listE, resV, oneV, binA, unA, reduceCtorEq, Nat.reduceEqDiff, Nat.reduceAdd, Nat.reduceLT, Nat.reduceLeDiff, Nat.reduceMul, Nat.reduceSub, ↓reduceIte, decide_true, decide_false, Bool.true_eq_false, Bool.false_eq_true, Bool.not_true, Bool.not_false, if_true, if_false, and_true, true_and, memE, celE, w64, Nat.zero_add, Nat.add_zero, Nat.mul_one, putL, and_self, ldn, c_spec_l3Best, r_spec_l3Best, bsl_none]
  refine loop_inv mixed (fun s => ∃ (t : Nat) (M : Mem) (id : Nat), t ≤ k.need.length ∧ s.t 1 = .pointer (some ⟨m.length, 0, none⟩) ∧ s.t 3 = .slice (some ⟨id, 0, none⟩) (fairP k t).length 1 ∧ s.t 4 = .int .i64 t ∧ s.m = M ∧ Grow (roM m ++ [⟨.own, 28, [v1, v2, v3, v4]⟩]) M ∧ OwnR M id (fairP k t) ∧ m.length < id) (fun s => k.need.length - (intOf (s.t 4)).toNat)
    ⟨0, _, m.length + 1, by omega, rfl, rfl, rfl, rfl, (Grow.refl _).one _ _, OwnR.end' (l := []) (by simp [roM_len]), by omega⟩ ?_
  rintro s ⟨t, M, id, hk, t1, t3, t4, tm, hx, oh, lid⟩
  obtain ⟨r0, r1, r2, r3, hlM⟩ := hx.box4
  have fl := fairP_len k t
  by_cases hlt : t < k.need.length
  · have hlt' : (t : Int) < k.need.length := by omega
    have hp := fairP_in hg t (by omega)
    have nb := getD_bound (m := 20) (by omega) hg.need t
    simp (config := {implicitDefEqProofs := false, maxDischargeDepth := 20}) (disch := first | omega | (simp only [lenE]; done) | (simp only [lenE]; omega) | rfl | (simp only [lenE, markR_len]; done) | (simp only [lenE, markR_len]; omega)) only [runE, mapE, listE, resV, oneV, binA, unA, reduceCtorEq, Nat.reduceEqDiff, Nat.reduceAdd, Nat.reduceLT, Nat.reduceLeDiff, Nat.reduceMul, Nat.reduceSub, ↓reduceIte, decide_true, decide_false, Bool.true_eq_false, Bool.false_eq_true, Bool.not_true, Bool.not_false, if_true, if_false, and_true, true_and, memE, celE, w64, Nat.zero_add, Nat.add_zero, Nat.mul_one, putL, and_self, ldn, t1, t3, t4, tm, hlt', r0, (hx.intsV h1).len]
    refine loop_inv mixed (fun s => ∃ (x : Nat) (M' : Mem), x ≤ t + 1 ∧ (0 < x → 0 < k.need.getD t 0) ∧ s.t 1 = .pointer (some ⟨m.length, 0, none⟩) ∧ s.t 3 = .slice (some ⟨id, 0, none⟩) (fairP k t).length 1 ∧ s.t 4 = .int .i64 t ∧ s.t 5 = .int .i64 (minZ (priceBy k (fairP k t) t) x) ∧ s.t 6 = .int .i64 x ∧ s.m = M' ∧ Grow M M') (fun s => t + 1 - (intOf (s.t 6)).toNat)
      ⟨0, M, by omega, by omega, by simp only [put_t, put_t', put_m, putT_t, putT_t', putT_m, init_t, init_m, initT_0, initT_1, initT_2, initT_3, initT_4, Nat.reduceEqDiff, ↓reduceIte, t1], by simp only [put_t, put_t', put_m, putT_t, putT_t', putT_m, init_t, init_m, initT_0, initT_1, initT_2, initT_3, initT_4, Nat.reduceEqDiff, ↓reduceIte, t3], by simp only [put_t, put_t', put_m, putT_t, putT_t', putT_m, init_t, init_m, initT_0, initT_1, initT_2, initT_3, initT_4, Nat.reduceEqDiff, ↓reduceIte, t4], rfl, rfl, by simp only [put_t, put_t', put_m, putT_t, putT_t', putT_m, init_t, init_m, initT_0, initT_1, initT_2, initT_3, initT_4, Nat.reduceEqDiff, ↓reduceIte, tm], Grow.refl _⟩ ?_
    rintro s2 ⟨x, M', hxt, hx0, u1, u3, u4, u5, u6, um, hx'⟩
    have hxx := hx.trans hx'
    obtain ⟨q0, q1, q2, q3, hlM'⟩ := hxx.box4
    have i1 := hxx.intsV h1
    have i2 := hxx.intsV h2
    have oh' := hx'.own oh
    have ohi := oh'.ints (by omega) 1
    by_cases hlt2 : x ≤ t
    · have hlt2' : (x : Int) ≤ t := by omega
      by_cases hn : 0 < k.need.getD t 0
      · simp (config := {implicitDefEqProofs := false, maxDischargeDepth := 20}) (disch := first | omega | (simp only [lenE]; done) | (simp only [lenE]; omega) | rfl | (simp only [lenE, markR_len]; done) | (simp only [lenE, markR_len]; omega)) only [runE, mapE, listE, resV, oneV, binA, unA, reduceCtorEq, Nat.reduceEqDiff, Nat.reduceAdd, Nat.reduceLT, Nat.reduceLeDiff, Nat.reduceMul, Nat.reduceSub, ↓reduceIte, decide_true, decide_false, Bool.true_eq_false, Bool.false_eq_true, Bool.not_true, Bool.not_false, if_true, if_false, and_true, true_and, memE, celE, w64, Nat.zero_add, Nat.add_zero, Nat.mul_one, putL, and_self, ldn, u1, u3, u4, u5, u6, um, hlt2', q0, q1, q2, q3, i1.at_ t (by omega), i1.ld t (by omega), gt_iff_lt, hn, i2.at_ x (by omega), i2.ld x (by omega)]
        refine rcallH_rc (l3Rate_rc _ _ k x t (hxx.caseV hc) hg (by omega) hlt2 (by omega)) ?_
        rintro r new ⟨rfl, nr⟩
        simp (config := {implicitDefEqProofs := false, maxDischargeDepth := 20}) (disch := first | omega | (simp only [lenE]; done) | (simp only [lenE]; omega) | rfl | (simp only [lenE, markR_len]; done) | (simp only [lenE, markR_len]; omega)) only [runE, mapE, listE, resV, oneV, binA, unA, reduceCtorEq, Nat.reduceEqDiff, Nat.reduceAdd, Nat.reduceLT, Nat.reduceLeDiff, Nat.reduceMul, Nat.reduceSub, ↓reduceIte, decide_true, decide_false, Bool.true_eq_false, Bool.false_eq_true, Bool.not_true, Bool.not_false, if_true, if_false, and_true, true_and, memE, celE, w64, Nat.zero_add, Nat.add_zero, Nat.mul_one, putL, and_self, ldn]
        refine rcallH_rc (l3Claim_rc _ _ _ k (fairP k t) x ((hxx.caseV hc).ext _) (ohi.ext _) hg (by omega) hp (by omega)) ?_
        rintro r new2 ⟨rfl, nr2⟩
        have b := priceBy_in hg hp (t := t) (i := x) (by omega) hlt2 (by omega)
        have ep : k.need.getD t 0 * rateF k x t + k.setup.getD x 0 - claimF k (fairP k t) x = priceBy k (fairP k t) t x := rfl
        have b' := b
        unfold priceBy at b'
        cases x with
        | zero =>
          simp (config := {implicitDefEqProofs := false, maxDischargeDepth := 20}) (disch := first | omega | (simp only [lenE]; done) | (simp only [lenE]; omega) | rfl | (simp only [lenE, markR_len]; done) | (simp only [lenE, markR_len]; omega)) only [runE, mapE, listE, resV, oneV, binA, unA, reduceCtorEq, Nat.reduceEqDiff, Nat.reduceAdd, Nat.reduceLT, Nat.reduceLeDiff, Nat.reduceMul, Nat.reduceSub, ↓reduceIte, decide_true, decide_false, Bool.true_eq_false, Bool.false_eq_true, Bool.not_true, Bool.not_false, if_true, if_false, and_true, true_and, memE, celE, w64, Nat.zero_add, Nat.add_zero, Nat.mul_one, putL, and_self, ldn, u1, u3, u4, u5, u6, um, ep, show ((((0 : Nat) : Int) == 0) = true) by rfl]
          exact ⟨⟨1, _, by omega, fun _ => trivial, rfl, rfl, rfl, (hx'.app nr).app nr2⟩, by simp [intOf]⟩
        | succ y =>
          have ne : ((((y + 1 : Nat) : Int) == 0) = false) := by simp only [beq_eq_false_iff_ne]; omega
          by_cases hle : priceBy k (fairP k t) t (y + 1) < minZ (priceBy k (fairP k t) t) (y + 1)
          · have hle' : priceBy k (fairP k t) t (y + 1) < minB (priceBy k (fairP k t) t) y := hle
            simp (config := {implicitDefEqProofs := false, maxDischargeDepth := 20}) (disch := first | omega | (simp only [lenE]; done) | (simp only [lenE]; omega) | rfl | (simp only [lenE, markR_len]; done) | (simp only [lenE, markR_len]; omega)) only [runE, mapE, listE, resV, oneV, binA, unA, reduceCtorEq, Nat.reduceEqDiff, Nat.reduceAdd, Nat.reduceLT, Nat.reduceLeDiff, Nat.reduceMul, Nat.reduceSub, ↓reduceIte, decide_true, decide_false, Bool.true_eq_false, Bool.false_eq_true, Bool.not_true, Bool.not_false, if_true, if_false, and_true, true_and, memE, celE, w64, Nat.zero_add, Nat.add_zero, Nat.mul_one, putL, and_self, ldn, u1, u3, u4, u5, u6, um, ep, ne, hle]
            exact ⟨⟨y + 1 + 1, _, by omega, fun _ => trivial, by rw [minZ, minB]; congr 1; omega, by simp, rfl, (hx'.app nr).app nr2⟩, by simp [intOf]; omega⟩
          · have hle' : ¬ (priceBy k (fairP k t) t (y + 1) < minB (priceBy k (fairP k t) t) y) := hle
            simp (config := {implicitDefEqProofs := false, maxDischargeDepth := 20}) (disch := first | omega | (simp only [lenE]; done) | (simp only [lenE]; omega) | rfl | (simp only [lenE, markR_len]; done) | (simp only [lenE, markR_len]; omega)) only [runE, mapE, listE, resV, oneV, binA, unA, reduceCtorEq, Nat.reduceEqDiff, Nat.reduceAdd, Nat.reduceLT, Nat.reduceLeDiff, Nat.reduceMul, Nat.reduceSub, ↓reduceIte, decide_true, decide_false, Bool.true_eq_false, Bool.false_eq_true, Bool.not_true, Bool.not_false, if_true, if_false, and_true, true_and, memE, celE, w64, Nat.zero_add, Nat.add_zero, Nat.mul_one, putL, and_self, ldn, u1, u3, u4, u5, u6, um, ep, ne, hle]
            exact ⟨⟨y + 1 + 1, _, by omega, fun _ => trivial, by rw [minZ, minZ, minB]; congr 1; omega, by simp, rfl, (hx'.app nr).app nr2⟩, by simp [intOf]; omega⟩
      · have hx00 : x = 0 := by
          rcases Nat.eq_zero_or_pos x with h | h
          · exact h
          · exact absurd (hx0 h) hn
        subst hx00
        have e : priceF k (fairP k t) t = 0 := by unfold priceF; rw [if_pos (by omega)]
        have ohl := oh'.lt
        have ap := fun id2 n => app_genH (M := M') (x := (0 : Int)) (id2 := id2) (n := n) oh' (by omega)
        simp (config := {implicitDefEqProofs := false, maxDischargeDepth := 20}) (disch := first | omega | (simp only [lenE]; done) | (simp only [lenE]; omega) | rfl | (simp only [lenE, markR_len]; done) | (simp only [lenE, markR_len]; omega)) only [runE, mapE, listE, resV, oneV, binA, unA, reduceCtorEq, Nat.reduceEqDiff, Nat.reduceAdd, Nat.reduceLT, Nat.reduceLeDiff, Nat.reduceMul, Nat.reduceSub, ↓reduceIte, decide_true, decide_false, Bool.true_eq_false, Bool.false_eq_true, Bool.not_true, Bool.not_false, if_true, if_false, and_true, true_and, memE, celE, w64, Nat.zero_add, Nat.add_zero, Nat.mul_one, putL, and_self, ldn, u1, u3, u4, u5, u6, um, hlt2', q0, q1, q2, q3, i1.at_ t (by omega), i1.ld t (by omega), gt_iff_lt, hn, minZ, bsl_one, ap]
        refine ⟨⟨t + 1, _, M'.length + 1, by omega, by rw [fairP_s, List.length_append]; rfl, by simp, rfl, ((hxx.dead ?_).one _ _).one _ _, ?_, ?_⟩, by simp [intOf]; omega⟩
        · simp [roM_len]; omega
        · rw [fairP_s, e]
          exact OwnR.end' (l := fairP k t ++ [0]) (by simp)
        · omega
    · have hlt2' : ¬ ((x : Int) ≤ t) := by omega
      have hxe : x = t + 1 := by omega
      subst hxe
      have hn := hx0 (by omega)
      have e : priceF k (fairP k t) t = minB (priceBy k (fairP k t) t) t := by unfold priceF; rw [if_neg (by omega)]
      rw [minZ, ← e] at u5
      have ohl := oh'.lt
      have ap := fun id2 n => app_genH (M := M') (x := priceF k (fairP k t) t) (id2 := id2) (n := n) oh' (by omega)
      simp (config := {implicitDefEqProofs := false, maxDischargeDepth := 20}) (disch := first | omega | (simp only [lenE]; done) | (simp only [lenE]; omega) | rfl | (simp only [lenE, markR_len]; done) | (simp only [lenE, markR_len]; omega)) only [runE, mapE, listE, resV, oneV, binA, unA, reduceCtorEq, Nat.reduceEqDiff, Nat.reduceAdd, Nat.reduceLT, Nat.reduceLeDiff, Nat.reduceMul, Nat.reduceSub, ↓reduceIte, decide_true, decide_false, Bool.true_eq_false, Bool.false_eq_true, Bool.not_true, Bool.not_false, if_true, if_false, and_true, true_and, memE, celE, w64, Nat.zero_add, Nat.add_zero, Nat.mul_one, putL, and_self, ldn, u1, u3, u4, u5, u6, um, hlt2', bsl_one, ap]
      refine ⟨⟨t + 1, _, M'.length + 1, by omega, by rw [fairP_s, List.length_append]; rfl, by simp, rfl, ((hxx.dead ?_).one _ _).one _ _, ?_, ?_⟩, by simp [intOf]; omega⟩
      · simp [roM_len]; omega
      · rw [fairP_s]
        exact OwnR.end' (l := fairP k t ++ [priceF k (fairP k t) t]) (by simp)
      · omega
  · have hlt' : ¬ ((t : Int) < k.need.length) := by omega
    have e : t = k.need.length := by omega
    subst e
    simp (config := {implicitDefEqProofs := false, maxDischargeDepth := 20}) (disch := first | omega | (simp only [lenE]; done) | (simp only [lenE]; omega) | rfl | (simp only [lenE, markR_len]; done) | (simp only [lenE, markR_len]; omega)) only [runE, mapE, listE, resV, oneV, binA, unA, reduceCtorEq, Nat.reduceEqDiff, Nat.reduceAdd, Nat.reduceLT, Nat.reduceLeDiff, Nat.reduceMul, Nat.reduceSub, ↓reduceIte, decide_true, decide_false, Bool.true_eq_false, Bool.false_eq_true, Bool.not_true, Bool.not_false, if_true, if_false, and_true, true_and, memE, celE, w64, Nat.zero_add, Nat.add_zero, Nat.mul_one, putL, and_self, ldn, t1, t3, t4, tm, hlt', r0, (hx.intsV h1).len]
    exact ext_ansR hx.ext oh (by omega) rfl (by omega)

def priceA (k : Cs) : List Int := if k.good then fairP k k.need.length else []
theorem priceA_no {k : Cs} (h : k.good = false) : priceA k = [] := by unfold priceA; rw [h]; rfl
theorem priceA_yes {k : Cs} (h : k.good = true) : priceA k = fairP k k.need.length := by unfold priceA; rw [h]; rfl
theorem specPrice_rc (m : Mem) (v : Value) (k : Cs) (h : CaseA m v k) : RC Try.prog 50 [v] m (AnsL m (priceA k) k.good) := by
  refine rc_of_run mixed ok_spec_FairPrices (by simp) (go_start _ _ _ ?_)
  obtain ⟨v1, v2, v3, v4, rfl, h1, h2, h3, h4⟩ := h.ro.ok
  have hc : CaseA (roM m) (.agg #[v1, v2, v3, v4]) k := ⟨_, _, _, _, rfl, h1, h2, h3, h4⟩
  simp (config := {implicitDefEqProofs := false, maxDischargeDepth := 20}) (disch := first | omega | (simp only [lenE]; done) | (simp only [lenE]; omega) | rfl | (simp only [lenE, markR_len]; done) | (simp only [lenE, markR_len]; omega)) only [runE, mapE, listE, resV, oneV, binA, unA, reduceCtorEq, Nat.reduceEqDiff, Nat.reduceAdd, Nat.reduceLT, Nat.reduceLeDiff, Nat.reduceMul, Nat.reduceSub, ↓reduceIte, decide_true, decide_false, Bool.true_eq_false, Bool.false_eq_true, Bool.not_true, Bool.not_false, if_true, if_false, and_true, true_and, memE, celE, w64, Nat.zero_add, Nat.add_zero, Nat.mul_one, putL, and_self, ldn, c_spec_FairPrices, r_spec_FairPrices]
  refine callH_rc (l2Good_rc _ _ k (hc.ext _)) ?_
  rintro r new ⟨rfl, nr1⟩
  have hx : Grow (roM m ++ [⟨.own, 28, [v1, v2, v3, v4]⟩]) (roM m ++ [⟨.own, 28, [v1, v2, v3, v4]⟩] ++ new) := (Grow.refl _).app nr1
  cases hg : k.good with
  | false =>
    simp (config := {implicitDefEqProofs := false, maxDischargeDepth := 20}) (disch := first | omega | (simp only [lenE]; done) | (simp only [lenE]; omega) | rfl | (simp only [lenE, markR_len]; done) | (simp only [lenE, markR_len]; omega)) only [runE, mapE, listE, resV, oneV, binA, unA, reduceCtorEq, Nat.reduceEqDiff, Nat.reduceAdd, Nat.reduceLT, Nat.reduceLeDiff, Nat.reduceMul, Nat.reduceSub, ↓reduceIte, decide_true, decide_false, Bool.true_eq_false, Bool.false_eq_true, Bool.not_true, Bool.not_false, if_true, if_false, and_true, true_and, memE, celE, w64, Nat.zero_add, Nat.add_zero, Nat.mul_one, putL, and_self, ldn, bsl_none]
    rw [priceA_no hg]
    refine ext_ansL (hx.ext.one _ _) (OwnR.end' (l := []) ?_) (by omega) rfl (by simp)
    simp only [List.length_append, List.length_cons, List.length_nil, roM_len]
  | true =>
    have gd := good_iff.1 hg
    rw [priceA_yes hg]
    simp (config := {implicitDefEqProofs := false, maxDischargeDepth := 20}) (disch := first | omega | (simp only [lenE]; done) | (simp only [lenE]; omega) | rfl | (simp only [lenE, markR_len]; done) | (simp only [lenE, markR_len]; omega)) only [runE, mapE, listE, resV, oneV, binA, unA, reduceCtorEq, Nat.reduceEqDiff, Nat.reduceAdd, Nat.reduceLT, Nat.reduceLeDiff, Nat.reduceMul, Nat.reduceSub, ↓reduceIte, decide_true, decide_false, Bool.true_eq_false, Bool.false_eq_true, Bool.not_true, Bool.not_false, if_true, if_false, and_true, true_and, memE, celE, w64, Nat.zero_add, Nat.add_zero, Nat.mul_one, putL, and_self, ldn]
    refine callH_rc (l3Best_rc _ _ k (hx.caseV hc) gd) ?_
    intro r new2 hA
    obtain ⟨id2, fl2, rfl, hge2, hown2, hle2, nr2⟩ := hA.row
    simp only [List.length_append, List.length_cons, List.length_nil, roM_len] at hge2
    simp (config := {implicitDefEqProofs := false, maxDischargeDepth := 20}) (disch := first | omega | (simp only [lenE]; done) | (simp only [lenE]; omega) | rfl | (simp only [lenE, markR_len]; done) | (simp only [lenE, markR_len]; omega)) only [runE, mapE, listE, resV, oneV, binA, unA, reduceCtorEq, Nat.reduceEqDiff, Nat.reduceAdd, Nat.reduceLT, Nat.reduceLeDiff, Nat.reduceMul, Nat.reduceSub, ↓reduceIte, decide_true, decide_false, Bool.true_eq_false, Bool.false_eq_true, Bool.not_true, Bool.not_false, if_true, if_false, and_true, true_and, memE, celE, w64, Nat.zero_add, Nat.add_zero, Nat.mul_one, putL, and_self, ldn]
    exact ext_ansL (hx.app nr2).ext hown2 (by omega) rfl (by omega)

theorem implPrice_rc (m : Mem) (v : Value) (k : Cs) (h : CaseA m v k) : RC Try.prog 51 [v] m (AnsL m (priceA k) k.good) := by
  refine rc_of_run mixed ok_impl_FairPrices (by simp) (go_start _ _ _ ?_)
  obtain ⟨v1, v2, v3, v4, rfl, h1, h2, h3, h4⟩ := h.ro.ok
  have hc : CaseA (roM m) (.agg #[v1, v2, v3, v4]) k := ⟨_, _, _, _, rfl, h1, h2, h3, h4⟩
  simp (config := {implicitDefEqProofs := false, maxDischargeDepth := 20}) (disch := first | omega | (simp only [lenE]; done) | (simp only [lenE]; omega) | rfl | (simp only [lenE, markR_len]; done) | (simp only [lenE, markR_len]; omega)) only [runE, mapE, listE, resV, oneV, binA, unA, reduceCtorEq, Nat.reduceEqDiff, Nat.reduceAdd, Nat.reduceLT, Nat.reduceLeDiff, Nat.reduceMul, Nat.reduceSub, ↓reduceIte, decide_true, decide_false, Bool.true_eq_false, Bool.false_eq_true, Bool.not_true, Bool.not_false, if_true, if_false, and_true, true_and, memE, celE, w64, Nat.zero_add, Nat.add_zero, Nat.mul_one, putL, and_self, ldn, c_impl_FairPrices, r_impl_FairPrices]
  refine callH_rc (implIsCase_rc _ _ k (hc.ext _)) ?_
  rintro r new ⟨rfl, nr1⟩
  have hx : Grow (roM m ++ [⟨.own, 28, [v1, v2, v3, v4]⟩]) (roM m ++ [⟨.own, 28, [v1, v2, v3, v4]⟩] ++ new) := (Grow.refl _).app nr1
  cases hg : k.good with
  | false =>
    simp (config := {implicitDefEqProofs := false, maxDischargeDepth := 20}) (disch := first | omega | (simp only [lenE]; done) | (simp only [lenE]; omega) | rfl | (simp only [lenE, markR_len]; done) | (simp only [lenE, markR_len]; omega)) only [runE, mapE, listE, resV, oneV, binA, unA, reduceCtorEq, Nat.reduceEqDiff, Nat.reduceAdd, Nat.reduceLT, Nat.reduceLeDiff, Nat.reduceMul, Nat.reduceSub, ↓reduceIte, decide_true, decide_false, Bool.true_eq_false, Bool.false_eq_true, Bool.not_true, Bool.not_false, if_true, if_false, and_true, true_and, memE, celE, w64, Nat.zero_add, Nat.add_zero, Nat.mul_one, putL, and_self, ldn, bsl_none]
    rw [priceA_no hg]
    refine ext_ansL (hx.ext.one _ _) (OwnR.end' (l := []) ?_) (by omega) rfl (by simp)
    simp only [List.length_append, List.length_cons, List.length_nil, roM_len]
  | true =>
    have gd := good_iff.1 hg
    have h8 := gd.n8
    rw [priceA_yes hg]
    simp (config := {implicitDefEqProofs := false, maxDischargeDepth := 20}) (disch := first | omega | (simp only [lenE]; done) | (simp only [lenE]; omega) | rfl | (simp only [lenE, markR_len]; done) | (simp only [lenE, markR_len]; omega)) only [runE, mapE, listE, resV, oneV, binA, unA, reduceCtorEq, Nat.reduceEqDiff, Nat.reduceAdd, Nat.reduceLT, Nat.reduceLeDiff, Nat.reduceMul, Nat.reduceSub, ↓reduceIte, decide_true, decide_false, Bool.true_eq_false, Bool.false_eq_true, Bool.not_true, Bool.not_false, if_true, if_false, and_true, true_and, memE, celE, w64, Nat.zero_add, Nat.add_zero, Nat.mul_one, putL, and_self, ldn, bsl_none, h1.len]
    refine loop_inv mixed (fun s => ∃ (t : Nat) (M : Mem) (id : Nat), t ≤ k.need.length ∧ s.t 1 = .pointer (some ⟨m.length, 0, none⟩) ∧ s.t 4 = .slice (some ⟨id, 0, none⟩) (fairP k t).length 1 ∧ s.t 13 = .int .i64 k.need.length ∧ s.t 14 = .int .i64 t ∧ s.m = M ∧ Grow (roM m ++ [⟨.own, 28, [v1, v2, v3, v4]⟩]) M ∧ OwnR M id (fairP k t) ∧ m.length < id) (fun s => k.need.length - (intOf (s.t 14)).toNat)
      ⟨0, _, m.length + 1 + new.length, by omega, rfl, rfl, rfl, rfl, rfl, hx.one _ _, OwnR.end' (l := []) (by simp [roM_len]; omega), by omega⟩ ?_
    rintro s ⟨t, M, id, hk, t1, t4, t13, t14, tm, hxM, oh, lid⟩
    obtain ⟨r0, r1, r2, r3, hlM⟩ := hxM.box4
    have fl := fairP_len k t
    by_cases hlt : t < k.need.length
    · have hlt' : (t : Int) < k.need.length := by omega
      have hp := fairP_in gd t (by omega)
      have ohi := oh.ints (by omega) 1
      simp (config := {implicitDefEqProofs := false, maxDischargeDepth := 20}) (disch := first | omega | (simp only [lenE]; done) | (simp only [lenE]; omega) | rfl | (simp only [lenE, markR_len]; done) | (simp only [lenE, markR_len]; omega)) only [runE, mapE, listE, resV, oneV, binA, unA, reduceCtorEq, Nat.reduceEqDiff, Nat.reduceAdd, Nat.reduceLT, Nat.reduceLeDiff, Nat.reduceMul, Nat.reduceSub, ↓reduceIte, decide_true, decide_false, Bool.true_eq_false, Bool.false_eq_true, Bool.not_true, Bool.not_false, if_true, if_false, and_true, true_and, memE, celE, w64, Nat.zero_add, Nat.add_zero, Nat.mul_one, putL, and_self, ldn, t1, t4, t13, t14, tm, hlt', r0, r1, r2, r3]
      refine callH_rc (fairPrice_rc _ _ _ k (fairP k t) t (hxM.caseV hc) ohi gd (by omega) hp hlt) ?_
      rintro r new2 ⟨rfl, nr2⟩
      have ohl := oh.lt
      have ap := fun id2 n => app_genH (M := M ++ new2) (x := priceF k (fairP k t) t) (id2 := id2) (n := n) (oh.ext new2) (by omega)
      simp (config := {implicitDefEqProofs := false, maxDischargeDepth := 20}) (disch := first | omega | (simp only [lenE]; done) | (simp only [lenE]; omega) | rfl | (simp only [lenE, markR_len]; done) | (simp only [lenE, markR_len]; omega)) only [runE, mapE, listE, resV, oneV, binA, unA, reduceCtorEq, Nat.reduceEqDiff, Nat.reduceAdd, Nat.reduceLT, Nat.reduceLeDiff, Nat.reduceMul, Nat.reduceSub, ↓reduceIte, decide_true, decide_false, Bool.true_eq_false, Bool.false_eq_true, Bool.not_true, Bool.not_false, if_true, if_false, and_true, true_and, memE, celE, w64, Nat.zero_add, Nat.add_zero, Nat.mul_one, putL, and_self, ldn, t1, t4, t13, t14, tm, bsl_one, ap]
      refine ⟨⟨t + 1, _, M.length + new2.length + 1, by omega, by rw [fairP_s, List.length_append]; rfl, by simp, rfl, (((hxM.app nr2).dead ?_).one _ _).one _ _, ?_, ?_⟩, by simp [intOf]; omega⟩
      · simp [roM_len]; omega
      · rw [fairP_s]
        exact OwnR.end' (l := fairP k t ++ [priceF k (fairP k t) t]) (by simp)
      · omega
    · have hlt' : ¬ ((t : Int) < k.need.length) := by omega
      have e : t = k.need.length := by omega
      subst e
      simp (config := {implicitDefEqProofs := false, maxDischargeDepth := 20}) (disch := first | omega | (simp only [lenE]; done) | (simp only [lenE]; omega) | rfl | (simp only [lenE, markR_len]; done) | (simp only [lenE, markR_len]; omega)) only [runE, mapE, listE, resV, oneV, binA, unA, reduceCtorEq, Nat.reduceEqDiff, Nat.reduceAdd, Nat.reduceLT, Nat.reduceLeDiff, Nat.reduceMul, Nat.reduceSub, ↓reduceIte, decide_true, decide_false, Bool.true_eq_false, Bool.false_eq_true, Bool.not_true, Bool.not_false, if_true, if_false, and_true, true_and, memE, celE, w64, Nat.zero_add, Nat.add_zero, Nat.mul_one, putL, and_self, ldn, t1, t4, t13, t14, tm, hlt']
      exact ext_ansL hxM.ext oh (by omega) rfl (by omega)

def proofOk (k : Cs) (ps pl : List Int) : Bool := (pricesOk k ps && fairB k ps) && two k pl
def proofB (k : Cs) (ps pl : List Int) : Bool := proofOk k ps pl && (sumTo ps ps.length == costOf k pl)
theorem sum_prices {k : Cs} {ps : List Int} (h : pricesOk k ps = true) : ∀ j : Nat, j ≤ ps.length → -4611686018427387904 ≤ sumTo ps j ∧ sumTo ps j ≤ 4611686018427387904 := fun j hj => by
  obtain ⟨gd, hl, hp⟩ := pricesOk_iff h
  have := sumTo_bound (m := 9999) (by omega) hp j
  have := gd.n8
  omega

theorem specProof_rc (m : Mem) (v u w : Value) (k : Cs) (ps pl : List Int) (h : CaseA m v k) (h' : IntsA m u ps) (h'' : IntsA m w pl) :
    RC Try.prog 52 [v, u, w] m (AnsV (.tuple #[.bool (proofB k ps pl), .bool (proofOk k ps pl)])) := by
  refine rc_of_run mixed ok_spec_IsPriceProof (by simp) (go_start _ _ _ ?_)
  obtain ⟨v1, v2, v3, v4, rfl, h1, h2, h3, h4⟩ := h.ro.ok
  have hc : CaseA (roM m) (.agg #[v1, v2, v3, v4]) k := ⟨_, _, _, _, rfl, h1, h2, h3, h4⟩
  have hu := h'.ro
  have hw := h''.ro
  simp (config := {implicitDefEqProofs := false, maxDischargeDepth := 20}) (disch := first | omega | (simp only [lenE]; done) | (simp only [lenE]; omega) | rfl | (simp only [lenE, markR_len]; done) | (simp only [lenE, markR_len]; omega)) only [runE, mapE, listE, resV, oneV, binA, unA, reduceCtorEq, Nat.reduceEqDiff, Nat.reduceAdd, Nat.reduceLT, Nat.reduceLeDiff, Nat.reduceMul, Nat.reduceSub, ↓reduceIte, decide_true, decide_false, Bool.true_eq_false, Bool.false_eq_true, Bool.not_true, Bool.not_false, if_true, if_false, and_true, true_and, memE, celE, w64, Nat.zero_add, Nat.add_zero, Nat.mul_one, putL, and_self, ldn, c_spec_IsPriceProof, r_spec_IsPriceProof]
  refine callH_rc (l3Fair_rc _ _ u k ps (hc.ext _) (hu.ext _)) ?_
  rintro r new ⟨rfl, nr1⟩
  have hx : Grow (roM m ++ [⟨.own, 28, [v1, v2, v3, v4]⟩]) (roM m ++ [⟨.own, 28, [v1, v2, v3, v4]⟩] ++ new) := (Grow.refl _).app nr1
  cases hf : (pricesOk k ps && fairB k ps) with
  | false =>
    have no : proofOk k ps pl = false := by unfold proofOk; rw [hf]; rfl
    simp (config := {implicitDefEqProofs := false, maxDischargeDepth := 20}) (disch := first | omega | (simp only [lenE]; done) | (simp only [lenE]; omega) | rfl | (simp only [lenE, markR_len]; done) | (simp only [lenE, markR_len]; omega)) only [runE, mapE, listE, resV, oneV, binA, unA, reduceCtorEq, Nat.reduceEqDiff, Nat.reduceAdd, Nat.reduceLT, Nat.reduceLeDiff, Nat.reduceMul, Nat.reduceSub, ↓reduceIte, decide_true, decide_false, Bool.true_eq_false, Bool.false_eq_true, Bool.not_true, Bool.not_false, if_true, if_false, and_true, true_and, memE, celE, w64, Nat.zero_add, Nat.add_zero, Nat.mul_one, putL, and_self, ldn]
    exact ext_ansV hx.ext (by unfold proofB; rw [no]; rfl)
  | true =>
    simp (config := {implicitDefEqProofs := false, maxDischargeDepth := 20}) (disch := first | omega | (simp only [lenE]; done) | (simp only [lenE]; omega) | rfl | (simp only [lenE, markR_len]; done) | (simp only [lenE, markR_len]; omega)) only [runE, mapE, listE, resV, oneV, binA, unA, reduceCtorEq, Nat.reduceEqDiff, Nat.reduceAdd, Nat.reduceLT, Nat.reduceLeDiff, Nat.reduceMul, Nat.reduceSub, ↓reduceIte, decide_true, decide_false, Bool.true_eq_false, Bool.false_eq_true, Bool.not_true, Bool.not_false, if_true, if_false, and_true, true_and, memE, celE, w64, Nat.zero_add, Nat.add_zero, Nat.mul_one, putL, and_self, ldn]
    refine callH_rc (l2Two_rc _ _ w k pl (hx.caseV hc) (hx.intsV hw)) ?_
    rintro r new2 ⟨rfl, nr2⟩
    have hx2 := hx.app nr2
    cases ht : two k pl with
    | false =>
      have no : proofOk k ps pl = false := by unfold proofOk; rw [ht]; simp
      simp (config := {implicitDefEqProofs := false, maxDischargeDepth := 20}) (disch := first | omega | (simp only [lenE]; done) | (simp only [lenE]; omega) | rfl | (simp only [lenE, markR_len]; done) | (simp only [lenE, markR_len]; omega)) only [runE, mapE, listE, resV, oneV, binA, unA, reduceCtorEq, Nat.reduceEqDiff, Nat.reduceAdd, Nat.reduceLT, Nat.reduceLeDiff, Nat.reduceMul, Nat.reduceSub, ↓reduceIte, decide_true, decide_false, Bool.true_eq_false, Bool.false_eq_true, Bool.not_true, Bool.not_false, if_true, if_false, and_true, true_and, memE, celE, w64, Nat.zero_add, Nat.add_zero, Nat.mul_one, putL, and_self, ldn]
      exact ext_ansV hx2.ext (by unfold proofB; rw [no]; rfl)
    | true =>
      have yes : proofOk k ps pl = true := by unfold proofOk; rw [hf, ht]; rfl
      have hpo : pricesOk k ps = true := by rw [Bool.and_eq_true] at hf; exact hf.1
      obtain ⟨b1, b2, b3⟩ := two_bounds ht
      simp (config := {implicitDefEqProofs := false, maxDischargeDepth := 20}) (disch := first | omega | (simp only [lenE]; done) | (simp only [lenE]; omega) | rfl | (simp only [lenE, markR_len]; done) | (simp only [lenE, markR_len]; omega)) only [runE, mapE, listE, resV, oneV, binA, unA, reduceCtorEq, Nat.reduceEqDiff, Nat.reduceAdd, Nat.reduceLT, Nat.reduceLeDiff, Nat.reduceMul, Nat.reduceSub, ↓reduceIte, decide_true, decide_false, Bool.true_eq_false, Bool.false_eq_true, Bool.not_true, Bool.not_false, if_true, if_false, and_true, true_and, memE, celE, w64, Nat.zero_add, Nat.add_zero, Nat.mul_one, putL, and_self, ldn]
      refine rcallH_rc (l2Sum_rc _ u ps (hx2.intsV hu) (sum_prices hpo)) ?_
      rintro r new3 ⟨rfl, rfl⟩
      simp (config := {implicitDefEqProofs := false, maxDischargeDepth := 20}) (disch := first | omega | (simp only [lenE]; done) | (simp only [lenE]; omega) | rfl | (simp only [lenE, markR_len]; done) | (simp only [lenE, markR_len]; omega)) only [runE, mapE, listE, resV, oneV, binA, unA, reduceCtorEq, Nat.reduceEqDiff, Nat.reduceAdd, Nat.reduceLT, Nat.reduceLeDiff, Nat.reduceMul, Nat.reduceSub, ↓reduceIte, decide_true, decide_false, Bool.true_eq_false, Bool.false_eq_true, Bool.not_true, Bool.not_false, if_true, if_false, and_true, true_and, memE, celE, w64, Nat.zero_add, Nat.add_zero, Nat.mul_one, putL, and_self, ldn]
      refine rcallH_rc (l2Cost_rc _ _ w k pl (hx2.caseV hc) (hx2.intsV hw) b1 b2 b3) ?_
      rintro r new4 ⟨rfl, nr4⟩
      simp (config := {implicitDefEqProofs := false, maxDischargeDepth := 20}) (disch := first | omega | (simp only [lenE]; done) | (simp only [lenE]; omega) | rfl | (simp only [lenE, markR_len]; done) | (simp only [lenE, markR_len]; omega)) only [runE, mapE, listE, resV, oneV, binA, unA, reduceCtorEq, Nat.reduceEqDiff, Nat.reduceAdd, Nat.reduceLT, Nat.reduceLeDiff, Nat.reduceMul, Nat.reduceSub, ↓reduceIte, decide_true, decide_false, Bool.true_eq_false, Bool.false_eq_true, Bool.not_true, Bool.not_false, if_true, if_false, and_true, true_and, memE, celE, w64, Nat.zero_add, Nat.add_zero, Nat.mul_one, putL, and_self, ldn]
      refine ext_ansV (by simpa using (hx2.app nr4).ext) ?_
      unfold proofB; rw [yes]; rfl

theorem implProof_rc (m : Mem) (v u w : Value) (k : Cs) (ps pl : List Int) (h : CaseA m v k) (h' : IntsA m u ps) (h'' : IntsA m w pl) :
    RC Try.prog 53 [v, u, w] m (AnsV (.tuple #[.bool (proofB k ps pl), .bool (proofOk k ps pl)])) := by
  refine rc_of_run mixed ok_impl_IsPriceProof (by simp) (go_start _ _ _ ?_)
  obtain ⟨v1, v2, v3, v4, rfl, h1, h2, h3, h4⟩ := h.ro.ok
  have hc : CaseA (roM m) (.agg #[v1, v2, v3, v4]) k := ⟨_, _, _, _, rfl, h1, h2, h3, h4⟩
  have hu := h'.ro
  have hw := h''.ro
  simp (config := {implicitDefEqProofs := false, maxDischargeDepth := 20}) (disch := first | omega | (simp only [lenE]; done) | (simp only [lenE]; omega) | rfl | (simp only [lenE, markR_len]; done) | (simp only [lenE, markR_len]; omega)) only [runE, mapE, listE, resV, oneV, binA, unA, reduceCtorEq, Nat.reduceEqDiff, Nat.reduceAdd, Nat.reduceLT, Nat.reduceLeDiff, Nat.reduceMul, Nat.reduceSub, ↓reduceIte, decide_true, decide_false, Bool.true_eq_false, Bool.false_eq_true, Bool.not_true, Bool.not_false, if_true, if_false, and_true, true_and, memE, celE, w64, Nat.zero_add, Nat.add_zero, Nat.mul_one, putL, and_self, ldn, c_impl_IsPriceProof, r_impl_IsPriceProof]
  refine callH_rc (implFair_rc _ _ u k ps (hc.ext _) (hu.ext _)) ?_
  rintro r new ⟨rfl, nr1⟩
  have hx : Grow (roM m ++ [⟨.own, 28, [v1, v2, v3, v4]⟩]) (roM m ++ [⟨.own, 28, [v1, v2, v3, v4]⟩] ++ new) := (Grow.refl _).app nr1
  cases hpo : pricesOk k ps with
  | false =>
    have no : proofOk k ps pl = false := by unfold proofOk; rw [hpo]; rfl
    simp (config := {implicitDefEqProofs := false, maxDischargeDepth := 20}) (disch := first | omega | (simp only [lenE]; done) | (simp only [lenE]; omega) | rfl | (simp only [lenE, markR_len]; done) | (simp only [lenE, markR_len]; omega)) only [runE, mapE, listE, resV, oneV, binA, unA, reduceCtorEq, Nat.reduceEqDiff, Nat.reduceAdd, Nat.reduceLT, Nat.reduceLeDiff, Nat.reduceMul, Nat.reduceSub, ↓reduceIte, decide_true, decide_false, Bool.true_eq_false, Bool.false_eq_true, Bool.not_true, Bool.not_false, if_true, if_false, and_true, true_and, memE, celE, w64, Nat.zero_add, Nat.add_zero, Nat.mul_one, putL, and_self, ldn, ext_2_0, ext_2_1]
    exact ext_ansV hx.ext (by unfold proofB; rw [no]; rfl)
  | true =>
    cases hf : fairB k ps with
    | false =>
      have no : proofOk k ps pl = false := by unfold proofOk; rw [hf]; simp
      simp (config := {implicitDefEqProofs := false, maxDischargeDepth := 20}) (disch := first | omega | (simp only [lenE]; done) | (simp only [lenE]; omega) | rfl | (simp only [lenE, markR_len]; done) | (simp only [lenE, markR_len]; omega)) only [runE, mapE, listE, resV, oneV, binA, unA, reduceCtorEq, Nat.reduceEqDiff, Nat.reduceAdd, Nat.reduceLT, Nat.reduceLeDiff, Nat.reduceMul, Nat.reduceSub, ↓reduceIte, decide_true, decide_false, Bool.true_eq_false, Bool.false_eq_true, Bool.not_true, Bool.not_false, if_true, if_false, and_true, true_and, memE, celE, w64, Nat.zero_add, Nat.add_zero, Nat.mul_one, putL, and_self, ldn, ext_2_0, ext_2_1, Bool.and_false, Bool.and_true]
      exact ext_ansV hx.ext (by unfold proofB; rw [no]; rfl)
    | true =>
      simp (config := {implicitDefEqProofs := false, maxDischargeDepth := 20}) (disch := first | omega | (simp only [lenE]; done) | (simp only [lenE]; omega) | rfl | (simp only [lenE, markR_len]; done) | (simp only [lenE, markR_len]; omega)) only [runE, mapE, listE, resV, oneV, binA, unA, reduceCtorEq, Nat.reduceEqDiff, Nat.reduceAdd, Nat.reduceLT, Nat.reduceLeDiff, Nat.reduceMul, Nat.reduceSub, ↓reduceIte, decide_true, decide_false, Bool.true_eq_false, Bool.false_eq_true, Bool.not_true, Bool.not_false, if_true, if_false, and_true, true_and, memE, celE, w64, Nat.zero_add, Nat.add_zero, Nat.mul_one, putL, and_self, ldn, ext_2_0, ext_2_1, Bool.and_false, Bool.and_true]
      refine callH_rc (implPlanCost_rc _ _ w k pl (hx.caseV hc) (hx.intsV hw)) ?_
      rintro r new2 ⟨rfl, nr2⟩
      have hx2 := hx.app nr2
      cases ht : two k pl with
      | false =>
        have no : proofOk k ps pl = false := by unfold proofOk; rw [ht]; simp
        simp (config := {implicitDefEqProofs := false, maxDischargeDepth := 20}) (disch := first | omega | (simp only [lenE]; done) | (simp only [lenE]; omega) | rfl | (simp only [lenE, markR_len]; done) | (simp only [lenE, markR_len]; omega)) only [runE, mapE, listE, resV, oneV, binA, unA, reduceCtorEq, Nat.reduceEqDiff, Nat.reduceAdd, Nat.reduceLT, Nat.reduceLeDiff, Nat.reduceMul, Nat.reduceSub, ↓reduceIte, decide_true, decide_false, Bool.true_eq_false, Bool.false_eq_true, Bool.not_true, Bool.not_false, if_true, if_false, and_true, true_and, memE, celE, w64, Nat.zero_add, Nat.add_zero, Nat.mul_one, putL, and_self, ldn, ext_2_0, ext_2_1]
        exact ext_ansV hx2.ext (by unfold proofB; rw [no]; rfl)
      | true =>
        have yes : proofOk k ps pl = true := by unfold proofOk; rw [hpo, hf, ht]; rfl
        rw [costA_yes ht]
        simp (config := {implicitDefEqProofs := false, maxDischargeDepth := 20}) (disch := first | omega | (simp only [lenE]; done) | (simp only [lenE]; omega) | rfl | (simp only [lenE, markR_len]; done) | (simp only [lenE, markR_len]; omega)) only [runE, mapE, listE, resV, oneV, binA, unA, reduceCtorEq, Nat.reduceEqDiff, Nat.reduceAdd, Nat.reduceLT, Nat.reduceLeDiff, Nat.reduceMul, Nat.reduceSub, ↓reduceIte, decide_true, decide_false, Bool.true_eq_false, Bool.false_eq_true, Bool.not_true, Bool.not_false, if_true, if_false, and_true, true_and, memE, celE, w64, Nat.zero_add, Nat.add_zero, Nat.mul_one, putL, and_self, ldn, ext_2_0, ext_2_1]
        refine callH_rc (sumOf_rc _ u ps (hx2.intsV hu) (sum_prices hpo)) ?_
        rintro r new3 ⟨rfl, rfl⟩
        simp (config := {implicitDefEqProofs := false, maxDischargeDepth := 20}) (disch := first | omega | (simp only [lenE]; done) | (simp only [lenE]; omega) | rfl | (simp only [lenE, markR_len]; done) | (simp only [lenE, markR_len]; omega)) only [runE, mapE, listE, resV, oneV, binA, unA, reduceCtorEq, Nat.reduceEqDiff, Nat.reduceAdd, Nat.reduceLT, Nat.reduceLeDiff, Nat.reduceMul, Nat.reduceSub, ↓reduceIte, decide_true, decide_false, Bool.true_eq_false, Bool.false_eq_true, Bool.not_true, Bool.not_false, if_true, if_false, and_true, true_and, memE, celE, w64, Nat.zero_add, Nat.add_zero, Nat.mul_one, putL, and_self, ldn]
        refine ext_ansV (by simpa using hx2.ext) ?_
        unfold proofB; rw [yes]; rfl
end Go.Proofs.Ytgomgpfofniloaa.Ab
