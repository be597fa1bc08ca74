/- Chains: is it a plan, what does it cost, is it nested. -/
import Derived.Test.YtamhhicnfpemeaaAbCh4
namespace Go.Proofs.Ytamhhicnfpemeaa.Ab
open Go Go.RowKit
set_option linter.unusedVariables false
set_option linter.unusedSimpArgs false

theorem implIsChainPlan_rc (m : Mem) (v vt : Value) (c : Ch) (T : List (List Int)) (h : ChA m v c) (hT : TabA m vt T) : RC Try.prog 43 [v, vt] m (AnsV (.tuple #[.bool (two7 c T), .bool c.good])) := by
  refine rc_of_run mixed ok_impl_IsChainPlan (by simp) (go_start _ _ _ ?_)
  obtain ⟨a, b, d, rfl, ha, hb, hd⟩ := h.ro
  have hX0 := (Ext.refl m).one 26 [a, b, d]
  simp (config := {implicitDefEqProofs := false, maxDischargeDepth := 20}) (disch := first | omega | (simp only [lenE]; done) | (simp only [lenE]; omega) | rfl | (simp only [lenE, markR_len]; done) | (simp only [lenE, markR_len]; omega)) only [runE, mapE, listE, initT_5, initT_6, initT_7, initT_8, resV, oneV, binA, unA, reduceCtorEq, Nat.reduceEqDiff, Nat.reduceAdd, Nat.reduceLT, Nat.reduceLeDiff, Nat.reduceMul, Nat.reduceSub, ↓reduceIte, decide_true, decide_false, Bool.true_eq_false, Bool.false_eq_true, Bool.not_true, Bool.not_false, if_true, if_false, and_true, true_and, memE, celE, w64, Nat.zero_add, Nat.add_zero, Nat.mul_one, putL, and_self, ldn, c_impl_IsChainPlan, r_impl_IsChainPlan]
  refine callH_rc (implIsChain_rc _ _ c (ChA.mk (ha.ext _) (hb.ext _) (hd.ext _))) ?_
  rintro r n1 ⟨rfl, nr1⟩
  cases hg : c.good with
  | false =>
    simp (config := {implicitDefEqProofs := false, maxDischargeDepth := 20}) (disch := first | omega | (simp only [lenE]; done) | (simp only [lenE]; omega) | rfl | (simp only [lenE, markR_len]; done) | (simp only [lenE, markR_len]; omega)) only [runE, mapE, listE, initT_5, initT_6, initT_7, initT_8, resV, oneV, binA, unA, reduceCtorEq, Nat.reduceEqDiff, Nat.reduceAdd, Nat.reduceLT, Nat.reduceLeDiff, Nat.reduceMul, Nat.reduceSub, ↓reduceIte, decide_true, decide_false, Bool.true_eq_false, Bool.false_eq_true, Bool.not_true, Bool.not_false, if_true, if_false, and_true, true_and, memE, celE, w64, Nat.zero_add, Nat.add_zero, Nat.mul_one, putL, and_self, ldn]
    exact ext_ansV (hX0.app nr1) (by unfold two7; rw [hg]; rfl)
  | true =>
    simp (config := {implicitDefEqProofs := false, maxDischargeDepth := 20}) (disch := first | omega | (simp only [lenE]; done) | (simp only [lenE]; omega) | rfl | (simp only [lenE, markR_len]; done) | (simp only [lenE, markR_len]; omega)) only [runE, mapE, listE, initT_5, initT_6, initT_7, initT_8, resV, oneV, binA, unA, reduceCtorEq, Nat.reduceEqDiff, Nat.reduceAdd, Nat.reduceLT, Nat.reduceLeDiff, Nat.reduceMul, Nat.reduceSub, ↓reduceIte, decide_true, decide_false, Bool.true_eq_false, Bool.false_eq_true, Bool.not_true, Bool.not_false, if_true, if_false, and_true, true_and, memE, celE, w64, Nat.zero_add, Nat.add_zero, Nat.mul_one, putL, and_self, ldn]
    refine callH_rc (implStocks7_rc _ _ vt c T (ChA.mk ((ha.ext _).ext _) ((hb.ext _).ext _) ((hd.ext _).ext _)) (TabA.xt hT (hX0.app nr1))) ?_
    rintro r n2 ⟨nr2, w, rfl, hw⟩
    simp (config := {implicitDefEqProofs := false, maxDischargeDepth := 20}) (disch := first | omega | (simp only [lenE]; done) | (simp only [lenE]; omega) | rfl | (simp only [lenE, markR_len]; done) | (simp only [lenE, markR_len]; omega)) only [runE, mapE, listE, initT_5, initT_6, initT_7, initT_8, resV, oneV, binA, unA, reduceCtorEq, Nat.reduceEqDiff, Nat.reduceAdd, Nat.reduceLT, Nat.reduceLeDiff, Nat.reduceMul, Nat.reduceSub, ↓reduceIte, decide_true, decide_false, Bool.true_eq_false, Bool.false_eq_true, Bool.not_true, Bool.not_false, if_true, if_false, and_true, true_and, memE, celE, w64, Nat.zero_add, Nat.add_zero, Nat.mul_one, putL, and_self, ldn, ext20, ext21]
    exact ext_ansV ((hX0.app nr1).app nr2) rfl
/-- What a stage costs in the first periods. -/
def stC (am out : List Int) (set hold : Int) : Nat → Int
  | 0 => 0
  | t + 1 => stC am out set hold t + (if 0 < am.getD t 0 then set else 0) + hold * stk am out t
/-- What the first stages cost. -/
def totC (c : Ch) (T : List (List Int)) : Nat → Int
  | 0 => 0
  | s + 1 => totC c T s + stC (T.getD s []) (outR c.need T s) (c.setup.getD s 0) (c.hold.getD s 0) c.need.length
def cost7A (c : Ch) (T : List (List Int)) : Int := if two7 c T then totC c T T.length else 0
theorem stk_bd {am out : List Int} {n : Nat} (h : StageP am out n) (h2 : ∀ x ∈ out, 0 ≤ x ∧ x ≤ 120) (hl : out.length = n) (n6 : n ≤ 6) {t : Nat} (ht : t < n) : 0 ≤ stk am out t ∧ stk am out t ≤ 720 := by
  refine ⟨h.stk t ht, ?_⟩
  have := nowK_bd h.bd h2 (k := t + 1) (by rw [h.len]; omega) (by omega) (by omega)
  unfold nowK at this
  unfold stk; omega
theorem stC_bd {am out : List Int} {set hold : Int} {n : Nat} (h : StageP am out n) (h2 : ∀ x ∈ out, 0 ≤ x ∧ x ≤ 120) (hl : out.length = n) (n6 : n ≤ 6) (hs : 0 ≤ set ∧ set ≤ 99) (hh : 0 ≤ hold ∧ hold ≤ 9) (t : Nat) (ht : t ≤ n) : 0 ≤ stC am out set hold t ∧ stC am out set hold t ≤ 6579 * t := by
  induction t with
  | zero => simp [stC]
  | succ t ih =>
    have h3 := ih (by omega)
    have h4 := stk_bd h h2 hl n6 (t := t) (by omega)
    have h5 := mul_bound hh.1 hh.2 h4.1 h4.2
    simp only [stC]
    have h6 : 0 ≤ (if 0 < am.getD t 0 then set else 0) ∧ (if 0 < am.getD t 0 then set else 0) ≤ 99 := by split <;> omega
    omega
theorem two7_all {c : Ch} {T : List (List Int)} (h : two7 c T = true) : ∀ s, s < T.length → StageP (T.getD s []) (outR c.need T s) c.need.length := by
  unfold two7 at h
  rw [Bool.and_eq_true] at h
  exact (cplanB_iff.1 h.2).2
theorem totC_bd {c : Ch} {T : List (List Int)} (h : two7 c T = true) (s : Nat) (hs : s ≤ T.length) : 0 ≤ totC c T s ∧ totC c T s ≤ 39474 * s := by
  obtain ⟨g1, g2, g3⟩ := two7_rows h
  induction s with
  | zero => simp [totC]
  | succ s ih =>
    have h3 := ih (by omega)
    have h4 := out_bd g1 g3 s
    have := stC_bd (two7_all h s (by omega)) h4.2 h4.1 g1.n6 (getD_bound (by omega) g1.setup s) (getD_bound (by omega) g1.hold s) c.need.length (Nat.le_refl _)
    have n6 := g1.n6
    simp only [totC]
    omega
theorem l7Cost_rc (m : Mem) (v vt : Value) (c : Ch) (T : List (List Int)) (h : ChA m v c) (hT : TabA m vt T) (h2 : two7 c T = true) : RC Try.prog 102 [v, vt] m (AnsV (.int .i64 (totC c T T.length))) := by
  refine rc_of_run mixed ok_spec_l7Cost (by simp) (go_start _ _ _ ?_)
  obtain ⟨a, b, d, rfl, ha, hb, hd⟩ := h.ro
  obtain ⟨g1, g2, g3⟩ := two7_rows h2
  have n6 := g1.n6
  have s3 := g1.s3
  have lh := g1.lh
  have hall := two7_all h2
  have hX0 := (Ext.refl m).one 26 [a, b, d]
  have b0 : OwnB (roM m ++ [⟨.own, 26, [a, b, d]⟩]) m.length 26 [a, b, d] := OwnB.here (roM_len m).symm
  simp (config := {implicitDefEqProofs := false, maxDischargeDepth := 20}) (disch := first | omega | (simp only [lenE]; done) | (simp only [lenE]; omega) | rfl | (simp only [lenE, markR_len]; done) | (simp only [lenE, markR_len]; omega)) only [runE, mapE, listE, initT_5, initT_6, initT_7, initT_8, resV, oneV, binA, unA, reduceCtorEq, Nat.reduceEqDiff, Nat.reduceAdd, Nat.reduceLT, Nat.reduceLeDiff, Nat.reduceMul, Nat.reduceSub, ↓reduceIte, decide_true, decide_false, Bool.true_eq_false, Bool.false_eq_true, Bool.not_true, Bool.not_false, if_true, if_false, and_true, true_and, memE, celE, w64, Nat.zero_add, Nat.add_zero, Nat.mul_one, putL, and_self, ldn, c_spec_l7Cost, r_spec_l7Cost]
  refine callH_rc (l7Stocks_rc _ _ vt c T (ChA.mk (ha.ext _) (hb.ext _) (hd.ext _)) (TabA.xt hT hX0) g1 (by omega) g3) ?_
  rintro r n1 ⟨nr1, w, hwe, hw⟩
  rw [id_eq] at hwe
  subst r
  have hW := hw.now.in
  have hX1 := hX0.app nr1
  have b1 := b0.ext n1
  obtain ⟨M1, hM1⟩ : ∃ M1, M1 = roM m ++ [⟨.own, 26, [a, b, d]⟩] ++ n1 := ⟨_, rfl⟩
  rw [← hM1] at hW hX1 b1 ⊢
  have wlen := stocksT_len c.need T
  have hT1 := TabA.xt hT hX1
  have ha1 := hX1.ints ha
  have hb1 := hX1.ints hb
  have hd1 := hX1.ints hd
  simp (config := {implicitDefEqProofs := false, maxDischargeDepth := 20}) (disch := first | omega | (simp only [lenE]; done) | (simp only [lenE]; omega) | rfl | (simp only [lenE, markR_len]; done) | (simp only [lenE, markR_len]; omega)) only [runE, mapE, listE, initT_5, initT_6, initT_7, initT_8, resV, oneV, binA, unA, reduceCtorEq, Nat.reduceEqDiff, Nat.reduceAdd, Nat.reduceLT, Nat.reduceLeDiff, Nat.reduceMul, Nat.reduceSub, ↓reduceIte, decide_true, decide_false, Bool.true_eq_false, Bool.false_eq_true, Bool.not_true, Bool.not_false, if_true, if_false, and_true, true_and, memE, celE, w64, Nat.zero_add, Nat.add_zero, Nat.mul_one, putL, and_self, ldn]
  refine loop_inv mixed (fun s => ∃ (k : Nat), k ≤ T.length ∧ s.m = M1 ∧ s.t 1 = vt ∧ s.t 2 = .pointer (some ⟨m.length, 0, none⟩) ∧ s.t 5 = .int .i64 (totC c T k) ∧ s.t 6 = w ∧ s.t 7 = .int .i64 (k : Int)) (fun s => T.length - (intOf (s.t 7)).toNat)
    ⟨0, by omega, rfl, rfl, rfl, rfl, rfl, rfl⟩ ?_
  rintro s ⟨k, hk, tm, t1, t2, t5, t6, t7⟩
  by_cases hlt : k < T.length
  · have hlt' : (k : Int) < T.length := by omega
    obtain ⟨am, ham⟩ : ∃ am, am = T.getD k [] := ⟨_, rfl⟩
    obtain ⟨out, hout⟩ : ∃ out, out = outR c.need T k := ⟨_, rfl⟩
    obtain ⟨sv, hsv⟩ : ∃ sv, sv = c.setup.getD k 0 := ⟨_, rfl⟩
    obtain ⟨hv, hhv⟩ : ∃ hv, hv = c.hold.getD k 0 := ⟨_, rfl⟩
    have hp := hall k hlt
    have hob := out_bd g1 g3 k
    have hsb := getD_bound (m := 99) (by omega) g1.setup k
    have hhb := getD_bound (m := 9) (by omega) g1.hold k
    have ltot := totC_bd h2 k hk
    obtain ⟨u, hu, hrow⟩ := hW.ld k (by omega)
    have hat := hW.at_ k (by omega)
    rw [stocksT_at hlt, ← ham, ← hout] at hrow
    obtain ⟨p, hpu, hprow⟩ := hT1.ld k hlt
    have hpat := hT1.at_ k hlt
    rw [← ham] at hprow
    have lds := hb1.ld k (by omega)
    have ldh := hd1.ld k (by omega)
    have ats := hb.at_ k (by omega)
    have ath := hd.at_ k (by omega)
    rw [← ham, ← hout] at hp
    rw [← hout] at hob
    rw [← hsv] at hsb lds
    rw [← hhv] at hhb ldh
    have hll := stocksL_len am out
    have hpl := hp.len
    simp (config := {implicitDefEqProofs := false, maxDischargeDepth := 20}) (disch := first | omega | (simp only [lenE]; done) | (simp only [lenE]; omega) | rfl | (simp only [lenE, markR_len]; done) | (simp only [lenE, markR_len]; omega)) only [runE, mapE, listE, initT_5, initT_6, initT_7, initT_8, resV, oneV, binA, unA, reduceCtorEq, Nat.reduceEqDiff, Nat.reduceAdd, Nat.reduceLT, Nat.reduceLeDiff, Nat.reduceMul, Nat.reduceSub, ↓reduceIte, decide_true, decide_false, Bool.true_eq_false, Bool.false_eq_true, Bool.not_true, Bool.not_false, if_true, if_false, and_true, true_and, memE, celE, w64, Nat.zero_add, Nat.add_zero, Nat.mul_one, putL, and_self, ldn, tm, t1, t2, t5, t6, t7, hlt', hT1.len]
    refine loop_inv mixed (fun s => ∃ (t : Nat), t ≤ c.need.length ∧ s.m = M1 ∧ s.t 1 = vt ∧ s.t 2 = .pointer (some ⟨m.length, 0, none⟩) ∧ s.t 5 = .int .i64 (totC c T k + stC am out sv hv t) ∧ s.t 6 = w ∧ s.t 7 = .int .i64 (k : Int) ∧ s.t 8 = .int .i64 (t : Int)) (fun s => c.need.length - (intOf (s.t 8)).toNat)
      ⟨0, by omega, tm, t1, t2, by simp only [put_t, put_t', put_m, putT_t, putT_t', putT_m, init_t, init_m, initT_0, initT_1, initT_2, initT_3, initT_4, initT_5, initT_6, initT_7, initT_8, Nat.reduceEqDiff, ↓reduceIte]; rw [t5]; simp [stC], t6, t7, rfl⟩ ?_
    rintro s ⟨t, ht, tm, t1, t2, t5, t6, t7, t8⟩
    by_cases hlt2 : t < c.need.length
    · have hlt2' : (t : Int) < c.need.length := by omega
      have hval : (stocksL am out).getD t 0 = stk am out t := stocksL_at (by omega)
      have b4 := stC_bd hp hob.2 hob.1 n6 hsb hhb t (by omega)
      have b5 := stk_bd hp hob.2 hob.1 n6 hlt2
      have hld := hrow.ld t (by omega)
      rw [hval] at hld
      obtain ⟨x, hx⟩ : ∃ x, x = stk am out t := ⟨_, rfl⟩
      rw [← hx] at hld b5
      have b6 := mul_bound hhb.1 hhb.2 b5.1 b5.2
      have hnx : stC am out sv hv (t + 1) = stC am out sv hv t + (if 0 < am.getD t 0 then sv else 0) + hv * x := by rw [hx]; rfl
      by_cases hpos : 0 < am.getD t 0
      · rw [if_pos hpos] at hnx
        simp (config := {implicitDefEqProofs := false, maxDischargeDepth := 20}) (disch := first | omega | (simp only [lenE]; done) | (simp only [lenE]; omega) | rfl | (simp only [lenE, markR_len]; done) | (simp only [lenE, markR_len]; omega)) only [runE, mapE, listE, initT_5, initT_6, initT_7, initT_8, resV, oneV, binA, unA, reduceCtorEq, Nat.reduceEqDiff, Nat.reduceAdd, Nat.reduceLT, Nat.reduceLeDiff, Nat.reduceMul, Nat.reduceSub, ↓reduceIte, decide_true, decide_false, Bool.true_eq_false, Bool.false_eq_true, Bool.not_true, Bool.not_false, if_true, if_false, and_true, true_and, memE, celE, w64, Nat.zero_add, Nat.add_zero, Nat.mul_one, putL, and_self, ldn, tm, t1, t2, t5, t6, t7, t8, b1.rd, ha1.len, hlt2', ath, ldh, hat, hu, hrow.at_ t (by omega), hld, hpat, hpu, hprow.at_ t (by omega), hprow.ld t (by omega), gt_iff_lt, hpos, ats, lds]
        refine ⟨⟨t + 1, by omega, by rw [hnx]; congr 1; omega, by simp⟩, ?_⟩
        simp [intOf]; omega
      · rw [if_neg hpos] at hnx
        simp (config := {implicitDefEqProofs := false, maxDischargeDepth := 20}) (disch := first | omega | (simp only [lenE]; done) | (simp only [lenE]; omega) | rfl | (simp only [lenE, markR_len]; done) | (simp only [lenE, markR_len]; omega)) only [runE, mapE, listE, initT_5, initT_6, initT_7, initT_8, resV, oneV, binA, unA, reduceCtorEq, Nat.reduceEqDiff, Nat.reduceAdd, Nat.reduceLT, Nat.reduceLeDiff, Nat.reduceMul, Nat.reduceSub, ↓reduceIte, decide_true, decide_false, Bool.true_eq_false, Bool.false_eq_true, Bool.not_true, Bool.not_false, if_true, if_false, and_true, true_and, memE, celE, w64, Nat.zero_add, Nat.add_zero, Nat.mul_one, putL, and_self, ldn, tm, t1, t2, t5, t6, t7, t8, b1.rd, ha1.len, hlt2', ath, ldh, hat, hu, hrow.at_ t (by omega), hld, hpat, hpu, hprow.at_ t (by omega), hprow.ld t (by omega), gt_iff_lt, hpos, ats, lds]
        refine ⟨⟨t + 1, by omega, by rw [hnx]; congr 1; omega, by simp⟩, ?_⟩
        simp [intOf]; omega
    · have hlt2' : ¬ ((t : Int) < c.need.length) := by omega
      have et : t = c.need.length := by omega
      subst et
      simp (config := {implicitDefEqProofs := false, maxDischargeDepth := 20}) (disch := first | omega | (simp only [lenE]; done) | (simp only [lenE]; omega) | rfl | (simp only [lenE, markR_len]; done) | (simp only [lenE, markR_len]; omega)) only [runE, mapE, listE, initT_5, initT_6, initT_7, initT_8, resV, oneV, binA, unA, reduceCtorEq, Nat.reduceEqDiff, Nat.reduceAdd, Nat.reduceLT, Nat.reduceLeDiff, Nat.reduceMul, Nat.reduceSub, ↓reduceIte, decide_true, decide_false, Bool.true_eq_false, Bool.false_eq_true, Bool.not_true, Bool.not_false, if_true, if_false, and_true, true_and, memE, celE, w64, Nat.zero_add, Nat.add_zero, Nat.mul_one, putL, and_self, ldn, tm, t1, t2, t5, t6, t7, t8, b1.rd, ha1.len, hlt2']
      refine ⟨⟨k + 1, by omega, by rw [totC, ← ham, ← hout, ← hsv, ← hhv], by simp⟩, ?_⟩
      simp [intOf]; omega
  · have hlt' : ¬ ((k : Int) < T.length) := by omega
    have e : k = T.length := by omega
    subst e
    simp (config := {implicitDefEqProofs := false, maxDischargeDepth := 20}) (disch := first | omega | (simp only [lenE]; done) | (simp only [lenE]; omega) | rfl | (simp only [lenE, markR_len]; done) | (simp only [lenE, markR_len]; omega)) only [runE, mapE, listE, initT_5, initT_6, initT_7, initT_8, resV, oneV, binA, unA, reduceCtorEq, Nat.reduceEqDiff, Nat.reduceAdd, Nat.reduceLT, Nat.reduceLeDiff, Nat.reduceMul, Nat.reduceSub, ↓reduceIte, decide_true, decide_false, Bool.true_eq_false, Bool.false_eq_true, Bool.not_true, Bool.not_false, if_true, if_false, and_true, true_and, memE, celE, w64, Nat.zero_add, Nat.add_zero, Nat.mul_one, putL, and_self, ldn, tm, t1, t2, t5, t6, t7, hlt', hT1.len]
    exact ext_ansV hX1 rfl
theorem specCost7_rc (m : Mem) (v vt : Value) (c : Ch) (T : List (List Int)) (h : ChA m v c) (hT : TabA m vt T) : RC Try.prog 44 [v, vt] m (AnsV (.tuple #[.int .i64 (cost7A c T), .bool (two7 c T)])) := by
  refine rc_of_run mixed ok_spec_ChainCost (by simp) (go_start _ _ _ ?_)
  obtain ⟨a, b, d, rfl, ha, hb, hd⟩ := h.ro
  have hX0 := (Ext.refl m).one 26 [a, b, d]
  unfold cost7A
  simp (config := {implicitDefEqProofs := false, maxDischargeDepth := 20}) (disch := first | omega | (simp only [lenE]; done) | (simp only [lenE]; omega) | rfl | (simp only [lenE, markR_len]; done) | (simp only [lenE, markR_len]; omega)) only [runE, mapE, listE, initT_5, initT_6, initT_7, initT_8, resV, oneV, binA, unA, reduceCtorEq, Nat.reduceEqDiff, Nat.reduceAdd, Nat.reduceLT, Nat.reduceLeDiff, Nat.reduceMul, Nat.reduceSub, ↓reduceIte, decide_true, decide_false, Bool.true_eq_false, Bool.false_eq_true, Bool.not_true, Bool.not_false, if_true, if_false, and_true, true_and, memE, celE, w64, Nat.zero_add, Nat.add_zero, Nat.mul_one, putL, and_self, ldn, c_spec_ChainCost, r_spec_ChainCost]
  refine callH_rc (l7Two_rc _ _ vt c T (ChA.mk (ha.ext _) (hb.ext _) (hd.ext _)) (TabA.xt hT hX0)) ?_
  rintro r n1 ⟨rfl, nr1⟩
  cases h2 : two7 c T with
  | false =>
    simp (config := {implicitDefEqProofs := false, maxDischargeDepth := 20}) (disch := first | omega | (simp only [lenE]; done) | (simp only [lenE]; omega) | rfl | (simp only [lenE, markR_len]; done) | (simp only [lenE, markR_len]; omega)) only [runE, mapE, listE, initT_5, initT_6, initT_7, initT_8, resV, oneV, binA, unA, reduceCtorEq, Nat.reduceEqDiff, Nat.reduceAdd, Nat.reduceLT, Nat.reduceLeDiff, Nat.reduceMul, Nat.reduceSub, ↓reduceIte, decide_true, decide_false, Bool.true_eq_false, Bool.false_eq_true, Bool.not_true, Bool.not_false, if_true, if_false, and_true, true_and, memE, celE, w64, Nat.zero_add, Nat.add_zero, Nat.mul_one, putL, and_self, ldn]
    exact ext_ansV (hX0.app nr1) rfl
  | true =>
    simp (config := {implicitDefEqProofs := false, maxDischargeDepth := 20}) (disch := first | omega | (simp only [lenE]; done) | (simp only [lenE]; omega) | rfl | (simp only [lenE, markR_len]; done) | (simp only [lenE, markR_len]; omega)) only [runE, mapE, listE, initT_5, initT_6, initT_7, initT_8, resV, oneV, binA, unA, reduceCtorEq, Nat.reduceEqDiff, Nat.reduceAdd, Nat.reduceLT, Nat.reduceLeDiff, Nat.reduceMul, Nat.reduceSub, ↓reduceIte, decide_true, decide_false, Bool.true_eq_false, Bool.false_eq_true, Bool.not_true, Bool.not_false, if_true, if_false, and_true, true_and, memE, celE, w64, Nat.zero_add, Nat.add_zero, Nat.mul_one, putL, and_self, ldn]
    refine callH_rc (l7Cost_rc _ _ vt c T (ChA.mk ((ha.ext _).ext _) ((hb.ext _).ext _) ((hd.ext _).ext _)) (TabA.xt hT (hX0.app nr1)) h2) ?_
    rintro r n2 ⟨rfl, nr2⟩
    simp (config := {implicitDefEqProofs := false, maxDischargeDepth := 20}) (disch := first | omega | (simp only [lenE]; done) | (simp only [lenE]; omega) | rfl | (simp only [lenE, markR_len]; done) | (simp only [lenE, markR_len]; omega)) only [runE, mapE, listE, initT_5, initT_6, initT_7, initT_8, resV, oneV, binA, unA, reduceCtorEq, Nat.reduceEqDiff, Nat.reduceAdd, Nat.reduceLT, Nat.reduceLeDiff, Nat.reduceMul, Nat.reduceSub, ↓reduceIte, decide_true, decide_false, Bool.true_eq_false, Bool.false_eq_true, Bool.not_true, Bool.not_false, if_true, if_false, and_true, true_and, memE, celE, w64, Nat.zero_add, Nat.add_zero, Nat.mul_one, putL, and_self, ldn]
    exact ext_ansV ((hX0.app nr1).app nr2) rfl
theorem implCost7_rc (m : Mem) (v vt : Value) (c : Ch) (T : List (List Int)) (h : ChA m v c) (hT : TabA m vt T) : RC Try.prog 45 [v, vt] m (AnsV (.tuple #[.int .i64 (cost7A c T), .bool (two7 c T)])) := by
  refine rc_of_run mixed ok_impl_ChainCost (by simp) (go_start _ _ _ ?_)
  obtain ⟨a, b, d, rfl, ha, hb, hd⟩ := h.ro
  have hX0 := (Ext.refl m).one 26 [a, b, d]
  have b0 : OwnB (roM m ++ [⟨.own, 26, [a, b, d]⟩]) m.length 26 [a, b, d] := OwnB.here (roM_len m).symm
  unfold cost7A
  simp (config := {implicitDefEqProofs := false, maxDischargeDepth := 20}) (disch := first | omega | (simp only [lenE]; done) | (simp only [lenE]; omega) | rfl | (simp only [lenE, markR_len]; done) | (simp only [lenE, markR_len]; omega)) only [runE, mapE, listE, initT_5, initT_6, initT_7, initT_8, resV, oneV, binA, unA, reduceCtorEq, Nat.reduceEqDiff, Nat.reduceAdd, Nat.reduceLT, Nat.reduceLeDiff, Nat.reduceMul, Nat.reduceSub, ↓reduceIte, decide_true, decide_false, Bool.true_eq_false, Bool.false_eq_true, Bool.not_true, Bool.not_false, if_true, if_false, and_true, true_and, memE, celE, w64, Nat.zero_add, Nat.add_zero, Nat.mul_one, putL, and_self, ldn, c_impl_ChainCost, r_impl_ChainCost]
  refine callH_rc (implStocks7_rc _ _ vt c T (ChA.mk (ha.ext _) (hb.ext _) (hd.ext _)) (TabA.xt hT hX0)) ?_
  rintro r n1 ⟨nr1, w, rfl, hw⟩
  have hX1 := hX0.app nr1
  have b1 := b0.ext n1
  unfold stocks7A at hw
  cases h2 : two7 c T with
  | false =>
    simp (config := {implicitDefEqProofs := false, maxDischargeDepth := 20}) (disch := first | omega | (simp only [lenE]; done) | (simp only [lenE]; omega) | rfl | (simp only [lenE, markR_len]; done) | (simp only [lenE, markR_len]; omega)) only [runE, mapE, listE, initT_5, initT_6, initT_7, initT_8, resV, oneV, binA, unA, reduceCtorEq, Nat.reduceEqDiff, Nat.reduceAdd, Nat.reduceLT, Nat.reduceLeDiff, Nat.reduceMul, Nat.reduceSub, ↓reduceIte, decide_true, decide_false, Bool.true_eq_false, Bool.false_eq_true, Bool.not_true, Bool.not_false, if_true, if_false, and_true, true_and, memE, celE, w64, Nat.zero_add, Nat.add_zero, Nat.mul_one, putL, and_self, ldn, ext20, ext21]
    exact ext_ansV hX1 rfl
  | true =>
  rw [h2, if_pos rfl] at hw
  have hW := hw.now.in
  obtain ⟨g1, g2, g3⟩ := two7_rows h2
  have n6 := g1.n6
  have s3 := g1.s3
  have lh := g1.lh
  have hall := two7_all h2
  obtain ⟨M1, hM1⟩ : ∃ M1, M1 = roM m ++ [⟨.own, 26, [a, b, d]⟩] ++ n1 := ⟨_, rfl⟩
  rw [← hM1] at hW hX1 b1 ⊢
  have wlen := stocksT_len c.need T
  have hT1 := TabA.xt hT hX1
  have ha1 := hX1.ints ha
  have hb1 := hX1.ints hb
  have hd1 := hX1.ints hd
  simp (config := {implicitDefEqProofs := false, maxDischargeDepth := 20}) (disch := first | omega | (simp only [lenE]; done) | (simp only [lenE]; omega) | rfl | (simp only [lenE, markR_len]; done) | (simp only [lenE, markR_len]; omega)) only [runE, mapE, listE, initT_5, initT_6, initT_7, initT_8, resV, oneV, binA, unA, reduceCtorEq, Nat.reduceEqDiff, Nat.reduceAdd, Nat.reduceLT, Nat.reduceLeDiff, Nat.reduceMul, Nat.reduceSub, ↓reduceIte, decide_true, decide_false, Bool.true_eq_false, Bool.false_eq_true, Bool.not_true, Bool.not_false, if_true, if_false, and_true, true_and, memE, celE, w64, Nat.zero_add, Nat.add_zero, Nat.mul_one, putL, and_self, ldn, ext20, ext21, hT1.len]
  refine loop_inv mixed (fun s => ∃ (k : Nat), k ≤ T.length ∧ s.m = M1 ∧ s.t 21 = vt ∧ s.t 22 = .int .i64 (T.length : Int) ∧ s.t 2 = .pointer (some ⟨m.length, 0, none⟩) ∧ s.t 8 = .int .i64 (totC c T k) ∧ s.t 6 = w ∧ s.t 23 = .int .i64 (k : Int)) (fun s => T.length - (intOf (s.t 23)).toNat)
    ⟨0, by omega, rfl, rfl, rfl, rfl, rfl, rfl, rfl⟩ ?_
  rintro s ⟨k, hk, tm, t21, t22, t2, t8, t6, t23⟩
  by_cases hlt : k < T.length
  · have hlt' : (k : Int) < T.length := by omega
    obtain ⟨am, ham⟩ : ∃ am, am = T.getD k [] := ⟨_, rfl⟩
    obtain ⟨out, hout⟩ : ∃ out, out = outR c.need T k := ⟨_, rfl⟩
    obtain ⟨sv, hsv⟩ : ∃ sv, sv = c.setup.getD k 0 := ⟨_, rfl⟩
    obtain ⟨hv, hhv⟩ : ∃ hv, hv = c.hold.getD k 0 := ⟨_, rfl⟩
    have hp := hall k hlt
    have hob := out_bd g1 g3 k
    have hsb := getD_bound (m := 99) (by omega) g1.setup k
    have hhb := getD_bound (m := 9) (by omega) g1.hold k
    have ltot := totC_bd h2 k hk
    obtain ⟨u, hu, hrow⟩ := hW.ld k (by omega)
    have hat := hW.at_ k (by omega)
    rw [stocksT_at hlt, ← ham, ← hout] at hrow
    obtain ⟨p, hpu, hprow⟩ := hT1.ld k hlt
    have hpat := hT1.at_ k hlt
    rw [← ham] at hprow
    have lds := hb1.ld k (by omega)
    have ldh := hd1.ld k (by omega)
    have ats := hb.at_ k (by omega)
    have ath := hd.at_ k (by omega)
    rw [← ham, ← hout] at hp
    rw [← hout] at hob
    rw [← hsv] at hsb lds
    rw [← hhv] at hhb ldh
    have hll := stocksL_len am out
    have hpl := hp.len
    have hprl := hprow.len
    rw [hpl] at hprl
    simp (config := {implicitDefEqProofs := false, maxDischargeDepth := 20}) (disch := first | omega | (simp only [lenE]; done) | (simp only [lenE]; omega) | rfl | (simp only [lenE, markR_len]; done) | (simp only [lenE, markR_len]; omega)) only [runE, mapE, listE, initT_5, initT_6, initT_7, initT_8, resV, oneV, binA, unA, reduceCtorEq, Nat.reduceEqDiff, Nat.reduceAdd, Nat.reduceLT, Nat.reduceLeDiff, Nat.reduceMul, Nat.reduceSub, ↓reduceIte, decide_true, decide_false, Bool.true_eq_false, Bool.false_eq_true, Bool.not_true, Bool.not_false, if_true, if_false, and_true, true_and, memE, celE, w64, Nat.zero_add, Nat.add_zero, Nat.mul_one, putL, and_self, ldn, tm, t21, t22, t2, t8, t6, t23, hlt', hpat, hpu, hprl]
    refine loop_inv mixed (fun s => ∃ (t : Nat), t ≤ c.need.length ∧ s.m = M1 ∧ s.t 21 = vt ∧ s.t 22 = .int .i64 (T.length : Int) ∧ s.t 2 = .pointer (some ⟨m.length, 0, none⟩) ∧ s.t 8 = .int .i64 (totC c T k + stC am out sv hv t) ∧ s.t 6 = w ∧ s.t 23 = .int .i64 (k : Int) ∧ s.t 9 = .int .i64 (k : Int) ∧ s.t 28 = p ∧ s.t 29 = .int .i64 (c.need.length : Int) ∧ s.t 30 = .int .i64 (t : Int)) (fun s => c.need.length - (intOf (s.t 30)).toNat)
      ⟨0, by omega, tm, t21, t22, t2, by simp only [put_t, put_t', put_m, putT_t, putT_t', putT_m, init_t, init_m, initT_0, initT_1, initT_2, initT_3, initT_4, initT_5, initT_6, initT_7, initT_8, Nat.reduceEqDiff, ↓reduceIte]; rw [t8]; simp [stC], t6, t23, rfl, rfl, rfl, rfl⟩ ?_
    rintro s ⟨t, ht, tm, t21, t22, t2, t8, t6, t23, t9, t28, t29, t30⟩
    by_cases hlt2 : t < c.need.length
    · have hlt2' : (t : Int) < c.need.length := by omega
      have hval : (stocksL am out).getD t 0 = stk am out t := stocksL_at (by omega)
      have b4 := stC_bd hp hob.2 hob.1 n6 hsb hhb t (by omega)
      have b5 := stk_bd hp hob.2 hob.1 n6 hlt2
      have hld := hrow.ld t (by omega)
      rw [hval] at hld
      obtain ⟨x, hx⟩ : ∃ x, x = stk am out t := ⟨_, rfl⟩
      rw [← hx] at hld b5
      have b6 := mul_bound hhb.1 hhb.2 b5.1 b5.2
      have hnx : stC am out sv hv (t + 1) = stC am out sv hv t + (if 0 < am.getD t 0 then sv else 0) + hv * x := by rw [hx]; rfl
      by_cases hpos : 0 < am.getD t 0
      · rw [if_pos hpos] at hnx
        simp (config := {implicitDefEqProofs := false, maxDischargeDepth := 20}) (disch := first | omega | (simp only [lenE]; done) | (simp only [lenE]; omega) | rfl | (simp only [lenE, markR_len]; done) | (simp only [lenE, markR_len]; omega)) only [runE, mapE, listE, initT_5, initT_6, initT_7, initT_8, resV, oneV, binA, unA, reduceCtorEq, Nat.reduceEqDiff, Nat.reduceAdd, Nat.reduceLT, Nat.reduceLeDiff, Nat.reduceMul, Nat.reduceSub, ↓reduceIte, decide_true, decide_false, Bool.true_eq_false, Bool.false_eq_true, Bool.not_true, Bool.not_false, if_true, if_false, and_true, true_and, memE, celE, w64, Nat.zero_add, Nat.add_zero, Nat.mul_one, putL, and_self, ldn, tm, t21, t22, t2, t8, t6, t23, t9, t28, t29, t30, b1.rd, hlt2', hprow.at_ t (by omega), hprow.ld t (by omega), gt_iff_lt, hpos, ats, lds, ath, ldh, hat, hu, hrow.at_ t (by omega), hld]
        refine ⟨⟨t + 1, by omega, by rw [hnx]; congr 1; omega, by simp⟩, ?_⟩
        simp [intOf]; omega
      · rw [if_neg hpos] at hnx
        simp (config := {implicitDefEqProofs := false, maxDischargeDepth := 20}) (disch := first | omega | (simp only [lenE]; done) | (simp only [lenE]; omega) | rfl | (simp only [lenE, markR_len]; done) | (simp only [lenE, markR_len]; omega)) only [runE, mapE, listE, initT_5, initT_6, initT_7, initT_8, resV, oneV, binA, unA, reduceCtorEq, Nat.reduceEqDiff, Nat.reduceAdd, Nat.reduceLT, Nat.reduceLeDiff, Nat.reduceMul, Nat.reduceSub, ↓reduceIte, decide_true, decide_false, Bool.true_eq_false, Bool.false_eq_true, Bool.not_true, Bool.not_false, if_true, if_false, and_true, true_and, memE, celE, w64, Nat.zero_add, Nat.add_zero, Nat.mul_one, putL, and_self, ldn, tm, t21, t22, t2, t8, t6, t23, t9, t28, t29, t30, b1.rd, hlt2', hprow.at_ t (by omega), hprow.ld t (by omega), gt_iff_lt, hpos, ats, lds, ath, ldh, hat, hu, hrow.at_ t (by omega), hld]
        refine ⟨⟨t + 1, by omega, by rw [hnx]; congr 1; omega, by simp⟩, ?_⟩
        simp [intOf]; omega
    · have hlt2' : ¬ ((t : Int) < c.need.length) := by omega
      have et : t = c.need.length := by omega
      subst et
      simp (config := {implicitDefEqProofs := false, maxDischargeDepth := 20}) (disch := first | omega | (simp only [lenE]; done) | (simp only [lenE]; omega) | rfl | (simp only [lenE, markR_len]; done) | (simp only [lenE, markR_len]; omega)) only [runE, mapE, listE, initT_5, initT_6, initT_7, initT_8, resV, oneV, binA, unA, reduceCtorEq, Nat.reduceEqDiff, Nat.reduceAdd, Nat.reduceLT, Nat.reduceLeDiff, Nat.reduceMul, Nat.reduceSub, ↓reduceIte, decide_true, decide_false, Bool.true_eq_false, Bool.false_eq_true, Bool.not_true, Bool.not_false, if_true, if_false, and_true, true_and, memE, celE, w64, Nat.zero_add, Nat.add_zero, Nat.mul_one, putL, and_self, ldn, tm, t21, t22, t2, t8, t6, t23, t9, t28, t29, t30, hlt2']
      refine ⟨⟨k + 1, by omega, by rw [totC, ← ham, ← hout, ← hsv, ← hhv], by simp⟩, ?_⟩
      simp [intOf]; omega
  · have hlt' : ¬ ((k : Int) < T.length) := by omega
    have e : k = T.length := by omega
    subst e
    simp (config := {implicitDefEqProofs := false, maxDischargeDepth := 20}) (disch := first | omega | (simp only [lenE]; done) | (simp only [lenE]; omega) | rfl | (simp only [lenE, markR_len]; done) | (simp only [lenE, markR_len]; omega)) only [runE, mapE, listE, initT_5, initT_6, initT_7, initT_8, resV, oneV, binA, unA, reduceCtorEq, Nat.reduceEqDiff, Nat.reduceAdd, Nat.reduceLT, Nat.reduceLeDiff, Nat.reduceMul, Nat.reduceSub, ↓reduceIte, decide_true, decide_false, Bool.true_eq_false, Bool.false_eq_true, Bool.not_true, Bool.not_false, if_true, if_false, and_true, true_and, memE, celE, w64, Nat.zero_add, Nat.add_zero, Nat.mul_one, putL, and_self, ldn, tm, t21, t22, t2, t8, t6, t23, hlt']
    exact ext_ansV hX1 rfl
/-- In each period in which a stage has an amount, the next one has one, too. -/
def nestP (T : List (List Int)) (n : Nat) : Prop := ∀ s, s < T.length → s + 1 < T.length → ∀ t, t < n → 0 < (T.getD s []).getD t 0 → (T.getD (s + 1) []).getD t 0 ≠ 0
instance (T : List (List Int)) (n : Nat) : Decidable (nestP T n) := by unfold nestP; infer_instance
def nest7A (c : Ch) (T : List (List Int)) : Bool := two7 c T && decide (nestP T c.need.length)
theorem nest_no {T : List (List Int)} {n s t : Nat} (hs : s + 1 < T.length) (ht : t < n) (h1 : 0 < (T.getD s []).getD t 0) (h2 : (T.getD (s + 1) []).getD t 0 = 0) : decide (nestP T n) = false := by
  rw [decide_eq_false_iff_not]
  exact fun h => h s (by omega) hs t ht h1 h2
theorem specNest7_rc (m : Mem) (v vt : Value) (c : Ch) (T : List (List Int)) (h : ChA m v c) (hT : TabA m vt T) : RC Try.prog 53 [v, vt] m (AnsV (.tuple #[.bool (nest7A c T), .bool (two7 c T)])) := by
  refine rc_of_run mixed ok_spec_IsNestedPlan (by simp) (go_start _ _ _ ?_)
  obtain ⟨a, b, d, rfl, ha, hb, hd⟩ := h.ro
  have hX0 := (Ext.refl m).one 26 [a, b, d]
  have b0 : OwnB (roM m ++ [⟨.own, 26, [a, b, d]⟩]) m.length 26 [a, b, d] := OwnB.here (roM_len m).symm
  unfold nest7A
  simp (config := {implicitDefEqProofs := false, maxDischargeDepth := 20}) (disch := first | omega | (simp only [lenE]; done) | (simp only [lenE]; omega) | rfl | (simp only [lenE, markR_len]; done) | (simp only [lenE, markR_len]; omega)) only [runE, mapE, listE, initT_5, initT_6, initT_7, initT_8, resV, oneV, binA, unA, reduceCtorEq, Nat.reduceEqDiff, Nat.reduceAdd, Nat.reduceLT, Nat.reduceLeDiff, Nat.reduceMul, Nat.reduceSub, ↓reduceIte, decide_true, decide_false, Bool.true_eq_false, Bool.false_eq_true, Bool.not_true, Bool.not_false, if_true, if_false, and_true, true_and, memE, celE, w64, Nat.zero_add, Nat.add_zero, Nat.mul_one, putL, and_self, ldn, c_spec_IsNestedPlan, r_spec_IsNestedPlan]
  refine callH_rc (l7Two_rc _ _ vt c T (ChA.mk (ha.ext _) (hb.ext _) (hd.ext _)) (TabA.xt hT hX0)) ?_
  rintro r n1 ⟨rfl, nr1⟩
  have hX1 := hX0.app nr1
  have b1 := b0.ext n1
  cases h2 : two7 c T with
  | false =>
    simp (config := {implicitDefEqProofs := false, maxDischargeDepth := 20}) (disch := first | omega | (simp only [lenE]; done) | (simp only [lenE]; omega) | rfl | (simp only [lenE, markR_len]; done) | (simp only [lenE, markR_len]; omega)) only [runE, mapE, listE, initT_5, initT_6, initT_7, initT_8, resV, oneV, binA, unA, reduceCtorEq, Nat.reduceEqDiff, Nat.reduceAdd, Nat.reduceLT, Nat.reduceLeDiff, Nat.reduceMul, Nat.reduceSub, ↓reduceIte, decide_true, decide_false, Bool.true_eq_false, Bool.false_eq_true, Bool.not_true, Bool.not_false, if_true, if_false, and_true, true_and, memE, celE, w64, Nat.zero_add, Nat.add_zero, Nat.mul_one, putL, and_self, ldn]
    exact ext_ansV hX1 rfl
  | true =>
  obtain ⟨g1, g2, g3⟩ := two7_rows h2
  have n6 := g1.n6
  have s3 := g1.s3
  obtain ⟨M1, hM1⟩ : ∃ M1, M1 = roM m ++ [⟨.own, 26, [a, b, d]⟩] ++ n1 := ⟨_, rfl⟩
  rw [← hM1] at hX1 b1 ⊢
  have hT1 := TabA.xt hT hX1
  have ha1 := hX1.ints ha
  simp (config := {implicitDefEqProofs := false, maxDischargeDepth := 20}) (disch := first | omega | (simp only [lenE]; done) | (simp only [lenE]; omega) | rfl | (simp only [lenE, markR_len]; done) | (simp only [lenE, markR_len]; omega)) only [runE, mapE, listE, initT_5, initT_6, initT_7, initT_8, resV, oneV, binA, unA, reduceCtorEq, Nat.reduceEqDiff, Nat.reduceAdd, Nat.reduceLT, Nat.reduceLeDiff, Nat.reduceMul, Nat.reduceSub, ↓reduceIte, decide_true, decide_false, Bool.true_eq_false, Bool.false_eq_true, Bool.not_true, Bool.not_false, if_true, if_false, and_true, true_and, memE, celE, w64, Nat.zero_add, Nat.add_zero, Nat.mul_one, putL, and_self, ldn]
  refine loop_inv mixed (fun s => ∃ (k : Nat), (k + 1 ≤ T.length ∨ k = 0) ∧ s.m = M1 ∧ s.t 1 = vt ∧ s.t 2 = .pointer (some ⟨m.length, 0, none⟩) ∧ s.t 6 = .int .i64 (k : Int) ∧ ∀ j, j < k → ∀ t, t < c.need.length → 0 < (T.getD j []).getD t 0 → (T.getD (j + 1) []).getD t 0 ≠ 0) (fun s => T.length - (intOf (s.t 6)).toNat)
    ⟨0, by omega, rfl, rfl, rfl, rfl, fun j hj => absurd hj (by omega)⟩ ?_
  rintro s ⟨k, hk, tm, t1, t2, t6, hall⟩
  by_cases hlt : k + 1 < T.length
  · have hlt' : (k : Int) + 1 < T.length := by omega
    have ec : ((k + 1 : Nat) : Int) = (k : Int) + 1 := by omega
    obtain ⟨p, hp, hprow⟩ := hT1.ld k (by omega)
    have hpat := hT1.at_ k (by omega)
    obtain ⟨u, hu, hurow⟩ := hT1.ld (k + 1) (by omega)
    have huat := hT1.at_ (k + 1) (by omega)
    rw [ec] at huat
    have l1 := (g3 k (by omega)).1
    have l2 := (g3 (k + 1) (by omega)).1
    simp (config := {implicitDefEqProofs := false, maxDischargeDepth := 20}) (disch := first | omega | (simp only [lenE]; done) | (simp only [lenE]; omega) | rfl | (simp only [lenE, markR_len]; done) | (simp only [lenE, markR_len]; omega)) only [runE, mapE, listE, initT_5, initT_6, initT_7, initT_8, resV, oneV, binA, unA, reduceCtorEq, Nat.reduceEqDiff, Nat.reduceAdd, Nat.reduceLT, Nat.reduceLeDiff, Nat.reduceMul, Nat.reduceSub, ↓reduceIte, decide_true, decide_false, Bool.true_eq_false, Bool.false_eq_true, Bool.not_true, Bool.not_false, if_true, if_false, and_true, true_and, memE, celE, w64, Nat.zero_add, Nat.add_zero, Nat.mul_one, putL, and_self, ldn, tm, t1, t2, t6, hlt', hT1.len]
    refine loop_inv mixed (fun s => ∃ (t : Nat), t ≤ c.need.length ∧ s.m = M1 ∧ s.t 1 = vt ∧ s.t 2 = .pointer (some ⟨m.length, 0, none⟩) ∧ s.t 6 = .int .i64 (k : Int) ∧ s.t 7 = .int .i64 (t : Int) ∧ ∀ j, j < t → 0 < (T.getD k []).getD j 0 → (T.getD (k + 1) []).getD j 0 ≠ 0) (fun s => c.need.length - (intOf (s.t 7)).toNat)
      ⟨0, by omega, tm, t1, t2, t6, rfl, fun j hj => absurd hj (by omega)⟩ ?_
    rintro s ⟨t, ht, tm, t1, t2, t6, t7, hok⟩
    by_cases hlt2 : t < c.need.length
    · have hlt2' : (t : Int) < c.need.length := by omega
      have nx : (0 < (T.getD k []).getD t 0 → (T.getD (k + 1) []).getD t 0 ≠ 0) → ∀ j, j < t + 1 → 0 < (T.getD k []).getD j 0 → (T.getD (k + 1) []).getD j 0 ≠ 0 := fun hh j hj => by
        by_cases e : j = t
        · subst e; exact hh
        · exact hok j (by omega)
      by_cases hpos : 0 < (T.getD k []).getD t 0
      · by_cases hz : (T.getD (k + 1) []).getD t 0 = 0
        · have hz' : ((T.getD (k + 1) []).getD t 0 == 0) = true := by rw [beq_iff_eq]; exact hz
          simp (config := {implicitDefEqProofs := false, maxDischargeDepth := 20}) (disch := first | omega | (simp only [lenE]; done) | (simp only [lenE]; omega) | rfl | (simp only [lenE, markR_len]; done) | (simp only [lenE, markR_len]; omega)) only [runE, mapE, listE, initT_5, initT_6, initT_7, initT_8, resV, oneV, binA, unA, reduceCtorEq, Nat.reduceEqDiff, Nat.reduceAdd, Nat.reduceLT, Nat.reduceLeDiff, Nat.reduceMul, Nat.reduceSub, ↓reduceIte, decide_true, decide_false, Bool.true_eq_false, Bool.false_eq_true, Bool.not_true, Bool.not_false, if_true, if_false, and_true, true_and, memE, celE, w64, Nat.zero_add, Nat.add_zero, Nat.mul_one, putL, and_self, ldn, tm, t1, t2, t6, t7, b1.rd, ha1.len, hlt2', hpat, hp, hprow.at_ t (by omega), hprow.ld t (by omega), gt_iff_lt, hpos, huat, hu, hurow.at_ t (by omega), hurow.ld t (by omega), hz']
          exact ext_ansV hX1 (by rw [nest_no hlt hlt2 hpos hz]; rfl)
        · have hz' : ((T.getD (k + 1) []).getD t 0 == 0) = false := by rw [beq_eq_false_iff_ne]; exact hz
          simp (config := {implicitDefEqProofs := false, maxDischargeDepth := 20}) (disch := first | omega | (simp only [lenE]; done) | (simp only [lenE]; omega) | rfl | (simp only [lenE, markR_len]; done) | (simp only [lenE, markR_len]; omega)) only [runE, mapE, listE, initT_5, initT_6, initT_7, initT_8, resV, oneV, binA, unA, reduceCtorEq, Nat.reduceEqDiff, Nat.reduceAdd, Nat.reduceLT, Nat.reduceLeDiff, Nat.reduceMul, Nat.reduceSub, ↓reduceIte, decide_true, decide_false, Bool.true_eq_false, Bool.false_eq_true, Bool.not_true, Bool.not_false, if_true, if_false, and_true, true_and, memE, celE, w64, Nat.zero_add, Nat.add_zero, Nat.mul_one, putL, and_self, ldn, tm, t1, t2, t6, t7, b1.rd, ha1.len, hlt2', hpat, hp, hprow.at_ t (by omega), hprow.ld t (by omega), gt_iff_lt, hpos, huat, hu, hurow.at_ t (by omega), hurow.ld t (by omega), hz']
          refine ⟨⟨t + 1, by omega, by simp, nx fun _ => hz⟩, ?_⟩
          simp [intOf]; omega
      · simp (config := {implicitDefEqProofs := false, maxDischargeDepth := 20}) (disch := first | omega | (simp only [lenE]; done) | (simp only [lenE]; omega) | rfl | (simp only [lenE, markR_len]; done) | (simp only [lenE, markR_len]; omega)) only [runE, mapE, listE, initT_5, initT_6, initT_7, initT_8, resV, oneV, binA, unA, reduceCtorEq, Nat.reduceEqDiff, Nat.reduceAdd, Nat.reduceLT, Nat.reduceLeDiff, Nat.reduceMul, Nat.reduceSub, ↓reduceIte, decide_true, decide_false, Bool.true_eq_false, Bool.false_eq_true, Bool.not_true, Bool.not_false, if_true, if_false, and_true, true_and, memE, celE, w64, Nat.zero_add, Nat.add_zero, Nat.mul_one, putL, and_self, ldn, tm, t1, t2, t6, t7, b1.rd, ha1.len, hlt2', hpat, hp, hprow.at_ t (by omega), hprow.ld t (by omega), gt_iff_lt, hpos, goG_undef]
        refine ⟨⟨t + 1, by omega, by simp, nx fun hh => absurd hh hpos⟩, ?_⟩
        simp [intOf]; omega
    · have hlt2' : ¬ ((t : Int) < c.need.length) := by omega
      have et : t = c.need.length := by omega
      subst et
      simp (config := {implicitDefEqProofs := false, maxDischargeDepth := 20}) (disch := first | omega | (simp only [lenE]; done) | (simp only [lenE]; omega) | rfl | (simp only [lenE, markR_len]; done) | (simp only [lenE, markR_len]; omega)) only [runE, mapE, listE, initT_5, initT_6, initT_7, initT_8, resV, oneV, binA, unA, reduceCtorEq, Nat.reduceEqDiff, Nat.reduceAdd, Nat.reduceLT, Nat.reduceLeDiff, Nat.reduceMul, Nat.reduceSub, ↓reduceIte, decide_true, decide_false, Bool.true_eq_false, Bool.false_eq_true, Bool.not_true, Bool.not_false, if_true, if_false, and_true, true_and, memE, celE, w64, Nat.zero_add, Nat.add_zero, Nat.mul_one, putL, and_self, ldn, tm, t1, t2, t6, t7, b1.rd, ha1.len, hlt2']
      refine ⟨⟨k + 1, by omega, by simp, fun j hj => ?_⟩, ?_⟩
      · by_cases e : j = k
        · subst e; exact hok
        · exact hall j (by omega)
      · simp [intOf]; omega
  · have hlt' : ¬ ((k : Int) + 1 < T.length) := by omega
    simp (config := {implicitDefEqProofs := false, maxDischargeDepth := 20}) (disch := first | omega | (simp only [lenE]; done) | (simp only [lenE]; omega) | rfl | (simp only [lenE, markR_len]; done) | (simp only [lenE, markR_len]; omega)) only [runE, mapE, listE, initT_5, initT_6, initT_7, initT_8, resV, oneV, binA, unA, reduceCtorEq, Nat.reduceEqDiff, Nat.reduceAdd, Nat.reduceLT, Nat.reduceLeDiff, Nat.reduceMul, Nat.reduceSub, ↓reduceIte, decide_true, decide_false, Bool.true_eq_false, Bool.false_eq_true, Bool.not_true, Bool.not_false, if_true, if_false, and_true, true_and, memE, celE, w64, Nat.zero_add, Nat.add_zero, Nat.mul_one, putL, and_self, ldn, tm, t1, t2, t6, hlt', hT1.len]
    refine ext_ansV hX1 ?_
    have : decide (nestP T c.need.length) = true := decide_eq_true fun s _ hs => hall s (by omega)
    rw [this]; rfl
theorem implNest7_rc (m : Mem) (v vt : Value) (c : Ch) (T : List (List Int)) (h : ChA m v c) (hT : TabA m vt T) : RC Try.prog 54 [v, vt] m (AnsV (.tuple #[.bool (nest7A c T), .bool (two7 c T)])) := by
  refine rc_of_run mixed ok_impl_IsNestedPlan (by simp) (go_start _ _ _ ?_)
  obtain ⟨a, b, d, rfl, ha, hb, hd⟩ := h.ro
  have hX0 := (Ext.refl m).one 26 [a, b, d]
  unfold nest7A
  simp (config := {implicitDefEqProofs := false, maxDischargeDepth := 20}) (disch := first | omega | (simp only [lenE]; done) | (simp only [lenE]; omega) | rfl | (simp only [lenE, markR_len]; done) | (simp only [lenE, markR_len]; omega)) only [runE, mapE, listE, initT_5, initT_6, initT_7, initT_8, resV, oneV, binA, unA, reduceCtorEq, Nat.reduceEqDiff, Nat.reduceAdd, Nat.reduceLT, Nat.reduceLeDiff, Nat.reduceMul, Nat.reduceSub, ↓reduceIte, decide_true, decide_false, Bool.true_eq_false, Bool.false_eq_true, Bool.not_true, Bool.not_false, if_true, if_false, and_true, true_and, memE, celE, w64, Nat.zero_add, Nat.add_zero, Nat.mul_one, putL, and_self, ldn, c_impl_IsNestedPlan, r_impl_IsNestedPlan]
  refine callH_rc (implStocks7_rc _ _ vt c T (ChA.mk (ha.ext _) (hb.ext _) (hd.ext _)) (TabA.xt hT hX0)) ?_
  rintro r n1 ⟨nr1, w, rfl, hw⟩
  have hX1 := hX0.app nr1
  cases h2 : two7 c T with
  | false =>
    simp (config := {implicitDefEqProofs := false, maxDischargeDepth := 20}) (disch := first | omega | (simp only [lenE]; done) | (simp only [lenE]; omega) | rfl | (simp only [lenE, markR_len]; done) | (simp only [lenE, markR_len]; omega)) only [runE, mapE, listE, initT_5, initT_6, initT_7, initT_8, resV, oneV, binA, unA, reduceCtorEq, Nat.reduceEqDiff, Nat.reduceAdd, Nat.reduceLT, Nat.reduceLeDiff, Nat.reduceMul, Nat.reduceSub, ↓reduceIte, decide_true, decide_false, Bool.true_eq_false, Bool.false_eq_true, Bool.not_true, Bool.not_false, if_true, if_false, and_true, true_and, memE, celE, w64, Nat.zero_add, Nat.add_zero, Nat.mul_one, putL, and_self, ldn, ext20, ext21]
    exact ext_ansV hX1 rfl
  | true =>
  obtain ⟨g1, g2, g3⟩ := two7_rows h2
  have n6 := g1.n6
  have s3 := g1.s3
  have s1 := g1.s1
  obtain ⟨M1, hM1⟩ : ∃ M1, M1 = roM m ++ [⟨.own, 26, [a, b, d]⟩] ++ n1 := ⟨_, rfl⟩
  rw [← hM1] at hX1 ⊢
  have hT1 := TabA.xt hT hX1
  simp (config := {implicitDefEqProofs := false, maxDischargeDepth := 20}) (disch := first | omega | (simp only [lenE]; done) | (simp only [lenE]; omega) | rfl | (simp only [lenE, markR_len]; done) | (simp only [lenE, markR_len]; omega)) only [runE, mapE, listE, initT_5, initT_6, initT_7, initT_8, resV, oneV, binA, unA, reduceCtorEq, Nat.reduceEqDiff, Nat.reduceAdd, Nat.reduceLT, Nat.reduceLeDiff, Nat.reduceMul, Nat.reduceSub, ↓reduceIte, decide_true, decide_false, Bool.true_eq_false, Bool.false_eq_true, Bool.not_true, Bool.not_false, if_true, if_false, and_true, true_and, memE, celE, w64, Nat.zero_add, Nat.add_zero, Nat.mul_one, putL, and_self, ldn, ext20, ext21]
  refine loop_inv mixed (fun s => ∃ (k : Nat), k + 1 ≤ T.length ∧ s.m = M1 ∧ s.t 1 = vt ∧ s.t 8 = .int .i64 ((k + 1 : Nat) : Int) ∧ ∀ j, j < k → ∀ t, t < c.need.length → 0 < (T.getD j []).getD t 0 → (T.getD (j + 1) []).getD t 0 ≠ 0) (fun s => T.length - (intOf (s.t 8)).toNat)
    ⟨0, by omega, rfl, rfl, rfl, fun j hj => absurd hj (by omega)⟩ ?_
  rintro s ⟨k, hk, tm, t1, t8, hall⟩
  by_cases hlt : k + 1 < T.length
  · have hlt' : ((k + 1 : Nat) : Int) < T.length := by omega
    have ec : ((k + 1 : Nat) : Int) - 1 = (k : Int) := by omega
    obtain ⟨p, hp, hprow⟩ := hT1.ld k (by omega)
    have hpat := hT1.at_ k (by omega)
    obtain ⟨u, hu, hurow⟩ := hT1.ld (k + 1) (by omega)
    have huat := hT1.at_ (k + 1) (by omega)
    have l1 := (g3 k (by omega)).1
    have l2 := (g3 (k + 1) (by omega)).1
    have hul := hurow.len
    rw [l2] at hul
    simp (config := {implicitDefEqProofs := false, maxDischargeDepth := 20}) (disch := first | omega | (simp only [lenE]; done) | (simp only [lenE]; omega) | rfl | (simp only [lenE, markR_len]; done) | (simp only [lenE, markR_len]; omega)) only [runE, mapE, listE, initT_5, initT_6, initT_7, initT_8, resV, oneV, binA, unA, reduceCtorEq, Nat.reduceEqDiff, Nat.reduceAdd, Nat.reduceLT, Nat.reduceLeDiff, Nat.reduceMul, Nat.reduceSub, ↓reduceIte, decide_true, decide_false, Bool.true_eq_false, Bool.false_eq_true, Bool.not_true, Bool.not_false, if_true, if_false, and_true, true_and, memE, celE, w64, Nat.zero_add, Nat.add_zero, Nat.mul_one, putL, and_self, ldn, tm, t1, t8, hlt', hT1.len, huat, hu, hul]
    refine loop_inv mixed (fun s => ∃ (t : Nat), t ≤ c.need.length ∧ s.m = M1 ∧ s.t 1 = vt ∧ s.t 8 = .int .i64 ((k + 1 : Nat) : Int) ∧ s.t 28 = u ∧ s.t 29 = .int .i64 (c.need.length : Int) ∧ s.t 30 = .int .i64 (t : Int) ∧ ∀ j, j < t → 0 < (T.getD k []).getD j 0 → (T.getD (k + 1) []).getD j 0 ≠ 0) (fun s => c.need.length - (intOf (s.t 30)).toNat)
      ⟨0, by omega, tm, t1, t8, rfl, rfl, rfl, fun j hj => absurd hj (by omega)⟩ ?_
    rintro s ⟨t, ht, tm, t1, t8, t28, t29, t30, hok⟩
    by_cases hlt2 : t < c.need.length
    · have hlt2' : (t : Int) < c.need.length := by omega
      have nx : (0 < (T.getD k []).getD t 0 → (T.getD (k + 1) []).getD t 0 ≠ 0) → ∀ j, j < t + 1 → 0 < (T.getD k []).getD j 0 → (T.getD (k + 1) []).getD j 0 ≠ 0 := fun hh j hj => by
        by_cases e : j = t
        · subst e; exact hh
        · exact hok j (by omega)
      by_cases hz : (T.getD (k + 1) []).getD t 0 = 0
      · have hz' : ((T.getD (k + 1) []).getD t 0 == 0) = true := by rw [beq_iff_eq]; exact hz
        by_cases hpos : 0 < (T.getD k []).getD t 0
        · simp (config := {implicitDefEqProofs := false, maxDischargeDepth := 20}) (disch := first | omega | (simp only [lenE]; done) | (simp only [lenE]; omega) | rfl | (simp only [lenE, markR_len]; done) | (simp only [lenE, markR_len]; omega)) only [runE, mapE, listE, initT_5, initT_6, initT_7, initT_8, resV, oneV, binA, unA, reduceCtorEq, Nat.reduceEqDiff, Nat.reduceAdd, Nat.reduceLT, Nat.reduceLeDiff, Nat.reduceMul, Nat.reduceSub, ↓reduceIte, decide_true, decide_false, Bool.true_eq_false, Bool.false_eq_true, Bool.not_true, Bool.not_false, if_true, if_false, and_true, true_and, memE, celE, w64, Nat.zero_add, Nat.add_zero, Nat.mul_one, putL, and_self, ldn, tm, t1, t8, t28, t29, t30, hlt2', hurow.at_ t (by omega), hurow.ld t (by omega), hz', ec, hpat, hp, hprow.at_ t (by omega), hprow.ld t (by omega), gt_iff_lt, hpos]
          exact ext_ansV hX1 (by rw [nest_no hlt hlt2 hpos hz]; rfl)
        · simp (config := {implicitDefEqProofs := false, maxDischargeDepth := 20}) (disch := first | omega | (simp only [lenE]; done) | (simp only [lenE]; omega) | rfl | (simp only [lenE, markR_len]; done) | (simp only [lenE, markR_len]; omega)) only [runE, mapE, listE, initT_5, initT_6, initT_7, initT_8, resV, oneV, binA, unA, reduceCtorEq, Nat.reduceEqDiff, Nat.reduceAdd, Nat.reduceLT, Nat.reduceLeDiff, Nat.reduceMul, Nat.reduceSub, ↓reduceIte, decide_true, decide_false, Bool.true_eq_false, Bool.false_eq_true, Bool.not_true, Bool.not_false, if_true, if_false, and_true, true_and, memE, celE, w64, Nat.zero_add, Nat.add_zero, Nat.mul_one, putL, and_self, ldn, tm, t1, t8, t28, t29, t30, hlt2', hurow.at_ t (by omega), hurow.ld t (by omega), hz', ec, hpat, hp, hprow.at_ t (by omega), hprow.ld t (by omega), gt_iff_lt, hpos]
          refine ⟨⟨t + 1, by omega, by simp, nx fun hh => absurd hh hpos⟩, ?_⟩
          simp [intOf]; omega
      · have hz' : ((T.getD (k + 1) []).getD t 0 == 0) = false := by rw [beq_eq_false_iff_ne]; exact hz
        simp (config := {implicitDefEqProofs := false, maxDischargeDepth := 20}) (disch := first | omega | (simp only [lenE]; done) | (simp only [lenE]; omega) | rfl | (simp only [lenE, markR_len]; done) | (simp only [lenE, markR_len]; omega)) only [runE, mapE, listE, initT_5, initT_6, initT_7, initT_8, resV, oneV, binA, unA, reduceCtorEq, Nat.reduceEqDiff, Nat.reduceAdd, Nat.reduceLT, Nat.reduceLeDiff, Nat.reduceMul, Nat.reduceSub, ↓reduceIte, decide_true, decide_false, Bool.true_eq_false, Bool.false_eq_true, Bool.not_true, Bool.not_false, if_true, if_false, and_true, true_and, memE, celE, w64, Nat.zero_add, Nat.add_zero, Nat.mul_one, putL, and_self, ldn, tm, t1, t8, t28, t29, t30, hlt2', hurow.at_ t (by omega), hurow.ld t (by omega), hz', goG_undef]
        refine ⟨⟨t + 1, by omega, by simp, nx fun _ => hz⟩, ?_⟩
        simp [intOf]; omega
    · have hlt2' : ¬ ((t : Int) < c.need.length) := by omega
      have et : t = c.need.length := by omega
      subst et
      simp (config := {implicitDefEqProofs := false, maxDischargeDepth := 20}) (disch := first | omega | (simp only [lenE]; done) | (simp only [lenE]; omega) | rfl | (simp only [lenE, markR_len]; done) | (simp only [lenE, markR_len]; omega)) only [runE, mapE, listE, initT_5, initT_6, initT_7, initT_8, resV, oneV, binA, unA, reduceCtorEq, Nat.reduceEqDiff, Nat.reduceAdd, Nat.reduceLT, Nat.reduceLeDiff, Nat.reduceMul, Nat.reduceSub, ↓reduceIte, decide_true, decide_false, Bool.true_eq_false, Bool.false_eq_true, Bool.not_true, Bool.not_false, if_true, if_false, and_true, true_and, memE, celE, w64, Nat.zero_add, Nat.add_zero, Nat.mul_one, putL, and_self, ldn, tm, t1, t8, t28, t29, t30, hlt2']
      refine ⟨⟨k + 1, by omega, by simp, fun j hj => ?_⟩, ?_⟩
      · by_cases e : j = k
        · subst e; exact hok
        · exact hall j (by omega)
      · simp [intOf]; omega
  · have hlt' : ¬ (((k + 1 : Nat) : Int) < T.length) := by omega
    simp (config := {implicitDefEqProofs := false, maxDischargeDepth := 20}) (disch := first | omega | (simp only [lenE]; done) | (simp only [lenE]; omega) | rfl | (simp only [lenE, markR_len]; done) | (simp only [lenE, markR_len]; omega)) only [runE, mapE, listE, initT_5, initT_6, initT_7, initT_8, resV, oneV, binA, unA, reduceCtorEq, Nat.reduceEqDiff, Nat.reduceAdd, Nat.reduceLT, Nat.reduceLeDiff, Nat.reduceMul, Nat.reduceSub, ↓reduceIte, decide_true, decide_false, Bool.true_eq_false, Bool.false_eq_true, Bool.not_true, Bool.not_false, if_true, if_false, and_true, true_and, memE, celE, w64, Nat.zero_add, Nat.add_zero, Nat.mul_one, putL, and_self, ldn, tm, t1, t8, hlt', hT1.len]
    refine ext_ansV hX1 ?_
    have : decide (nestP T c.need.length) = true := decide_eq_true fun s _ hs => hall s (by omega)
    rw [this]; rfl
end Go.Proofs.Ytamhhicnfpemeaa.Ab
