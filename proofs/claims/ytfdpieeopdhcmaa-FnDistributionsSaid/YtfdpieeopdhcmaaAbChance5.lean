/- One period with chances: BestOrders, SumOf. -/
import Derived.Test.YtfdpieeopdhcmaaAbChance2
namespace Go.Proofs.Ytfdpieeopdhcmaa.Ab
open Go Go.RowKit
set_option linter.unusedVariables false
set_option linter.unusedSimpArgs false

theorem costsTo_s (w : List Int) (o u : Int) (n : Nat) : costsTo w o u (n + 1) = costsTo w o u n ++ [costF w o u n] := rfl
theorem costTable_rc (m : Mem) (v : Value) (w : List Int) (o u : Int) (h : IntsA m v w) (hd : Dist w) (ho : 0 ≤ o ∧ o ≤ 20) (hu : 0 ≤ u ∧ u ≤ 20) :
    RC Try.prog 86 [v, .int .i64 o, .int .i64 u] m (AnsR m (costsTo w o u 16)) := by
  refine rc_of_run mixed ok_impl_costTable (by simp) (go_start _ _ _ ?_)
  have hr := h.ro
  have hcl := fun n => costsTo_len w o u n
  simp (config := {implicitDefEqProofs := false, maxDischargeDepth := 20}) (disch := first | omega | (simp only [lenE]; done) | (simp only [lenE]; omega) | rfl | (simp only [lenE, markR_len]; done) | (simp only [lenE, markR_len]; omega)) only [runE, mapE, listE, initT_5, initT_6, initT_7, initT_8, resV, oneV, binA, unA, reduceCtorEq, Nat.reduceEqDiff, Nat.reduceAdd, Nat.reduceLT, Nat.reduceLeDiff, Nat.reduceMul, Nat.reduceSub, ↓reduceIte, decide_true, decide_false, Bool.true_eq_false, Bool.false_eq_true, Bool.not_true, Bool.not_false, if_true, if_false, and_true, true_and, memE, celE, w64, Nat.zero_add, Nat.add_zero, Nat.mul_one, putL, and_self, ldn, c_impl_costTable, r_impl_costTable, bsl_none]
  refine loop_inv mixed (fun s => ∃ (n : Nat) (M : Mem) (id : Nat), n ≤ 16 ∧ s.m = M ∧ Ext m M ∧ OwnR M id (costsTo w o u n) ∧ m.length ≤ id ∧ s.t 0 = v ∧ s.t 1 = .int .i64 o ∧ s.t 2 = .int .i64 u ∧ s.t 7 = .slice (some ⟨id, 0, none⟩) (costsTo w o u n).length 1 ∧ s.t 10 = .int .i64 n) (fun s => 20 - (intOf (s.t 10)).toNat)
    ⟨0, _, m.length, by omega, rfl, (Ext.refl m).one _ _, by have := OwnR.at_end (roM m) []; rwa [roM_len] at this, by omega, rfl, rfl, rfl, rfl, rfl⟩ ?_
  rintro s ⟨n, M, id, hn, tm, hx, hown, hid, t0, t1, t2, t7, t10⟩
  by_cases hlt : n < 16
  · have hlt' : (n : Int) < 16 := by omega
    simp (config := {implicitDefEqProofs := false, maxDischargeDepth := 20}) (disch := first | omega | (simp only [lenE]; done) | (simp only [lenE]; omega) | rfl | (simp only [lenE, markR_len]; done) | (simp only [lenE, markR_len]; omega)) only [runE, mapE, listE, initT_5, initT_6, initT_7, initT_8, resV, oneV, binA, unA, reduceCtorEq, Nat.reduceEqDiff, Nat.reduceAdd, Nat.reduceLT, Nat.reduceLeDiff, Nat.reduceMul, Nat.reduceSub, ↓reduceIte, decide_true, decide_false, Bool.true_eq_false, Bool.false_eq_true, Bool.not_true, Bool.not_false, if_true, if_false, and_true, true_and, memE, celE, w64, Nat.zero_add, Nat.add_zero, Nat.mul_one, putL, and_self, ldn, tm, t0, t1, t2, t7, t10, hlt']
    refine callH_rc (costSum_rc _ v w o u n (hx.ints hr) hd ho hu (by omega)) ?_
    rintro r new ⟨rfl, rfl⟩
    rw [List.append_nil]
    simp (config := {implicitDefEqProofs := false, maxDischargeDepth := 20}) (disch := first | omega | (simp only [lenE]; done) | (simp only [lenE]; omega) | rfl | (simp only [lenE, markR_len]; done) | (simp only [lenE, markR_len]; omega)) only [runE, mapE, listE, initT_5, initT_6, initT_7, initT_8, resV, oneV, binA, unA, reduceCtorEq, Nat.reduceEqDiff, Nat.reduceAdd, Nat.reduceLT, Nat.reduceLeDiff, Nat.reduceMul, Nat.reduceSub, ↓reduceIte, decide_true, decide_false, Bool.true_eq_false, Bool.false_eq_true, Bool.not_true, Bool.not_false, if_true, if_false, and_true, true_and, memE, celE, w64, Nat.zero_add, Nat.add_zero, Nat.mul_one, putL, and_self, ldn, tm, t0, t1, t2, t7, t10, bsl_one, app_gen hown (by have := hcl n; omega)]
    refine ⟨⟨n + 1, _, M.length + 1, by omega, rfl, ((hx.dead hid).one _ _).one _ _, ?_, by have := hx.len; omega, by rw [costsTo_s, List.length_append]; rfl, by simp⟩, by simp [intOf]; omega⟩
    rw [costsTo_s]
    have := OwnR.at_end (M.set id deadB ++ [⟨.own, 3, [.int .i64 (costF w o u n)]⟩]) (costsTo w o u n ++ [costF w o u n])
    simpa using this
  · have hlt' : ¬ ((n : Int) < 16) := by omega
    have e : n = 16 := by omega
    subst e
    simp (config := {implicitDefEqProofs := false, maxDischargeDepth := 20}) (disch := first | omega | (simp only [lenE]; done) | (simp only [lenE]; omega) | rfl | (simp only [lenE, markR_len]; done) | (simp only [lenE, markR_len]; omega)) only [runE, mapE, listE, initT_5, initT_6, initT_7, initT_8, resV, oneV, binA, unA, reduceCtorEq, Nat.reduceEqDiff, Nat.reduceAdd, Nat.reduceLT, Nat.reduceLeDiff, Nat.reduceMul, Nat.reduceSub, ↓reduceIte, decide_true, decide_false, Bool.true_eq_false, Bool.false_eq_true, Bool.not_true, Bool.not_false, if_true, if_false, and_true, true_and, memE, celE, w64, Nat.zero_add, Nat.add_zero, Nat.mul_one, putL, and_self, ldn, tm, t0, t1, t2, t7, t10, hlt']
    exact ext_ansR hx hown hid rfl (by have := hcl 16; omega)
theorem minTo_s (l : List Int) (k : Nat) : minTo l (k + 1) = min (minTo l k) (l.getD (k + 1) 0) := rfl
theorem slicesMin_rc (m : Mem) (v : Value) (l : List Int) (h : IntsA m v l) (hl : 0 < l.length) :
    RC Try.prog 87 [v] m fun r new => r = .int .i64 (minTo l (l.length - 1)) ∧ new = [] := by
  refine rc_of_run mixed ok_slices_Min (by simp) (go_start _ _ _ ?_)
  have hr := h.ro
  have h1 : ¬ ((l.length : Int) < 1) := by omega
  have a0 : iadA 1 v (.int .i64 0) = some (pAt v 0) := hr.at_ 0 hl
  simp (config := {implicitDefEqProofs := false, maxDischargeDepth := 20}) (disch := first | omega | (simp only [lenE]; done) | (simp only [lenE]; omega) | rfl | (simp only [lenE, markR_len]; done) | (simp only [lenE, markR_len]; omega)) only [runE, mapE, listE, initT_5, initT_6, initT_7, initT_8, resV, oneV, binA, unA, reduceCtorEq, Nat.reduceEqDiff, Nat.reduceAdd, Nat.reduceLT, Nat.reduceLeDiff, Nat.reduceMul, Nat.reduceSub, ↓reduceIte, decide_true, decide_false, Bool.true_eq_false, Bool.false_eq_true, Bool.not_true, Bool.not_false, if_true, if_false, and_true, true_and, memE, celE, w64, Nat.zero_add, Nat.add_zero, Nat.mul_one, putL, and_self, ldn, c_slices_Min, r_slices_Min, hr.len, h1, a0, hr.ld 0 hl]
  refine loop_inv mixed (fun s => ∃ k : Nat, k < l.length ∧ s.t 0 = v ∧ s.t 3 = .int .i64 (minTo l k) ∧ s.t 4 = .int .i64 ((k + 1 : Nat) : Int) ∧ s.m = roM m) (fun s => l.length + 1 - (intOf (s.t 4)).toNat) ⟨0, hl, rfl, rfl, rfl, rfl⟩ ?_
  rintro s ⟨k, hk, t0, t3, t4, tm⟩
  have bd := hr.bd
  by_cases hlt : k + 1 < l.length
  · have hlt' : ((k + 1 : Nat) : Int) < l.length := by omega
    simp (config := {implicitDefEqProofs := false, maxDischargeDepth := 20}) (disch := first | omega | (simp only [lenE]; done) | (simp only [lenE]; omega) | rfl | (simp only [lenE, markR_len]; done) | (simp only [lenE, markR_len]; omega)) only [runE, mapE, listE, initT_5, initT_6, initT_7, initT_8, resV, oneV, binA, unA, reduceCtorEq, Nat.reduceEqDiff, Nat.reduceAdd, Nat.reduceLT, Nat.reduceLeDiff, Nat.reduceMul, Nat.reduceSub, ↓reduceIte, decide_true, decide_false, Bool.true_eq_false, Bool.false_eq_true, Bool.not_true, Bool.not_false, if_true, if_false, and_true, true_and, memE, celE, w64, Nat.zero_add, Nat.add_zero, Nat.mul_one, putL, and_self, ldn, t0, t3, t4, tm, hr.len, hr.at_ (k + 1) hlt, hr.ld (k + 1) hlt, hlt']
    exact ⟨⟨k + 1, hlt, by rw [minTo_s], by congr 1⟩, by simp [intOf]; omega⟩
  · have hlt' : ¬ (((k + 1 : Nat) : Int) < l.length) := by omega
    have e : k = l.length - 1 := by omega
    simp (config := {implicitDefEqProofs := false, maxDischargeDepth := 20}) (disch := first | omega | (simp only [lenE]; done) | (simp only [lenE]; omega) | rfl | (simp only [lenE, markR_len]; done) | (simp only [lenE, markR_len]; omega)) only [runE, mapE, listE, initT_5, initT_6, initT_7, initT_8, resV, oneV, binA, unA, reduceCtorEq, Nat.reduceEqDiff, Nat.reduceAdd, Nat.reduceLT, Nat.reduceLeDiff, Nat.reduceMul, Nat.reduceSub, ↓reduceIte, decide_true, decide_false, Bool.true_eq_false, Bool.false_eq_true, Bool.not_true, Bool.not_false, if_true, if_false, and_true, true_and, memE, celE, w64, Nat.zero_add, Nat.add_zero, Nat.mul_one, putL, and_self, ldn, t0, t3, t4, tm, hr.len, hlt']
    exact newQ_nil ⟨by rw [e], rfl⟩
theorem test_best (m : Mem) (id : Nat) (x0 : Int) (h : rdc m id 0 = some (.int .i64 x0)) :
    TestA m (.func (.func 89) #[] #[.pointer (some ⟨id, 0, none⟩)]) (fun x => x == x0) := by
  refine ⟨_, _, rfl, fun x m' hm => ?_⟩
  refine rc_of_run mixed ok_impl_BestOrders_1 (by simp) (go_start _ _ _ ?_)
  have h' : rdc (roM m') id 0 = some (.int .i64 x0) := by rw [rdc_roM]; exact hm _ _ _ h
  simp (config := {implicitDefEqProofs := false, maxDischargeDepth := 20}) (disch := first | omega | (simp only [lenE]; done) | (simp only [lenE]; omega) | rfl | (simp only [lenE, markR_len]; done) | (simp only [lenE, markR_len]; omega)) only [runE, mapE, listE, initT_5, initT_6, initT_7, initT_8, resV, oneV, binA, unA, reduceCtorEq, Nat.reduceEqDiff, Nat.reduceAdd, Nat.reduceLT, Nat.reduceLeDiff, Nat.reduceMul, Nat.reduceSub, ↓reduceIte, decide_true, decide_false, Bool.true_eq_false, Bool.false_eq_true, Bool.not_true, Bool.not_false, if_true, if_false, and_true, true_and, memE, celE, w64, Nat.zero_add, Nat.add_zero, Nat.mul_one, putL, and_self, ldn, c_impl_BestOrders_1, r_impl_BestOrders_1, h']
  exact newQ_nil ⟨rfl, rfl⟩
theorem picks_best (w : List Int) (o u : Int) (n : Nat) (hn : n ≤ 16) : picks (fun x => x == costF w o u (critF w o u)) (costsTo w o u 16) n = bestTo w o u n := by
  induction n with
  | zero => rfl
  | succ n ih => rw [picks, bestTo, ih (by omega), costsTo_at w o u (by omega)]
def bestA (w : List Int) (o u : Int) : List Int := if distB w && chB o u then bestTo w o u 16 else []
theorem bestA_no {w : List Int} {o u : Int} (h : (distB w && chB o u) = false) : bestA w o u = [] := by unfold bestA; rw [h]; rfl
theorem bestA_yes {w : List Int} {o u : Int} (h : (distB w && chB o u) = true) : bestA w o u = bestTo w o u 16 := by unfold bestA; rw [h]; rfl
theorem implBestOrders_rc (m : Mem) (v : Value) (w : List Int) (o u : Int) (h : IntsA m v w) :
    RC Try.prog 27 [v, .int .i64 o, .int .i64 u] m (AnsL m (bestA w o u) (distB w && chB o u)) := by
  refine rc_of_run mixed ok_impl_BestOrders (by simp) (go_start _ _ _ ?_)
  simp (config := {implicitDefEqProofs := false, maxDischargeDepth := 20}) (disch := first | omega | (simp only [lenE]; done) | (simp only [lenE]; omega) | rfl | (simp only [lenE, markR_len]; done) | (simp only [lenE, markR_len]; omega)) only [runE, mapE, listE, initT_5, initT_6, initT_7, initT_8, resV, oneV, binA, unA, reduceCtorEq, Nat.reduceEqDiff, Nat.reduceAdd, Nat.reduceLT, Nat.reduceLeDiff, Nat.reduceMul, Nat.reduceSub, ↓reduceIte, decide_true, decide_false, Bool.true_eq_false, Bool.false_eq_true, Bool.not_true, Bool.not_false, if_true, if_false, and_true, true_and, memE, celE, w64, Nat.zero_add, Nat.add_zero, Nat.mul_one, putL, and_self, ldn, c_impl_BestOrders, r_impl_BestOrders]
  refine callH_rc (isCharged_rc _ v w o u h.ro) ?_
  rintro r new ⟨rfl, nr⟩
  have hx := (ext0 m).app nr
  cases hb : (distB w && chB o u) with
  | false =>
    rw [bestA_no hb]
    simp (config := {implicitDefEqProofs := false, maxDischargeDepth := 20}) (disch := first | omega | (simp only [lenE]; done) | (simp only [lenE]; omega) | rfl | (simp only [lenE, markR_len]; done) | (simp only [lenE, markR_len]; omega)) only [runE, mapE, listE, initT_5, initT_6, initT_7, initT_8, resV, oneV, binA, unA, reduceCtorEq, Nat.reduceEqDiff, Nat.reduceAdd, Nat.reduceLT, Nat.reduceLeDiff, Nat.reduceMul, Nat.reduceSub, ↓reduceIte, decide_true, decide_false, Bool.true_eq_false, Bool.false_eq_true, Bool.not_true, Bool.not_false, if_true, if_false, and_true, true_and, memE, celE, w64, Nat.zero_add, Nat.add_zero, Nat.mul_one, putL, and_self, ldn, bsl_none]
    exact ext_ansL (hx.one _ _) (OwnR.end' (l := []) (by simp [roM_len])) (by omega) rfl (by simp)
  | true =>
    obtain ⟨hd, ho, hu⟩ := dcB_yes hb
    have hr := h.xt hx
    obtain ⟨M, hM⟩ : ∃ M, M = roM m ++ new := ⟨_, rfl⟩
    rw [bestA_yes hb]
    rw [← hM] at hr hx ⊢
    simp (config := {implicitDefEqProofs := false, maxDischargeDepth := 20}) (disch := first | omega | (simp only [lenE]; done) | (simp only [lenE]; omega) | rfl | (simp only [lenE, markR_len]; done) | (simp only [lenE, markR_len]; omega)) only [runE, mapE, listE, initT_5, initT_6, initT_7, initT_8, resV, oneV, binA, unA, reduceCtorEq, Nat.reduceEqDiff, Nat.reduceAdd, Nat.reduceLT, Nat.reduceLeDiff, Nat.reduceMul, Nat.reduceSub, ↓reduceIte, decide_true, decide_false, Bool.true_eq_false, Bool.false_eq_true, Bool.not_true, Bool.not_false, if_true, if_false, and_true, true_and, memE, celE, w64, Nat.zero_add, Nat.add_zero, Nat.mul_one, putL, and_self, ldn]
    refine callH_rc (costTable_rc _ v w o u hr hd ho hu) ?_
    intro r new2 hA
    obtain ⟨id, fl, rfl, hge, hown, hle, nr2⟩ := hA.row
    have hx2 := hx.app nr2
    have hcl := costsTo_len w o u 16
    obtain ⟨M2, hM2⟩ : ∃ M2, M2 = M ++ new2 := ⟨_, rfl⟩
    rw [← hM2] at hown hx2 ⊢
    have hi := hown.ints (by omega) fl
    simp (config := {implicitDefEqProofs := false, maxDischargeDepth := 20}) (disch := first | omega | (simp only [lenE]; done) | (simp only [lenE]; omega) | rfl | (simp only [lenE, markR_len]; done) | (simp only [lenE, markR_len]; omega)) only [runE, mapE, listE, initT_5, initT_6, initT_7, initT_8, resV, oneV, binA, unA, reduceCtorEq, Nat.reduceEqDiff, Nat.reduceAdd, Nat.reduceLT, Nat.reduceLeDiff, Nat.reduceMul, Nat.reduceSub, ↓reduceIte, decide_true, decide_false, Bool.true_eq_false, Bool.false_eq_true, Bool.not_true, Bool.not_false, if_true, if_false, and_true, true_and, memE, celE, w64, Nat.zero_add, Nat.add_zero, Nat.mul_one, putL, and_self, ldn]
    refine callH_rc (slicesMin_rc _ _ _ hi (by omega)) ?_
    rintro r new3 ⟨rfl, rfl⟩
    have e15 : (costsTo w o u 16).length - 1 = 15 := by rw [hcl]
    rw [List.append_nil, e15, min_costs hd ho.1 hu.1]
    simp (config := {implicitDefEqProofs := false, maxDischargeDepth := 20}) (disch := first | omega | (simp only [lenE]; done) | (simp only [lenE]; omega) | rfl | (simp only [lenE, markR_len]; done) | (simp only [lenE, markR_len]; omega)) only [runE, mapE, listE, initT_5, initT_6, initT_7, initT_8, resV, oneV, binA, unA, reduceCtorEq, Nat.reduceEqDiff, Nat.reduceAdd, Nat.reduceLT, Nat.reduceLeDiff, Nat.reduceMul, Nat.reduceSub, ↓reduceIte, decide_true, decide_false, Bool.true_eq_false, Bool.false_eq_true, Bool.not_true, Bool.not_false, if_true, if_false, and_true, true_and, memE, celE, w64, Nat.zero_add, Nat.add_zero, Nat.mul_one, putL, and_self, ldn]
    have hx3 := hx2.one 3 [.int .i64 (costF w o u (critF w o u))]
    have hbM : rdc (M2 ++ [⟨.own, 3, [.int .i64 (costF w o u (critF w o u))]⟩]) M2.length 0 = some (.int .i64 (costF w o u (critF w o u))) := by simp (config := {implicitDefEqProofs := false, maxDischargeDepth := 20}) (disch := first | omega | (simp only [lenE]; done) | (simp only [lenE]; omega) | rfl | (simp only [lenE, markR_len]; done) | (simp only [lenE, markR_len]; omega)) only [runE, mapE, listE, initT_5, initT_6, initT_7, initT_8, resV, oneV, binA, unA, reduceCtorEq, Nat.reduceEqDiff, Nat.reduceAdd, Nat.reduceLT, Nat.reduceLeDiff, Nat.reduceMul, Nat.reduceSub, ↓reduceIte, decide_true, decide_false, Bool.true_eq_false, Bool.false_eq_true, Bool.not_true, Bool.not_false, if_true, if_false, and_true, true_and, memE, celE, w64, Nat.zero_add, Nat.add_zero, Nat.mul_one, putL, and_self, ldn]
    refine callH_rc (periodsWith2_rc _ _ _ _ (fun x => x == costF w o u (critF w o u)) (hi.ext _) (fun M' hM' => test_best M' _ _ (hM'.rd hbM)) (by omega)) ?_
    rw [hcl, picks_best w o u 16 (by omega)]
    intro r new4 hB
    obtain ⟨id4, fl4, rfl, hge4, hown4, hle4, nr4⟩ := hB.row
    simp (config := {implicitDefEqProofs := false, maxDischargeDepth := 20}) (disch := first | omega | (simp only [lenE]; done) | (simp only [lenE]; omega) | rfl | (simp only [lenE, markR_len]; done) | (simp only [lenE, markR_len]; omega)) only [runE, mapE, listE, initT_5, initT_6, initT_7, initT_8, resV, oneV, binA, unA, reduceCtorEq, Nat.reduceEqDiff, Nat.reduceAdd, Nat.reduceLT, Nat.reduceLeDiff, Nat.reduceMul, Nat.reduceSub, ↓reduceIte, decide_true, decide_false, Bool.true_eq_false, Bool.false_eq_true, Bool.not_true, Bool.not_false, if_true, if_false, and_true, true_and, memE, celE, w64, Nat.zero_add, Nat.add_zero, Nat.mul_one, putL, and_self, ldn]
    exact ext_ansL (hx3.app nr4) hown4 (by have := hx3.len; omega) rfl (by omega)
theorem bestTo_s (w : List Int) (o u : Int) (n : Nat) : bestTo w o u (n + 1) = if costF w o u n == costF w o u (critF w o u) then bestTo w o u n ++ [(n : Int)] else bestTo w o u n := rfl
theorem specBestOrders_rc (m : Mem) (v : Value) (w : List Int) (o u : Int) (h : IntsA m v w) :
    RC Try.prog 28 [v, .int .i64 o, .int .i64 u] m (AnsL m (bestA w o u) (distB w && chB o u)) := by
  refine rc_of_run mixed ok_spec_BestOrders (by simp) (go_start _ _ _ ?_)
  have hr := h.ro
  have hx : Ext m (roM m ++ [⟨.own, 3, ([] : List Int).map (Value.int .i64)⟩]) := (Ext.refl m).one _ _
  have o0 : OwnR (roM m ++ [⟨.own, 3, ([] : List Int).map (Value.int .i64)⟩]) m.length [] := by have := OwnR.at_end (roM m) []; rwa [roM_len] at this
  simp (config := {implicitDefEqProofs := false, maxDischargeDepth := 20}) (disch := first | omega | (simp only [lenE]; done) | (simp only [lenE]; omega) | rfl | (simp only [lenE, markR_len]; done) | (simp only [lenE, markR_len]; omega)) only [runE, mapE, listE, initT_5, initT_6, initT_7, initT_8, resV, oneV, binA, unA, reduceCtorEq, Nat.reduceEqDiff, Nat.reduceAdd, Nat.reduceLT, Nat.reduceLeDiff, Nat.reduceMul, Nat.reduceSub, ↓reduceIte, decide_true, decide_false, Bool.true_eq_false, Bool.false_eq_true, Bool.not_true, Bool.not_false, if_true, if_false, and_true, true_and, memE, celE, w64, Nat.zero_add, Nat.add_zero, Nat.mul_one, putL, and_self, ldn, c_spec_BestOrders, r_spec_BestOrders, bsl_none]
  refine callH_rc (l5Good_rc _ v w (hr.ext _)) ?_
  rintro r new ⟨rfl, rfl⟩
  rw [List.append_nil]
  cases hd0 : distB w with
  | false =>
    have no : (distB w && chB o u) = false := by rw [hd0]; rfl
    rw [bestA_no no]
    simp (config := {implicitDefEqProofs := false, maxDischargeDepth := 20}) (disch := first | omega | (simp only [lenE]; done) | (simp only [lenE]; omega) | rfl | (simp only [lenE, markR_len]; done) | (simp only [lenE, markR_len]; omega)) only [runE, mapE, listE, initT_5, initT_6, initT_7, initT_8, resV, oneV, binA, unA, reduceCtorEq, Nat.reduceEqDiff, Nat.reduceAdd, Nat.reduceLT, Nat.reduceLeDiff, Nat.reduceMul, Nat.reduceSub, ↓reduceIte, decide_true, decide_false, Bool.true_eq_false, Bool.false_eq_true, Bool.not_true, Bool.not_false, if_true, if_false, and_true, true_and, memE, celE, w64, Nat.zero_add, Nat.add_zero, Nat.mul_one, putL, and_self, ldn]
    exact ext_ansL hx o0 (by omega) rfl (by simp)
  | true =>
    simp (config := {implicitDefEqProofs := false, maxDischargeDepth := 20}) (disch := first | omega | (simp only [lenE]; done) | (simp only [lenE]; omega) | rfl | (simp only [lenE, markR_len]; done) | (simp only [lenE, markR_len]; omega)) only [runE, mapE, listE, initT_5, initT_6, initT_7, initT_8, resV, oneV, binA, unA, reduceCtorEq, Nat.reduceEqDiff, Nat.reduceAdd, Nat.reduceLT, Nat.reduceLeDiff, Nat.reduceMul, Nat.reduceSub, ↓reduceIte, decide_true, decide_false, Bool.true_eq_false, Bool.false_eq_true, Bool.not_true, Bool.not_false, if_true, if_false, and_true, true_and, memE, celE, w64, Nat.zero_add, Nat.add_zero, Nat.mul_one, putL, and_self, ldn]
    refine callH_rc (l5Charges_rc _ o u) ?_
    rintro r new2 ⟨rfl, rfl⟩
    rw [List.append_nil]
    cases hc : chB o u with
    | false =>
      have no : (distB w && chB o u) = false := by rw [hc]; simp
      rw [bestA_no no]
      simp (config := {implicitDefEqProofs := false, maxDischargeDepth := 20}) (disch := first | omega | (simp only [lenE]; done) | (simp only [lenE]; omega) | rfl | (simp only [lenE, markR_len]; done) | (simp only [lenE, markR_len]; omega)) only [runE, mapE, listE, initT_5, initT_6, initT_7, initT_8, resV, oneV, binA, unA, reduceCtorEq, Nat.reduceEqDiff, Nat.reduceAdd, Nat.reduceLT, Nat.reduceLeDiff, Nat.reduceMul, Nat.reduceSub, ↓reduceIte, decide_true, decide_false, Bool.true_eq_false, Bool.false_eq_true, Bool.not_true, Bool.not_false, if_true, if_false, and_true, true_and, memE, celE, w64, Nat.zero_add, Nat.add_zero, Nat.mul_one, putL, and_self, ldn]
      exact ext_ansL hx o0 (by omega) rfl (by simp)
    | true =>
      have hb : (distB w && chB o u) = true := by rw [hd0, hc]; rfl
      obtain ⟨hd, ho, hu⟩ := dcB_yes hb
      have hcr := crit_le (u := u) hd ho.1
      have hbl := fun n => bestTo_len w o u n
      rw [bestA_yes hb]
      have hv := hr.ext [⟨.own, 3, ([] : List Int).map (Value.int .i64)⟩]
      obtain ⟨M0, hM0⟩ : ∃ M0, M0 = roM m ++ [⟨.own, 3, ([] : List Int).map (Value.int .i64)⟩] := ⟨_, rfl⟩
      have hM0' : roM m ++ [⟨.own, 3, []⟩] = M0 := by rw [hM0]; rfl
      rw [← hM0] at hx o0 hv
      simp (config := {implicitDefEqProofs := false, maxDischargeDepth := 20}) (disch := first | omega | (simp only [lenE]; done) | (simp only [lenE]; omega) | rfl | (simp only [lenE, markR_len]; done) | (simp only [lenE, markR_len]; omega)) only [runE, mapE, listE, initT_5, initT_6, initT_7, initT_8, resV, oneV, binA, unA, reduceCtorEq, Nat.reduceEqDiff, Nat.reduceAdd, Nat.reduceLT, Nat.reduceLeDiff, Nat.reduceMul, Nat.reduceSub, ↓reduceIte, decide_true, decide_false, Bool.true_eq_false, Bool.false_eq_true, Bool.not_true, Bool.not_false, if_true, if_false, and_true, true_and, memE, celE, w64, Nat.zero_add, Nat.add_zero, Nat.mul_one, putL, and_self, ldn]
      rw [hM0']
      refine callH_rc (l5Critical_rc _ v w o u hv hd ho hu) ?_
      rintro r new3 ⟨rfl, rfl⟩
      rw [List.append_nil]
      simp (config := {implicitDefEqProofs := false, maxDischargeDepth := 20}) (disch := first | omega | (simp only [lenE]; done) | (simp only [lenE]; omega) | rfl | (simp only [lenE, markR_len]; done) | (simp only [lenE, markR_len]; omega)) only [runE, mapE, listE, initT_5, initT_6, initT_7, initT_8, resV, oneV, binA, unA, reduceCtorEq, Nat.reduceEqDiff, Nat.reduceAdd, Nat.reduceLT, Nat.reduceLeDiff, Nat.reduceMul, Nat.reduceSub, ↓reduceIte, decide_true, decide_false, Bool.true_eq_false, Bool.false_eq_true, Bool.not_true, Bool.not_false, if_true, if_false, and_true, true_and, memE, celE, w64, Nat.zero_add, Nat.add_zero, Nat.mul_one, putL, and_self, ldn]
      refine callH_rc (l5Cost_rc _ v w o u (critF w o u) hv hd ho hu (by omega)) ?_
      rintro r new3 ⟨rfl, rfl⟩
      rw [List.append_nil]
      simp (config := {implicitDefEqProofs := false, maxDischargeDepth := 20}) (disch := first | omega | (simp only [lenE]; done) | (simp only [lenE]; omega) | rfl | (simp only [lenE, markR_len]; done) | (simp only [lenE, markR_len]; omega)) only [runE, mapE, listE, initT_5, initT_6, initT_7, initT_8, resV, oneV, binA, unA, reduceCtorEq, Nat.reduceEqDiff, Nat.reduceAdd, Nat.reduceLT, Nat.reduceLeDiff, Nat.reduceMul, Nat.reduceSub, ↓reduceIte, decide_true, decide_false, Bool.true_eq_false, Bool.false_eq_true, Bool.not_true, Bool.not_false, if_true, if_false, and_true, true_and, memE, celE, w64, Nat.zero_add, Nat.add_zero, Nat.mul_one, putL, and_self, ldn]
      refine loop_inv mixed (fun s => ∃ (n : Nat) (M : Mem) (id : Nat), n ≤ 16 ∧ s.m = M ∧ Ext m M ∧ OwnR M id (bestTo w o u n) ∧ m.length ≤ id ∧ s.t 0 = v ∧ s.t 1 = .int .i64 o ∧ s.t 2 = .int .i64 u ∧ s.t 8 = .slice (some ⟨id, 0, none⟩) (bestTo w o u n).length 1 ∧ s.t 9 = .int .i64 (costF w o u (critF w o u)) ∧ s.t 10 = .int .i64 n) (fun s => 20 - (intOf (s.t 10)).toNat)
        ⟨0, M0, m.length, by omega, rfl, hx, o0, by omega, rfl, rfl, rfl, rfl, rfl, rfl⟩ ?_
      rintro s ⟨n, M, id, hn, tm, hxM, hown, hid, t0, t1, t2, t8, t9, t10⟩
      by_cases hlt : n ≤ 15
      · have hlt' : (n : Int) ≤ 15 := by omega
        simp (config := {implicitDefEqProofs := false, maxDischargeDepth := 20}) (disch := first | omega | (simp only [lenE]; done) | (simp only [lenE]; omega) | rfl | (simp only [lenE, markR_len]; done) | (simp only [lenE, markR_len]; omega)) only [runE, mapE, listE, initT_5, initT_6, initT_7, initT_8, resV, oneV, binA, unA, reduceCtorEq, Nat.reduceEqDiff, Nat.reduceAdd, Nat.reduceLT, Nat.reduceLeDiff, Nat.reduceMul, Nat.reduceSub, ↓reduceIte, decide_true, decide_false, Bool.true_eq_false, Bool.false_eq_true, Bool.not_true, Bool.not_false, if_true, if_false, and_true, true_and, memE, celE, w64, Nat.zero_add, Nat.add_zero, Nat.mul_one, putL, and_self, ldn, tm, t0, t1, t2, t8, t9, t10, hlt']
        refine callH_rc (l5Cost_rc _ v w o u n (hxM.ints hr) hd ho hu (by omega)) ?_
        rintro r new ⟨rfl, rfl⟩
        rw [List.append_nil]
        cases he : (costF w o u n == costF w o u (critF w o u)) with
        | true =>
          simp (config := {implicitDefEqProofs := false, maxDischargeDepth := 20}) (disch := first | omega | (simp only [lenE]; done) | (simp only [lenE]; omega) | rfl | (simp only [lenE, markR_len]; done) | (simp only [lenE, markR_len]; omega)) only [runE, mapE, listE, initT_5, initT_6, initT_7, initT_8, resV, oneV, binA, unA, reduceCtorEq, Nat.reduceEqDiff, Nat.reduceAdd, Nat.reduceLT, Nat.reduceLeDiff, Nat.reduceMul, Nat.reduceSub, ↓reduceIte, decide_true, decide_false, Bool.true_eq_false, Bool.false_eq_true, Bool.not_true, Bool.not_false, if_true, if_false, and_true, true_and, memE, celE, w64, Nat.zero_add, Nat.add_zero, Nat.mul_one, putL, and_self, ldn, tm, t0, t1, t2, t8, t9, t10, he, bsl_one, app_gen hown (by have := hbl n; omega)]
          refine ⟨⟨n + 1, _, M.length + 1, by omega, rfl, ((hxM.dead hid).one _ _).one _ _, ?_, by have := hxM.len; omega, by rw [bestTo_s, if_pos he, List.length_append]; rfl, by simp⟩, by simp [intOf]; omega⟩
          rw [bestTo_s, if_pos he]
          have := OwnR.at_end (M.set id deadB ++ [⟨.own, 3, [.int .i64 (n : Int)]⟩]) (bestTo w o u n ++ [(n : Int)])
          simpa using this
        | false =>
          simp (config := {implicitDefEqProofs := false, maxDischargeDepth := 20}) (disch := first | omega | (simp only [lenE]; done) | (simp only [lenE]; omega) | rfl | (simp only [lenE, markR_len]; done) | (simp only [lenE, markR_len]; omega)) only [runE, mapE, listE, initT_5, initT_6, initT_7, initT_8, resV, oneV, binA, unA, reduceCtorEq, Nat.reduceEqDiff, Nat.reduceAdd, Nat.reduceLT, Nat.reduceLeDiff, Nat.reduceMul, Nat.reduceSub, ↓reduceIte, decide_true, decide_false, Bool.true_eq_false, Bool.false_eq_true, Bool.not_true, Bool.not_false, if_true, if_false, and_true, true_and, memE, celE, w64, Nat.zero_add, Nat.add_zero, Nat.mul_one, putL, and_self, ldn, tm, t0, t1, t2, t8, t9, t10, he]
          exact ⟨⟨n + 1, M, id, by omega, rfl, hxM, by rw [bestTo_s, he]; exact hown, hid, by rw [bestTo_s, he]; rfl, by simp⟩, by simp [intOf]; omega⟩
      · have hlt' : ¬ ((n : Int) ≤ 15) := by omega
        have e : n = 16 := by omega
        subst e
        simp (config := {implicitDefEqProofs := false, maxDischargeDepth := 20}) (disch := first | omega | (simp only [lenE]; done) | (simp only [lenE]; omega) | rfl | (simp only [lenE, markR_len]; done) | (simp only [lenE, markR_len]; omega)) only [runE, mapE, listE, initT_5, initT_6, initT_7, initT_8, resV, oneV, binA, unA, reduceCtorEq, Nat.reduceEqDiff, Nat.reduceAdd, Nat.reduceLT, Nat.reduceLeDiff, Nat.reduceMul, Nat.reduceSub, ↓reduceIte, decide_true, decide_false, Bool.true_eq_false, Bool.false_eq_true, Bool.not_true, Bool.not_false, if_true, if_false, and_true, true_and, memE, celE, w64, Nat.zero_add, Nat.add_zero, Nat.mul_one, putL, and_self, ldn, tm, t0, t1, t2, t8, t9, t10, hlt']
        exact ext_ansL hxM hown hid rfl (by have := hbl 16; omega)

/-! SumOf. -/
theorem convIn_s (b : List Int) (x : Int) (i k : Nat) (l : List Int) : convIn b x i (k + 1) l = (convIn b x i k l).set (i + k) ((convIn b x i k l).getD (i + k) 0 + x * b.getD k 0) := rfl
theorem convTo_s (a b : List Int) (i : Nat) : convTo a b (i + 1) = convIn b (a.getD i 0) i b.length (convTo a b i) := rfl
def convL (a b : List Int) : List Int := convTo a b a.length
def sumB (a b : List Int) : Bool := (distB a && distB b) && distB (convL a b)
def sumA (a b : List Int) : List Int := if sumB a b then convL a b else []
theorem sumA_no {a b : List Int} (h : sumB a b = false) : sumA a b = [] := by unfold sumA; rw [h]; rfl
theorem sumA_yes {a b : List Int} (h : sumB a b = true) : sumA a b = convL a b := by unfold sumA; rw [h]; rfl
/-- What lies in the row while sums are made. -/
theorem conv_bd {a b : List Int} (ha : Dist a) (hb : Dist b) {i : Nat} (hi : i < a.length) (k : Nat) (hk : k ≤ b.length) (j : Nat) :
    0 ≤ (convIn b (a.getD i 0) i k (convTo a b i)).getD j 0 ∧ (convIn b (a.getD i 0) i k (convTo a b i)).getD j 0 ≤ 512000000 := by
  have h1 := convIn_in hb (ha.at_ i) (i := i) (l := convTo a b i) (B := 16000000 * i) (by rw [convTo_len]; omega) (convTo_in ha hb i (by omega)) (by omega) k hk j
  have := ha.l16
  have := hb.l16
  omega
theorem conv_t {a b : List Int} (ha : Dist a) (hb : Dist b) (i k : Nat) : 0 ≤ a.getD i 0 * b.getD k 0 ∧ a.getD i 0 * b.getD k 0 ≤ 1000000 := mul_in (A := 1000) (B := 1000) (ha.at_ i) (hb.at_ k)
theorem implSumOf_rc (m : Mem) (v u : Value) (a b : List Int) (h : IntsA m v a) (h' : IntsA m u b) :
    RC Try.prog 53 [v, u] m (AnsL m (sumA a b) (sumB a b)) := by
  refine rc_of_run mixed ok_impl_SumOf (by simp) (go_start _ _ _ ?_)
  simp (config := {implicitDefEqProofs := false, maxDischargeDepth := 20}) (disch := first | omega | (simp only [lenE]; done) | (simp only [lenE]; omega) | rfl | (simp only [lenE, markR_len]; done) | (simp only [lenE, markR_len]; omega)) only [runE, mapE, listE, initT_5, initT_6, initT_7, initT_8, resV, oneV, binA, unA, reduceCtorEq, Nat.reduceEqDiff, Nat.reduceAdd, Nat.reduceLT, Nat.reduceLeDiff, Nat.reduceMul, Nat.reduceSub, ↓reduceIte, decide_true, decide_false, Bool.true_eq_false, Bool.false_eq_true, Bool.not_true, Bool.not_false, if_true, if_false, and_true, true_and, memE, celE, w64, Nat.zero_add, Nat.add_zero, Nat.mul_one, putL, and_self, ldn, c_impl_SumOf, r_impl_SumOf]
  refine callH_rc (implDist_rc _ v a h.ro) ?_
  rintro r new ⟨rfl, nr⟩
  have hx := (ext0 m).app nr
  cases ha : distB a with
  | false =>
    have no : sumB a b = false := by unfold sumB; rw [ha]; rfl
    rw [sumA_no no, no]
    simp (config := {implicitDefEqProofs := false, maxDischargeDepth := 20}) (disch := first | omega | (simp only [lenE]; done) | (simp only [lenE]; omega) | rfl | (simp only [lenE, markR_len]; done) | (simp only [lenE, markR_len]; omega)) only [runE, mapE, listE, initT_5, initT_6, initT_7, initT_8, resV, oneV, binA, unA, reduceCtorEq, Nat.reduceEqDiff, Nat.reduceAdd, Nat.reduceLT, Nat.reduceLeDiff, Nat.reduceMul, Nat.reduceSub, ↓reduceIte, decide_true, decide_false, Bool.true_eq_false, Bool.false_eq_true, Bool.not_true, Bool.not_false, if_true, if_false, and_true, true_and, memE, celE, w64, Nat.zero_add, Nat.add_zero, Nat.mul_one, putL, and_self, ldn, bsl_none]
    exact ext_ansL (hx.one _ _) (OwnR.end' (l := []) (by simp [roM_len])) (by omega) rfl (by simp)
  | true =>
    simp (config := {implicitDefEqProofs := false, maxDischargeDepth := 20}) (disch := first | omega | (simp only [lenE]; done) | (simp only [lenE]; omega) | rfl | (simp only [lenE, markR_len]; done) | (simp only [lenE, markR_len]; omega)) only [runE, mapE, listE, initT_5, initT_6, initT_7, initT_8, resV, oneV, binA, unA, reduceCtorEq, Nat.reduceEqDiff, Nat.reduceAdd, Nat.reduceLT, Nat.reduceLeDiff, Nat.reduceMul, Nat.reduceSub, ↓reduceIte, decide_true, decide_false, Bool.true_eq_false, Bool.false_eq_true, Bool.not_true, Bool.not_false, if_true, if_false, and_true, true_and, memE, celE, w64, Nat.zero_add, Nat.add_zero, Nat.mul_one, putL, and_self, ldn]
    refine callH_rc (implDist_rc _ u b (h'.xt hx)) ?_
    rintro r new2 ⟨rfl, nr2⟩
    have hx2 := hx.app nr2
    cases hb : distB b with
    | false =>
      have no : sumB a b = false := by unfold sumB; rw [ha, hb]; rfl
      rw [sumA_no no, no]
      simp (config := {implicitDefEqProofs := false, maxDischargeDepth := 20}) (disch := first | omega | (simp only [lenE]; done) | (simp only [lenE]; omega) | rfl | (simp only [lenE, markR_len]; done) | (simp only [lenE, markR_len]; omega)) only [runE, mapE, listE, initT_5, initT_6, initT_7, initT_8, resV, oneV, binA, unA, reduceCtorEq, Nat.reduceEqDiff, Nat.reduceAdd, Nat.reduceLT, Nat.reduceLeDiff, Nat.reduceMul, Nat.reduceSub, ↓reduceIte, decide_true, decide_false, Bool.true_eq_false, Bool.false_eq_true, Bool.not_true, Bool.not_false, if_true, if_false, and_true, true_and, memE, celE, w64, Nat.zero_add, Nat.add_zero, Nat.mul_one, putL, and_self, ldn, bsl_none]
      exact ext_ansL (hx2.one _ _) (OwnR.end' (l := []) (by simp [roM_len, Nat.add_assoc])) (by omega) rfl (by simp)
    | true =>
      have ga := dist_iff.1 ha
      have gb := dist_iff.1 hb
      have la := ga.l16
      have lb := gb.l16
      have la1 := ga.len
      have lb1 := gb.len
      have hcv := fun i => convTo_len a b i
      have ebs : sumB a b = distB (convL a b) := by unfold sumB; rw [ha, hb]; rfl
      have hv1 := h.xt hx2
      have hu1 := h'.xt hx2
      obtain ⟨M1, hM1⟩ : ∃ M, M = roM m ++ new ++ new2 := ⟨_, rfl⟩
      rw [← hM1] at hv1 hu1 hx2 ⊢
      have hmk := mksA_eq (m := M1) (e := 3) (byt := 8) (n := a.length + b.length - 1) (z := .int .i64 0) (a := (a.length : Int) + (b.length : Int) - 1) (by omega) (by omega)
      simp (config := {implicitDefEqProofs := false, maxDischargeDepth := 20}) (disch := first | omega | (simp only [lenE]; done) | (simp only [lenE]; omega) | rfl | (simp only [lenE, markR_len]; done) | (simp only [lenE, markR_len]; omega)) only [runE, mapE, listE, initT_5, initT_6, initT_7, initT_8, resV, oneV, binA, unA, reduceCtorEq, Nat.reduceEqDiff, Nat.reduceAdd, Nat.reduceLT, Nat.reduceLeDiff, Nat.reduceMul, Nat.reduceSub, ↓reduceIte, decide_true, decide_false, Bool.true_eq_false, Bool.false_eq_true, Bool.not_true, Bool.not_false, if_true, if_false, and_true, true_and, memE, celE, w64, Nat.zero_add, Nat.add_zero, Nat.mul_one, putL, and_self, ldn, hv1.len, hu1.len, hmk]
      refine loop_inv mixed (fun s => ∃ (i : Nat) (M : Mem), i ≤ a.length ∧ s.m = M ∧ Grow M1 M ∧ OwnR M M1.length (convTo a b i) ∧ s.t 1 = u ∧ s.t 6 = .slice (some ⟨M1.length, 0, none⟩) (a.length + b.length - 1) 1 ∧ s.t 27 = v ∧ s.t 28 = .int .i64 a.length ∧ s.t 29 = .int .i64 i) (fun s => a.length - (intOf (s.t 29)).toNat)
        ⟨0, _, by omega, rfl, (Grow.refl M1).one _ _, OwnR.zeros rfl, rfl, rfl, rfl, rfl, rfl⟩ ?_
      rintro s ⟨i, M, hi, tm, hg, hown, t1, t6, t27, t28, t29⟩
      have hva := hg.ints hv1
      have hub := hg.ints hu1
      by_cases hlt : i < a.length
      · have hlt' : (i : Int) < a.length := by omega
        simp (config := {implicitDefEqProofs := false, maxDischargeDepth := 20}) (disch := first | omega | (simp only [lenE]; done) | (simp only [lenE]; omega) | rfl | (simp only [lenE, markR_len]; done) | (simp only [lenE, markR_len]; omega)) only [runE, mapE, listE, initT_5, initT_6, initT_7, initT_8, resV, oneV, binA, unA, reduceCtorEq, Nat.reduceEqDiff, Nat.reduceAdd, Nat.reduceLT, Nat.reduceLeDiff, Nat.reduceMul, Nat.reduceSub, ↓reduceIte, decide_true, decide_false, Bool.true_eq_false, Bool.false_eq_true, Bool.not_true, Bool.not_false, if_true, if_false, and_true, true_and, memE, celE, w64, Nat.zero_add, Nat.add_zero, Nat.mul_one, putL, and_self, ldn, tm, t1, t6, t27, t28, t29, hlt', hva.len, hub.len, hva.at_ i hlt, hva.ld i hlt]
        refine loop_inv mixed (fun s => ∃ (k : Nat) (M : Mem), k ≤ b.length ∧ s.m = M ∧ Grow M1 M ∧ OwnR M M1.length (convIn b (a.getD i 0) i k (convTo a b i)) ∧ s.t 1 = u ∧ s.t 6 = .slice (some ⟨M1.length, 0, none⟩) (a.length + b.length - 1) 1 ∧ s.t 7 = .int .i64 i ∧ s.t 8 = .int .i64 (a.getD i 0) ∧ s.t 27 = v ∧ s.t 28 = .int .i64 a.length ∧ s.t 29 = .int .i64 i ∧ s.t 34 = u ∧ s.t 35 = .int .i64 b.length ∧ s.t 36 = .int .i64 k) (fun s => b.length - (intOf (s.t 36)).toNat)
          ⟨0, M, by omega, by simp only [put_t, put_t', put_m, putT_t, putT_t', putT_m, init_t, init_m, initT_0, initT_1, initT_2, initT_3, initT_4, initT_5, initT_6, initT_7, initT_8, Nat.reduceEqDiff, ↓reduceIte, tm, t1, t6, t27, t28, t29] <;> rfl, hg, hown, by simp only [put_t, put_t', put_m, putT_t, putT_t', putT_m, init_t, init_m, initT_0, initT_1, initT_2, initT_3, initT_4, initT_5, initT_6, initT_7, initT_8, Nat.reduceEqDiff, ↓reduceIte, tm, t1, t6, t27, t28, t29] <;> rfl, by simp only [put_t, put_t', put_m, putT_t, putT_t', putT_m, init_t, init_m, initT_0, initT_1, initT_2, initT_3, initT_4, initT_5, initT_6, initT_7, initT_8, Nat.reduceEqDiff, ↓reduceIte, tm, t1, t6, t27, t28, t29] <;> rfl, by simp only [put_t, put_t', put_m, putT_t, putT_t', putT_m, init_t, init_m, initT_0, initT_1, initT_2, initT_3, initT_4, initT_5, initT_6, initT_7, initT_8, Nat.reduceEqDiff, ↓reduceIte, tm, t1, t6, t27, t28, t29] <;> rfl, by simp only [put_t, put_t', put_m, putT_t, putT_t', putT_m, init_t, init_m, initT_0, initT_1, initT_2, initT_3, initT_4, initT_5, initT_6, initT_7, initT_8, Nat.reduceEqDiff, ↓reduceIte, tm, t1, t6, t27, t28, t29] <;> rfl, by simp only [put_t, put_t', put_m, putT_t, putT_t', putT_m, init_t, init_m, initT_0, initT_1, initT_2, initT_3, initT_4, initT_5, initT_6, initT_7, initT_8, Nat.reduceEqDiff, ↓reduceIte, tm, t1, t6, t27, t28, t29] <;> rfl, by simp only [put_t, put_t', put_m, putT_t, putT_t', putT_m, init_t, init_m, initT_0, initT_1, initT_2, initT_3, initT_4, initT_5, initT_6, initT_7, initT_8, Nat.reduceEqDiff, ↓reduceIte, tm, t1, t6, t27, t28, t29] <;> rfl, by simp only [put_t, put_t', put_m, putT_t, putT_t', putT_m, init_t, init_m, initT_0, initT_1, initT_2, initT_3, initT_4, initT_5, initT_6, initT_7, initT_8, Nat.reduceEqDiff, ↓reduceIte, tm, t1, t6, t27, t28, t29] <;> rfl, by simp only [put_t, put_t', put_m, putT_t, putT_t', putT_m, init_t, init_m, initT_0, initT_1, initT_2, initT_3, initT_4, initT_5, initT_6, initT_7, initT_8, Nat.reduceEqDiff, ↓reduceIte, tm, t1, t6, t27, t28, t29] <;> rfl, by simp only [put_t, put_t', put_m, putT_t, putT_t', putT_m, init_t, init_m, initT_0, initT_1, initT_2, initT_3, initT_4, initT_5, initT_6, initT_7, initT_8, Nat.reduceEqDiff, ↓reduceIte, tm, t1, t6, t27, t28, t29] <;> rfl, by simp only [put_t, put_t', put_m, putT_t, putT_t', putT_m, init_t, init_m, initT_0, initT_1, initT_2, initT_3, initT_4, initT_5, initT_6, initT_7, initT_8, Nat.reduceEqDiff, ↓reduceIte, tm, t1, t6, t27, t28, t29] <;> rfl⟩ ?_
        clear tm hg hown t1 t6 t27 t28 t29 hva hub
        rintro s ⟨k, M, hk, tm, hg, hown, t1, t6, t7, t8, t27, t28, t29, t34, t35, t36⟩
        have hva := hg.ints hv1
        have hub := hg.ints hu1
        have hcl := convIn_len b (a.getD i 0) i k (convTo a b i)
        have hcvi := hcv i
        by_cases hkl : k < b.length
        · have hkl' : (k : Int) < b.length := by omega
          have b1 := conv_bd ga gb hlt k hk (i + k)
          have b2 := conv_t ga gb i k
          have hic := hown.ints (by omega) 1
          have ei : (i : Int) + (k : Int) = ((i + k : Nat) : Int) := by omega
          have hik : i + k < (convIn b (a.getD i 0) i k (convTo a b i)).length := by rw [hcl, hcv]; omega
          have hil : i + k < a.length + b.length - 1 := by omega
          have q1 : iadA 1 (.slice (some ⟨M1.length, 0, none⟩) (a.length + b.length - 1) 1) (.int .i64 ((i + k : Nat) : Int)) = some (.pointer (some ⟨M1.length, i + k, none⟩)) := by
            have := iadA_in (id := M1.length) (off := 0) (n := a.length + b.length - 1) (fl := 1) (sz := 1) (k := .i64) hil
            simpa using this
          have q2 : rdc M M1.length (i + k) = some (.int .i64 ((convIn b (a.getD i 0) i k (convTo a b i)).getD (i + k) 0)) := by
            have := hic.ld (i + k) hik
            simpa [pAt, ldA] using this
          simp (config := {implicitDefEqProofs := false, maxDischargeDepth := 20}) (disch := first | omega | (simp only [lenE]; done) | (simp only [lenE]; omega) | rfl | (simp only [lenE, markR_len]; done) | (simp only [lenE, markR_len]; omega)) only [runE, mapE, listE, initT_5, initT_6, initT_7, initT_8, resV, oneV, binA, unA, reduceCtorEq, Nat.reduceEqDiff, Nat.reduceAdd, Nat.reduceLT, Nat.reduceLeDiff, Nat.reduceMul, Nat.reduceSub, ↓reduceIte, decide_true, decide_false, Bool.true_eq_false, Bool.false_eq_true, Bool.not_true, Bool.not_false, if_true, if_false, and_true, true_and, memE, celE, w64, Nat.zero_add, Nat.add_zero, Nat.mul_one, putL, and_self, ldn, tm, t1, t6, t7, t8, t27, t28, t29, t34, t35, t36, hkl', hva.len, hub.len, hub.at_ k hkl, hub.ld k hkl, ei, q1, q2, hown.st hik]
          exact ⟨⟨k + 1, _, by omega, rfl, hg.put (Nat.le_refl _) _ _, by rw [convIn_s]; exact hown.set_self, by simp⟩, by simp [intOf]; omega⟩
        · have hkl' : ¬ ((k : Int) < b.length) := by omega
          have e : k = b.length := by omega
          subst e
          simp (config := {implicitDefEqProofs := false, maxDischargeDepth := 20}) (disch := first | omega | (simp only [lenE]; done) | (simp only [lenE]; omega) | rfl | (simp only [lenE, markR_len]; done) | (simp only [lenE, markR_len]; omega)) only [runE, mapE, listE, initT_5, initT_6, initT_7, initT_8, resV, oneV, binA, unA, reduceCtorEq, Nat.reduceEqDiff, Nat.reduceAdd, Nat.reduceLT, Nat.reduceLeDiff, Nat.reduceMul, Nat.reduceSub, ↓reduceIte, decide_true, decide_false, Bool.true_eq_false, Bool.false_eq_true, Bool.not_true, Bool.not_false, if_true, if_false, and_true, true_and, memE, celE, w64, Nat.zero_add, Nat.add_zero, Nat.mul_one, putL, and_self, ldn, tm, t1, t6, t7, t8, t27, t28, t29, t34, t35, t36, hkl', hva.len, hub.len]
          exact ⟨⟨i + 1, _, by omega, rfl, hg, by rw [convTo_s]; exact hown, by simp⟩, by simp [intOf]; omega⟩
      · have hlt' : ¬ ((i : Int) < a.length) := by omega
        have e : i = a.length := by omega
        subst e
        have hcl := hcv a.length
        simp (config := {implicitDefEqProofs := false, maxDischargeDepth := 20}) (disch := first | omega | (simp only [lenE]; done) | (simp only [lenE]; omega) | rfl | (simp only [lenE, markR_len]; done) | (simp only [lenE, markR_len]; omega)) only [runE, mapE, listE, initT_5, initT_6, initT_7, initT_8, resV, oneV, binA, unA, reduceCtorEq, Nat.reduceEqDiff, Nat.reduceAdd, Nat.reduceLT, Nat.reduceLeDiff, Nat.reduceMul, Nat.reduceSub, ↓reduceIte, decide_true, decide_false, Bool.true_eq_false, Bool.false_eq_true, Bool.not_true, Bool.not_false, if_true, if_false, and_true, true_and, memE, celE, w64, Nat.zero_add, Nat.add_zero, Nat.mul_one, putL, and_self, ldn, tm, t1, t6, t27, t28, t29, hlt', hva.len, hub.len]
        rw [show convTo a b a.length = convL a b from rfl] at hown hcl
        rw [← hcl]
        refine callH_rc (implDist_rc _ _ _ (hown.ints (by omega) 1)) ?_
        rintro r new3 ⟨rfl, nr3⟩
        have hg3 := hg.app nr3
        have hown3 := hown.ext new3
        cases hs : distB (convL a b) with
        | false =>
          have no : sumB a b = false := by rw [ebs, hs]
          rw [sumA_no no, no]
          simp (config := {implicitDefEqProofs := false, maxDischargeDepth := 20}) (disch := first | omega | (simp only [lenE]; done) | (simp only [lenE]; omega) | rfl | (simp only [lenE, markR_len]; done) | (simp only [lenE, markR_len]; omega)) only [runE, mapE, listE, initT_5, initT_6, initT_7, initT_8, resV, oneV, binA, unA, reduceCtorEq, Nat.reduceEqDiff, Nat.reduceAdd, Nat.reduceLT, Nat.reduceLeDiff, Nat.reduceMul, Nat.reduceSub, ↓reduceIte, decide_true, decide_false, Bool.true_eq_false, Bool.false_eq_true, Bool.not_true, Bool.not_false, if_true, if_false, and_true, true_and, memE, celE, w64, Nat.zero_add, Nat.add_zero, Nat.mul_one, putL, and_self, ldn, tm, t1, t6, t27, t28, t29, bsl_none]
          exact ext_ansL ((hx2.grow hg3).one _ _) (OwnR.end' (l := []) (by simp)) (by have := (hx2.grow hg3).len; (try simp at this); omega) rfl (by simp)
        | true =>
          have yes : sumB a b = true := by rw [ebs, hs]
          rw [sumA_yes yes, yes]
          simp (config := {implicitDefEqProofs := false, maxDischargeDepth := 20}) (disch := first | omega | (simp only [lenE]; done) | (simp only [lenE]; omega) | rfl | (simp only [lenE, markR_len]; done) | (simp only [lenE, markR_len]; omega)) only [runE, mapE, listE, initT_5, initT_6, initT_7, initT_8, resV, oneV, binA, unA, reduceCtorEq, Nat.reduceEqDiff, Nat.reduceAdd, Nat.reduceLT, Nat.reduceLeDiff, Nat.reduceMul, Nat.reduceSub, ↓reduceIte, decide_true, decide_false, Bool.true_eq_false, Bool.false_eq_true, Bool.not_true, Bool.not_false, if_true, if_false, and_true, true_and, memE, celE, w64, Nat.zero_add, Nat.add_zero, Nat.mul_one, putL, and_self, ldn, tm, t1, t6, t27, t28, t29]
          exact ext_ansL (hx2.grow hg3) hown3 (by have := hx2.len; omega) (by rw [hcl]) (by omega)
theorem specSumOf_rc (m : Mem) (v u : Value) (a b : List Int) (h : IntsA m v a) (h' : IntsA m u b) :
    RC Try.prog 54 [v, u] m (AnsL m (sumA a b) (sumB a b)) := by
  refine rc_of_run mixed ok_spec_SumOf (by simp) (go_start _ _ _ ?_)
  simp (config := {implicitDefEqProofs := false, maxDischargeDepth := 20}) (disch := first | omega | (simp only [lenE]; done) | (simp only [lenE]; omega) | rfl | (simp only [lenE, markR_len]; done) | (simp only [lenE, markR_len]; omega)) only [runE, mapE, listE, initT_5, initT_6, initT_7, initT_8, resV, oneV, binA, unA, reduceCtorEq, Nat.reduceEqDiff, Nat.reduceAdd, Nat.reduceLT, Nat.reduceLeDiff, Nat.reduceMul, Nat.reduceSub, ↓reduceIte, decide_true, decide_false, Bool.true_eq_false, Bool.false_eq_true, Bool.not_true, Bool.not_false, if_true, if_false, and_true, true_and, memE, celE, w64, Nat.zero_add, Nat.add_zero, Nat.mul_one, putL, and_self, ldn, c_spec_SumOf, r_spec_SumOf]
  refine callH_rc (l5Good_rc _ v a h.ro) ?_
  rintro r new ⟨rfl, rfl⟩
  rw [List.append_nil]
  have hx := ext0 m
  cases ha : distB a with
  | false =>
    have no : sumB a b = false := by unfold sumB; rw [ha]; rfl
    rw [sumA_no no, no]
    simp (config := {implicitDefEqProofs := false, maxDischargeDepth := 20}) (disch := first | omega | (simp only [lenE]; done) | (simp only [lenE]; omega) | rfl | (simp only [lenE, markR_len]; done) | (simp only [lenE, markR_len]; omega)) only [runE, mapE, listE, initT_5, initT_6, initT_7, initT_8, resV, oneV, binA, unA, reduceCtorEq, Nat.reduceEqDiff, Nat.reduceAdd, Nat.reduceLT, Nat.reduceLeDiff, Nat.reduceMul, Nat.reduceSub, ↓reduceIte, decide_true, decide_false, Bool.true_eq_false, Bool.false_eq_true, Bool.not_true, Bool.not_false, if_true, if_false, and_true, true_and, memE, celE, w64, Nat.zero_add, Nat.add_zero, Nat.mul_one, putL, and_self, ldn, bsl_none]
    exact ext_ansL (hx.one _ _) (OwnR.end' (l := []) (by simp [roM_len])) (by omega) rfl (by simp)
  | true =>
    simp (config := {implicitDefEqProofs := false, maxDischargeDepth := 20}) (disch := first | omega | (simp only [lenE]; done) | (simp only [lenE]; omega) | rfl | (simp only [lenE, markR_len]; done) | (simp only [lenE, markR_len]; omega)) only [runE, mapE, listE, initT_5, initT_6, initT_7, initT_8, resV, oneV, binA, unA, reduceCtorEq, Nat.reduceEqDiff, Nat.reduceAdd, Nat.reduceLT, Nat.reduceLeDiff, Nat.reduceMul, Nat.reduceSub, ↓reduceIte, decide_true, decide_false, Bool.true_eq_false, Bool.false_eq_true, Bool.not_true, Bool.not_false, if_true, if_false, and_true, true_and, memE, celE, w64, Nat.zero_add, Nat.add_zero, Nat.mul_one, putL, and_self, ldn]
    refine callH_rc (l5Good_rc _ u b (h'.xt hx)) ?_
    rintro r new2 ⟨rfl, rfl⟩
    rw [List.append_nil]
    have hx2 := hx
    cases hb : distB b with
    | false =>
      have no : sumB a b = false := by unfold sumB; rw [ha, hb]; rfl
      rw [sumA_no no, no]
      simp (config := {implicitDefEqProofs := false, maxDischargeDepth := 20}) (disch := first | omega | (simp only [lenE]; done) | (simp only [lenE]; omega) | rfl | (simp only [lenE, markR_len]; done) | (simp only [lenE, markR_len]; omega)) only [runE, mapE, listE, initT_5, initT_6, initT_7, initT_8, resV, oneV, binA, unA, reduceCtorEq, Nat.reduceEqDiff, Nat.reduceAdd, Nat.reduceLT, Nat.reduceLeDiff, Nat.reduceMul, Nat.reduceSub, ↓reduceIte, decide_true, decide_false, Bool.true_eq_false, Bool.false_eq_true, Bool.not_true, Bool.not_false, if_true, if_false, and_true, true_and, memE, celE, w64, Nat.zero_add, Nat.add_zero, Nat.mul_one, putL, and_self, ldn, bsl_none]
      exact ext_ansL (hx2.one _ _) (OwnR.end' (l := []) (by simp [roM_len, Nat.add_assoc])) (by omega) rfl (by simp)
    | true =>
      have ga := dist_iff.1 ha
      have gb := dist_iff.1 hb
      have la := ga.l16
      have lb := gb.l16
      have la1 := ga.len
      have lb1 := gb.len
      have hcv := fun i => convTo_len a b i
      have ebs : sumB a b = distB (convL a b) := by unfold sumB; rw [ha, hb]; rfl
      have hv1 := h.xt hx2
      have hu1 := h'.xt hx2
      obtain ⟨M1, hM1⟩ : ∃ M, M = roM m := ⟨_, rfl⟩
      rw [← hM1] at hv1 hu1 hx2 ⊢
      have hmk := mksA_eq (m := M1) (e := 3) (byt := 8) (n := a.length + b.length - 1) (z := .int .i64 0) (a := (a.length : Int) + (b.length : Int) - 1) (by omega) (by omega)
      simp (config := {implicitDefEqProofs := false, maxDischargeDepth := 20}) (disch := first | omega | (simp only [lenE]; done) | (simp only [lenE]; omega) | rfl | (simp only [lenE, markR_len]; done) | (simp only [lenE, markR_len]; omega)) only [runE, mapE, listE, initT_5, initT_6, initT_7, initT_8, resV, oneV, binA, unA, reduceCtorEq, Nat.reduceEqDiff, Nat.reduceAdd, Nat.reduceLT, Nat.reduceLeDiff, Nat.reduceMul, Nat.reduceSub, ↓reduceIte, decide_true, decide_false, Bool.true_eq_false, Bool.false_eq_true, Bool.not_true, Bool.not_false, if_true, if_false, and_true, true_and, memE, celE, w64, Nat.zero_add, Nat.add_zero, Nat.mul_one, putL, and_self, ldn, hv1.len, hu1.len, hmk]
      refine loop_inv mixed (fun s => ∃ (i : Nat) (M : Mem), i ≤ a.length ∧ s.m = M ∧ Grow M1 M ∧ OwnR M M1.length (convTo a b i) ∧ s.t 0 = v ∧ s.t 1 = u ∧ s.t 6 = .slice (some ⟨M1.length, 0, none⟩) (a.length + b.length - 1) 1 ∧ s.t 7 = .int .i64 i) (fun s => a.length - (intOf (s.t 7)).toNat)
        ⟨0, _, by omega, rfl, (Grow.refl M1).one _ _, OwnR.zeros rfl, rfl, rfl, rfl, rfl⟩ ?_
      rintro s ⟨i, M, hi, tm, hg, hown, t0, t1, t6, t7⟩
      have hva := hg.ints hv1
      have hub := hg.ints hu1
      by_cases hlt : i < a.length
      · have hlt' : (i : Int) < a.length := by omega
        simp (config := {implicitDefEqProofs := false, maxDischargeDepth := 20}) (disch := first | omega | (simp only [lenE]; done) | (simp only [lenE]; omega) | rfl | (simp only [lenE, markR_len]; done) | (simp only [lenE, markR_len]; omega)) only [runE, mapE, listE, initT_5, initT_6, initT_7, initT_8, resV, oneV, binA, unA, reduceCtorEq, Nat.reduceEqDiff, Nat.reduceAdd, Nat.reduceLT, Nat.reduceLeDiff, Nat.reduceMul, Nat.reduceSub, ↓reduceIte, decide_true, decide_false, Bool.true_eq_false, Bool.false_eq_true, Bool.not_true, Bool.not_false, if_true, if_false, and_true, true_and, memE, celE, w64, Nat.zero_add, Nat.add_zero, Nat.mul_one, putL, and_self, ldn, tm, t0, t1, t6, t7, hlt', hva.len, hub.len, hva.len]
        refine loop_inv mixed (fun s => ∃ (k : Nat) (M : Mem), k ≤ b.length ∧ s.m = M ∧ Grow M1 M ∧ OwnR M M1.length (convIn b (a.getD i 0) i k (convTo a b i)) ∧ s.t 0 = v ∧ s.t 1 = u ∧ s.t 6 = .slice (some ⟨M1.length, 0, none⟩) (a.length + b.length - 1) 1 ∧ s.t 7 = .int .i64 i ∧ s.t 8 = .int .i64 k) (fun s => b.length - (intOf (s.t 8)).toNat)
          ⟨0, M, by omega, by simp only [put_t, put_t', put_m, putT_t, putT_t', putT_m, init_t, init_m, initT_0, initT_1, initT_2, initT_3, initT_4, initT_5, initT_6, initT_7, initT_8, Nat.reduceEqDiff, ↓reduceIte, tm, t0, t1, t6, t7] <;> rfl, hg, hown, by simp only [put_t, put_t', put_m, putT_t, putT_t', putT_m, init_t, init_m, initT_0, initT_1, initT_2, initT_3, initT_4, initT_5, initT_6, initT_7, initT_8, Nat.reduceEqDiff, ↓reduceIte, tm, t0, t1, t6, t7] <;> rfl, by simp only [put_t, put_t', put_m, putT_t, putT_t', putT_m, init_t, init_m, initT_0, initT_1, initT_2, initT_3, initT_4, initT_5, initT_6, initT_7, initT_8, Nat.reduceEqDiff, ↓reduceIte, tm, t0, t1, t6, t7] <;> rfl, by simp only [put_t, put_t', put_m, putT_t, putT_t', putT_m, init_t, init_m, initT_0, initT_1, initT_2, initT_3, initT_4, initT_5, initT_6, initT_7, initT_8, Nat.reduceEqDiff, ↓reduceIte, tm, t0, t1, t6, t7] <;> rfl, by simp only [put_t, put_t', put_m, putT_t, putT_t', putT_m, init_t, init_m, initT_0, initT_1, initT_2, initT_3, initT_4, initT_5, initT_6, initT_7, initT_8, Nat.reduceEqDiff, ↓reduceIte, tm, t0, t1, t6, t7] <;> rfl, by simp only [put_t, put_t', put_m, putT_t, putT_t', putT_m, init_t, init_m, initT_0, initT_1, initT_2, initT_3, initT_4, initT_5, initT_6, initT_7, initT_8, Nat.reduceEqDiff, ↓reduceIte, tm, t0, t1, t6, t7] <;> rfl⟩ ?_
        clear tm hg hown t0 t1 t6 t7 hva hub
        rintro s ⟨k, M, hk, tm, hg, hown, t0, t1, t6, t7, t8⟩
        have hva := hg.ints hv1
        have hub := hg.ints hu1
        have hcl := convIn_len b (a.getD i 0) i k (convTo a b i)
        have hcvi := hcv i
        by_cases hkl : k < b.length
        · have hkl' : (k : Int) < b.length := by omega
          have b1 := conv_bd ga gb hlt k hk (i + k)
          have b2 := conv_t ga gb i k
          have hic := hown.ints (by omega) 1
          have ei : (i : Int) + (k : Int) = ((i + k : Nat) : Int) := by omega
          have hik : i + k < (convIn b (a.getD i 0) i k (convTo a b i)).length := by rw [hcl, hcv]; omega
          have hil : i + k < a.length + b.length - 1 := by omega
          have q1 : iadA 1 (.slice (some ⟨M1.length, 0, none⟩) (a.length + b.length - 1) 1) (.int .i64 ((i + k : Nat) : Int)) = some (.pointer (some ⟨M1.length, i + k, none⟩)) := by
            have := iadA_in (id := M1.length) (off := 0) (n := a.length + b.length - 1) (fl := 1) (sz := 1) (k := .i64) hil
            simpa using this
          have q2 : rdc M M1.length (i + k) = some (.int .i64 ((convIn b (a.getD i 0) i k (convTo a b i)).getD (i + k) 0)) := by
            have := hic.ld (i + k) hik
            simpa [pAt, ldA] using this
          simp (config := {implicitDefEqProofs := false, maxDischargeDepth := 20}) (disch := first | omega | (simp only [lenE]; done) | (simp only [lenE]; omega) | rfl | (simp only [lenE, markR_len]; done) | (simp only [lenE, markR_len]; omega)) only [runE, mapE, listE, initT_5, initT_6, initT_7, initT_8, resV, oneV, binA, unA, reduceCtorEq, Nat.reduceEqDiff, Nat.reduceAdd, Nat.reduceLT, Nat.reduceLeDiff, Nat.reduceMul, Nat.reduceSub, ↓reduceIte, decide_true, decide_false, Bool.true_eq_false, Bool.false_eq_true, Bool.not_true, Bool.not_false, if_true, if_false, and_true, true_and, memE, celE, w64, Nat.zero_add, Nat.add_zero, Nat.mul_one, putL, and_self, ldn, tm, t0, t1, t6, t7, t8, hkl', hva.len, hub.len, hub.len, hva.at_ i hlt, hva.ld i hlt, hub.at_ k hkl, hub.ld k hkl, ei, q1, q2, hown.st hik]
          exact ⟨⟨k + 1, _, by omega, rfl, hg.put (Nat.le_refl _) _ _, by rw [convIn_s]; exact hown.set_self, by simp⟩, by simp [intOf]; omega⟩
        · have hkl' : ¬ ((k : Int) < b.length) := by omega
          have e : k = b.length := by omega
          subst e
          simp (config := {implicitDefEqProofs := false, maxDischargeDepth := 20}) (disch := first | omega | (simp only [lenE]; done) | (simp only [lenE]; omega) | rfl | (simp only [lenE, markR_len]; done) | (simp only [lenE, markR_len]; omega)) only [runE, mapE, listE, initT_5, initT_6, initT_7, initT_8, resV, oneV, binA, unA, reduceCtorEq, Nat.reduceEqDiff, Nat.reduceAdd, Nat.reduceLT, Nat.reduceLeDiff, Nat.reduceMul, Nat.reduceSub, ↓reduceIte, decide_true, decide_false, Bool.true_eq_false, Bool.false_eq_true, Bool.not_true, Bool.not_false, if_true, if_false, and_true, true_and, memE, celE, w64, Nat.zero_add, Nat.add_zero, Nat.mul_one, putL, and_self, ldn, tm, t0, t1, t6, t7, t8, hkl', hva.len, hub.len]
          exact ⟨⟨i + 1, _, by omega, rfl, hg, by rw [convTo_s]; exact hown, by simp⟩, by simp [intOf]; omega⟩
      · have hlt' : ¬ ((i : Int) < a.length) := by omega
        have e : i = a.length := by omega
        subst e
        have hcl := hcv a.length
        simp (config := {implicitDefEqProofs := false, maxDischargeDepth := 20}) (disch := first | omega | (simp only [lenE]; done) | (simp only [lenE]; omega) | rfl | (simp only [lenE, markR_len]; done) | (simp only [lenE, markR_len]; omega)) only [runE, mapE, listE, initT_5, initT_6, initT_7, initT_8, resV, oneV, binA, unA, reduceCtorEq, Nat.reduceEqDiff, Nat.reduceAdd, Nat.reduceLT, Nat.reduceLeDiff, Nat.reduceMul, Nat.reduceSub, ↓reduceIte, decide_true, decide_false, Bool.true_eq_false, Bool.false_eq_true, Bool.not_true, Bool.not_false, if_true, if_false, and_true, true_and, memE, celE, w64, Nat.zero_add, Nat.add_zero, Nat.mul_one, putL, and_self, ldn, tm, t0, t1, t6, t7, hlt', hva.len, hub.len]
        rw [show convTo a b a.length = convL a b from rfl] at hown hcl
        rw [← hcl]
        refine callH_rc (l5Good_rc _ _ _ (hown.ints (by omega) 1)) ?_
        rintro r new3 ⟨rfl, rfl⟩
        rw [List.append_nil]
        have hg3 := hg
        have hown3 := hown
        cases hs : distB (convL a b) with
        | false =>
          have no : sumB a b = false := by rw [ebs, hs]
          rw [sumA_no no, no]
          simp (config := {implicitDefEqProofs := false, maxDischargeDepth := 20}) (disch := first | omega | (simp only [lenE]; done) | (simp only [lenE]; omega) | rfl | (simp only [lenE, markR_len]; done) | (simp only [lenE, markR_len]; omega)) only [runE, mapE, listE, initT_5, initT_6, initT_7, initT_8, resV, oneV, binA, unA, reduceCtorEq, Nat.reduceEqDiff, Nat.reduceAdd, Nat.reduceLT, Nat.reduceLeDiff, Nat.reduceMul, Nat.reduceSub, ↓reduceIte, decide_true, decide_false, Bool.true_eq_false, Bool.false_eq_true, Bool.not_true, Bool.not_false, if_true, if_false, and_true, true_and, memE, celE, w64, Nat.zero_add, Nat.add_zero, Nat.mul_one, putL, and_self, ldn, tm, t0, t1, t6, t7, bsl_none]
          exact ext_ansL ((hx2.grow hg3).one _ _) (OwnR.end' (l := []) (by simp)) (by have := (hx2.grow hg3).len; (try simp at this); omega) rfl (by simp)
        | true =>
          have yes : sumB a b = true := by rw [ebs, hs]
          rw [sumA_yes yes, yes]
          simp (config := {implicitDefEqProofs := false, maxDischargeDepth := 20}) (disch := first | omega | (simp only [lenE]; done) | (simp only [lenE]; omega) | rfl | (simp only [lenE, markR_len]; done) | (simp only [lenE, markR_len]; omega)) only [runE, mapE, listE, initT_5, initT_6, initT_7, initT_8, resV, oneV, binA, unA, reduceCtorEq, Nat.reduceEqDiff, Nat.reduceAdd, Nat.reduceLT, Nat.reduceLeDiff, Nat.reduceMul, Nat.reduceSub, ↓reduceIte, decide_true, decide_false, Bool.true_eq_false, Bool.false_eq_true, Bool.not_true, Bool.not_false, if_true, if_false, and_true, true_and, memE, celE, w64, Nat.zero_add, Nat.add_zero, Nat.mul_one, putL, and_self, ldn, tm, t0, t1, t6, t7]
          exact ext_ansL (hx2.grow hg3) hown3 (by have := hx2.len; omega) (by rw [hcl]) (by omega)
end Go.Proofs.Ytfdpieeopdhcmaa.Ab
