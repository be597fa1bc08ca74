/- Turning periods: TurningPeriods. -/
import Derived.Test.YtiggehfopfpkbabAbBack
namespace Go.Proofs.Ytiggehfopfpkbab.Ab
open Go Go.RowKit
set_option linter.unusedVariables false
set_option linter.unusedSimpArgs false

theorem Ext.rd {m M : Mem} (h : Ext m M) {id k : Nat} {v : Value} (hv : rdc m id k = some v) : rdc M id k = some v := by
  obtain ⟨n0, rfl, h0⟩ := h
  exact rdc_ext (by rw [rdc_roM]; exact hv)
theorem periodsWith2_rc (m : Mem) (v fv : Value) (l : List Int) (f : Int → Bool) (h : IntsA m v l) (hf : ∀ M, Ext m M → TestA M fv f) (hl : l.length ≤ 1000) :
    RC Try.prog 49 [v, fv] m (AnsR m (picks f l l.length)) := by
  refine rc_of_run mixed ok_impl_periodsWith (by simp) (go_start _ _ _ ?_)
  have hr := h.ro
  have hpl := fun k => picks_len f l k
  obtain ⟨g, cap, rfl, -⟩ := hf _ (Ext.refl m)
  simp (config := {implicitDefEqProofs := false, maxDischargeDepth := 20}) (disch := first | omega | (simp only [lenE]; done) | (simp only [lenE]; omega) | rfl | (simp only [lenE, markR_len]; done) | (simp only [lenE, markR_len]; omega)) only [runE, mapE, listE, resV, oneV, binA, unA, reduceCtorEq, Nat.reduceEqDiff, Nat.reduceAdd, Nat.reduceLT, Nat.reduceLeDiff, Nat.reduceMul, Nat.reduceSub, ↓reduceIte, decide_true, decide_false, Bool.true_eq_false, Bool.false_eq_true, Bool.not_true, Bool.not_false, if_true, if_false, and_true, true_and, memE, celE, w64, Nat.zero_add, Nat.add_zero, Nat.mul_one, putL, and_self, ldn, c_impl_periodsWith, r_impl_periodsWith, hr.len, bsl_none]
  refine loop_inv mixed (fun s => ∃ (k : Nat) (M : Mem) (id : Nat), k ≤ l.length ∧ s.m = M ∧ Ext m M ∧ OwnR M id (picks f l k) ∧ m.length ≤ id ∧ s.t 1 = .func (.func g) #[] cap ∧ s.t 5 = .slice (some ⟨id, 0, none⟩) (picks f l k).length 1 ∧ s.t 9 = v ∧ s.t 10 = .int .i64 l.length ∧ s.t 11 = .int .i64 k) (fun s => l.length - (intOf (s.t 11)).toNat)
    ⟨0, _, m.length, by omega, rfl, (Ext.refl m).one _ _, by have := OwnR.at_end (roM m) []; rwa [roM_len] at this, by omega, rfl, rfl, rfl, rfl, rfl⟩ ?_
  rintro s ⟨k, M, id, hk, tm, hx, ho, hid, t1, t5, t9, t10, t11⟩
  by_cases hlt : k < l.length
  · have hlt' : (k : Int) < l.length := by omega
    have hi := hx.ints hr
    simp (config := {implicitDefEqProofs := false, maxDischargeDepth := 20}) (disch := first | omega | (simp only [lenE]; done) | (simp only [lenE]; omega) | rfl | (simp only [lenE, markR_len]; done) | (simp only [lenE, markR_len]; omega)) only [runE, mapE, listE, resV, oneV, binA, unA, reduceCtorEq, Nat.reduceEqDiff, Nat.reduceAdd, Nat.reduceLT, Nat.reduceLeDiff, Nat.reduceMul, Nat.reduceSub, ↓reduceIte, decide_true, decide_false, Bool.true_eq_false, Bool.false_eq_true, Bool.not_true, Bool.not_false, if_true, if_false, and_true, true_and, memE, celE, w64, Nat.zero_add, Nat.add_zero, Nat.mul_one, putL, and_self, ldn, tm, t1, t5, t9, t10, t11, hi.at_ k hlt, hi.ld k hlt, hlt']
    obtain ⟨g', cap', e, hc⟩ := hf M hx
    cases e
    refine callH_rc (hc _ M fun _ _ _ hv => hv) ?_
    rintro r new ⟨rfl, rfl⟩
    rw [List.append_nil]
    cases hb : f (l.getD k 0) with
    | true =>
      simp (config := {implicitDefEqProofs := false, maxDischargeDepth := 20}) (disch := first | omega | (simp only [lenE]; done) | (simp only [lenE]; omega) | rfl | (simp only [lenE, markR_len]; done) | (simp only [lenE, markR_len]; omega)) only [runE, mapE, listE, resV, oneV, binA, unA, reduceCtorEq, Nat.reduceEqDiff, Nat.reduceAdd, Nat.reduceLT, Nat.reduceLeDiff, Nat.reduceMul, Nat.reduceSub, ↓reduceIte, decide_true, decide_false, Bool.true_eq_false, Bool.false_eq_true, Bool.not_true, Bool.not_false, if_true, if_false, and_true, true_and, memE, celE, w64, Nat.zero_add, Nat.add_zero, Nat.mul_one, putL, and_self, ldn, tm, t1, t5, t9, t10, t11, bsl_one, app_gen ho (by have := hpl k; omega)]
      refine ⟨⟨k + 1, _, M.length + 1, by omega, rfl, ((hx.dead hid).one _ _).one _ _, ?_, by have := hx.len; omega, by rw [picks, if_pos hb]; simp, by simp⟩, ?_⟩
      · rw [picks, if_pos hb]
        have := OwnR.at_end (M.set id deadB ++ [⟨.own, 3, [.int .i64 (k : Int)]⟩]) (picks f l k ++ [(k : Int)])
        simpa using this
      · simp [intOf]; omega
    | false =>
      simp (config := {implicitDefEqProofs := false, maxDischargeDepth := 20}) (disch := first | omega | (simp only [lenE]; done) | (simp only [lenE]; omega) | rfl | (simp only [lenE, markR_len]; done) | (simp only [lenE, markR_len]; omega)) only [runE, mapE, listE, resV, oneV, binA, unA, reduceCtorEq, Nat.reduceEqDiff, Nat.reduceAdd, Nat.reduceLT, Nat.reduceLeDiff, Nat.reduceMul, Nat.reduceSub, ↓reduceIte, decide_true, decide_false, Bool.true_eq_false, Bool.false_eq_true, Bool.not_true, Bool.not_false, if_true, if_false, and_true, true_and, memE, celE, w64, Nat.zero_add, Nat.add_zero, Nat.mul_one, putL, and_self, ldn, tm, t1, t5, t9, t10, t11]
      refine ⟨⟨k + 1, M, id, by omega, rfl, hx, by rw [picks, if_neg (by rw [hb]; simp)]; exact ho, hid, by rw [picks, if_neg (by rw [hb]; simp)], by simp⟩, ?_⟩
      simp [intOf]; omega
  · have hlt' : ¬ ((k : Int) < l.length) := by omega
    have e : k = l.length := by omega
    subst e
    simp (config := {implicitDefEqProofs := false, maxDischargeDepth := 20}) (disch := first | omega | (simp only [lenE]; done) | (simp only [lenE]; omega) | rfl | (simp only [lenE, markR_len]; done) | (simp only [lenE, markR_len]; omega)) only [runE, mapE, listE, resV, oneV, binA, unA, reduceCtorEq, Nat.reduceEqDiff, Nat.reduceAdd, Nat.reduceLT, Nat.reduceLeDiff, Nat.reduceMul, Nat.reduceSub, ↓reduceIte, decide_true, decide_false, Bool.true_eq_false, Bool.false_eq_true, Bool.not_true, Bool.not_false, if_true, if_false, and_true, true_and, memE, celE, w64, Nat.zero_add, Nat.add_zero, Nat.mul_one, putL, and_self, ldn, tm, t1, t5, t9, t10, t11, hlt']
    exact ext_ansR hx ho hid rfl (by have := hpl l.length; omega)
theorem picks_turn {k : Cs} {f : Int → Bool} {L : List Int} (t : Nat) (h : ∀ i, i < t → f (L.getD i 0) = turnAt k i) : picks f L t = turnP k t := by
  induction t with
  | zero => rfl
  | succ t ih => rw [picks, turnP, ih (fun i hi => h i (by omega)), h t (by omega)]
theorem turnP_s (k : Cs) (t : Nat) : turnP k (t + 1) = if turnAt k t then turnP k t ++ [(t : Int)] else turnP k t := rfl
def turnA (k : Cs) : List Int := if k.good then turnP k (k.need.length + 1) else []
theorem turnA_no {k : Cs} (h : k.good = false) : turnA k = [] := by unfold turnA; rw [h]; rfl
theorem turnA_yes {k : Cs} (h : k.good = true) : turnA k = turnP k (k.need.length + 1) := by unfold turnA; rw [h]; rfl
theorem bwdL_in {k : Cs} (hg : Good k) : ∀ x ∈ bwdL k, 0 ≤ x ∧ x ≤ 13059 := bwdF_in hg _ _ (Nat.le_refl _) hg.n8
theorem bwdL_len (k : Cs) : (bwdL k).length = k.need.length + 1 := bwdF_len _ _ _

end Go.Proofs.Ytiggehfopfpkbab.Ab
