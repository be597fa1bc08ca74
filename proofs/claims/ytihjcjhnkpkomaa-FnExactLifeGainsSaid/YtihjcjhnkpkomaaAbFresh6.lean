/- LifeGains, by both programs. -/
import Derived.Test.YtihjcjhnkpkomaaAbFresh5
namespace Go.Proofs.Ytihjcjhnkpkomaa.Ab
open Go Go.RowKit
set_option linter.unusedVariables false
set_option linter.unusedSimpArgs false

def gainsTo (k : Cs) (j : Nat) : List Int := (List.range j).map fun (i : Nat) => (bfV k ((i : Int) + 1)).1 - (bfV k ((i : Int) + 2)).1
theorem gainsTo_s (k : Cs) (j : Nat) : gainsTo k (j + 1) = gainsTo k j ++ [(bfV k ((j : Int) + 1)).1 - (bfV k ((j : Int) + 2)).1] := by simp [gainsTo, List.range_succ]
theorem gainsTo_len (k : Cs) (j : Nat) : (gainsTo k j).length = j := by simp [gainsTo]
def gainsA (k : Cs) : List Int := if k.good then gainsTo k 7 else []
theorem bfV_bd {k : Cs} (hg : Good k) {life : Int} (hl : 1 ≤ life) : 0 ≤ (bfV k life).1 ∧ (bfV k life).1 ≤ 20000 := (bfO_bd hg _ _ (bfO_some hl)).1
theorem specGains_rc (m : Mem) (v : Value) (k : Cs) (h : CaseA m v k) : RC Try.prog 57 [v] m (AnsL m (gainsA k) k.good) := by
  refine rc_of_run mixed ok_spec_LifeGains (by simp) (go_start _ _ _ ?_)
  obtain ⟨v1, v2, v3, v4, rfl, h1, h2, h3, h4⟩ := h.ro.ok
  have hX := ((Ext.refl m).one 57 [v1, v2, v3, v4]).one 3 []
  simp (config := {implicitDefEqProofs := false, maxDischargeDepth := 20}) (disch := first | omega | (simp only [lenE]; done) | (simp only [lenE]; omega) | rfl | (simp only [lenE, markR_len]; done) | (simp only [lenE, markR_len]; omega)) only [runE, mapE, listE, initT_5, initT_6, initT_7, initT_8, resV, oneV, binA, unA, reduceCtorEq, Nat.reduceEqDiff, Nat.reduceAdd, Nat.reduceLT, Nat.reduceLeDiff, Nat.reduceMul, Nat.reduceSub, ↓reduceIte, decide_true, decide_false, Bool.true_eq_false, Bool.false_eq_true, Bool.not_true, Bool.not_false, if_true, if_false, and_true, true_and, memE, celE, w64, Nat.zero_add, Nat.add_zero, Nat.mul_one, putL, and_self, ldn, c_spec_LifeGains, r_spec_LifeGains, bsl_no]
  obtain ⟨M0, hM0⟩ : ∃ M0, M0 = roM m ++ [⟨.own, 57, [v1, v2, v3, v4]⟩] ++ [⟨.own, 3, []⟩] := ⟨_, rfl⟩
  have o1 : OwnB M0 m.length 57 [v1, v2, v3, v4] := by rw [hM0]; exact (OwnB.here (by simp [roM_len])).ext _
  have r1 : OwnR M0 (m.length + 1) [] := by rw [hM0]; exact OwnR.end' (l := []) (by simp [roM_len])
  rw [← hM0] at hX ⊢
  have hc : ∀ M, Ext m M → CaseA M (.agg #[v1, v2, v3, v4]) k := fun M hX => ⟨_, _, _, _, rfl, hX.ints h1, hX.ints h2, hX.ints h3, hX.ints h4⟩
  refine callH_rc (l2Good_rc _ _ k (hc _ hX)) ?_
  rintro r n1 ⟨rfl, nr1⟩
  replace hX := hX.app nr1
  replace o1 := o1.ext n1
  replace r1 := r1.ext n1
  obtain ⟨M1, hM1⟩ : ∃ M1, M1 = M0 ++ n1 := ⟨_, rfl⟩
  rw [← hM1] at hX o1 r1 ⊢
  unfold gainsA
  cases hg : k.good with
  | false =>
    simp (config := {implicitDefEqProofs := false, maxDischargeDepth := 20}) (disch := first | omega | (simp only [lenE]; done) | (simp only [lenE]; omega) | rfl | (simp only [lenE, markR_len]; done) | (simp only [lenE, markR_len]; omega)) only [runE, mapE, listE, initT_5, initT_6, initT_7, initT_8, resV, oneV, binA, unA, reduceCtorEq, Nat.reduceEqDiff, Nat.reduceAdd, Nat.reduceLT, Nat.reduceLeDiff, Nat.reduceMul, Nat.reduceSub, ↓reduceIte, decide_true, decide_false, Bool.true_eq_false, Bool.false_eq_true, Bool.not_true, Bool.not_false, if_true, if_false, and_true, true_and, memE, celE, w64, Nat.zero_add, Nat.add_zero, Nat.mul_one, putL, and_self, ldn]
    exact ext_ansL (l := []) hX r1 (by omega) rfl (by simp)
  | true =>
    have gd := good_iff.1 hg
    rw [if_pos rfl]
    simp (config := {implicitDefEqProofs := false, maxDischargeDepth := 20}) (disch := first | omega | (simp only [lenE]; done) | (simp only [lenE]; omega) | rfl | (simp only [lenE, markR_len]; done) | (simp only [lenE, markR_len]; omega)) only [runE, mapE, listE, initT_5, initT_6, initT_7, initT_8, resV, oneV, binA, unA, reduceCtorEq, Nat.reduceEqDiff, Nat.reduceAdd, Nat.reduceLT, Nat.reduceLeDiff, Nat.reduceMul, Nat.reduceSub, ↓reduceIte, decide_true, decide_false, Bool.true_eq_false, Bool.false_eq_true, Bool.not_true, Bool.not_false, if_true, if_false, and_true, true_and, memE, celE, w64, Nat.zero_add, Nat.add_zero, Nat.mul_one, putL, and_self, ldn]
    refine loop_inv mixed (fun s => ∃ (j : Nat) (M : Mem) (id : Nat), j ≤ 7 ∧ s.m = M ∧ Ext m M ∧ OwnB M m.length 57 [v1, v2, v3, v4] ∧ m.length < id ∧ OwnR M id (gainsTo k j) ∧ s.t 1 = .pointer (some ⟨m.length, 0, none⟩) ∧ s.t 4 = .slice (some ⟨id, 0, none⟩) j 1 ∧ s.t 5 = .int .i64 ((j : Int) + 1)) (fun s => 8 - (intOf (s.t 5)).toNat)
      ⟨0, M1, m.length + 1, by omega, (by first | rfl | simp only [put_t, put_t', put_m, putT_t, putT_t', putT_m, init_t, init_m, initT_0, initT_1, initT_2, initT_3, initT_4, initT_5, initT_6, initT_7, initT_8, Nat.reduceEqDiff, ↓reduceIte]), hX, o1, by omega, r1, rfl, rfl, rfl⟩ ?_
    clear hX o1 r1 hM1
    rintro s ⟨j, M, id, hj, tm, hX, o1, hid, r1, t1, t4, t5⟩
    have ml := o1.lt
    by_cases hlt : j < 7
    · have hlt' : (j : Int) + 1 < 8 := by omega
      have bd1 := bfV_bd gd (life := (j : Int) + 1) (by omega)
      have bd2 := bfV_bd gd (life := (j : Int) + 1 + 1) (by omega)
      simp (config := {implicitDefEqProofs := false, maxDischargeDepth := 20}) (disch := first | omega | (simp only [lenE]; done) | (simp only [lenE]; omega) | rfl | (simp only [lenE, markR_len]; done) | (simp only [lenE, markR_len]; omega)) only [runE, mapE, listE, initT_5, initT_6, initT_7, initT_8, resV, oneV, binA, unA, reduceCtorEq, Nat.reduceEqDiff, Nat.reduceAdd, Nat.reduceLT, Nat.reduceLeDiff, Nat.reduceMul, Nat.reduceSub, ↓reduceIte, decide_true, decide_false, Bool.true_eq_false, Bool.false_eq_true, Bool.not_true, Bool.not_false, if_true, if_false, and_true, true_and, memE, celE, w64, Nat.zero_add, Nat.add_zero, Nat.mul_one, putL, and_self, ldn, tm, t1, t4, t5, hlt', o1.rd]
      refine callH_rc (l9Best_rc M _ k ((j : Int) + 1) (hc _ hX) gd ⟨by omega, by omega⟩) ?_
      rintro r n2 ⟨nr2, w, rfl, -⟩
      replace hX := hX.app nr2
      replace o1 := o1.ext n2
      replace r1 := r1.ext n2
      obtain ⟨M2, hM2⟩ : ∃ M2, M2 = M ++ n2 := ⟨_, rfl⟩
      rw [← hM2] at hX o1 r1 ⊢
      simp (config := {implicitDefEqProofs := false, maxDischargeDepth := 20}) (disch := first | omega | (simp only [lenE]; done) | (simp only [lenE]; omega) | rfl | (simp only [lenE, markR_len]; done) | (simp only [lenE, markR_len]; omega)) only [runE, mapE, listE, initT_5, initT_6, initT_7, initT_8, resV, oneV, binA, unA, reduceCtorEq, Nat.reduceEqDiff, Nat.reduceAdd, Nat.reduceLT, Nat.reduceLeDiff, Nat.reduceMul, Nat.reduceSub, ↓reduceIte, decide_true, decide_false, Bool.true_eq_false, Bool.false_eq_true, Bool.not_true, Bool.not_false, if_true, if_false, and_true, true_and, memE, celE, w64, Nat.zero_add, Nat.add_zero, Nat.mul_one, putL, and_self, ldn, ext_2_0, ext_2_1, t1, t4, t5, o1.rd]
      refine callH_rc (l9Best_rc M2 _ k ((j : Int) + 1 + 1) (hc _ hX) gd ⟨by omega, by omega⟩) ?_
      rintro r n3 ⟨nr3, w3, rfl, -⟩
      replace hX := hX.app nr3
      replace o1 := o1.ext n3
      replace r1 := r1.ext n3
      obtain ⟨M3, hM3⟩ : ∃ M3, M3 = M2 ++ n3 := ⟨_, rfl⟩
      rw [← hM3] at hX o1 r1 ⊢
      have happ := app_num (x := (bfV k ((j : Int) + 1)).1 - (bfV k ((j : Int) + 1 + 1)).1) (id2 := M3.length) (n := j) r1 (by rw [gainsTo_len]; omega) rfl (by rw [gainsTo_len])
      simp (config := {implicitDefEqProofs := false, maxDischargeDepth := 20}) (disch := first | omega | (simp only [lenE]; done) | (simp only [lenE]; omega) | rfl | (simp only [lenE, markR_len]; done) | (simp only [lenE, markR_len]; omega)) only [runE, mapE, listE, initT_5, initT_6, initT_7, initT_8, resV, oneV, binA, unA, reduceCtorEq, Nat.reduceEqDiff, Nat.reduceAdd, Nat.reduceLT, Nat.reduceLeDiff, Nat.reduceMul, Nat.reduceSub, ↓reduceIte, decide_true, decide_false, Bool.true_eq_false, Bool.false_eq_true, Bool.not_true, Bool.not_false, if_true, if_false, and_true, true_and, memE, celE, w64, Nat.zero_add, Nat.add_zero, Nat.mul_one, putL, and_self, ldn, ext_2_0, ext_2_1, t1, t4, t5, bsl_one, happ]
      have hidl := r1.lt
      have hxl := hX.len
      refine ⟨⟨j + 1, _, M3.length + 1, by omega, rfl, ((hX.dead (by omega)).one _ _).one _ _, o1.at_ (same_gen (by omega) hidl), by omega, ?_, rfl, by simp⟩, ?_⟩
      · rw [gainsTo_s, show (j : Int) + 2 = (j : Int) + 1 + 1 by omega]
        exact OwnB.here (by simp)
      · simp [intOf]; omega
    · have hlt' : ¬ ((j : Int) + 1 < 8) := by omega
      have e : j = 7 := by omega
      subst e
      simp (config := {implicitDefEqProofs := false, maxDischargeDepth := 20}) (disch := first | omega | (simp only [lenE]; done) | (simp only [lenE]; omega) | rfl | (simp only [lenE, markR_len]; done) | (simp only [lenE, markR_len]; omega)) only [runE, mapE, listE, initT_5, initT_6, initT_7, initT_8, resV, oneV, binA, unA, reduceCtorEq, Nat.reduceEqDiff, Nat.reduceAdd, Nat.reduceLT, Nat.reduceLeDiff, Nat.reduceMul, Nat.reduceSub, ↓reduceIte, decide_true, decide_false, Bool.true_eq_false, Bool.false_eq_true, Bool.not_true, Bool.not_false, if_true, if_false, and_true, true_and, memE, celE, w64, Nat.zero_add, Nat.add_zero, Nat.mul_one, putL, and_self, ldn, tm, t1, t4, t5, hlt']
      exact ext_ansL hX r1 (by omega) (by rw [gainsTo_len]) (by rw [gainsTo_len]; omega)
theorem implGains_rc (m : Mem) (v : Value) (k : Cs) (h : CaseA m v k) : RC Try.prog 58 [v] m (AnsL m (gainsA k) k.good) := by
  refine rc_of_run mixed ok_impl_LifeGains (by simp) (go_start _ _ _ ?_)
  obtain ⟨v1, v2, v3, v4, rfl, h1, h2, h3, h4⟩ := h.ro.ok
  have hX := (Ext.refl m).one 57 [v1, v2, v3, v4]
  simp (config := {implicitDefEqProofs := false, maxDischargeDepth := 20}) (disch := first | omega | (simp only [lenE]; done) | (simp only [lenE]; omega) | rfl | (simp only [lenE, markR_len]; done) | (simp only [lenE, markR_len]; omega)) only [runE, mapE, listE, initT_5, initT_6, initT_7, initT_8, resV, oneV, binA, unA, reduceCtorEq, Nat.reduceEqDiff, Nat.reduceAdd, Nat.reduceLT, Nat.reduceLeDiff, Nat.reduceMul, Nat.reduceSub, ↓reduceIte, decide_true, decide_false, Bool.true_eq_false, Bool.false_eq_true, Bool.not_true, Bool.not_false, if_true, if_false, and_true, true_and, memE, celE, w64, Nat.zero_add, Nat.add_zero, Nat.mul_one, putL, and_self, ldn, c_impl_LifeGains, r_impl_LifeGains]
  obtain ⟨M0, hM0⟩ : ∃ M0, M0 = roM m ++ [⟨.own, 57, [v1, v2, v3, v4]⟩] := ⟨_, rfl⟩
  have o1 : OwnB M0 m.length 57 [v1, v2, v3, v4] := by rw [hM0]; exact OwnB.here (by simp [roM_len])
  rw [← hM0] at hX ⊢
  have hc : ∀ M, Ext m M → CaseA M (.agg #[v1, v2, v3, v4]) k := fun M hX => ⟨_, _, _, _, rfl, hX.ints h1, hX.ints h2, hX.ints h3, hX.ints h4⟩
  refine callH_rc (implIsCase_rc _ _ k (hc _ hX)) ?_
  rintro r n1 ⟨rfl, nr1⟩
  replace hX := hX.app nr1
  replace o1 := o1.ext n1
  obtain ⟨M1, hM1⟩ : ∃ M1, M1 = M0 ++ n1 := ⟨_, rfl⟩
  rw [← hM1] at hX o1 ⊢
  unfold gainsA
  have hml := o1.lt
  cases hg : k.good with
  | false =>
    simp (config := {implicitDefEqProofs := false, maxDischargeDepth := 20}) (disch := first | omega | (simp only [lenE]; done) | (simp only [lenE]; omega) | rfl | (simp only [lenE, markR_len]; done) | (simp only [lenE, markR_len]; omega)) only [runE, mapE, listE, initT_5, initT_6, initT_7, initT_8, resV, oneV, binA, unA, reduceCtorEq, Nat.reduceEqDiff, Nat.reduceAdd, Nat.reduceLT, Nat.reduceLeDiff, Nat.reduceMul, Nat.reduceSub, ↓reduceIte, decide_true, decide_false, Bool.true_eq_false, Bool.false_eq_true, Bool.not_true, Bool.not_false, if_true, if_false, and_true, true_and, memE, celE, w64, Nat.zero_add, Nat.add_zero, Nat.mul_one, putL, and_self, ldn, bsl_none]
    exact ext_ansL (hX.one _ _) (OwnR.end' (l := []) rfl) (by omega) rfl (by simp)
  | true =>
    have gd := good_iff.1 hg
    rw [if_pos rfl]
    have eC : ∀ life : Int, 1 ≤ life → life ≤ 8 → bfC k life = (bfV k life).1 ∧ lifeOk k life = true := fun life h1 h8 => by
      have : lifeOk k life = true := lifeOk_iff.2 ⟨gd, h1, h8⟩
      exact ⟨by unfold bfC; rw [this, if_pos rfl], this⟩
    have r2 : OwnR (M1 ++ [⟨.own, 3, []⟩]) M1.length [] := OwnR.end' (l := []) rfl
    have o2 := o1.ext [⟨.own, 3, []⟩]
    have hX2 := hX.one 3 []
    obtain ⟨M2, hM2⟩ : ∃ M2, M2 = M1 ++ [⟨.own, 3, []⟩] := ⟨_, rfl⟩
    have m2l : M2.length = M1.length + 1 := by rw [hM2]; simp
    rw [← hM2] at r2 o2 hX2
    simp (config := {implicitDefEqProofs := false, maxDischargeDepth := 20}) (disch := first | omega | (simp only [lenE]; done) | (simp only [lenE]; omega) | rfl | (simp only [lenE, markR_len]; done) | (simp only [lenE, markR_len]; omega)) only [runE, mapE, listE, initT_5, initT_6, initT_7, initT_8, resV, oneV, binA, unA, reduceCtorEq, Nat.reduceEqDiff, Nat.reduceAdd, Nat.reduceLT, Nat.reduceLeDiff, Nat.reduceMul, Nat.reduceSub, ↓reduceIte, decide_true, decide_false, Bool.true_eq_false, Bool.false_eq_true, Bool.not_true, Bool.not_false, if_true, if_false, and_true, true_and, memE, celE, w64, Nat.zero_add, Nat.add_zero, Nat.mul_one, putL, and_self, ldn, bsl_no, o1.rd]
    rw [← hM2]
    refine callH_rc (implBestFresh_o M2 _ k 1 (hc _ hX2)) ?_
    rw [(eC 1 (by omega) (by omega)).1]
    rintro r n3 ⟨nr3, w, rfl, -⟩
    replace hX2 := hX2.app nr3
    replace o2 := o2.ext n3
    replace r2 := r2.ext n3
    obtain ⟨M3, hM3⟩ : ∃ M3, M3 = M2 ++ n3 := ⟨_, rfl⟩
    rw [← hM3] at hX2 o2 r2 ⊢
    simp (config := {implicitDefEqProofs := false, maxDischargeDepth := 20}) (disch := first | omega | (simp only [lenE]; done) | (simp only [lenE]; omega) | rfl | (simp only [lenE, markR_len]; done) | (simp only [lenE, markR_len]; omega)) only [runE, mapE, listE, initT_5, initT_6, initT_7, initT_8, resV, oneV, binA, unA, reduceCtorEq, Nat.reduceEqDiff, Nat.reduceAdd, Nat.reduceLT, Nat.reduceLeDiff, Nat.reduceMul, Nat.reduceSub, ↓reduceIte, decide_true, decide_false, Bool.true_eq_false, Bool.false_eq_true, Bool.not_true, Bool.not_false, if_true, if_false, and_true, true_and, memE, celE, w64, Nat.zero_add, Nat.add_zero, Nat.mul_one, putL, and_self, ldn, ext_3_0, ext_3_1, ext_3_2]
    refine loop_inv mixed (fun s => ∃ (j : Nat) (M : Mem) (id : Nat), j ≤ 7 ∧ s.m = M ∧ Ext m M ∧ OwnB M m.length 57 [v1, v2, v3, v4] ∧ m.length < id ∧ OwnR M id (gainsTo k j) ∧ s.t 1 = .pointer (some ⟨m.length, 0, none⟩) ∧ s.t 4 = .slice (some ⟨id, 0, none⟩) j 1 ∧ s.t 6 = .int .i64 (bfV k ((j : Int) + 1)).1 ∧ s.t 8 = .int .i64 ((j : Int) + 2)) (fun s => 9 - (intOf (s.t 8)).toNat)
      ⟨0, M3, M1.length, by omega, (by first | rfl | simp only [put_t, put_t', put_m, putT_t, putT_t', putT_m, init_t, init_m, initT_0, initT_1, initT_2, initT_3, initT_4, initT_5, initT_6, initT_7, initT_8, Nat.reduceEqDiff, ↓reduceIte]), hX2, o2, by omega, r2, rfl, rfl, rfl, rfl⟩ ?_
    clear hX2 o2 r2 hM3 hX o1
    rintro s ⟨j, M, id, hj, tm, hX, o1, hid, r1, t1, t4, t6, t8⟩
    have ml := o1.lt
    have bd1 := bfV_bd gd (life := (j : Int) + 1) (by omega)
    by_cases hlt : j < 7
    · have hlt' : (j : Int) + 2 ≤ 8 := by omega
      have bd2 := bfV_bd gd (life := (j : Int) + 2) (by omega)
      simp (config := {implicitDefEqProofs := false, maxDischargeDepth := 20}) (disch := first | omega | (simp only [lenE]; done) | (simp only [lenE]; omega) | rfl | (simp only [lenE, markR_len]; done) | (simp only [lenE, markR_len]; omega)) only [runE, mapE, listE, initT_5, initT_6, initT_7, initT_8, resV, oneV, binA, unA, reduceCtorEq, Nat.reduceEqDiff, Nat.reduceAdd, Nat.reduceLT, Nat.reduceLeDiff, Nat.reduceMul, Nat.reduceSub, ↓reduceIte, decide_true, decide_false, Bool.true_eq_false, Bool.false_eq_true, Bool.not_true, Bool.not_false, if_true, if_false, and_true, true_and, memE, celE, w64, Nat.zero_add, Nat.add_zero, Nat.mul_one, putL, and_self, ldn, tm, t1, t4, t6, t8, hlt', o1.rd]
      refine callH_rc (implBestFresh_o M _ k ((j : Int) + 2) (hc _ hX)) ?_
      rw [(eC ((j : Int) + 2) (by omega) (by omega)).1]
      rintro r n4 ⟨nr4, w4, rfl, -⟩
      replace hX := hX.app nr4
      replace o1 := o1.ext n4
      replace r1 := r1.ext n4
      obtain ⟨M4, hM4⟩ : ∃ M4, M4 = M ++ n4 := ⟨_, rfl⟩
      rw [← hM4] at hX o1 r1 ⊢
      have happ := app_num (x := (bfV k ((j : Int) + 1)).1 - (bfV k ((j : Int) + 2)).1) (id2 := M4.length) (n := j) r1 (by rw [gainsTo_len]; omega) rfl (by rw [gainsTo_len])
      simp (config := {implicitDefEqProofs := false, maxDischargeDepth := 20}) (disch := first | omega | (simp only [lenE]; done) | (simp only [lenE]; omega) | rfl | (simp only [lenE, markR_len]; done) | (simp only [lenE, markR_len]; omega)) only [runE, mapE, listE, initT_5, initT_6, initT_7, initT_8, resV, oneV, binA, unA, reduceCtorEq, Nat.reduceEqDiff, Nat.reduceAdd, Nat.reduceLT, Nat.reduceLeDiff, Nat.reduceMul, Nat.reduceSub, ↓reduceIte, decide_true, decide_false, Bool.true_eq_false, Bool.false_eq_true, Bool.not_true, Bool.not_false, if_true, if_false, and_true, true_and, memE, celE, w64, Nat.zero_add, Nat.add_zero, Nat.mul_one, putL, and_self, ldn, ext_3_0, ext_3_1, ext_3_2, t1, t4, t6, t8, bsl_one, happ]
      have hidl := r1.lt
      have hxl := hX.len
      refine ⟨⟨j + 1, _, M4.length + 1, by omega, rfl, ((hX.dead (by omega)).one _ _).one _ _, o1.at_ (same_gen (by omega) hidl), by omega, ?_, rfl, by congr 3 <;> omega, by congr 1 <;> omega⟩, ?_⟩
      · rw [gainsTo_s]
        exact OwnB.here (by simp)
      · simp [intOf]; omega
    · have hlt' : ¬ ((j : Int) + 2 ≤ 8) := by omega
      have e : j = 7 := by omega
      subst e
      simp (config := {implicitDefEqProofs := false, maxDischargeDepth := 20}) (disch := first | omega | (simp only [lenE]; done) | (simp only [lenE]; omega) | rfl | (simp only [lenE, markR_len]; done) | (simp only [lenE, markR_len]; omega)) only [runE, mapE, listE, initT_5, initT_6, initT_7, initT_8, resV, oneV, binA, unA, reduceCtorEq, Nat.reduceEqDiff, Nat.reduceAdd, Nat.reduceLT, Nat.reduceLeDiff, Nat.reduceMul, Nat.reduceSub, ↓reduceIte, decide_true, decide_false, Bool.true_eq_false, Bool.false_eq_true, Bool.not_true, Bool.not_false, if_true, if_false, and_true, true_and, memE, celE, w64, Nat.zero_add, Nat.add_zero, Nat.mul_one, putL, and_self, ldn, tm, t1, t4, t6, t8, hlt']
      exact ext_ansL hX r1 (by omega) (by rw [gainsTo_len]) (by rw [gainsTo_len]; omega)
end Go.Proofs.Ytihjcjhnkpkomaa.Ab
