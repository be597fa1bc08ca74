/- Cycles, shares, timetables: the contracts of both sides. -/
import Derived.Test.YtmjnjhdacliieaaAbCom1
import Derived.Test.YtmjnjhdacliieaaAbFam3
import Derived.Test.YtmjnjhdacliieaaTtMath
namespace Go.Proofs.Ytmjnjhdacliieaa.Ab
open Go Go.RowKit
set_option linter.unusedVariables false
set_option linter.unusedSimpArgs false
set_option maxRecDepth 10000

theorem l8Cycles_rc (m : Mem) (v : Value) (l : List Int) (h : IntsA m v l) : RC Try.prog 92 [v] m (AnsV (.bool (cycB l))) := by
  refine rc_of_run mixed ok_spec_l8Cycles (by simp) (go_start _ _ _ ?_)
  have hB := h.ro
  have hbd := hB.bd
  have hl := hB.len
  simp (config := {implicitDefEqProofs := false, maxDischargeDepth := 20}) (disch := first | omega | (simp only [lenE]; done) | (simp only [lenE]; omega) | rfl | (simp only [lenE, markR_len]; done) | (simp only [lenE, markR_len]; omega)) only [runE, mapE, listE, initT_5, initT_6, initT_7, initT_8, resV, oneV, binA, unA, reduceCtorEq, Nat.reduceEqDiff, Nat.reduceAdd, Nat.reduceLT, Nat.reduceLeDiff, Nat.reduceMul, Nat.reduceSub, ↓reduceIte, decide_true, decide_false, Bool.true_eq_false, Bool.false_eq_true, Bool.not_true, Bool.not_false, if_true, if_false, and_true, true_and, memE, celE, w64, Nat.zero_add, Nat.add_zero, Nat.mul_one, putL, and_self, ldn, c_spec_l8Cycles, r_spec_l8Cycles]
  refine loop_inv mixed (fun s => ∃ (k : Nat), k ≤ l.length ∧ (l.take k).all (inR 1 64) = true ∧ s.m = roM m ∧ s.t 0 = v ∧ s.t 3 = .int .i64 (k : Int)) (fun s => l.length - (intOf (s.t 3)).toNat)
    ⟨0, by omega, rfl, rfl, rfl, rfl⟩ ?_
  rintro s ⟨k, hk, hall, tm, t0, t3⟩
  by_cases hkl : k < l.length
  · have hlt : (k : Int) < l.length := by omega
    have i1 := hB.at_ k hkl
    have i2 := hB.ld k hkl
    simp (config := {implicitDefEqProofs := false, maxDischargeDepth := 20}) (disch := first | omega | (simp only [lenE]; done) | (simp only [lenE]; omega) | rfl | (simp only [lenE, markR_len]; done) | (simp only [lenE, markR_len]; omega)) only [runE, mapE, listE, initT_5, initT_6, initT_7, initT_8, resV, oneV, binA, unA, reduceCtorEq, Nat.reduceEqDiff, Nat.reduceAdd, Nat.reduceLT, Nat.reduceLeDiff, Nat.reduceMul, Nat.reduceSub, ↓reduceIte, decide_true, decide_false, Bool.true_eq_false, Bool.false_eq_true, Bool.not_true, Bool.not_false, if_true, if_false, and_true, true_and, memE, celE, w64, Nat.zero_add, Nat.add_zero, Nat.mul_one, putL, and_self, ldn, tm, t0, t3, hl, hlt, i1, i2]
    refine callH_rc (l1In_rc _ _ _ _) ?_
    rintro r new ⟨rfl, rfl⟩
    rw [List.append_nil, show (decide (1 ≤ l.getD k 0) && decide (l.getD k 0 ≤ 64)) = inR 1 64 (l.getD k 0) from rfl]
    have hs := cnt_step (most := 64) hkl
    rw [hall, Bool.true_and] at hs
    cases hg : inR 1 64 (l.getD k 0) with
    | true =>
      rw [hg] at hs
      simp (config := {implicitDefEqProofs := false, maxDischargeDepth := 20}) (disch := first | omega | (simp only [lenE]; done) | (simp only [lenE]; omega) | rfl | (simp only [lenE, markR_len]; done) | (simp only [lenE, markR_len]; omega)) only [runE, mapE, listE, initT_5, initT_6, initT_7, initT_8, resV, oneV, binA, unA, reduceCtorEq, Nat.reduceEqDiff, Nat.reduceAdd, Nat.reduceLT, Nat.reduceLeDiff, Nat.reduceMul, Nat.reduceSub, ↓reduceIte, decide_true, decide_false, Bool.true_eq_false, Bool.false_eq_true, Bool.not_true, Bool.not_false, if_true, if_false, and_true, true_and, memE, celE, w64, Nat.zero_add, Nat.add_zero, Nat.mul_one, putL, and_self, ldn, tm, t0, t3]
      refine ⟨⟨k + 1, by omega, hs, by simp⟩, ?_⟩
      simp [intOf]; omega
    | false =>
      simp (config := {implicitDefEqProofs := false, maxDischargeDepth := 20}) (disch := first | omega | (simp only [lenE]; done) | (simp only [lenE]; omega) | rfl | (simp only [lenE, markR_len]; done) | (simp only [lenE, markR_len]; omega)) only [runE, mapE, listE, initT_5, initT_6, initT_7, initT_8, resV, oneV, binA, unA, reduceCtorEq, Nat.reduceEqDiff, Nat.reduceAdd, Nat.reduceLT, Nat.reduceLeDiff, Nat.reduceMul, Nat.reduceSub, ↓reduceIte, decide_true, decide_false, Bool.true_eq_false, Bool.false_eq_true, Bool.not_true, Bool.not_false, if_true, if_false, and_true, true_and, memE, celE, w64, Nat.zero_add, Nat.add_zero, Nat.mul_one, putL, and_self, ldn, tm, t0, t3]
      refine ext_ansV (Ext.refl m) ?_
      have : l.all (inR 1 64) = false := by
        cases ha : l.all (inR 1 64) with
        | false => rfl
        | true =>
          have := List.all_eq_true.1 ha (l.getD k 0) (by rw [List.getD_eq_getElem?_getD, List.getElem?_eq_getElem hkl]; exact List.getElem_mem hkl)
          rw [hg] at this; cases this
      simp [cycB, this]
  · have hlt : ¬ ((k : Int) < l.length) := by omega
    have e : k = l.length := by omega
    subst e
    rw [List.take_length] at hall
    simp (config := {implicitDefEqProofs := false, maxDischargeDepth := 20}) (disch := first | omega | (simp only [lenE]; done) | (simp only [lenE]; omega) | rfl | (simp only [lenE, markR_len]; done) | (simp only [lenE, markR_len]; omega)) only [runE, mapE, listE, initT_5, initT_6, initT_7, initT_8, resV, oneV, binA, unA, reduceCtorEq, Nat.reduceEqDiff, Nat.reduceAdd, Nat.reduceLT, Nat.reduceLeDiff, Nat.reduceMul, Nat.reduceSub, ↓reduceIte, decide_true, decide_false, Bool.true_eq_false, Bool.false_eq_true, Bool.not_true, Bool.not_false, if_true, if_false, and_true, true_and, memE, celE, w64, Nat.zero_add, Nat.add_zero, Nat.mul_one, putL, and_self, ldn, tm, t0, t3, hl, hlt]
    refine ext_ansV (Ext.refl m) ?_
    unfold cycB
    rw [hall, Bool.true_and]
    congr 1
    have : decide ((l.length : Int) ≤ 5) = decide (l.length ≤ 5) := by congr 1; apply propext; omega
    rw [this]
theorem areCycles_rc (m : Mem) (v : Value) (l : List Int) (h : IntsA m v l) : RC Try.prog 94 [v] m (AnsV (.bool (cycB l))) := by
  refine rc_of_run mixed ok_impl_areCycles (by simp) (go_start _ _ _ ?_)
  have hB := h.ro
  have hl := hB.len
  by_cases h5 : l.length ≤ 5
  · have h5' : (l.length : Int) ≤ 5 := by omega
    simp (config := {implicitDefEqProofs := false, maxDischargeDepth := 20}) (disch := first | omega | (simp only [lenE]; done) | (simp only [lenE]; omega) | rfl | (simp only [lenE, markR_len]; done) | (simp only [lenE, markR_len]; omega)) only [runE, mapE, listE, initT_5, initT_6, initT_7, initT_8, resV, oneV, binA, unA, reduceCtorEq, Nat.reduceEqDiff, Nat.reduceAdd, Nat.reduceLT, Nat.reduceLeDiff, Nat.reduceMul, Nat.reduceSub, ↓reduceIte, decide_true, decide_false, Bool.true_eq_false, Bool.false_eq_true, Bool.not_true, Bool.not_false, if_true, if_false, and_true, true_and, memE, celE, w64, Nat.zero_add, Nat.add_zero, Nat.mul_one, putL, and_self, ldn, c_impl_areCycles, r_impl_areCycles, hl, h5']
    refine callH_rc (areCounts_rc _ v l l.length 64 hB (by omega)) ?_
    rintro r new ⟨rfl, nrn⟩
    simp (config := {implicitDefEqProofs := false, maxDischargeDepth := 20}) (disch := first | omega | (simp only [lenE]; done) | (simp only [lenE]; omega) | rfl | (simp only [lenE, markR_len]; done) | (simp only [lenE, markR_len]; omega)) only [runE, mapE, listE, initT_5, initT_6, initT_7, initT_8, resV, oneV, binA, unA, reduceCtorEq, Nat.reduceEqDiff, Nat.reduceAdd, Nat.reduceLT, Nat.reduceLeDiff, Nat.reduceMul, Nat.reduceSub, ↓reduceIte, decide_true, decide_false, Bool.true_eq_false, Bool.false_eq_true, Bool.not_true, Bool.not_false, if_true, if_false, and_true, true_and, memE, celE, w64, Nat.zero_add, Nat.add_zero, Nat.mul_one, putL, and_self, ldn]
    refine ext_ansV ((Ext.refl m).app nrn) ?_
    simp [cntB, cycB, h5]
  · have h5' : ¬ ((l.length : Int) ≤ 5) := by omega
    simp (config := {implicitDefEqProofs := false, maxDischargeDepth := 20}) (disch := first | omega | (simp only [lenE]; done) | (simp only [lenE]; omega) | rfl | (simp only [lenE, markR_len]; done) | (simp only [lenE, markR_len]; omega)) only [runE, mapE, listE, initT_5, initT_6, initT_7, initT_8, resV, oneV, binA, unA, reduceCtorEq, Nat.reduceEqDiff, Nat.reduceAdd, Nat.reduceLT, Nat.reduceLeDiff, Nat.reduceMul, Nat.reduceSub, ↓reduceIte, decide_true, decide_false, Bool.true_eq_false, Bool.false_eq_true, Bool.not_true, Bool.not_false, if_true, if_false, and_true, true_and, memE, celE, w64, Nat.zero_add, Nat.add_zero, Nat.mul_one, putL, and_self, ldn, c_impl_areCycles, r_impl_areCycles, hl, h5']
    refine ext_ansV (Ext.refl m) ?_
    simp [cycB, h5]
theorem share_ok {l : List Int} (h : GoodC l) {k : Nat} (hk : k < l.length) : let p := shareTo l k; let q := fr 1 (l.getD k 0)
    (0 ≤ p.1 ∧ 0 < p.2 ∧ 0 ≤ q.1 ∧ 0 < q.2) ∧ p.1 * q.2 + q.1 * p.2 ≤ 9223372036854775807 ∧ p.2 * q.2 ≤ 9223372036854775807 := by
  have nn := share_nums h k (by omega)
  have g := h.all k hk
  have nq := fr_nums (a := 1) (b := l.getD k 0) (A := 1) (B := 64) (by omega) (by omega)
  exact ⟨⟨nn.1.1, nn.2.1, nq.1.1, nq.2.1⟩, plus_ok nn.1 nn.2 nq.1 nq.2 (by decide) (by decide)⟩
theorem specShare_rc (m : Mem) (v : Value) (l : List Int) (h : IntsA m v l) (hC : GoodC l) : RC Try.prog 93 [v] m (AnsV (frV (shareF l))) := by
  refine rc_of_run mixed ok_spec_l8Share (by simp) (go_start _ _ _ ?_)
  simp (config := {implicitDefEqProofs := false, maxDischargeDepth := 20}) (disch := first | omega | (simp only [lenE]; done) | (simp only [lenE]; omega) | rfl | (simp only [lenE, markR_len]; done) | (simp only [lenE, markR_len]; omega)) only [runE, mapE, listE, initT_5, initT_6, initT_7, initT_8, resV, oneV, binA, unA, reduceCtorEq, Nat.reduceEqDiff, Nat.reduceAdd, Nat.reduceLT, Nat.reduceLeDiff, Nat.reduceMul, Nat.reduceSub, ↓reduceIte, decide_true, decide_false, Bool.true_eq_false, Bool.false_eq_true, Bool.not_true, Bool.not_false, if_true, if_false, and_true, true_and, memE, celE, w64, Nat.zero_add, Nat.add_zero, Nat.mul_one, putL, and_self, ldn, c_spec_l8Share, r_spec_l8Share, bld01, stP_agg2]
  obtain ⟨E, hE⟩ : ∃ M, M = roM m ++ [⟨.own, 28, [.int .i64 0, .int .i64 0]⟩] ++ [⟨.own, 28, [.int .i64 0, .int .i64 1]⟩] := ⟨_, rfl⟩
  have hX : Ext m E := by rw [hE]; exact ((Ext.refl m).one _ _).one _ _
  have o0 : OwnB E m.length 28 [.int .i64 0, .int .i64 0] := by rw [hE]; exact (OwnB.here (by simp [roM_len])).ext _
  have o1 : OwnB E (m.length + 1) 28 [.int .i64 0, .int .i64 1] := by rw [hE]; exact OwnB.here (by simp [roM_len])
  try rw [← hE]
  clear hE
  refine loop_inv mixed (fun s => ∃ (k : Nat) (M : Mem), k ≤ l.length ∧ s.m = M ∧ Ext m M ∧ OwnB M m.length 28 [.int .i64 0, .int .i64 0] ∧ OwnB M (m.length + 1) 28 [.int .i64 (shareTo l k).1, .int .i64 (shareTo l k).2] ∧ s.t 0 = v ∧ s.t 2 = .pointer (some ⟨m.length, 0, none⟩) ∧ s.t 3 = .pointer (some ⟨m.length + 1, 0, none⟩) ∧ s.t 4 = .int .i64 (k : Int)) (fun s => l.length - (intOf (s.t 4)).toNat)
    ⟨0, _, by omega, rfl, hX, o0, o1, rfl, rfl, rfl, rfl⟩ ?_
  rintro s ⟨k, M, hk, tm, hX, o0, p0, t0, t2, t3, t4⟩
  have hM := (Sees.ext hX).ints h
  have hl := hM.len
  have hbd := hM.bd
  by_cases hkl : k < l.length
  · have hlt : (k : Int) < l.length := by omega
    have i1 := hM.at_ k hkl
    have i2 := hM.ld k hkl
    have g := hC.all k hkl
    obtain ⟨⟨n1, n2, n3, n4⟩, hn, hd⟩ := share_ok hC hkl
    have hstep : shareTo l (k + 1) = addF (shareTo l k) (fr 1 (l.getD k 0)) := rfl
    rw [fr_unit g.1] at hstep n3 n4 hn hd
    generalize shareTo l k = p at *
    generalize l.getD k 0 = c at *
    simp (config := {implicitDefEqProofs := false, maxDischargeDepth := 20}) (disch := first | omega | (simp only [lenE]; done) | (simp only [lenE]; omega) | rfl | (simp only [lenE, markR_len]; done) | (simp only [lenE, markR_len]; omega)) only [runE, mapE, listE, initT_5, initT_6, initT_7, initT_8, resV, oneV, binA, unA, reduceCtorEq, Nat.reduceEqDiff, Nat.reduceAdd, Nat.reduceLT, Nat.reduceLeDiff, Nat.reduceMul, Nat.reduceSub, ↓reduceIte, decide_true, decide_false, Bool.true_eq_false, Bool.false_eq_true, Bool.not_true, Bool.not_false, if_true, if_false, and_true, true_and, memE, celE, w64, Nat.zero_add, Nat.add_zero, Nat.mul_one, putL, and_self, ldn, tm, t0, t2, t3, t4, hl, hlt, i1, i2, p0.ld2, bld2]
    refine rcallH_rc (specPlus_rc _ p (1, c) n1 n2 n3 n4 hn hd) ?_
    rintro r new1 ⟨rfl, nr1⟩
    rw [← hstep]
    generalize hz : shareTo l (k + 1) = z at *
    have q0 := p0.ext new1
    have hst := q0.st (off := 0) (vs := [.int .i64 z.1, .int .i64 z.2]) (by simp) rfl
    simp (config := {implicitDefEqProofs := false, maxDischargeDepth := 20}) (disch := first | omega | (simp only [lenE]; done) | (simp only [lenE]; omega) | rfl | (simp only [lenE, markR_len]; done) | (simp only [lenE, markR_len]; omega)) only [runE, mapE, listE, initT_5, initT_6, initT_7, initT_8, resV, oneV, binA, unA, reduceCtorEq, Nat.reduceEqDiff, Nat.reduceAdd, Nat.reduceLT, Nat.reduceLeDiff, Nat.reduceMul, Nat.reduceSub, ↓reduceIte, decide_true, decide_false, Bool.true_eq_false, Bool.false_eq_true, Bool.not_true, Bool.not_false, if_true, if_false, and_true, true_and, memE, celE, w64, Nat.zero_add, Nat.add_zero, Nat.mul_one, putL, and_self, ldn, tm, t0, t2, t3, t4, frV, stP_agg2, hst]
    refine ⟨⟨k + 1, _, by omega, rfl, (hX.app nr1).put (by omega) _ _, (o0.ext new1).set_ne (by omega) _, by rw [hz]; exact q0.set_self _ _, by simp⟩, ?_⟩
    simp [intOf]; omega
  · have hlt : ¬ ((k : Int) < l.length) := by omega
    have e : k = l.length := by omega
    subst e
    unfold shareF
    generalize shareTo l l.length = z at *
    have hst := o0.st (off := 0) (vs := [.int .i64 z.1, .int .i64 z.2]) (by simp) rfl
    have hrd := (o0.set_self 28 [.int .i64 z.1, .int .i64 z.2]).rd
    simp (config := {implicitDefEqProofs := false, maxDischargeDepth := 20}) (disch := first | omega | (simp only [lenE]; done) | (simp only [lenE]; omega) | rfl | (simp only [lenE, markR_len]; done) | (simp only [lenE, markR_len]; omega)) only [runE, mapE, listE, initT_5, initT_6, initT_7, initT_8, resV, oneV, binA, unA, reduceCtorEq, Nat.reduceEqDiff, Nat.reduceAdd, Nat.reduceLT, Nat.reduceLeDiff, Nat.reduceMul, Nat.reduceSub, ↓reduceIte, decide_true, decide_false, Bool.true_eq_false, Bool.false_eq_true, Bool.not_true, Bool.not_false, if_true, if_false, and_true, true_and, memE, celE, w64, Nat.zero_add, Nat.add_zero, Nat.mul_one, putL, and_self, ldn, tm, t0, t2, t3, t4, hl, hlt, p0.ld2, frV, stP_agg2, hst, hrd]
    exact ext_ansV (hX.put (Nat.le_refl _) _ _) rfl
def shareA (l : List Int) : Int × Int := if cycB l then shareF l else (0, 0)
theorem specShareOf_rc (m : Mem) (v : Value) (l : List Int) (h : IntsA m v l) : RC Try.prog 53 [v] m (AnsV (.tuple #[frV (shareA l), .bool (cycB l)])) := by
  refine rc_of_run mixed ok_spec_ShareOf (by simp) (go_start _ _ _ ?_)
  unfold shareA
  simp (config := {implicitDefEqProofs := false, maxDischargeDepth := 20}) (disch := first | omega | (simp only [lenE]; done) | (simp only [lenE]; omega) | rfl | (simp only [lenE, markR_len]; done) | (simp only [lenE, markR_len]; omega)) only [runE, mapE, listE, initT_5, initT_6, initT_7, initT_8, resV, oneV, binA, unA, reduceCtorEq, Nat.reduceEqDiff, Nat.reduceAdd, Nat.reduceLT, Nat.reduceLeDiff, Nat.reduceMul, Nat.reduceSub, ↓reduceIte, decide_true, decide_false, Bool.true_eq_false, Bool.false_eq_true, Bool.not_true, Bool.not_false, if_true, if_false, and_true, true_and, memE, celE, w64, Nat.zero_add, Nat.add_zero, Nat.mul_one, putL, and_self, ldn, c_spec_ShareOf, r_spec_ShareOf]
  obtain ⟨E, hE⟩ : ∃ M, M = roM m ++ [⟨.own, 28, [.int .i64 0, .int .i64 0]⟩] := ⟨_, rfl⟩
  rw [← hE]
  have hX : Ext m E := by rw [hE]; exact (Ext.refl m).one _ _
  have o0 : OwnB E m.length 28 [.int .i64 0, .int .i64 0] := by rw [hE]; exact OwnB.here (roM_len m).symm
  clear hE
  refine callH_rc (l8Cycles_rc _ v l ((Sees.ext hX).ints h)) ?_
  rintro r new0 ⟨rfl, nr0⟩
  have hX := hX.app nr0
  have o0 := o0.ext new0
  cases g1 : cycB l with
  | false =>
    have hst := o0.st (off := 0) (vs := [.int .i64 0, .int .i64 0]) (by simp) rfl
    have hrd := (o0.set_self 28 [.int .i64 0, .int .i64 0]).rd
    simp (config := {implicitDefEqProofs := false, maxDischargeDepth := 20}) (disch := first | omega | (simp only [lenE]; done) | (simp only [lenE]; omega) | rfl | (simp only [lenE, markR_len]; done) | (simp only [lenE, markR_len]; omega)) only [runE, mapE, listE, initT_5, initT_6, initT_7, initT_8, resV, oneV, binA, unA, reduceCtorEq, Nat.reduceEqDiff, Nat.reduceAdd, Nat.reduceLT, Nat.reduceLeDiff, Nat.reduceMul, Nat.reduceSub, ↓reduceIte, decide_true, decide_false, Bool.true_eq_false, Bool.false_eq_true, Bool.not_true, Bool.not_false, if_true, if_false, and_true, true_and, memE, celE, w64, Nat.zero_add, Nat.add_zero, Nat.mul_one, putL, and_self, ldn, hst, hrd, frV, stP_agg2, bld0, Bool.false_and, Bool.true_and, Bool.and_true, Bool.and_false, Bool.and_self]
    exact ext_ansV (hX.put (Nat.le_refl _) _ _) rfl
  | true =>
  simp (config := {implicitDefEqProofs := false, maxDischargeDepth := 20}) (disch := first | omega | (simp only [lenE]; done) | (simp only [lenE]; omega) | rfl | (simp only [lenE, markR_len]; done) | (simp only [lenE, markR_len]; omega)) only [runE, mapE, listE, initT_5, initT_6, initT_7, initT_8, resV, oneV, binA, unA, reduceCtorEq, Nat.reduceEqDiff, Nat.reduceAdd, Nat.reduceLT, Nat.reduceLeDiff, Nat.reduceMul, Nat.reduceSub, ↓reduceIte, decide_true, decide_false, Bool.true_eq_false, Bool.false_eq_true, Bool.not_true, Bool.not_false, if_true, if_false, and_true, true_and, memE, celE, w64, Nat.zero_add, Nat.add_zero, Nat.mul_one, putL, and_self, ldn, if_true]
  refine callH_rc (specShare_rc _ v l ((Sees.ext hX).ints h) (cycB_iff.1 g1)) ?_
  rintro r new1 ⟨rfl, nr1⟩
  generalize shareF l = z at *
  have hst := (o0.ext new1).st (off := 0) (vs := [.int .i64 z.1, .int .i64 z.2]) (by simp) rfl
  have hrd := ((o0.ext new1).set_self 28 [.int .i64 z.1, .int .i64 z.2]).rd
  simp (config := {implicitDefEqProofs := false, maxDischargeDepth := 20}) (disch := first | omega | (simp only [lenE]; done) | (simp only [lenE]; omega) | rfl | (simp only [lenE, markR_len]; done) | (simp only [lenE, markR_len]; omega)) only [runE, mapE, listE, initT_5, initT_6, initT_7, initT_8, resV, oneV, binA, unA, reduceCtorEq, Nat.reduceEqDiff, Nat.reduceAdd, Nat.reduceLT, Nat.reduceLeDiff, Nat.reduceMul, Nat.reduceSub, ↓reduceIte, decide_true, decide_false, Bool.true_eq_false, Bool.false_eq_true, Bool.not_true, Bool.not_false, if_true, if_false, and_true, true_and, memE, celE, w64, Nat.zero_add, Nat.add_zero, Nat.mul_one, putL, and_self, ldn, hst, hrd, frV, stP_agg2, Bool.false_and, Bool.true_and, Bool.and_true, Bool.and_false, Bool.and_self]
  exact ext_ansV ((hX.app nr1).put (Nat.le_refl _) _ _) rfl
theorem implShareOf_rc (m : Mem) (v : Value) (l : List Int) (h : IntsA m v l) : RC Try.prog 54 [v] m (AnsV (.tuple #[frV (shareA l), .bool (cycB l)])) := by
  refine rc_of_run mixed ok_impl_ShareOf (by simp) (go_start _ _ _ ?_)
  unfold shareA
  simp (config := {implicitDefEqProofs := false, maxDischargeDepth := 20}) (disch := first | omega | (simp only [lenE]; done) | (simp only [lenE]; omega) | rfl | (simp only [lenE, markR_len]; done) | (simp only [lenE, markR_len]; omega)) only [runE, mapE, listE, initT_5, initT_6, initT_7, initT_8, resV, oneV, binA, unA, reduceCtorEq, Nat.reduceEqDiff, Nat.reduceAdd, Nat.reduceLT, Nat.reduceLeDiff, Nat.reduceMul, Nat.reduceSub, ↓reduceIte, decide_true, decide_false, Bool.true_eq_false, Bool.false_eq_true, Bool.not_true, Bool.not_false, if_true, if_false, and_true, true_and, memE, celE, w64, Nat.zero_add, Nat.add_zero, Nat.mul_one, putL, and_self, ldn, c_impl_ShareOf, r_impl_ShareOf]
  obtain ⟨E, hE⟩ : ∃ M, M = roM m ++ [⟨.own, 28, [.int .i64 0, .int .i64 0]⟩] := ⟨_, rfl⟩
  rw [← hE]
  have hX : Ext m E := by rw [hE]; exact (Ext.refl m).one _ _
  have o0 : OwnB E m.length 28 [.int .i64 0, .int .i64 0] := by rw [hE]; exact OwnB.here (roM_len m).symm
  clear hE
  refine callH_rc (areCycles_rc _ v l ((Sees.ext hX).ints h)) ?_
  rintro r new0 ⟨rfl, nr0⟩
  have hX := hX.app nr0
  have o0 := o0.ext new0
  cases g1 : cycB l with
  | false =>
    have hst := o0.st (off := 0) (vs := [.int .i64 0, .int .i64 0]) (by simp) rfl
    have hrd := (o0.set_self 28 [.int .i64 0, .int .i64 0]).rd
    simp (config := {implicitDefEqProofs := false, maxDischargeDepth := 20}) (disch := first | omega | (simp only [lenE]; done) | (simp only [lenE]; omega) | rfl | (simp only [lenE, markR_len]; done) | (simp only [lenE, markR_len]; omega)) only [runE, mapE, listE, initT_5, initT_6, initT_7, initT_8, resV, oneV, binA, unA, reduceCtorEq, Nat.reduceEqDiff, Nat.reduceAdd, Nat.reduceLT, Nat.reduceLeDiff, Nat.reduceMul, Nat.reduceSub, ↓reduceIte, decide_true, decide_false, Bool.true_eq_false, Bool.false_eq_true, Bool.not_true, Bool.not_false, if_true, if_false, and_true, true_and, memE, celE, w64, Nat.zero_add, Nat.add_zero, Nat.mul_one, putL, and_self, ldn, hst, hrd, frV, stP_agg2, bld0, Bool.false_and, Bool.true_and, Bool.and_true, Bool.and_false, Bool.and_self]
    exact ext_ansV (hX.put (Nat.le_refl _) _ _) rfl
  | true =>
  have hC := cycB_iff.1 g1
  simp (config := {implicitDefEqProofs := false, maxDischargeDepth := 20}) (disch := first | omega | (simp only [lenE]; done) | (simp only [lenE]; omega) | rfl | (simp only [lenE, markR_len]; done) | (simp only [lenE, markR_len]; omega)) only [runE, mapE, listE, initT_5, initT_6, initT_7, initT_8, resV, oneV, binA, unA, reduceCtorEq, Nat.reduceEqDiff, Nat.reduceAdd, Nat.reduceLT, Nat.reduceLeDiff, Nat.reduceMul, Nat.reduceSub, ↓reduceIte, decide_true, decide_false, Bool.true_eq_false, Bool.false_eq_true, Bool.not_true, Bool.not_false, if_true, if_false, and_true, true_and, memE, celE, w64, Nat.zero_add, Nat.add_zero, Nat.mul_one, putL, and_self, ldn, if_true]
  refine callH_rc (implCut_rc _ 0 1 ⟨by omega, by omega⟩ ⟨by omega, by omega⟩) ?_
  rintro r new1 ⟨rfl, nr1⟩
  rw [fr_zero]
  have hX0 := hX.app nr1
  have oo := o0.ext new1
  have hlv := ((Sees.ext hX0).ints h).len
  simp (config := {implicitDefEqProofs := false, maxDischargeDepth := 20}) (disch := first | omega | (simp only [lenE]; done) | (simp only [lenE]; omega) | rfl | (simp only [lenE, markR_len]; done) | (simp only [lenE, markR_len]; omega)) only [runE, mapE, listE, initT_5, initT_6, initT_7, initT_8, resV, oneV, binA, unA, reduceCtorEq, Nat.reduceEqDiff, Nat.reduceAdd, Nat.reduceLT, Nat.reduceLeDiff, Nat.reduceMul, Nat.reduceSub, ↓reduceIte, decide_true, decide_false, Bool.true_eq_false, Bool.false_eq_true, Bool.not_true, Bool.not_false, if_true, if_false, and_true, true_and, memE, celE, w64, Nat.zero_add, Nat.add_zero, Nat.mul_one, putL, and_self, ldn, frV, stP_agg2, hlv]
  obtain ⟨E0, hE0⟩ : ∃ M, M = E ++ new0 ++ new1 := ⟨_, rfl⟩
  rw [← hE0] at hX0 oo ⊢
  have LE0 : E.length + new0.length + new1.length = E0.length := by rw [hE0, List.length_append, List.length_append]
  rw [LE0]
  clear hE0
  have hgt : m.length < E0.length := oo.lt
  obtain ⟨E3, hE3⟩ : ∃ M, M = E0 ++ [⟨.own, 67, [.int .i64 0, .int .i64 1]⟩] := ⟨_, rfl⟩
  have hX3 : Ext m E3 := by rw [hE3]; exact hX0.one _ _
  have o3 : OwnB E3 m.length 28 [.int .i64 0, .int .i64 0] := by rw [hE3]; exact oo.ext _
  have p3 : OwnB E3 E0.length 67 [.int .i64 0, .int .i64 1] := by rw [hE3]; exact OwnB.here rfl
  try rw [← hE3]
  clear hE3
  refine loop_inv mixed (fun s => ∃ (k : Nat) (M : Mem), k ≤ l.length ∧ s.m = M ∧ Ext m M ∧ OwnB M m.length 28 [.int .i64 0, .int .i64 0] ∧ OwnB M E0.length 67 [.int .i64 (shareTo l k).1, .int .i64 (shareTo l k).2] ∧ s.t 2 = .pointer (some ⟨m.length, 0, none⟩) ∧ s.t 4 = .pointer (some ⟨E0.length, 0, none⟩) ∧ s.t 12 = v ∧ s.t 13 = .int .i64 (l.length : Int) ∧ s.t 14 = .int .i64 (k : Int)) (fun s => l.length - (intOf (s.t 14)).toNat)
    ⟨0, _, by omega, rfl, hX3, o3, p3, rfl, rfl, rfl, rfl, rfl⟩ ?_
  rintro s ⟨k, M, hk, tm, hX, o0, p0, t2, t4, t12, t13, t14⟩
  have hM := (Sees.ext hX).ints h
  have hbd := hM.bd
  by_cases hkl : k < l.length
  · have hlt : (k : Int) < l.length := by omega
    have i1 := hM.at_ k hkl
    have i2 := hM.ld k hkl
    have g := hC.all k hkl
    obtain ⟨⟨n1, n2, n3, n4⟩, hn, hd⟩ := share_ok hC hkl
    have hstep : shareTo l (k + 1) = addF (shareTo l k) (fr 1 (l.getD k 0)) := rfl
    generalize shareTo l k = p at *
    generalize l.getD k 0 = c at *
    simp (config := {implicitDefEqProofs := false, maxDischargeDepth := 20}) (disch := first | omega | (simp only [lenE]; done) | (simp only [lenE]; omega) | rfl | (simp only [lenE, markR_len]; done) | (simp only [lenE, markR_len]; omega)) only [runE, mapE, listE, initT_5, initT_6, initT_7, initT_8, resV, oneV, binA, unA, reduceCtorEq, Nat.reduceEqDiff, Nat.reduceAdd, Nat.reduceLT, Nat.reduceLeDiff, Nat.reduceMul, Nat.reduceSub, ↓reduceIte, decide_true, decide_false, Bool.true_eq_false, Bool.false_eq_true, Bool.not_true, Bool.not_false, if_true, if_false, and_true, true_and, memE, celE, w64, Nat.zero_add, Nat.add_zero, Nat.mul_one, putL, and_self, ldn, tm, t2, t4, t12, t13, t14, hlt, i1, i2, p0.ld2]
    refine rcallH_rc (implCut_rc _ 1 c ⟨by omega, by omega⟩ ⟨by omega, by omega⟩) ?_
    rintro r new1 ⟨rfl, nr1⟩
    simp (config := {implicitDefEqProofs := false, maxDischargeDepth := 20}) (disch := first | omega | (simp only [lenE]; done) | (simp only [lenE]; omega) | rfl | (simp only [lenE, markR_len]; done) | (simp only [lenE, markR_len]; omega)) only [runE, mapE, listE, initT_5, initT_6, initT_7, initT_8, resV, oneV, binA, unA, reduceCtorEq, Nat.reduceEqDiff, Nat.reduceAdd, Nat.reduceLT, Nat.reduceLeDiff, Nat.reduceMul, Nat.reduceSub, ↓reduceIte, decide_true, decide_false, Bool.true_eq_false, Bool.false_eq_true, Bool.not_true, Bool.not_false, if_true, if_false, and_true, true_and, memE, celE, w64, Nat.zero_add, Nat.add_zero, Nat.mul_one, putL, and_self, ldn]
    refine rcallH_rc (implPlus_rc _ p (fr 1 c) n1 n2 n3 n4 hn hd) ?_
    rintro r new2 ⟨rfl, nr2⟩
    rw [← hstep]
    generalize hz : shareTo l (k + 1) = z at *
    have q0 := (p0.ext new1).ext new2
    have hst := q0.st (off := 0) (vs := [.int .i64 z.1, .int .i64 z.2]) (by simp) rfl
    simp (config := {implicitDefEqProofs := false, maxDischargeDepth := 20}) (disch := first | omega | (simp only [lenE]; done) | (simp only [lenE]; omega) | rfl | (simp only [lenE, markR_len]; done) | (simp only [lenE, markR_len]; omega)) only [runE, mapE, listE, initT_5, initT_6, initT_7, initT_8, resV, oneV, binA, unA, reduceCtorEq, Nat.reduceEqDiff, Nat.reduceAdd, Nat.reduceLT, Nat.reduceLeDiff, Nat.reduceMul, Nat.reduceSub, ↓reduceIte, decide_true, decide_false, Bool.true_eq_false, Bool.false_eq_true, Bool.not_true, Bool.not_false, if_true, if_false, and_true, true_and, memE, celE, w64, Nat.zero_add, Nat.add_zero, Nat.mul_one, putL, and_self, ldn, tm, t2, t4, t12, t13, t14, frV, stP_agg2, hst]
    refine ⟨⟨k + 1, _, by omega, rfl, ((hX.app nr1).app nr2).put (by omega) _ _, ((o0.ext new1).ext new2).set_ne (by omega) _, by rw [hz]; exact q0.set_self _ _, by simp⟩, ?_⟩
    simp [intOf]; omega
  · have hlt : ¬ ((k : Int) < l.length) := by omega
    have e : k = l.length := by omega
    subst e
    unfold shareF
    generalize shareTo l l.length = z at *
    have hst := o0.st (off := 0) (vs := [.int .i64 z.1, .int .i64 z.2]) (by simp) rfl
    have hrd := (o0.set_self 28 [.int .i64 z.1, .int .i64 z.2]).rd
    simp (config := {implicitDefEqProofs := false, maxDischargeDepth := 20}) (disch := first | omega | (simp only [lenE]; done) | (simp only [lenE]; omega) | rfl | (simp only [lenE, markR_len]; done) | (simp only [lenE, markR_len]; omega)) only [runE, mapE, listE, initT_5, initT_6, initT_7, initT_8, resV, oneV, binA, unA, reduceCtorEq, Nat.reduceEqDiff, Nat.reduceAdd, Nat.reduceLT, Nat.reduceLeDiff, Nat.reduceMul, Nat.reduceSub, ↓reduceIte, decide_true, decide_false, Bool.true_eq_false, Bool.false_eq_true, Bool.not_true, Bool.not_false, if_true, if_false, and_true, true_and, memE, celE, w64, Nat.zero_add, Nat.add_zero, Nat.mul_one, putL, and_self, ldn, tm, t2, t4, t12, t13, t14, hlt, p0.ld2, frV, stP_agg2, hst, hrd, Bool.false_and, Bool.true_and, Bool.and_true, Bool.and_false, Bool.and_self]
    exact ext_ansV (hX.put (Nat.le_refl _) _ _) rfl

end Go.Proofs.Ytmjnjhdacliieaa.Ab
