/- FamilyCost, chosen factors, BestFactors. -/
import Derived.Test.YtmjnjhdacliieaaAbFam1
namespace Go.Proofs.Ytmjnjhdacliieaa.Ab
open Go Go.RowKit
set_option linter.unusedVariables false
set_option linter.unusedSimpArgs false
set_option maxRecDepth 10000

theorem cntB_good {fs : List Int} {n : Nat} (h : cntB fs n 8 = true) : GoodFs n fs := by
  simp only [cntB, Bool.and_eq_true, List.all_eq_true, inR_iff, decide_eq_true_eq] at h
  refine ⟨h.2, fun k hk => h.1 _ ?_⟩
  rw [List.getD_eq_getElem?_getD, List.getElem?_eq_getElem (by omega)]
  exact List.getElem_mem _
def famOk (L : List It) (joint base : Int) (fs : List Int) : Bool := famB L && inR 0 99 joint && inR 1 32 base && cntB fs L.length 8
def famCost (L : List It) (joint base : Int) (fs : List Int) : Int × Int := if famOk L joint base fs then jointF L joint base fs else (0, 0)

theorem specFamilyCost_rc (m : Mem) (v u : Value) (L : List It) (joint base : Int) (fs : List Int) (h : ItemsA m v L) (hu : IntsA m u fs) :
    RC Try.prog 30 [v, .int .i64 joint, .int .i64 base, u] m (AnsV (.tuple #[frV (famCost L joint base fs), .bool (famOk L joint base fs)])) := by
  refine rc_of_run mixed ok_spec_FamilyCost (by simp) (go_start _ _ _ ?_)
  unfold famCost famOk
  simp (config := {implicitDefEqProofs := false, maxDischargeDepth := 20}) (disch := first | omega | (simp only [lenE]; done) | (simp only [lenE]; omega) | rfl | (simp only [lenE, markR_len]; done) | (simp only [lenE, markR_len]; omega)) only [runE, mapE, listE, initT_5, initT_6, initT_7, initT_8, resV, oneV, binA, unA, reduceCtorEq, Nat.reduceEqDiff, Nat.reduceAdd, Nat.reduceLT, Nat.reduceLeDiff, Nat.reduceMul, Nat.reduceSub, ↓reduceIte, decide_true, decide_false, Bool.true_eq_false, Bool.false_eq_true, Bool.not_true, Bool.not_false, if_true, if_false, and_true, true_and, memE, celE, w64, Nat.zero_add, Nat.add_zero, Nat.mul_one, putL, and_self, ldn, c_spec_FamilyCost, r_spec_FamilyCost]
  obtain ⟨E, hE⟩ : ∃ M, M = roM m ++ [⟨.own, 28, [.int .i64 0, .int .i64 0]⟩] := ⟨_, rfl⟩
  rw [← hE]
  have hX : Ext m E := by rw [hE]; exact ((Ext.refl m).one _ _)
  have LE : E.length = m.length + 1 := by rw [hE]; simp [roM_len]
  have o0 : OwnB E (m.length) 28 [.int .i64 0, .int .i64 0] := by rw [hE]; exact OwnB.here (by simp [roM_len])
  clear hE
  refine callH_rc (l8Family_rc _ v L ((Sees.ext hX).items h)) ?_
  rintro r new0 ⟨rfl, nr0⟩
  cases g1 : famB L with
  | false =>
    have hst := (o0.ext new0).st (off := 0) (vs := [.int .i64 0, .int .i64 0]) (by simp) rfl
    have hrd := ((o0.ext new0).set_self 28 [.int .i64 0, .int .i64 0]).rd
    simp (config := {implicitDefEqProofs := false, maxDischargeDepth := 20}) (disch := first | omega | (simp only [lenE]; done) | (simp only [lenE]; omega) | rfl | (simp only [lenE, markR_len]; done) | (simp only [lenE, markR_len]; omega)) only [runE, mapE, listE, initT_5, initT_6, initT_7, initT_8, resV, oneV, binA, unA, reduceCtorEq, Nat.reduceEqDiff, Nat.reduceAdd, Nat.reduceLT, Nat.reduceLeDiff, Nat.reduceMul, Nat.reduceSub, ↓reduceIte, decide_true, decide_false, Bool.true_eq_false, Bool.false_eq_true, Bool.not_true, Bool.not_false, if_true, if_false, and_true, true_and, memE, celE, w64, Nat.zero_add, Nat.add_zero, Nat.mul_one, putL, and_self, ldn, hst, hrd, frV, stP_agg2, bld0, Bool.false_and, Bool.true_and, Bool.and_true, Bool.and_false, Bool.and_self]
    exact ext_ansV ((hX.app nr0).put (by omega) _ _) rfl
  | true =>
  have hF := goodF_iff.1 g1
  have hl8 := hF.len
  have hlv := ((Sees.ext (hX.app nr0)).items h).len
  simp (config := {implicitDefEqProofs := false, maxDischargeDepth := 20}) (disch := first | omega | (simp only [lenE]; done) | (simp only [lenE]; omega) | rfl | (simp only [lenE, markR_len]; done) | (simp only [lenE, markR_len]; omega)) only [runE, mapE, listE, initT_5, initT_6, initT_7, initT_8, resV, oneV, binA, unA, reduceCtorEq, Nat.reduceEqDiff, Nat.reduceAdd, Nat.reduceLT, Nat.reduceLeDiff, Nat.reduceMul, Nat.reduceSub, ↓reduceIte, decide_true, decide_false, Bool.true_eq_false, Bool.false_eq_true, Bool.not_true, Bool.not_false, if_true, if_false, and_true, true_and, memE, celE, w64, Nat.zero_add, Nat.add_zero, Nat.mul_one, putL, and_self, ldn, hlv]
  refine callH_rc (l1In_rc _ _ _ _) ?_
  rintro r new1 ⟨rfl, rfl⟩
  rw [List.append_nil]
  rw [show (decide (0 ≤ joint) && decide (joint ≤ 99)) = inR 0 99 joint from rfl]
  cases g2 : inR 0 99 joint with
  | false =>
    have hst := (o0.ext new0).st (off := 0) (vs := [.int .i64 0, .int .i64 0]) (by simp) rfl
    have hrd := ((o0.ext new0).set_self 28 [.int .i64 0, .int .i64 0]).rd
    simp (config := {implicitDefEqProofs := false, maxDischargeDepth := 20}) (disch := first | omega | (simp only [lenE]; done) | (simp only [lenE]; omega) | rfl | (simp only [lenE, markR_len]; done) | (simp only [lenE, markR_len]; omega)) only [runE, mapE, listE, initT_5, initT_6, initT_7, initT_8, resV, oneV, binA, unA, reduceCtorEq, Nat.reduceEqDiff, Nat.reduceAdd, Nat.reduceLT, Nat.reduceLeDiff, Nat.reduceMul, Nat.reduceSub, ↓reduceIte, decide_true, decide_false, Bool.true_eq_false, Bool.false_eq_true, Bool.not_true, Bool.not_false, if_true, if_false, and_true, true_and, memE, celE, w64, Nat.zero_add, Nat.add_zero, Nat.mul_one, putL, and_self, ldn, hst, hrd, frV, stP_agg2, bld0, Bool.false_and, Bool.true_and, Bool.and_true, Bool.and_false, Bool.and_self]
    exact ext_ansV ((hX.app nr0).put (by omega) _ _) rfl
  | true =>
  simp (config := {implicitDefEqProofs := false, maxDischargeDepth := 20}) (disch := first | omega | (simp only [lenE]; done) | (simp only [lenE]; omega) | rfl | (simp only [lenE, markR_len]; done) | (simp only [lenE, markR_len]; omega)) only [runE, mapE, listE, initT_5, initT_6, initT_7, initT_8, resV, oneV, binA, unA, reduceCtorEq, Nat.reduceEqDiff, Nat.reduceAdd, Nat.reduceLT, Nat.reduceLeDiff, Nat.reduceMul, Nat.reduceSub, ↓reduceIte, decide_true, decide_false, Bool.true_eq_false, Bool.false_eq_true, Bool.not_true, Bool.not_false, if_true, if_false, and_true, true_and, memE, celE, w64, Nat.zero_add, Nat.add_zero, Nat.mul_one, putL, and_self, ldn, hlv]
  refine callH_rc (l1In_rc _ _ _ _) ?_
  rintro r new1 ⟨rfl, rfl⟩
  rw [List.append_nil]
  rw [show (decide (1 ≤ base) && decide (base ≤ 32)) = inR 1 32 base from rfl]
  cases g3 : inR 1 32 base with
  | false =>
    have hst := (o0.ext new0).st (off := 0) (vs := [.int .i64 0, .int .i64 0]) (by simp) rfl
    have hrd := ((o0.ext new0).set_self 28 [.int .i64 0, .int .i64 0]).rd
    simp (config := {implicitDefEqProofs := false, maxDischargeDepth := 20}) (disch := first | omega | (simp only [lenE]; done) | (simp only [lenE]; omega) | rfl | (simp only [lenE, markR_len]; done) | (simp only [lenE, markR_len]; omega)) only [runE, mapE, listE, initT_5, initT_6, initT_7, initT_8, resV, oneV, binA, unA, reduceCtorEq, Nat.reduceEqDiff, Nat.reduceAdd, Nat.reduceLT, Nat.reduceLeDiff, Nat.reduceMul, Nat.reduceSub, ↓reduceIte, decide_true, decide_false, Bool.true_eq_false, Bool.false_eq_true, Bool.not_true, Bool.not_false, if_true, if_false, and_true, true_and, memE, celE, w64, Nat.zero_add, Nat.add_zero, Nat.mul_one, putL, and_self, ldn, hst, hrd, frV, stP_agg2, bld0, Bool.false_and, Bool.true_and, Bool.and_true, Bool.and_false, Bool.and_self]
    exact ext_ansV ((hX.app nr0).put (by omega) _ _) rfl
  | true =>
  simp (config := {implicitDefEqProofs := false, maxDischargeDepth := 20}) (disch := first | omega | (simp only [lenE]; done) | (simp only [lenE]; omega) | rfl | (simp only [lenE, markR_len]; done) | (simp only [lenE, markR_len]; omega)) only [runE, mapE, listE, initT_5, initT_6, initT_7, initT_8, resV, oneV, binA, unA, reduceCtorEq, Nat.reduceEqDiff, Nat.reduceAdd, Nat.reduceLT, Nat.reduceLeDiff, Nat.reduceMul, Nat.reduceSub, ↓reduceIte, decide_true, decide_false, Bool.true_eq_false, Bool.false_eq_true, Bool.not_true, Bool.not_false, if_true, if_false, and_true, true_and, memE, celE, w64, Nat.zero_add, Nat.add_zero, Nat.mul_one, putL, and_self, ldn, hlv]
  refine callH_rc (l8Factors_rc _ v u L fs ((Sees.ext (hX.app nr0)).items h) ((Sees.ext (hX.app nr0)).ints hu)) ?_
  rintro r new1 ⟨rfl, nr1⟩
  cases g4 : cntB fs L.length 8 with
  | false =>
    have hst := ((o0.ext new0).ext new1).st (off := 0) (vs := [.int .i64 0, .int .i64 0]) (by simp) rfl
    have hrd := (((o0.ext new0).ext new1).set_self 28 [.int .i64 0, .int .i64 0]).rd
    simp (config := {implicitDefEqProofs := false, maxDischargeDepth := 20}) (disch := first | omega | (simp only [lenE]; done) | (simp only [lenE]; omega) | rfl | (simp only [lenE, markR_len]; done) | (simp only [lenE, markR_len]; omega)) only [runE, mapE, listE, initT_5, initT_6, initT_7, initT_8, resV, oneV, binA, unA, reduceCtorEq, Nat.reduceEqDiff, Nat.reduceAdd, Nat.reduceLT, Nat.reduceLeDiff, Nat.reduceMul, Nat.reduceSub, ↓reduceIte, decide_true, decide_false, Bool.true_eq_false, Bool.false_eq_true, Bool.not_true, Bool.not_false, if_true, if_false, and_true, true_and, memE, celE, w64, Nat.zero_add, Nat.add_zero, Nat.mul_one, putL, and_self, ldn, hst, hrd, frV, stP_agg2, bld0, Bool.false_and, Bool.true_and, Bool.and_true, Bool.and_false, Bool.and_self]
    exact ext_ansV (((hX.app nr0).app nr1).put (by omega) _ _) rfl
  | true =>
  simp (config := {implicitDefEqProofs := false, maxDischargeDepth := 20}) (disch := first | omega | (simp only [lenE]; done) | (simp only [lenE]; omega) | rfl | (simp only [lenE, markR_len]; done) | (simp only [lenE, markR_len]; omega)) only [runE, mapE, listE, initT_5, initT_6, initT_7, initT_8, resV, oneV, binA, unA, reduceCtorEq, Nat.reduceEqDiff, Nat.reduceAdd, Nat.reduceLT, Nat.reduceLeDiff, Nat.reduceMul, Nat.reduceSub, ↓reduceIte, decide_true, decide_false, Bool.true_eq_false, Bool.false_eq_true, Bool.not_true, Bool.not_false, if_true, if_false, and_true, true_and, memE, celE, w64, Nat.zero_add, Nat.add_zero, Nat.mul_one, putL, and_self, ldn, hlv]
  have j1 := inR_iff.1 g2
  have j2 := inR_iff.1 g3
  refine callH_rc (specJoint_rc _ v u L joint base fs ((Sees.ext ((hX.app nr0).app nr1)).items h) ((Sees.ext ((hX.app nr0).app nr1)).ints hu) hF j1 j2 (cntB_good g4)) ?_
  rintro r new2 ⟨rfl, nr2⟩
  generalize jointF L joint base fs = z at *
  have hst := (((o0.ext new0).ext new1).ext new2).st (off := 0) (vs := [.int .i64 z.1, .int .i64 z.2]) (by simp) rfl
  have hrd := ((((o0.ext new0).ext new1).ext new2).set_self 28 [.int .i64 z.1, .int .i64 z.2]).rd
  simp (config := {implicitDefEqProofs := false, maxDischargeDepth := 20}) (disch := first | omega | (simp only [lenE]; done) | (simp only [lenE]; omega) | rfl | (simp only [lenE, markR_len]; done) | (simp only [lenE, markR_len]; omega)) only [runE, mapE, listE, initT_5, initT_6, initT_7, initT_8, resV, oneV, binA, unA, reduceCtorEq, Nat.reduceEqDiff, Nat.reduceAdd, Nat.reduceLT, Nat.reduceLeDiff, Nat.reduceMul, Nat.reduceSub, ↓reduceIte, decide_true, decide_false, Bool.true_eq_false, Bool.false_eq_true, Bool.not_true, Bool.not_false, if_true, if_false, and_true, true_and, memE, celE, w64, Nat.zero_add, Nat.add_zero, Nat.mul_one, putL, and_self, ldn, hst, hrd, frV, stP_agg2, Bool.false_and, Bool.true_and, Bool.and_true, Bool.and_false, Bool.and_self]
  exact ext_ansV ((((hX.app nr0).app nr1).app nr2).put (by omega) _ _) rfl

theorem implFamilyCost_rc (m : Mem) (v u : Value) (L : List It) (joint base : Int) (fs : List Int) (h : ItemsA m v L) (hu : IntsA m u fs) :
    RC Try.prog 33 [v, .int .i64 joint, .int .i64 base, u] m (AnsV (.tuple #[frV (famCost L joint base fs), .bool (famOk L joint base fs)])) := by
  refine rc_of_run mixed ok_impl_FamilyCost (by simp) (go_start _ _ _ ?_)
  unfold famCost famOk
  simp (config := {implicitDefEqProofs := false, maxDischargeDepth := 20}) (disch := first | omega | (simp only [lenE]; done) | (simp only [lenE]; omega) | rfl | (simp only [lenE, markR_len]; done) | (simp only [lenE, markR_len]; omega)) only [runE, mapE, listE, initT_5, initT_6, initT_7, initT_8, resV, oneV, binA, unA, reduceCtorEq, Nat.reduceEqDiff, Nat.reduceAdd, Nat.reduceLT, Nat.reduceLeDiff, Nat.reduceMul, Nat.reduceSub, ↓reduceIte, decide_true, decide_false, Bool.true_eq_false, Bool.false_eq_true, Bool.not_true, Bool.not_false, if_true, if_false, and_true, true_and, memE, celE, w64, Nat.zero_add, Nat.add_zero, Nat.mul_one, putL, and_self, ldn, c_impl_FamilyCost, r_impl_FamilyCost]
  obtain ⟨E, hE⟩ : ∃ M, M = roM m ++ [⟨.own, 28, [.int .i64 0, .int .i64 0]⟩] := ⟨_, rfl⟩
  rw [← hE]
  have hX : Ext m E := by rw [hE]; exact ((Ext.refl m).one _ _)
  have LE : E.length = m.length + 1 := by rw [hE]; simp [roM_len]
  have o0 : OwnB E (m.length) 28 [.int .i64 0, .int .i64 0] := by rw [hE]; exact OwnB.here (by simp [roM_len])
  clear hE
  refine callH_rc (isFamily_rc _ v L ((Sees.ext hX).items h)) ?_
  rintro r new0 ⟨rfl, nr0⟩
  cases g1 : famB L with
  | false =>
    have hst := (o0.ext new0).st (off := 0) (vs := [.int .i64 0, .int .i64 0]) (by simp) rfl
    have hrd := ((o0.ext new0).set_self 28 [.int .i64 0, .int .i64 0]).rd
    simp (config := {implicitDefEqProofs := false, maxDischargeDepth := 20}) (disch := first | omega | (simp only [lenE]; done) | (simp only [lenE]; omega) | rfl | (simp only [lenE, markR_len]; done) | (simp only [lenE, markR_len]; omega)) only [runE, mapE, listE, initT_5, initT_6, initT_7, initT_8, resV, oneV, binA, unA, reduceCtorEq, Nat.reduceEqDiff, Nat.reduceAdd, Nat.reduceLT, Nat.reduceLeDiff, Nat.reduceMul, Nat.reduceSub, ↓reduceIte, decide_true, decide_false, Bool.true_eq_false, Bool.false_eq_true, Bool.not_true, Bool.not_false, if_true, if_false, and_true, true_and, memE, celE, w64, Nat.zero_add, Nat.add_zero, Nat.mul_one, putL, and_self, ldn, hst, hrd, frV, stP_agg2, bld0, Bool.false_and, Bool.true_and, Bool.and_true, Bool.and_false, Bool.and_self]
    exact ext_ansV ((hX.app nr0).put (by omega) _ _) rfl
  | true =>
  have hF := goodF_iff.1 g1
  have hl8 := hF.len
  have hlv := ((Sees.ext (hX.app nr0)).items h).len
  simp (config := {implicitDefEqProofs := false, maxDischargeDepth := 20}) (disch := first | omega | (simp only [lenE]; done) | (simp only [lenE]; omega) | rfl | (simp only [lenE, markR_len]; done) | (simp only [lenE, markR_len]; omega)) only [runE, mapE, listE, initT_5, initT_6, initT_7, initT_8, resV, oneV, binA, unA, reduceCtorEq, Nat.reduceEqDiff, Nat.reduceAdd, Nat.reduceLT, Nat.reduceLeDiff, Nat.reduceMul, Nat.reduceSub, ↓reduceIte, decide_true, decide_false, Bool.true_eq_false, Bool.false_eq_true, Bool.not_true, Bool.not_false, if_true, if_false, and_true, true_and, memE, celE, w64, Nat.zero_add, Nat.add_zero, Nat.mul_one, putL, and_self, ldn, hlv]
  refine callH_rc (isWithin_rc _ _ _) ?_
  rintro r new1 ⟨rfl, rfl⟩
  rw [List.append_nil]
  rw [show inB 99 joint = inR 0 99 joint from rfl]
  cases g2 : inR 0 99 joint with
  | false =>
    have hst := (o0.ext new0).st (off := 0) (vs := [.int .i64 0, .int .i64 0]) (by simp) rfl
    have hrd := ((o0.ext new0).set_self 28 [.int .i64 0, .int .i64 0]).rd
    simp (config := {implicitDefEqProofs := false, maxDischargeDepth := 20}) (disch := first | omega | (simp only [lenE]; done) | (simp only [lenE]; omega) | rfl | (simp only [lenE, markR_len]; done) | (simp only [lenE, markR_len]; omega)) only [runE, mapE, listE, initT_5, initT_6, initT_7, initT_8, resV, oneV, binA, unA, reduceCtorEq, Nat.reduceEqDiff, Nat.reduceAdd, Nat.reduceLT, Nat.reduceLeDiff, Nat.reduceMul, Nat.reduceSub, ↓reduceIte, decide_true, decide_false, Bool.true_eq_false, Bool.false_eq_true, Bool.not_true, Bool.not_false, if_true, if_false, and_true, true_and, memE, celE, w64, Nat.zero_add, Nat.add_zero, Nat.mul_one, putL, and_self, ldn, hst, hrd, frV, stP_agg2, bld0, Bool.false_and, Bool.true_and, Bool.and_true, Bool.and_false, Bool.and_self]
    exact ext_ansV ((hX.app nr0).put (by omega) _ _) rfl
  | true =>
  simp (config := {implicitDefEqProofs := false, maxDischargeDepth := 20}) (disch := first | omega | (simp only [lenE]; done) | (simp only [lenE]; omega) | rfl | (simp only [lenE, markR_len]; done) | (simp only [lenE, markR_len]; omega)) only [runE, mapE, listE, initT_5, initT_6, initT_7, initT_8, resV, oneV, binA, unA, reduceCtorEq, Nat.reduceEqDiff, Nat.reduceAdd, Nat.reduceLT, Nat.reduceLeDiff, Nat.reduceMul, Nat.reduceSub, ↓reduceIte, decide_true, decide_false, Bool.true_eq_false, Bool.false_eq_true, Bool.not_true, Bool.not_false, if_true, if_false, and_true, true_and, memE, celE, w64, Nat.zero_add, Nat.add_zero, Nat.mul_one, putL, and_self, ldn, hlv]
  refine callH_rc (isCount_rc _ _ _) ?_
  rintro r new1 ⟨rfl, rfl⟩
  rw [List.append_nil]
  cases g3 : inR 1 32 base with
  | false =>
    have hst := (o0.ext new0).st (off := 0) (vs := [.int .i64 0, .int .i64 0]) (by simp) rfl
    have hrd := ((o0.ext new0).set_self 28 [.int .i64 0, .int .i64 0]).rd
    simp (config := {implicitDefEqProofs := false, maxDischargeDepth := 20}) (disch := first | omega | (simp only [lenE]; done) | (simp only [lenE]; omega) | rfl | (simp only [lenE, markR_len]; done) | (simp only [lenE, markR_len]; omega)) only [runE, mapE, listE, initT_5, initT_6, initT_7, initT_8, resV, oneV, binA, unA, reduceCtorEq, Nat.reduceEqDiff, Nat.reduceAdd, Nat.reduceLT, Nat.reduceLeDiff, Nat.reduceMul, Nat.reduceSub, ↓reduceIte, decide_true, decide_false, Bool.true_eq_false, Bool.false_eq_true, Bool.not_true, Bool.not_false, if_true, if_false, and_true, true_and, memE, celE, w64, Nat.zero_add, Nat.add_zero, Nat.mul_one, putL, and_self, ldn, hst, hrd, frV, stP_agg2, bld0, Bool.false_and, Bool.true_and, Bool.and_true, Bool.and_false, Bool.and_self]
    exact ext_ansV ((hX.app nr0).put (by omega) _ _) rfl
  | true =>
  simp (config := {implicitDefEqProofs := false, maxDischargeDepth := 20}) (disch := first | omega | (simp only [lenE]; done) | (simp only [lenE]; omega) | rfl | (simp only [lenE, markR_len]; done) | (simp only [lenE, markR_len]; omega)) only [runE, mapE, listE, initT_5, initT_6, initT_7, initT_8, resV, oneV, binA, unA, reduceCtorEq, Nat.reduceEqDiff, Nat.reduceAdd, Nat.reduceLT, Nat.reduceLeDiff, Nat.reduceMul, Nat.reduceSub, ↓reduceIte, decide_true, decide_false, Bool.true_eq_false, Bool.false_eq_true, Bool.not_true, Bool.not_false, if_true, if_false, and_true, true_and, memE, celE, w64, Nat.zero_add, Nat.add_zero, Nat.mul_one, putL, and_self, ldn, hlv]
  refine callH_rc (areCounts_rc _ u fs L.length 8 ((Sees.ext (hX.app nr0)).ints hu) (by omega)) ?_
  rintro r new1 ⟨rfl, nr1⟩
  cases g4 : cntB fs L.length 8 with
  | false =>
    have hst := ((o0.ext new0).ext new1).st (off := 0) (vs := [.int .i64 0, .int .i64 0]) (by simp) rfl
    have hrd := (((o0.ext new0).ext new1).set_self 28 [.int .i64 0, .int .i64 0]).rd
    simp (config := {implicitDefEqProofs := false, maxDischargeDepth := 20}) (disch := first | omega | (simp only [lenE]; done) | (simp only [lenE]; omega) | rfl | (simp only [lenE, markR_len]; done) | (simp only [lenE, markR_len]; omega)) only [runE, mapE, listE, initT_5, initT_6, initT_7, initT_8, resV, oneV, binA, unA, reduceCtorEq, Nat.reduceEqDiff, Nat.reduceAdd, Nat.reduceLT, Nat.reduceLeDiff, Nat.reduceMul, Nat.reduceSub, ↓reduceIte, decide_true, decide_false, Bool.true_eq_false, Bool.false_eq_true, Bool.not_true, Bool.not_false, if_true, if_false, and_true, true_and, memE, celE, w64, Nat.zero_add, Nat.add_zero, Nat.mul_one, putL, and_self, ldn, hst, hrd, frV, stP_agg2, bld0, Bool.false_and, Bool.true_and, Bool.and_true, Bool.and_false, Bool.and_self]
    exact ext_ansV (((hX.app nr0).app nr1).put (by omega) _ _) rfl
  | true =>
  simp (config := {implicitDefEqProofs := false, maxDischargeDepth := 20}) (disch := first | omega | (simp only [lenE]; done) | (simp only [lenE]; omega) | rfl | (simp only [lenE, markR_len]; done) | (simp only [lenE, markR_len]; omega)) only [runE, mapE, listE, initT_5, initT_6, initT_7, initT_8, resV, oneV, binA, unA, reduceCtorEq, Nat.reduceEqDiff, Nat.reduceAdd, Nat.reduceLT, Nat.reduceLeDiff, Nat.reduceMul, Nat.reduceSub, ↓reduceIte, decide_true, decide_false, Bool.true_eq_false, Bool.false_eq_true, Bool.not_true, Bool.not_false, if_true, if_false, and_true, true_and, memE, celE, w64, Nat.zero_add, Nat.add_zero, Nat.mul_one, putL, and_self, ldn, hlv]
  have j1 := inR_iff.1 g2
  have j2 := inR_iff.1 g3
  refine callH_rc (implJoint_rc _ v u L joint base fs ((Sees.ext ((hX.app nr0).app nr1)).items h) ((Sees.ext ((hX.app nr0).app nr1)).ints hu) hF j1 j2 (cntB_good g4)) ?_
  rintro r new2 ⟨rfl, nr2⟩
  generalize jointF L joint base fs = z at *
  have hst := (((o0.ext new0).ext new1).ext new2).st (off := 0) (vs := [.int .i64 z.1, .int .i64 z.2]) (by simp) rfl
  have hrd := ((((o0.ext new0).ext new1).ext new2).set_self 28 [.int .i64 z.1, .int .i64 z.2]).rd
  simp (config := {implicitDefEqProofs := false, maxDischargeDepth := 20}) (disch := first | omega | (simp only [lenE]; done) | (simp only [lenE]; omega) | rfl | (simp only [lenE, markR_len]; done) | (simp only [lenE, markR_len]; omega)) only [runE, mapE, listE, initT_5, initT_6, initT_7, initT_8, resV, oneV, binA, unA, reduceCtorEq, Nat.reduceEqDiff, Nat.reduceAdd, Nat.reduceLT, Nat.reduceLeDiff, Nat.reduceMul, Nat.reduceSub, ↓reduceIte, decide_true, decide_false, Bool.true_eq_false, Bool.false_eq_true, Bool.not_true, Bool.not_false, if_true, if_false, and_true, true_and, memE, celE, w64, Nat.zero_add, Nat.add_zero, Nat.mul_one, putL, and_self, ldn, hst, hrd, frV, stP_agg2, Bool.false_and, Bool.true_and, Bool.and_true, Bool.and_false, Bool.and_self]
  exact ext_ansV ((((hX.app nr0).app nr1).app nr2).put (by omega) _ _) rfl

theorem chosen_take (L : List It) (base : Int) (k : Nat) (hk : k < L.length) : chosenL (L.take (k + 1)) base = chosenL (L.take k) base ++ [chosenOne (L.getD k It0) base] := by
  unfold chosenL
  rw [List.take_add_one, List.map_append, List.getD_eq_getElem?_getD, List.getElem?_eq_getElem hk]
  rfl
theorem l8Chosen_rc (m : Mem) (v : Value) (L : List It) (base : Int) (h : ItemsA m v L) (hF : GoodF L) (hb : 1 ≤ base ∧ base ≤ 32) :
    RC Try.prog 77 [v, .int .i64 base] m (AnsO m (IntsO (chosenL L base)) id) := by
  refine rc_of_run mixed ok_spec_l8Chosen (by simp) (go_start _ _ _ ?_)
  have hlen := hF.len
  simp (config := {implicitDefEqProofs := false, maxDischargeDepth := 20}) (disch := first | omega | (simp only [lenE]; done) | (simp only [lenE]; omega) | rfl | (simp only [lenE, markR_len]; done) | (simp only [lenE, markR_len]; omega)) only [runE, mapE, listE, initT_5, initT_6, initT_7, initT_8, resV, oneV, binA, unA, reduceCtorEq, Nat.reduceEqDiff, Nat.reduceAdd, Nat.reduceLT, Nat.reduceLeDiff, Nat.reduceMul, Nat.reduceSub, ↓reduceIte, decide_true, decide_false, Bool.true_eq_false, Bool.false_eq_true, Bool.not_true, Bool.not_false, if_true, if_false, and_true, true_and, memE, celE, w64, Nat.zero_add, Nat.add_zero, Nat.mul_one, putL, and_self, ldn, c_spec_l8Chosen, r_spec_l8Chosen, bsl_none]
  refine loop_inv mixed (fun s => ∃ (k : Nat) (M : Mem) (id : Nat), k ≤ L.length ∧ s.m = M ∧ Ext m M ∧ m.length ≤ id ∧ OwnR M id (chosenL (L.take k) base) ∧ s.t 0 = v ∧ s.t 1 = .int .i64 base ∧ s.t 5 = .slice (some ⟨id, 0, none⟩) k 1 ∧ s.t 6 = .int .i64 (k : Int)) (fun s => L.length - (intOf (s.t 6)).toNat)
    ⟨0, _, m.length, by omega, rfl, (Ext.refl m).one _ _, Nat.le_refl _, by exact OwnR.here (roM m) [] m.length (roM_len m).symm, rfl, rfl, by first | rfl | simp [roM_len], rfl⟩ ?_
  rintro s ⟨k, M, id, hk, tm, hX, hid, ho, t0, t1, t5, t6⟩
  have hM := (Sees.ext hX).items h
  have hl := hM.len
  by_cases hkl : k < L.length
  · have hlt : (k : Int) < L.length := by omega
    have hg := hF.all k hkl
    change GoodI (L.getD k It0) at hg
    have hct := chosen_take L base k hkl
    simp (config := {implicitDefEqProofs := false, maxDischargeDepth := 20}) (disch := first | omega | (simp only [lenE]; done) | (simp only [lenE]; omega) | rfl | (simp only [lenE, markR_len]; done) | (simp only [lenE, markR_len]; omega)) only [runE, mapE, listE, initT_5, initT_6, initT_7, initT_8, resV, oneV, binA, unA, reduceCtorEq, Nat.reduceEqDiff, Nat.reduceAdd, Nat.reduceLT, Nat.reduceLeDiff, Nat.reduceMul, Nat.reduceSub, ↓reduceIte, decide_true, decide_false, Bool.true_eq_false, Bool.false_eq_true, Bool.not_true, Bool.not_false, if_true, if_false, and_true, true_and, memE, celE, w64, Nat.zero_add, Nat.add_zero, Nat.mul_one, putL, and_self, ldn, tm, t0, t1, t5, t6, hl, hlt]
    obtain ⟨want, hw⟩ : ∃ want, want = chosenOne (L.getD k It0) base := ⟨_, rfl⟩
    unfold chosenOne at hw
    refine loop_inv mixed (fun s => ∃ (j : Nat) (b : Int) (M : Mem), j ≤ 7 ∧ (1 ≤ b ∧ b ≤ 8) ∧ want = bestIn (dailyLt (L.getD k It0) base) (upFrom (2 + j) (7 - j)) b ∧ s.m = M ∧ Ext m M ∧ OwnR M id (chosenL (L.take k) base) ∧ s.t 0 = v ∧ s.t 1 = .int .i64 base ∧ s.t 5 = .slice (some ⟨id, 0, none⟩) k 1 ∧ s.t 6 = .int .i64 (k : Int) ∧ s.t 7 = .int .i64 b ∧ s.t 8 = .int .i64 (2 + (j : Int))) (fun s => 9 - (intOf (s.t 8)).toNat)
      ⟨0, 1, M, by omega, by omega, hw, tm, hX, ho, t0, t1, t5, t6, rfl, rfl⟩ ?_
    rintro s ⟨j, b, M, hj, hb8, hwant, tm, hX, ho, t0, t1, t5, t6, t7, t8⟩
    have hM := (Sees.ext hX).items h
    by_cases hj7 : j < 7
    · have hle : (2 + (j : Int)) ≤ 8 := by omega
      have f1 := base_fac hb (f := 2 + (j : Int)) (by omega)
      have f2 := base_fac hb (f := b) (by omega)
      have i1 := hM.at_ hkl
      have i2 := hM.ld hkl
      simp (config := {implicitDefEqProofs := false, maxDischargeDepth := 20}) (disch := first | omega | (simp only [lenE]; done) | (simp only [lenE]; omega) | rfl | (simp only [lenE, markR_len]; done) | (simp only [lenE, markR_len]; omega)) only [runE, mapE, listE, initT_5, initT_6, initT_7, initT_8, resV, oneV, binA, unA, reduceCtorEq, Nat.reduceEqDiff, Nat.reduceAdd, Nat.reduceLT, Nat.reduceLeDiff, Nat.reduceMul, Nat.reduceSub, ↓reduceIte, decide_true, decide_false, Bool.true_eq_false, Bool.false_eq_true, Bool.not_true, Bool.not_false, if_true, if_false, and_true, true_and, memE, celE, w64, Nat.zero_add, Nat.add_zero, Nat.mul_one, putL, and_self, ldn, tm, t0, t1, t5, t6, t7, t8, hle, i1, i2]
      refine rcallH_rc (specDaily_rc _ (L.getD k It0) (base * (2 + (j : Int))) hg (by omega)) ?_
      rintro r new1 ⟨rfl, nr1⟩
      have i3 := (hM.ext new1).ld hkl
      simp (config := {implicitDefEqProofs := false, maxDischargeDepth := 20}) (disch := first | omega | (simp only [lenE]; done) | (simp only [lenE]; omega) | rfl | (simp only [lenE, markR_len]; done) | (simp only [lenE, markR_len]; omega)) only [runE, mapE, listE, initT_5, initT_6, initT_7, initT_8, resV, oneV, binA, unA, reduceCtorEq, Nat.reduceEqDiff, Nat.reduceAdd, Nat.reduceLT, Nat.reduceLeDiff, Nat.reduceMul, Nat.reduceSub, ↓reduceIte, decide_true, decide_false, Bool.true_eq_false, Bool.false_eq_true, Bool.not_true, Bool.not_false, if_true, if_false, and_true, true_and, memE, celE, w64, Nat.zero_add, Nat.add_zero, Nat.mul_one, putL, and_self, ldn, tm, t0, t1, t5, t6, t7, t8, i1, i3]
      refine rcallH_rc (specDaily_rc _ (L.getD k It0) (base * b) hg (by omega)) ?_
      rintro r new2 ⟨rfl, nr2⟩
      simp (config := {implicitDefEqProofs := false, maxDischargeDepth := 20}) (disch := first | omega | (simp only [lenE]; done) | (simp only [lenE]; omega) | rfl | (simp only [lenE, markR_len]; done) | (simp only [lenE, markR_len]; omega)) only [runE, mapE, listE, initT_5, initT_6, initT_7, initT_8, resV, oneV, binA, unA, reduceCtorEq, Nat.reduceEqDiff, Nat.reduceAdd, Nat.reduceLT, Nat.reduceLeDiff, Nat.reduceMul, Nat.reduceSub, ↓reduceIte, decide_true, decide_false, Bool.true_eq_false, Bool.false_eq_true, Bool.not_true, Bool.not_false, if_true, if_false, and_true, true_and, memE, celE, w64, Nat.zero_add, Nat.add_zero, Nat.mul_one, putL, and_self, ldn]
      refine rcallH_rc (specLess_rc _ _ _ (daily_mul hg (by omega) (by omega)) (daily_mul hg (by omega) (by omega))) ?_
      rintro r new3 ⟨rfl, nr3⟩
      have hX3 := ((hX.app nr1).app nr2).app nr3
      have o3 := ((ho.ext new1).ext new2).ext new3
      have e0 : (2 + (j : Int)) + 1 = 2 + ((j + 1 : Nat) : Int) := by push_cast; omega
      have e1 : upFrom (2 + (j : Int)) (7 - j) = (2 + (j : Int)) :: upFrom (2 + ((j + 1 : Nat) : Int)) (7 - (j + 1)) := by
        rw [show 7 - j = (7 - (j + 1)) + 1 by omega, upFrom, e0]
      rw [e1] at hwant
      simp only [bestIn] at hwant
      rw [show dailyLt (L.getD k It0) base (2 + (j : Int)) b = lessF (dailyF (L.getD k It0) (base * (2 + (j : Int)))) (dailyF (L.getD k It0) (base * b)) from rfl] at hwant
      cases hls : lessF (dailyF (L.getD k It0) (base * (2 + (j : Int)))) (dailyF (L.getD k It0) (base * b)) with
      | true =>
        rw [hls] at hwant
        simp (config := {implicitDefEqProofs := false, maxDischargeDepth := 20}) (disch := first | omega | (simp only [lenE]; done) | (simp only [lenE]; omega) | rfl | (simp only [lenE, markR_len]; done) | (simp only [lenE, markR_len]; omega)) only [runE, mapE, listE, initT_5, initT_6, initT_7, initT_8, resV, oneV, binA, unA, reduceCtorEq, Nat.reduceEqDiff, Nat.reduceAdd, Nat.reduceLT, Nat.reduceLeDiff, Nat.reduceMul, Nat.reduceSub, ↓reduceIte, decide_true, decide_false, Bool.true_eq_false, Bool.false_eq_true, Bool.not_true, Bool.not_false, if_true, if_false, and_true, true_and, memE, celE, w64, Nat.zero_add, Nat.add_zero, Nat.mul_one, putL, and_self, ldn, tm, t0, t1, t5, t6, t7, t8]
        refine ⟨⟨j + 1, 2 + (j : Int), _, by omega, by omega, by simpa using hwant, rfl, hX3, o3, rfl, by push_cast; congr 1⟩, ?_⟩
        simp [intOf]; omega
      | false =>
        rw [hls] at hwant
        simp (config := {implicitDefEqProofs := false, maxDischargeDepth := 20}) (disch := first | omega | (simp only [lenE]; done) | (simp only [lenE]; omega) | rfl | (simp only [lenE, markR_len]; done) | (simp only [lenE, markR_len]; omega)) only [runE, mapE, listE, initT_5, initT_6, initT_7, initT_8, resV, oneV, binA, unA, reduceCtorEq, Nat.reduceEqDiff, Nat.reduceAdd, Nat.reduceLT, Nat.reduceLeDiff, Nat.reduceMul, Nat.reduceSub, ↓reduceIte, decide_true, decide_false, Bool.true_eq_false, Bool.false_eq_true, Bool.not_true, Bool.not_false, if_true, if_false, and_true, true_and, memE, celE, w64, Nat.zero_add, Nat.add_zero, Nat.mul_one, putL, and_self, ldn, tm, t0, t1, t5, t6, t7, t8]
        refine ⟨⟨j + 1, b, _, by omega, hb8, by simpa using hwant, rfl, hX3, o3, rfl, by push_cast; congr 1⟩, ?_⟩
        simp [intOf]; omega
    · have e : j = 7 := by omega
      subst e
      have hle : ¬ ((2 + ((7 : Nat) : Int)) ≤ 8) := by omega
      have hwant : want = b := hwant
      subst hwant
      have hlc : (chosenL (L.take k) base).length = k := by unfold chosenL; rw [List.length_map, List.length_take]; omega
      have hap := app_num (x := want) ho (by omega) rfl hlc.symm
      have e : chosenOne (L.getD k It0) base = want := hw.symm
      rw [e] at hct
      rw [← hct] at hap
      simp (config := {implicitDefEqProofs := false, maxDischargeDepth := 20}) (disch := first | omega | (simp only [lenE]; done) | (simp only [lenE]; omega) | rfl | (simp only [lenE, markR_len]; done) | (simp only [lenE, markR_len]; omega)) only [runE, mapE, listE, initT_5, initT_6, initT_7, initT_8, resV, oneV, binA, unA, reduceCtorEq, Nat.reduceEqDiff, Nat.reduceAdd, Nat.reduceLT, Nat.reduceLeDiff, Nat.reduceMul, Nat.reduceSub, ↓reduceIte, decide_true, decide_false, Bool.true_eq_false, Bool.false_eq_true, Bool.not_true, Bool.not_false, if_true, if_false, and_true, true_and, memE, celE, w64, Nat.zero_add, Nat.add_zero, Nat.mul_one, putL, and_self, ldn, tm, t0, t1, t5, t6, t7, t8, hle, bsl_one, hap]
      refine ⟨⟨k + 1, _, _, by omega, rfl, ((hX.dead hid).one _ _).one _ _, ?_, OwnR.here _ _ _ ?_, rfl, by simp⟩, ?_⟩
      · have := hX.len; omega
      · simp
      · simp [intOf]; omega
  · have hlt : ¬ ((k : Int) < L.length) := by omega
    have e : k = L.length := by omega
    subst e
    rw [List.take_length] at ho
    simp (config := {implicitDefEqProofs := false, maxDischargeDepth := 20}) (disch := first | omega | (simp only [lenE]; done) | (simp only [lenE]; omega) | rfl | (simp only [lenE, markR_len]; done) | (simp only [lenE, markR_len]; omega)) only [runE, mapE, listE, initT_5, initT_6, initT_7, initT_8, resV, oneV, binA, unA, reduceCtorEq, Nat.reduceEqDiff, Nat.reduceAdd, Nat.reduceLT, Nat.reduceLeDiff, Nat.reduceMul, Nat.reduceSub, ↓reduceIte, decide_true, decide_false, Bool.true_eq_false, Bool.false_eq_true, Bool.not_true, Bool.not_false, if_true, if_false, and_true, true_and, memE, celE, w64, Nat.zero_add, Nat.add_zero, Nat.mul_one, putL, and_self, ldn, tm, t0, t1, t5, t6, hl, hlt]
    have hlc : (chosenL L base).length = L.length := by simp [chosenL]
    refine ext_ansO (f := _root_.id) hX fun M' hM => ⟨by omega, id, 1, by rw [hlc], hid, ho.lt, ho.at_ (hM _ hid ho.lt)⟩
theorem bld_rep (a b c d e f : Value) (u v w x y : Value) (k : IntKind) (z : Int) : bldA [a, b, c, d, e, f] [(0, 5, .agg #[u, v, w, x, y]), (5, 1, .int k z)] = some (.agg #[u, v, w, x, y, .int k z]) := rfl
def repV (x : It) (base : Int) : Value := .agg #[.int .i64 x.daily, .int .i64 x.setup, .int .i64 x.hold, .int .i64 x.made, .int .i64 x.pause, .int .i64 base]
theorem repChoices_rc (m : Mem) (x : It) (base : Int) : RC Try.prog 151 [repV x base] m (AnsO m (IntsO (upFrom 1 8)) id) := by
  refine rc_of_run mixed ok_impl_repeated__choices (by simp) (go_start _ _ _ ?_)
  simp (config := {implicitDefEqProofs := false, maxDischargeDepth := 20}) (disch := first | omega | (simp only [lenE]; done) | (simp only [lenE]; omega) | rfl | (simp only [lenE, markR_len]; done) | (simp only [lenE, markR_len]; omega)) only [runE, mapE, listE, initT_5, initT_6, initT_7, initT_8, resV, oneV, binA, unA, reduceCtorEq, Nat.reduceEqDiff, Nat.reduceAdd, Nat.reduceLT, Nat.reduceLeDiff, Nat.reduceMul, Nat.reduceSub, ↓reduceIte, decide_true, decide_false, Bool.true_eq_false, Bool.false_eq_true, Bool.not_true, Bool.not_false, if_true, if_false, and_true, true_and, memE, celE, w64, Nat.zero_add, Nat.add_zero, Nat.mul_one, putL, and_self, ldn, c_impl_repeated__choices, r_impl_repeated__choices, repV]
  obtain ⟨E, hE⟩ : ∃ M, M = roM m ++ [⟨.own, 117, [.int .i64 x.daily, .int .i64 x.setup, .int .i64 x.hold, .int .i64 x.made, .int .i64 x.pause, .int .i64 base]⟩] := ⟨_, rfl⟩
  rw [← hE]
  have hX : Ext m E := by rw [hE]; exact (Ext.refl m).one _ _
  clear hE
  refine callH_rc (countsUpTo_rc _ 8 (by omega)) ?_
  rintro r new ⟨nrn, lv, rfl, hA⟩
  simp (config := {implicitDefEqProofs := false, maxDischargeDepth := 20}) (disch := first | omega | (simp only [lenE]; done) | (simp only [lenE]; omega) | rfl | (simp only [lenE, markR_len]; done) | (simp only [lenE, markR_len]; omega)) only [runE, mapE, listE, initT_5, initT_6, initT_7, initT_8, resV, oneV, binA, unA, reduceCtorEq, Nat.reduceEqDiff, Nat.reduceAdd, Nat.reduceLT, Nat.reduceLeDiff, Nat.reduceMul, Nat.reduceSub, ↓reduceIte, decide_true, decide_false, Bool.true_eq_false, Bool.false_eq_true, Bool.not_true, Bool.not_false, if_true, if_false, and_true, true_and, memE, celE, w64, Nat.zero_add, Nat.add_zero, Nat.mul_one, putL, and_self, ldn, id_eq]
  exact Ext.pass hX nrn (IntsO.wide _) hA
theorem OwnB.ld56 {M : Mem} {id : Nat} {e : TypeId} {a b c d f g : Value} (h : OwnB M id e [a, b, c, d, f, g]) : ldA M (some 5) (.pointer (some ⟨id, 0, none⟩)) = some (.agg #[a, b, c, d, f]) ∧ ldA M none (.pointer (some ⟨id, 5, none⟩)) = some g := by
  unfold OwnB at h
  constructor <;> simp [ldA, rdn, rdc, h]
theorem repCost_rc (m : Mem) (x : It) (base c : Int) (hg : GoodI x) (hb : 1 ≤ base ∧ base ≤ 32) (hc : 1 ≤ c ∧ c ≤ 8) : RC Try.prog 152 [repV x base, .int .i64 c] m (AnsV (frV (dailyF x (base * c)))) := by
  refine rc_of_run mixed ok_impl_repeated__costOf (by simp) (go_start _ _ _ ?_)
  have f1 := base_fac hb hc
  simp (config := {implicitDefEqProofs := false, maxDischargeDepth := 20}) (disch := first | omega | (simp only [lenE]; done) | (simp only [lenE]; omega) | rfl | (simp only [lenE, markR_len]; done) | (simp only [lenE, markR_len]; omega)) only [runE, mapE, listE, initT_5, initT_6, initT_7, initT_8, resV, oneV, binA, unA, reduceCtorEq, Nat.reduceEqDiff, Nat.reduceAdd, Nat.reduceLT, Nat.reduceLeDiff, Nat.reduceMul, Nat.reduceSub, ↓reduceIte, decide_true, decide_false, Bool.true_eq_false, Bool.false_eq_true, Bool.not_true, Bool.not_false, if_true, if_false, and_true, true_and, memE, celE, w64, Nat.zero_add, Nat.add_zero, Nat.mul_one, putL, and_self, ldn, c_impl_repeated__costOf, r_impl_repeated__costOf, repV]

  obtain ⟨E, hE⟩ : ∃ M, M = roM m ++ [⟨.own, 117, [.int .i64 x.daily, .int .i64 x.setup, .int .i64 x.hold, .int .i64 x.made, .int .i64 x.pause, .int .i64 base]⟩] ++ [⟨.own, 67, [.int .i64 0, .int .i64 0]⟩] := ⟨_, rfl⟩
  rw [← hE]
  have hX : Ext m E := by rw [hE]; exact (((Ext.refl m).one _ _).one _ _)
  have LE : E.length = m.length + 2 := by rw [hE]; simp [roM_len]
  have o0 : OwnB E (m.length) 117 [.int .i64 x.daily, .int .i64 x.setup, .int .i64 x.hold, .int .i64 x.made, .int .i64 x.pause, .int .i64 base] := by rw [hE]; exact (OwnB.here (by simp [roM_len])).ext _
  have o1 : OwnB E (m.length + 1) 67 [.int .i64 0, .int .i64 0] := by rw [hE]; exact OwnB.here (by simp [roM_len])
  clear hE
  refine callH_rc (implDaily_rc _ x (base * c) hg (by omega)) ?_
  rintro r new0 ⟨rfl, nr0⟩
  generalize dailyF x (base * c) = z at *
  have hst := (o1.ext new0).st (off := 0) (vs := [.int .i64 z.1, .int .i64 z.2]) (by simp) rfl
  have hrd := ((o1.ext new0).set_self 67 [.int .i64 z.1, .int .i64 z.2]).rd
  simp (config := {implicitDefEqProofs := false, maxDischargeDepth := 20}) (disch := first | omega | (simp only [lenE]; done) | (simp only [lenE]; omega) | rfl | (simp only [lenE, markR_len]; done) | (simp only [lenE, markR_len]; omega)) only [runE, mapE, listE, initT_5, initT_6, initT_7, initT_8, resV, oneV, binA, unA, reduceCtorEq, Nat.reduceEqDiff, Nat.reduceAdd, Nat.reduceLT, Nat.reduceLeDiff, Nat.reduceMul, Nat.reduceSub, ↓reduceIte, decide_true, decide_false, Bool.true_eq_false, Bool.false_eq_true, Bool.not_true, Bool.not_false, if_true, if_false, and_true, true_and, memE, celE, w64, Nat.zero_add, Nat.add_zero, Nat.mul_one, putL, and_self, ldn, hst, hrd, frV, stP_agg2]
  exact ext_ansV ((hX.app nr0).put (by omega) _ _) rfl

theorem paceRep (m : Mem) (x : It) (base : Int) (h : GoodI x) (hb : 1 ≤ base ∧ base ≤ 32) : Pace m (.iface 117 (repV x base)) (upFrom 1 8) (fun c => dailyF x (base * c)) := by
  refine ⟨⟨_, _, rfl⟩, ⟨151, repV x base, by kernel_rfl, fun M _ => (repChoices_rc M x base).mono fun _ _ => ansO_ints⟩, ⟨152, repV x base, by kernel_rfl, fun M c _ hc => ?_⟩, fun c hc => ?_⟩
  · have := upFrom_mem.1 hc
    exact repCost_rc M x base c h hb (by omega)
  · have := upFrom_mem.1 hc
    have f1 := base_fac hb (f := c) (by omega)
    exact daily_fit h (by omega)
theorem bestFactors_rc (m : Mem) (v : Value) (L : List It) (base : Int) (h : ItemsA m v L) (hF : GoodF L) (hb : 1 ≤ base ∧ base ≤ 32) :
    RC Try.prog 78 [v, .int .i64 base] m (AnsO m (IntsO (chosenL L base)) id) := by
  refine rc_of_run mixed ok_impl_bestFactors (by simp) (go_start _ _ _ ?_)
  have hlen := hF.len
  have hl0 := h.len
  simp (config := {implicitDefEqProofs := false, maxDischargeDepth := 20}) (disch := first | omega | (simp only [lenE]; done) | (simp only [lenE]; omega) | rfl | (simp only [lenE, markR_len]; done) | (simp only [lenE, markR_len]; omega)) only [runE, mapE, listE, initT_5, initT_6, initT_7, initT_8, resV, oneV, binA, unA, reduceCtorEq, Nat.reduceEqDiff, Nat.reduceAdd, Nat.reduceLT, Nat.reduceLeDiff, Nat.reduceMul, Nat.reduceSub, ↓reduceIte, decide_true, decide_false, Bool.true_eq_false, Bool.false_eq_true, Bool.not_true, Bool.not_false, if_true, if_false, and_true, true_and, memE, celE, w64, Nat.zero_add, Nat.add_zero, Nat.mul_one, putL, and_self, ldn, c_impl_bestFactors, r_impl_bestFactors, bsl_none, hl0]
  refine loop_inv mixed (fun s => ∃ (k : Nat) (M : Mem) (id : Nat), k ≤ L.length ∧ s.m = M ∧ Ext m M ∧ m.length ≤ id ∧ OwnR M id (chosenL (L.take k) base) ∧ s.t 1 = .int .i64 base ∧ s.t 5 = .slice (some ⟨id, 0, none⟩) k 1 ∧ s.t 11 = v ∧ s.t 12 = .int .i64 (L.length : Int) ∧ s.t 13 = .int .i64 (k : Int)) (fun s => L.length - (intOf (s.t 13)).toNat)
    ⟨0, _, m.length, by omega, rfl, (Ext.refl m).one _ _, Nat.le_refl _, by exact OwnR.here (roM m) [] m.length (roM_len m).symm, rfl, by first | rfl | simp [roM_len], rfl, rfl, rfl⟩ ?_
  rintro s ⟨k, M, id, hk, tm, hX, hid, ho, t1, t5, t11, t12, t13⟩
  have hM := (Sees.ext hX).items h
  by_cases hkl : k < L.length
  · have hlt : (k : Int) < L.length := by omega
    have hg := hF.all k hkl
    change GoodI (L.getD k It0) at hg
    have hct := chosen_take L base k hkl
    have i1 := hM.at_ hkl
    have i2 := hM.ld hkl
    generalize L.getD k It0 = x at *
    simp (config := {implicitDefEqProofs := false, maxDischargeDepth := 20}) (disch := first | omega | (simp only [lenE]; done) | (simp only [lenE]; omega) | rfl | (simp only [lenE, markR_len]; done) | (simp only [lenE, markR_len]; omega)) only [runE, mapE, listE, initT_5, initT_6, initT_7, initT_8, resV, oneV, binA, unA, reduceCtorEq, Nat.reduceEqDiff, Nat.reduceAdd, Nat.reduceLT, Nat.reduceLeDiff, Nat.reduceMul, Nat.reduceSub, ↓reduceIte, decide_true, decide_false, Bool.true_eq_false, Bool.false_eq_true, Bool.not_true, Bool.not_false, if_true, if_false, and_true, true_and, memE, celE, w64, Nat.zero_add, Nat.add_zero, Nat.mul_one, putL, and_self, ldn, tm, t1, t5, t11, t12, t13, hlt, i1, i2, itV, stP_agg5, bld5, bld_rep]
    obtain ⟨F, hF2⟩ : ∃ F, F = M ++ [⟨.own, 25, [.int .i64 x.daily, .int .i64 x.setup, .int .i64 x.hold, .int .i64 x.made, .int .i64 x.pause]⟩] := ⟨_, rfl⟩
    rw [← hF2]
    have hXF : Ext m F := by rw [hF2]; exact hX.one _ _
    have oF : OwnR F id (chosenL (L.take k) base) := by rw [hF2]; exact ho.ext _
    clear hF2
    refine callH_rc (bestChoice_rc _ _ _ _ (paceRep F x base hg hb)) ?_
    rintro r new ⟨rfl, nrn⟩
    have e : pickOf (fun c => dailyF x (base * c)) (upFrom 1 8) = chosenOne x base := rfl
    rw [e]
    obtain ⟨q, hq⟩ : ∃ q, q = chosenOne x base := ⟨_, rfl⟩
    rw [← hq, show decide (0 < (upFrom 1 8).length) = true from rfl]
    have hlc : (chosenL (L.take k) base).length = k := by unfold chosenL; rw [List.length_map, List.length_take]; omega
    have hap := app_num (x := q) (id2 := F.length + new.length) (oF.ext new) (by omega) (by simp) hlc.symm
    rw [← hq] at hct
    rw [← hct] at hap
    simp (config := {implicitDefEqProofs := false, maxDischargeDepth := 20}) (disch := first | omega | (simp only [lenE]; done) | (simp only [lenE]; omega) | rfl | (simp only [lenE, markR_len]; done) | (simp only [lenE, markR_len]; omega)) only [runE, mapE, listE, initT_5, initT_6, initT_7, initT_8, resV, oneV, binA, unA, reduceCtorEq, Nat.reduceEqDiff, Nat.reduceAdd, Nat.reduceLT, Nat.reduceLeDiff, Nat.reduceMul, Nat.reduceSub, ↓reduceIte, decide_true, decide_false, Bool.true_eq_false, Bool.false_eq_true, Bool.not_true, Bool.not_false, if_true, if_false, and_true, true_and, memE, celE, w64, Nat.zero_add, Nat.add_zero, Nat.mul_one, putL, and_self, ldn, tm, t1, t5, t11, t12, t13, ext_2_0, ext_2_1, bsl_one, hap]
    refine ⟨⟨k + 1, _, _, by omega, rfl, (((hXF.app nrn).dead hid).one _ _).one _ _, ?_, OwnR.here _ _ _ ?_, rfl, by simp⟩, ?_⟩
    · have := hXF.len; omega
    · simp
    · simp [intOf]; omega
  · have hlt : ¬ ((k : Int) < L.length) := by omega
    have e : k = L.length := by omega
    subst e
    rw [List.take_length] at ho
    simp (config := {implicitDefEqProofs := false, maxDischargeDepth := 20}) (disch := first | omega | (simp only [lenE]; done) | (simp only [lenE]; omega) | rfl | (simp only [lenE, markR_len]; done) | (simp only [lenE, markR_len]; omega)) only [runE, mapE, listE, initT_5, initT_6, initT_7, initT_8, resV, oneV, binA, unA, reduceCtorEq, Nat.reduceEqDiff, Nat.reduceAdd, Nat.reduceLT, Nat.reduceLeDiff, Nat.reduceMul, Nat.reduceSub, ↓reduceIte, decide_true, decide_false, Bool.true_eq_false, Bool.false_eq_true, Bool.not_true, Bool.not_false, if_true, if_false, and_true, true_and, memE, celE, w64, Nat.zero_add, Nat.add_zero, Nat.mul_one, putL, and_self, ldn, tm, t1, t5, t11, t12, t13, hlt]
    have hlc : (chosenL L base).length = L.length := by simp [chosenL]
    refine ext_ansO (f := _root_.id) hX fun M' hM => ⟨by omega, id, 1, by rw [hlc], hid, ho.lt, ho.at_ (hM _ hid ho.lt)⟩

end Go.Proofs.Ytmjnjhdacliieaa.Ab
