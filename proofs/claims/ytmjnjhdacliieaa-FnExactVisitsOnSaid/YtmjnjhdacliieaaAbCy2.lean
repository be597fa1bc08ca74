/- Daily costs, CycleCost, comparisons of fractions. -/
import Derived.Test.YtmjnjhdacliieaaAbCy1
namespace Go.Proofs.Ytmjnjhdacliieaa.Ab
open Go Go.RowKit
set_option linter.unusedVariables false
set_option linter.unusedSimpArgs false

theorem bld0 : bldA [.int .i64 0, .int .i64 0] [] = some (.agg #[.int .i64 0, .int .i64 0]) := rfl
theorem bld5 (a b c d e u v w x y : Value) : bldA [a, b, c, d, e] [(0, 5, .agg #[u, v, w, x, y])] = some (.agg #[u, v, w, x, y]) := rfl

theorem specDaily_rc (m : Mem) (x : It) (c : Int) (h : GoodI x) (hc : 1 ≤ c ∧ c ≤ 512) : RC Try.prog 65 [itV x, .int .i64 c] m (AnsV (frV (dailyF x c))) := by
  refine rc_of_run mixed ok_spec_l8Daily (by simp) (go_start _ _ _ ?_)
  have h0 := h.hd
  have h1 := h.hdc hc
  have h2 := h.setup
  simp (config := {implicitDefEqProofs := false, maxDischargeDepth := 20}) (disch := first | omega | (simp only [lenE]; done) | (simp only [lenE]; omega) | rfl | (simp only [lenE, markR_len]; done) | (simp only [lenE, markR_len]; omega)) only [runE, mapE, listE, initT_5, initT_6, initT_7, initT_8, resV, oneV, binA, unA, reduceCtorEq, Nat.reduceEqDiff, Nat.reduceAdd, Nat.reduceLT, Nat.reduceLeDiff, Nat.reduceMul, Nat.reduceSub, ↓reduceIte, decide_true, decide_false, Bool.true_eq_false, Bool.false_eq_true, Bool.not_true, Bool.not_false, if_true, if_false, and_true, true_and, memE, celE, w64, Nat.zero_add, Nat.add_zero, Nat.mul_one, putL, and_self, ldn, c_spec_l8Daily, r_spec_l8Daily, itV]
  obtain ⟨E, hE⟩ : ∃ M, M = roM m ++ [⟨.own, 25, [.int .i64 x.daily, .int .i64 x.setup, .int .i64 x.hold, .int .i64 x.made, .int .i64 x.pause]⟩] ++ [⟨.own, 28, [.int .i64 0, .int .i64 0]⟩] := ⟨_, rfl⟩
  rw [← hE]
  have hX : Ext m E := by rw [hE]; exact (((Ext.refl m).one _ _).one _ _)
  have LE : E.length = m.length + 2 := by rw [hE]; simp [roM_len]
  have o0 : OwnB E (m.length) 25 [.int .i64 x.daily, .int .i64 x.setup, .int .i64 x.hold, .int .i64 x.made, .int .i64 x.pause] := by rw [hE]; exact (OwnB.here (by simp [roM_len])).ext _
  have o1 : OwnB E (m.length + 1) 28 [.int .i64 0, .int .i64 0] := by rw [hE]; exact OwnB.here (by simp [roM_len])
  clear hE
  refine callH_rc (specCut_rc _ (2 * x.setup + x.hold * x.daily * c * c) (2 * c) ⟨by omega, by omega⟩ ⟨by omega, by omega⟩) ?_
  rintro r new0 ⟨rfl, nr0⟩
  rw [show fr (2 * x.setup + x.hold * x.daily * c * c) (2 * c) = dailyF x c from rfl]
  obtain ⟨z, hz⟩ : ∃ z, z = dailyF x c := ⟨_, rfl⟩
  rw [← hz]
  have hst := (o1.ext new0).st (off := 0) (vs := [.int .i64 z.1, .int .i64 z.2]) (by simp) rfl
  have hrd := ((o1.ext new0).set_self 28 [.int .i64 z.1, .int .i64 z.2]).rd
  simp (config := {implicitDefEqProofs := false, maxDischargeDepth := 20}) (disch := first | omega | (simp only [lenE]; done) | (simp only [lenE]; omega) | rfl | (simp only [lenE, markR_len]; done) | (simp only [lenE, markR_len]; omega)) only [runE, mapE, listE, initT_5, initT_6, initT_7, initT_8, resV, oneV, binA, unA, reduceCtorEq, Nat.reduceEqDiff, Nat.reduceAdd, Nat.reduceLT, Nat.reduceLeDiff, Nat.reduceMul, Nat.reduceSub, ↓reduceIte, decide_true, decide_false, Bool.true_eq_false, Bool.false_eq_true, Bool.not_true, Bool.not_false, if_true, if_false, and_true, true_and, memE, celE, w64, Nat.zero_add, Nat.add_zero, Nat.mul_one, putL, and_self, ldn, hst, hrd, frV, stP_agg2]
  exact ext_ansV ((hX.app nr0).put (by omega) _ _) rfl

theorem implDaily_rc (m : Mem) (x : It) (c : Int) (h : GoodI x) (hc : 1 ≤ c ∧ c ≤ 512) : RC Try.prog 66 [itV x, .int .i64 c] m (AnsV (frV (dailyF x c))) := by
  refine rc_of_run mixed ok_impl_ordered__costOf (by simp) (go_start _ _ _ ?_)
  have h0 := h.hd
  have h1 := h.hdc hc
  have h2 := h.setup
  simp (config := {implicitDefEqProofs := false, maxDischargeDepth := 20}) (disch := first | omega | (simp only [lenE]; done) | (simp only [lenE]; omega) | rfl | (simp only [lenE, markR_len]; done) | (simp only [lenE, markR_len]; omega)) only [runE, mapE, listE, initT_5, initT_6, initT_7, initT_8, resV, oneV, binA, unA, reduceCtorEq, Nat.reduceEqDiff, Nat.reduceAdd, Nat.reduceLT, Nat.reduceLeDiff, Nat.reduceMul, Nat.reduceSub, ↓reduceIte, decide_true, decide_false, Bool.true_eq_false, Bool.false_eq_true, Bool.not_true, Bool.not_false, if_true, if_false, and_true, true_and, memE, celE, w64, Nat.zero_add, Nat.add_zero, Nat.mul_one, putL, and_self, ldn, c_impl_ordered__costOf, r_impl_ordered__costOf, itV]
  obtain ⟨E, hE⟩ : ∃ M, M = roM m ++ [⟨.own, 69, [.int .i64 x.daily, .int .i64 x.setup, .int .i64 x.hold, .int .i64 x.made, .int .i64 x.pause]⟩] ++ [⟨.own, 67, [.int .i64 0, .int .i64 0]⟩] := ⟨_, rfl⟩
  rw [← hE]
  have hX : Ext m E := by rw [hE]; exact (((Ext.refl m).one _ _).one _ _)
  have LE : E.length = m.length + 2 := by rw [hE]; simp [roM_len]
  have o0 : OwnB E (m.length) 69 [.int .i64 x.daily, .int .i64 x.setup, .int .i64 x.hold, .int .i64 x.made, .int .i64 x.pause] := by rw [hE]; exact (OwnB.here (by simp [roM_len])).ext _
  have o1 : OwnB E (m.length + 1) 67 [.int .i64 0, .int .i64 0] := by rw [hE]; exact OwnB.here (by simp [roM_len])
  clear hE
  refine rcallH_rc (implCut_rc _ x.setup c ⟨by omega, by omega⟩ ⟨by omega, by omega⟩) ?_
  rintro r new0 ⟨rfl, nr0⟩
  simp (config := {implicitDefEqProofs := false, maxDischargeDepth := 20}) (disch := first | omega | (simp only [lenE]; done) | (simp only [lenE]; omega) | rfl | (simp only [lenE, markR_len]; done) | (simp only [lenE, markR_len]; omega)) only [runE, mapE, listE, initT_5, initT_6, initT_7, initT_8, resV, oneV, binA, unA, reduceCtorEq, Nat.reduceEqDiff, Nat.reduceAdd, Nat.reduceLT, Nat.reduceLeDiff, Nat.reduceMul, Nat.reduceSub, ↓reduceIte, decide_true, decide_false, Bool.true_eq_false, Bool.false_eq_true, Bool.not_true, Bool.not_false, if_true, if_false, and_true, true_and, memE, celE, w64, Nat.zero_add, Nat.add_zero, Nat.mul_one, putL, and_self, ldn, (o0.ext new0).rd]
  refine rcallH_rc (implCut_rc _ (x.hold * x.daily * c) 2 ⟨by omega, by omega⟩ ⟨by omega, by omega⟩) ?_
  rintro r new1 ⟨rfl, nr1⟩
  simp (config := {implicitDefEqProofs := false, maxDischargeDepth := 20}) (disch := first | omega | (simp only [lenE]; done) | (simp only [lenE]; omega) | rfl | (simp only [lenE, markR_len]; done) | (simp only [lenE, markR_len]; omega)) only [runE, mapE, listE, initT_5, initT_6, initT_7, initT_8, resV, oneV, binA, unA, reduceCtorEq, Nat.reduceEqDiff, Nat.reduceAdd, Nat.reduceLT, Nat.reduceLeDiff, Nat.reduceMul, Nat.reduceSub, ↓reduceIte, decide_true, decide_false, Bool.true_eq_false, Bool.false_eq_true, Bool.not_true, Bool.not_false, if_true, if_false, and_true, true_and, memE, celE, w64, Nat.zero_add, Nat.add_zero, Nat.mul_one, putL, and_self, ldn]
  have f1 := fr_spec (a := x.setup) (b := c) (by omega) (by omega)
  have f2 := fr_spec (a := x.hold * x.daily * c) (b := 2) (by omega) (by omega)
  have f3 := mul_le2 (a := (fr x.setup c).1) (x := (fr (x.hold * x.daily * c) 2).2) (A := 99) (B := 2) (by omega) (by omega)
  have f4 := mul_le2 (a := (fr (x.hold * x.daily * c) 2).1) (x := (fr x.setup c).2) (A := 92160) (B := 512) (by omega) (by omega)
  have f5 := mul_le2 (a := (fr x.setup c).2) (x := (fr (x.hold * x.daily * c) 2).2) (A := 512) (B := 2) (by omega) (by omega)
  refine rcallH_rc (implPlus_rc _ (fr x.setup c) (fr (x.hold * x.daily * c) 2) f1.1 f1.2.1 f2.1 f2.2.1 (by omega) (by omega)) ?_
  rintro r new2 ⟨rfl, nr2⟩
  rw [daily_eq h hc]
  obtain ⟨z, hz⟩ : ∃ z, z = dailyF x c := ⟨_, rfl⟩
  rw [← hz]
  have hst := (((o1.ext new0).ext new1).ext new2).st (off := 0) (vs := [.int .i64 z.1, .int .i64 z.2]) (by simp) rfl
  have hrd := ((((o1.ext new0).ext new1).ext new2).set_self 67 [.int .i64 z.1, .int .i64 z.2]).rd
  simp (config := {implicitDefEqProofs := false, maxDischargeDepth := 20}) (disch := first | omega | (simp only [lenE]; done) | (simp only [lenE]; omega) | rfl | (simp only [lenE, markR_len]; done) | (simp only [lenE, markR_len]; omega)) only [runE, mapE, listE, initT_5, initT_6, initT_7, initT_8, resV, oneV, binA, unA, reduceCtorEq, Nat.reduceEqDiff, Nat.reduceAdd, Nat.reduceLT, Nat.reduceLeDiff, Nat.reduceMul, Nat.reduceSub, ↓reduceIte, decide_true, decide_false, Bool.true_eq_false, Bool.false_eq_true, Bool.not_true, Bool.not_false, if_true, if_false, and_true, true_and, memE, celE, w64, Nat.zero_add, Nat.add_zero, Nat.mul_one, putL, and_self, ldn, hst, hrd, frV, stP_agg2]
  exact ext_ansV ((((hX.app nr0).app nr1).app nr2).put (by omega) _ _) rfl

theorem specLess_rc (m : Mem) (p q : Int × Int) (h1 : 0 ≤ p.1 * q.2 ∧ p.1 * q.2 ≤ 9223372036854775807) (h2 : 0 ≤ q.1 * p.2 ∧ q.1 * p.2 ≤ 9223372036854775807) :
    RC Try.prog 69 [frV p, frV q] m (AnsV (.bool (lessF p q))) := by
  refine rc_of_run mixed ok_spec_l8Less (by simp) (go_start _ _ _ ?_)
  unfold lessF
  simp (config := {implicitDefEqProofs := false, maxDischargeDepth := 20}) (disch := first | omega | (simp only [lenE]; done) | (simp only [lenE]; omega) | rfl | (simp only [lenE, markR_len]; done) | (simp only [lenE, markR_len]; omega)) only [runE, mapE, listE, initT_5, initT_6, initT_7, initT_8, resV, oneV, binA, unA, reduceCtorEq, Nat.reduceEqDiff, Nat.reduceAdd, Nat.reduceLT, Nat.reduceLeDiff, Nat.reduceMul, Nat.reduceSub, ↓reduceIte, decide_true, decide_false, Bool.true_eq_false, Bool.false_eq_true, Bool.not_true, Bool.not_false, if_true, if_false, and_true, true_and, memE, celE, w64, Nat.zero_add, Nat.add_zero, Nat.mul_one, putL, and_self, ldn, c_spec_l8Less, r_spec_l8Less, frV, iada_0, iada_1]
  try simp only [List.append_assoc, List.cons_append, List.nil_append, List.append_nil]
  exact ⟨_, rfl, by (repeat (first | exact noRo_nil | assumption | apply noRo_own | apply noRo_dead | apply noRo_app)), rfl, by (repeat (first | exact noRo_nil | assumption | apply noRo_own | apply noRo_dead | apply noRo_app))⟩

theorem in1 {lo hi : Int} {c : Int} (h : inR lo hi c = true) : lo ≤ c ∧ c ≤ hi := inR_iff.1 h
/-- The answer of CycleCost. -/
def costC (x : It) (c : Int) : Int × Int := if x.good && inR 1 64 c then dailyF x c else (0, 0)

theorem specCycleCost_rc (m : Mem) (x : It) (c : Int) : RC Try.prog 22 [itV x, .int .i64 c] m (AnsV (.tuple #[frV (costC x c), .bool (x.good && inR 1 64 c)])) := by
  refine rc_of_run mixed ok_spec_CycleCost (by simp) (go_start _ _ _ ?_)
  unfold costC
  simp (config := {implicitDefEqProofs := false, maxDischargeDepth := 20}) (disch := first | omega | (simp only [lenE]; done) | (simp only [lenE]; omega) | rfl | (simp only [lenE, markR_len]; done) | (simp only [lenE, markR_len]; omega)) only [runE, mapE, listE, initT_5, initT_6, initT_7, initT_8, resV, oneV, binA, unA, reduceCtorEq, Nat.reduceEqDiff, Nat.reduceAdd, Nat.reduceLT, Nat.reduceLeDiff, Nat.reduceMul, Nat.reduceSub, ↓reduceIte, decide_true, decide_false, Bool.true_eq_false, Bool.false_eq_true, Bool.not_true, Bool.not_false, if_true, if_false, and_true, true_and, memE, celE, w64, Nat.zero_add, Nat.add_zero, Nat.mul_one, putL, and_self, ldn, c_spec_CycleCost, r_spec_CycleCost, itV]
  obtain ⟨E, hE⟩ : ∃ M, M = roM m ++ [⟨.own, 25, [.int .i64 x.daily, .int .i64 x.setup, .int .i64 x.hold, .int .i64 x.made, .int .i64 x.pause]⟩] ++ [⟨.own, 28, [.int .i64 0, .int .i64 0]⟩] := ⟨_, rfl⟩
  rw [← hE]
  have hX : Ext m E := by rw [hE]; exact (((Ext.refl m).one _ _).one _ _)
  have LE : E.length = m.length + 2 := by rw [hE]; simp [roM_len]
  have o0 : OwnB E (m.length) 25 [.int .i64 x.daily, .int .i64 x.setup, .int .i64 x.hold, .int .i64 x.made, .int .i64 x.pause] := by rw [hE]; exact (OwnB.here (by simp [roM_len])).ext _
  have o1 : OwnB E (m.length + 1) 28 [.int .i64 0, .int .i64 0] := by rw [hE]; exact OwnB.here (by simp [roM_len])
  clear hE
  refine callH_rc (l8Item_rc _ x) ?_
  rintro r new0 ⟨rfl, nr0⟩
  cases hg : x.good with
  | false =>
    have hst := (o1.ext new0).st (off := 0) (vs := [.int .i64 0, .int .i64 0]) (by simp) rfl
    have hrd := ((o1.ext new0).set_self 28 [.int .i64 0, .int .i64 0]).rd
    simp (config := {implicitDefEqProofs := false, maxDischargeDepth := 20}) (disch := first | omega | (simp only [lenE]; done) | (simp only [lenE]; omega) | rfl | (simp only [lenE, markR_len]; done) | (simp only [lenE, markR_len]; omega)) only [runE, mapE, listE, initT_5, initT_6, initT_7, initT_8, resV, oneV, binA, unA, reduceCtorEq, Nat.reduceEqDiff, Nat.reduceAdd, Nat.reduceLT, Nat.reduceLeDiff, Nat.reduceMul, Nat.reduceSub, ↓reduceIte, decide_true, decide_false, Bool.true_eq_false, Bool.false_eq_true, Bool.not_true, Bool.not_false, if_true, if_false, and_true, true_and, memE, celE, w64, Nat.zero_add, Nat.add_zero, Nat.mul_one, putL, and_self, ldn, hst, hrd, frV, stP_agg2, bld0, Bool.false_and]
    exact ext_ansV ((hX.app nr0).put (by omega) _ _) rfl
  | true =>
  have g := goodI_iff.1 hg
  simp (config := {implicitDefEqProofs := false, maxDischargeDepth := 20}) (disch := first | omega | (simp only [lenE]; done) | (simp only [lenE]; omega) | rfl | (simp only [lenE, markR_len]; done) | (simp only [lenE, markR_len]; omega)) only [runE, mapE, listE, initT_5, initT_6, initT_7, initT_8, resV, oneV, binA, unA, reduceCtorEq, Nat.reduceEqDiff, Nat.reduceAdd, Nat.reduceLT, Nat.reduceLeDiff, Nat.reduceMul, Nat.reduceSub, ↓reduceIte, decide_true, decide_false, Bool.true_eq_false, Bool.false_eq_true, Bool.not_true, Bool.not_false, if_true, if_false, and_true, true_and, memE, celE, w64, Nat.zero_add, Nat.add_zero, Nat.mul_one, putL, and_self, ldn]
  refine callH_rc (l1In_rc _ _ _ _) ?_
  rintro r new1 ⟨rfl, rfl⟩
  rw [List.append_nil]
  rw [show (decide (1 ≤ c) && decide (c ≤ 64)) = inR 1 64 c from rfl]
  cases hc : inR 1 64 c with
  | false =>
    have hst := (o1.ext new0).st (off := 0) (vs := [.int .i64 0, .int .i64 0]) (by simp) rfl
    have hrd := ((o1.ext new0).set_self 28 [.int .i64 0, .int .i64 0]).rd
    simp (config := {implicitDefEqProofs := false, maxDischargeDepth := 20}) (disch := first | omega | (simp only [lenE]; done) | (simp only [lenE]; omega) | rfl | (simp only [lenE, markR_len]; done) | (simp only [lenE, markR_len]; omega)) only [runE, mapE, listE, initT_5, initT_6, initT_7, initT_8, resV, oneV, binA, unA, reduceCtorEq, Nat.reduceEqDiff, Nat.reduceAdd, Nat.reduceLT, Nat.reduceLeDiff, Nat.reduceMul, Nat.reduceSub, ↓reduceIte, decide_true, decide_false, Bool.true_eq_false, Bool.false_eq_true, Bool.not_true, Bool.not_false, if_true, if_false, and_true, true_and, memE, celE, w64, Nat.zero_add, Nat.add_zero, Nat.mul_one, putL, and_self, ldn, hst, hrd, frV, stP_agg2, bld0, Bool.and_false]
    exact ext_ansV ((hX.app nr0).put (by omega) _ _) rfl
  | true =>
  have hc' := inR_iff.1 hc
  simp (config := {implicitDefEqProofs := false, maxDischargeDepth := 20}) (disch := first | omega | (simp only [lenE]; done) | (simp only [lenE]; omega) | rfl | (simp only [lenE, markR_len]; done) | (simp only [lenE, markR_len]; omega)) only [runE, mapE, listE, initT_5, initT_6, initT_7, initT_8, resV, oneV, binA, unA, reduceCtorEq, Nat.reduceEqDiff, Nat.reduceAdd, Nat.reduceLT, Nat.reduceLeDiff, Nat.reduceMul, Nat.reduceSub, ↓reduceIte, decide_true, decide_false, Bool.true_eq_false, Bool.false_eq_true, Bool.not_true, Bool.not_false, if_true, if_false, and_true, true_and, memE, celE, w64, Nat.zero_add, Nat.add_zero, Nat.mul_one, putL, and_self, ldn, (o0.ext new0).rd, bld5]
  refine callH_rc (specDaily_rc _ x c g ⟨by omega, by omega⟩) ?_
  rintro r new1 ⟨rfl, nr1⟩
  obtain ⟨z, hz⟩ : ∃ z, z = dailyF x c := ⟨_, rfl⟩
  rw [← hz]
  have hst := ((o1.ext new0).ext new1).st (off := 0) (vs := [.int .i64 z.1, .int .i64 z.2]) (by simp) rfl
  have hrd := (((o1.ext new0).ext new1).set_self 28 [.int .i64 z.1, .int .i64 z.2]).rd
  simp (config := {implicitDefEqProofs := false, maxDischargeDepth := 20}) (disch := first | omega | (simp only [lenE]; done) | (simp only [lenE]; omega) | rfl | (simp only [lenE, markR_len]; done) | (simp only [lenE, markR_len]; omega)) only [runE, mapE, listE, initT_5, initT_6, initT_7, initT_8, resV, oneV, binA, unA, reduceCtorEq, Nat.reduceEqDiff, Nat.reduceAdd, Nat.reduceLT, Nat.reduceLeDiff, Nat.reduceMul, Nat.reduceSub, ↓reduceIte, decide_true, decide_false, Bool.true_eq_false, Bool.false_eq_true, Bool.not_true, Bool.not_false, if_true, if_false, and_true, true_and, memE, celE, w64, Nat.zero_add, Nat.add_zero, Nat.mul_one, putL, and_self, ldn, hst, hrd, frV, stP_agg2, Bool.and_true, Bool.and_self]
  exact ext_ansV (((hX.app nr0).app nr1).put (by omega) _ _) rfl

theorem implCycleCost_rc (m : Mem) (x : It) (c : Int) : RC Try.prog 23 [itV x, .int .i64 c] m (AnsV (.tuple #[frV (costC x c), .bool (x.good && inR 1 64 c)])) := by
  refine rc_of_run mixed ok_impl_CycleCost (by simp) (go_start _ _ _ ?_)
  unfold costC
  simp (config := {implicitDefEqProofs := false, maxDischargeDepth := 20}) (disch := first | omega | (simp only [lenE]; done) | (simp only [lenE]; omega) | rfl | (simp only [lenE, markR_len]; done) | (simp only [lenE, markR_len]; omega)) only [runE, mapE, listE, initT_5, initT_6, initT_7, initT_8, resV, oneV, binA, unA, reduceCtorEq, Nat.reduceEqDiff, Nat.reduceAdd, Nat.reduceLT, Nat.reduceLeDiff, Nat.reduceMul, Nat.reduceSub, ↓reduceIte, decide_true, decide_false, Bool.true_eq_false, Bool.false_eq_true, Bool.not_true, Bool.not_false, if_true, if_false, and_true, true_and, memE, celE, w64, Nat.zero_add, Nat.add_zero, Nat.mul_one, putL, and_self, ldn, c_impl_CycleCost, r_impl_CycleCost, itV]
  obtain ⟨E, hE⟩ : ∃ M, M = roM m ++ [⟨.own, 25, [.int .i64 x.daily, .int .i64 x.setup, .int .i64 x.hold, .int .i64 x.made, .int .i64 x.pause]⟩] ++ [⟨.own, 28, [.int .i64 0, .int .i64 0]⟩] := ⟨_, rfl⟩
  rw [← hE]
  have hX : Ext m E := by rw [hE]; exact (((Ext.refl m).one _ _).one _ _)
  have LE : E.length = m.length + 2 := by rw [hE]; simp [roM_len]
  have o0 : OwnB E (m.length) 25 [.int .i64 x.daily, .int .i64 x.setup, .int .i64 x.hold, .int .i64 x.made, .int .i64 x.pause] := by rw [hE]; exact (OwnB.here (by simp [roM_len])).ext _
  have o1 : OwnB E (m.length + 1) 28 [.int .i64 0, .int .i64 0] := by rw [hE]; exact OwnB.here (by simp [roM_len])
  clear hE
  refine callH_rc (isItem_rc _ x) ?_
  rintro r new0 ⟨rfl, nr0⟩
  cases hg : x.good with
  | false =>
    have hst := (o1.ext new0).st (off := 0) (vs := [.int .i64 0, .int .i64 0]) (by simp) rfl
    have hrd := ((o1.ext new0).set_self 28 [.int .i64 0, .int .i64 0]).rd
    simp (config := {implicitDefEqProofs := false, maxDischargeDepth := 20}) (disch := first | omega | (simp only [lenE]; done) | (simp only [lenE]; omega) | rfl | (simp only [lenE, markR_len]; done) | (simp only [lenE, markR_len]; omega)) only [runE, mapE, listE, initT_5, initT_6, initT_7, initT_8, resV, oneV, binA, unA, reduceCtorEq, Nat.reduceEqDiff, Nat.reduceAdd, Nat.reduceLT, Nat.reduceLeDiff, Nat.reduceMul, Nat.reduceSub, ↓reduceIte, decide_true, decide_false, Bool.true_eq_false, Bool.false_eq_true, Bool.not_true, Bool.not_false, if_true, if_false, and_true, true_and, memE, celE, w64, Nat.zero_add, Nat.add_zero, Nat.mul_one, putL, and_self, ldn, hst, hrd, frV, stP_agg2, bld0, Bool.false_and]
    exact ext_ansV ((hX.app nr0).put (by omega) _ _) rfl
  | true =>
  have g := goodI_iff.1 hg
  simp (config := {implicitDefEqProofs := false, maxDischargeDepth := 20}) (disch := first | omega | (simp only [lenE]; done) | (simp only [lenE]; omega) | rfl | (simp only [lenE, markR_len]; done) | (simp only [lenE, markR_len]; omega)) only [runE, mapE, listE, initT_5, initT_6, initT_7, initT_8, resV, oneV, binA, unA, reduceCtorEq, Nat.reduceEqDiff, Nat.reduceAdd, Nat.reduceLT, Nat.reduceLeDiff, Nat.reduceMul, Nat.reduceSub, ↓reduceIte, decide_true, decide_false, Bool.true_eq_false, Bool.false_eq_true, Bool.not_true, Bool.not_false, if_true, if_false, and_true, true_and, memE, celE, w64, Nat.zero_add, Nat.add_zero, Nat.mul_one, putL, and_self, ldn]
  refine callH_rc (isCount_rc _ _ _) ?_
  rintro r new1 ⟨rfl, rfl⟩
  rw [List.append_nil]
  cases hc : inR 1 64 c with
  | false =>
    have hst := (o1.ext new0).st (off := 0) (vs := [.int .i64 0, .int .i64 0]) (by simp) rfl
    have hrd := ((o1.ext new0).set_self 28 [.int .i64 0, .int .i64 0]).rd
    simp (config := {implicitDefEqProofs := false, maxDischargeDepth := 20}) (disch := first | omega | (simp only [lenE]; done) | (simp only [lenE]; omega) | rfl | (simp only [lenE, markR_len]; done) | (simp only [lenE, markR_len]; omega)) only [runE, mapE, listE, initT_5, initT_6, initT_7, initT_8, resV, oneV, binA, unA, reduceCtorEq, Nat.reduceEqDiff, Nat.reduceAdd, Nat.reduceLT, Nat.reduceLeDiff, Nat.reduceMul, Nat.reduceSub, ↓reduceIte, decide_true, decide_false, Bool.true_eq_false, Bool.false_eq_true, Bool.not_true, Bool.not_false, if_true, if_false, and_true, true_and, memE, celE, w64, Nat.zero_add, Nat.add_zero, Nat.mul_one, putL, and_self, ldn, hst, hrd, frV, stP_agg2, bld0, Bool.and_false]
    exact ext_ansV ((hX.app nr0).put (by omega) _ _) rfl
  | true =>
  have hc' := inR_iff.1 hc
  simp (config := {implicitDefEqProofs := false, maxDischargeDepth := 20}) (disch := first | omega | (simp only [lenE]; done) | (simp only [lenE]; omega) | rfl | (simp only [lenE, markR_len]; done) | (simp only [lenE, markR_len]; omega)) only [runE, mapE, listE, initT_5, initT_6, initT_7, initT_8, resV, oneV, binA, unA, reduceCtorEq, Nat.reduceEqDiff, Nat.reduceAdd, Nat.reduceLT, Nat.reduceLeDiff, Nat.reduceMul, Nat.reduceSub, ↓reduceIte, decide_true, decide_false, Bool.true_eq_false, Bool.false_eq_true, Bool.not_true, Bool.not_false, if_true, if_false, and_true, true_and, memE, celE, w64, Nat.zero_add, Nat.add_zero, Nat.mul_one, putL, and_self, ldn, (o0.ext new0).rd, bld5]
  refine callH_rc (implDaily_rc _ x c g ⟨by omega, by omega⟩) ?_
  rintro r new1 ⟨rfl, nr1⟩
  obtain ⟨z, hz⟩ : ∃ z, z = dailyF x c := ⟨_, rfl⟩
  rw [← hz]
  have hst := ((o1.ext new0).ext new1).st (off := 0) (vs := [.int .i64 z.1, .int .i64 z.2]) (by simp) rfl
  have hrd := (((o1.ext new0).ext new1).set_self 28 [.int .i64 z.1, .int .i64 z.2]).rd
  simp (config := {implicitDefEqProofs := false, maxDischargeDepth := 20}) (disch := first | omega | (simp only [lenE]; done) | (simp only [lenE]; omega) | rfl | (simp only [lenE, markR_len]; done) | (simp only [lenE, markR_len]; omega)) only [runE, mapE, listE, initT_5, initT_6, initT_7, initT_8, resV, oneV, binA, unA, reduceCtorEq, Nat.reduceEqDiff, Nat.reduceAdd, Nat.reduceLT, Nat.reduceLeDiff, Nat.reduceMul, Nat.reduceSub, ↓reduceIte, decide_true, decide_false, Bool.true_eq_false, Bool.false_eq_true, Bool.not_true, Bool.not_false, if_true, if_false, and_true, true_and, memE, celE, w64, Nat.zero_add, Nat.add_zero, Nat.mul_one, putL, and_self, ldn, hst, hrd, frV, stP_agg2, Bool.and_true, Bool.and_self]
  exact ext_ansV (((hX.app nr0).app nr1).put (by omega) _ _) rfl

end Go.Proofs.Ytmjnjhdacliieaa.Ab
