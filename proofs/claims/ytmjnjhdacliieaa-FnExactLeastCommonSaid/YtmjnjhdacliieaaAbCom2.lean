/- Common costs, the least and the best common cycle. -/
import Derived.Test.YtmjnjhdacliieaaAbCom1
import Derived.Test.YtmjnjhdacliieaaAbFam2
import Derived.Test.YtmjnjhdacliieaaAbDel
import Derived.Test.YtmjnjhdacliieaaCodMore
namespace Go.Proofs.Ytmjnjhdacliieaa.Ab
open Go Go.RowKit
set_option linter.unusedVariables false
set_option linter.unusedSimpArgs false
set_option maxRecDepth 10000

theorem specShared_rc (m : Mem) (v : Value) (L : List It) (c : Int) (h : ItemsA m v L) (hF : GoodF L) (hc : 1 ≤ c ∧ c ≤ 400) : RC Try.prog 84 [v, .int .i64 c] m (AnsV (frV (sharedF L c))) := by
  refine rc_of_run mixed ok_spec_l8Shared (by simp) (go_start _ _ _ ?_)
  simp (config := {implicitDefEqProofs := false, maxDischargeDepth := 20}) (disch := first | omega | (simp only [lenE]; done) | (simp only [lenE]; omega) | rfl | (simp only [lenE, markR_len]; done) | (simp only [lenE, markR_len]; omega)) only [runE, mapE, listE, initT_5, initT_6, initT_7, initT_8, resV, oneV, binA, unA, reduceCtorEq, Nat.reduceEqDiff, Nat.reduceAdd, Nat.reduceLT, Nat.reduceLeDiff, Nat.reduceMul, Nat.reduceSub, ↓reduceIte, decide_true, decide_false, Bool.true_eq_false, Bool.false_eq_true, Bool.not_true, Bool.not_false, if_true, if_false, and_true, true_and, memE, celE, w64, Nat.zero_add, Nat.add_zero, Nat.mul_one, putL, and_self, ldn, c_spec_l8Shared, r_spec_l8Shared, bld01, stP_agg2]
  obtain ⟨E, hE⟩ : ∃ M, M = roM m ++ [⟨.own, 28, [.int .i64 0, .int .i64 0]⟩] ++ [⟨.own, 28, [.int .i64 0, .int .i64 1]⟩] := ⟨_, rfl⟩
  have hX : Ext m E := by rw [hE]; exact ((Ext.refl m).one _ _).one _ _
  have o0 : OwnB E m.length 28 [.int .i64 0, .int .i64 0] := by rw [hE]; exact (OwnB.here (by simp [roM_len])).ext _
  have o1 : OwnB E (m.length + 1) 28 [.int .i64 0, .int .i64 1] := by rw [hE]; exact OwnB.here (by simp [roM_len])
  try rw [← hE]
  clear hE
  refine loop_inv mixed (fun s => ∃ (k : Nat) (M : Mem), k ≤ L.length ∧ s.m = M ∧ Ext m M ∧ OwnB M m.length 28 [.int .i64 0, .int .i64 0] ∧ OwnB M (m.length + 1) 28 [.int .i64 (sharedTo L c k).1, .int .i64 (sharedTo L c k).2] ∧ s.t 0 = v ∧ s.t 1 = .int .i64 c ∧ s.t 4 = .pointer (some ⟨m.length, 0, none⟩) ∧ s.t 5 = .pointer (some ⟨m.length + 1, 0, none⟩) ∧ s.t 6 = .int .i64 (k : Int)) (fun s => L.length - (intOf (s.t 6)).toNat)
    ⟨0, _, by omega, rfl, hX, o0, o1, rfl, rfl, rfl, rfl, rfl⟩ ?_
  rintro s ⟨k, M, hk, tm, hX, o0, p0, t0, t1, t4, t5, t6⟩
  have hM := (Sees.ext hX).items h
  have hl := hM.len
  have hbd := hM.1
  by_cases hkl : k < L.length
  · have hlt : (k : Int) < L.length := by omega
    have i1 := hM.at_ hkl
    have i2 := hM.ld hkl
    have g := hF.at_ hkl
    have hm := g.made
    have hd := g.daily
    have hs := g.setup
    have h0 := g.hd
    have hh := g.hdm
    have hstep : sharedTo L c (k + 1) = addF (addF (sharedTo L c k) (fr (L.getD k It0).setup c)) (fr ((L.getD k It0).hold * (L.getD k It0).daily * ((L.getD k It0).made - (L.getD k It0).daily) * c) (2 * (L.getD k It0).made)) := rfl
    obtain ⟨nn, nn2⟩ := shared_nums hF hc k (by omega)
    have nn2 := nn2 hkl
    generalize sharedTo L c k = p at *
    generalize L.getD k It0 = x at *
    have hc2 := mul_le2 (a := x.hold * x.daily * (x.made - x.daily)) (x := c) (A := 7020) (B := 400) (by omega) (by omega)
    have n1 := fr_nums (a := x.setup) (b := c) (A := 99) (B := 400) (by omega) (by omega)
    have n2 := fr_nums (a := x.hold * x.daily * (x.made - x.daily) * c) (b := 2 * x.made) (A := 2808000) (B := 80) (by omega) (by omega)
    have ok1 := plus_ok nn.1 nn.2 n1.1 n1.2 (by decide) (by decide)
    have ok2 := plus_ok nn2.1 nn2.2 n2.1 n2.2 (by decide) (by decide)
    have q1 : ∀ b, ldA (M ++ [b]) (some 2) (.pointer (some ⟨m.length + 1, 0, none⟩)) = some (.agg #[.int .i64 p.1, .int .i64 p.2]) := fun b => (p0.ext [b]).ld2
    simp (config := {implicitDefEqProofs := false, maxDischargeDepth := 20}) (disch := first | omega | (simp only [lenE]; done) | (simp only [lenE]; omega) | rfl | (simp only [lenE, markR_len]; done) | (simp only [lenE, markR_len]; omega)) only [runE, mapE, listE, initT_5, initT_6, initT_7, initT_8, resV, oneV, binA, unA, reduceCtorEq, Nat.reduceEqDiff, Nat.reduceAdd, Nat.reduceLT, Nat.reduceLeDiff, Nat.reduceMul, Nat.reduceSub, ↓reduceIte, decide_true, decide_false, Bool.true_eq_false, Bool.false_eq_true, Bool.not_true, Bool.not_false, if_true, if_false, and_true, true_and, memE, celE, w64, Nat.zero_add, Nat.add_zero, Nat.mul_one, putL, and_self, ldn, tm, t0, t1, t4, t5, t6, hl, hlt, i1, i2, itV, stP_agg5, q1]
    obtain ⟨F, hF2⟩ : ∃ F, F = M ++ [⟨.own, 25, [.int .i64 x.daily, .int .i64 x.setup, .int .i64 x.hold, .int .i64 x.made, .int .i64 x.pause]⟩] := ⟨_, rfl⟩
    rw [← hF2]
    have hXF : Ext m F := by rw [hF2]; exact hX.one _ _
    have pF : OwnB F (m.length + 1) 28 [.int .i64 p.1, .int .i64 p.2] := by rw [hF2]; exact p0.ext _
    have oF : OwnB F m.length 28 [.int .i64 0, .int .i64 0] := by rw [hF2]; exact o0.ext _
    have xF : OwnB F M.length 25 [.int .i64 x.daily, .int .i64 x.setup, .int .i64 x.hold, .int .i64 x.made, .int .i64 x.pause] := by rw [hF2]; exact OwnB.here rfl
    have hgM := hX.len
    have hpl := p0.lt
    clear hF2
    refine rcallH_rc (specCut_rc _ x.setup c ⟨by omega, by omega⟩ ⟨by omega, by omega⟩) ?_
    rintro r new1 ⟨rfl, nr1⟩
    simp (config := {implicitDefEqProofs := false, maxDischargeDepth := 20}) (disch := first | omega | (simp only [lenE]; done) | (simp only [lenE]; omega) | rfl | (simp only [lenE, markR_len]; done) | (simp only [lenE, markR_len]; omega)) only [runE, mapE, listE, initT_5, initT_6, initT_7, initT_8, resV, oneV, binA, unA, reduceCtorEq, Nat.reduceEqDiff, Nat.reduceAdd, Nat.reduceLT, Nat.reduceLeDiff, Nat.reduceMul, Nat.reduceSub, ↓reduceIte, decide_true, decide_false, Bool.true_eq_false, Bool.false_eq_true, Bool.not_true, Bool.not_false, if_true, if_false, and_true, true_and, memE, celE, w64, Nat.zero_add, Nat.add_zero, Nat.mul_one, putL, and_self, ldn]
    refine rcallH_rc (specPlus_rc _ p (fr x.setup c) nn.1.1 nn.2.1 n1.1.1 n1.2.1 ok1.1 ok1.2) ?_
    rintro r new2 ⟨rfl, nr2⟩
    generalize hy : addF p (fr x.setup c) = y at *
    have pG := (pF.ext new1).ext new2
    have hst := pG.st (off := 0) (vs := [.int .i64 y.1, .int .i64 y.2]) (by simp) rfl
    obtain ⟨G, hG⟩ : ∃ G, G = (F ++ new1 ++ new2).set (m.length + 1) ⟨.own, 28, [.int .i64 y.1, .int .i64 y.2]⟩ := ⟨_, rfl⟩
    have hst : stA (F ++ new1 ++ new2) (m.length + 1) 0 [.int .i64 y.1, .int .i64 y.2] = some G := by rw [hG]; exact hst
    have hXG : Ext m G := by rw [hG]; exact ((hXF.app nr1).app nr2).put (by omega) _ _
    have pG2 : OwnB G (m.length + 1) 28 [.int .i64 y.1, .int .i64 y.2] := by rw [hG]; exact pG.set_self _ _
    have oG : OwnB G m.length 28 [.int .i64 0, .int .i64 0] := by rw [hG]; exact ((oF.ext new1).ext new2).set_ne (by omega) _
    have xG : OwnB G M.length 25 [.int .i64 x.daily, .int .i64 x.setup, .int .i64 x.hold, .int .i64 x.made, .int .i64 x.pause] := by rw [hG]; exact ((xF.ext new1).ext new2).set_ne (by omega) _
    simp (config := {implicitDefEqProofs := false, maxDischargeDepth := 20}) (disch := first | omega | (simp only [lenE]; done) | (simp only [lenE]; omega) | rfl | (simp only [lenE, markR_len]; done) | (simp only [lenE, markR_len]; omega)) only [runE, mapE, listE, initT_5, initT_6, initT_7, initT_8, resV, oneV, binA, unA, reduceCtorEq, Nat.reduceEqDiff, Nat.reduceAdd, Nat.reduceLT, Nat.reduceLeDiff, Nat.reduceMul, Nat.reduceSub, ↓reduceIte, decide_true, decide_false, Bool.true_eq_false, Bool.false_eq_true, Bool.not_true, Bool.not_false, if_true, if_false, and_true, true_and, memE, celE, w64, Nat.zero_add, Nat.add_zero, Nat.mul_one, putL, and_self, ldn, tm, t0, t1, t4, t5, t6, frV, stP_agg2, hst, pG2.ld2, xG.rd]
    refine rcallH_rc (specCut_rc _ (x.hold * x.daily * (x.made - x.daily) * c) (2 * x.made) ⟨by omega, by omega⟩ ⟨by omega, by omega⟩) ?_
    rintro r new3 ⟨rfl, nr3⟩
    simp (config := {implicitDefEqProofs := false, maxDischargeDepth := 20}) (disch := first | omega | (simp only [lenE]; done) | (simp only [lenE]; omega) | rfl | (simp only [lenE, markR_len]; done) | (simp only [lenE, markR_len]; omega)) only [runE, mapE, listE, initT_5, initT_6, initT_7, initT_8, resV, oneV, binA, unA, reduceCtorEq, Nat.reduceEqDiff, Nat.reduceAdd, Nat.reduceLT, Nat.reduceLeDiff, Nat.reduceMul, Nat.reduceSub, ↓reduceIte, decide_true, decide_false, Bool.true_eq_false, Bool.false_eq_true, Bool.not_true, Bool.not_false, if_true, if_false, and_true, true_and, memE, celE, w64, Nat.zero_add, Nat.add_zero, Nat.mul_one, putL, and_self, ldn]
    refine rcallH_rc (specPlus_rc _ y (fr (x.hold * x.daily * (x.made - x.daily) * c) (2 * x.made)) nn2.1.1 nn2.2.1 n2.1.1 n2.2.1 ok2.1 ok2.2) ?_
    rintro r new4 ⟨rfl, nr4⟩
    rw [← hstep]
    generalize hz : sharedTo L c (k + 1) = z at *
    have q0 := (pG2.ext new3).ext new4
    have r0 := (oG.ext new3).ext new4
    have hst2 := q0.st (off := 0) (vs := [.int .i64 z.1, .int .i64 z.2]) (by simp) rfl
    simp (config := {implicitDefEqProofs := false, maxDischargeDepth := 20}) (disch := first | omega | (simp only [lenE]; done) | (simp only [lenE]; omega) | rfl | (simp only [lenE, markR_len]; done) | (simp only [lenE, markR_len]; omega)) only [runE, mapE, listE, initT_5, initT_6, initT_7, initT_8, resV, oneV, binA, unA, reduceCtorEq, Nat.reduceEqDiff, Nat.reduceAdd, Nat.reduceLT, Nat.reduceLeDiff, Nat.reduceMul, Nat.reduceSub, ↓reduceIte, decide_true, decide_false, Bool.true_eq_false, Bool.false_eq_true, Bool.not_true, Bool.not_false, if_true, if_false, and_true, true_and, memE, celE, w64, Nat.zero_add, Nat.add_zero, Nat.mul_one, putL, and_self, ldn, tm, t0, t1, t4, t5, t6, frV, stP_agg2, hst2]
    refine ⟨⟨k + 1, _, by omega, rfl, ((hXG.app nr3).app nr4).put (by omega) _ _, r0.set_ne (by omega) _, by rw [hz]; exact q0.set_self _ _, by simp⟩, ?_⟩
    simp [intOf]; omega
  · have hlt : ¬ ((k : Int) < L.length) := by omega
    have e : k = L.length := by omega
    subst e
    unfold sharedF
    generalize sharedTo L c L.length = z at *
    have hst := o0.st (off := 0) (vs := [.int .i64 z.1, .int .i64 z.2]) (by simp) rfl
    have hrd := (o0.set_self 28 [.int .i64 z.1, .int .i64 z.2]).rd
    simp (config := {implicitDefEqProofs := false, maxDischargeDepth := 20}) (disch := first | omega | (simp only [lenE]; done) | (simp only [lenE]; omega) | rfl | (simp only [lenE, markR_len]; done) | (simp only [lenE, markR_len]; omega)) only [runE, mapE, listE, initT_5, initT_6, initT_7, initT_8, resV, oneV, binA, unA, reduceCtorEq, Nat.reduceEqDiff, Nat.reduceAdd, Nat.reduceLT, Nat.reduceLeDiff, Nat.reduceMul, Nat.reduceSub, ↓reduceIte, decide_true, decide_false, Bool.true_eq_false, Bool.false_eq_true, Bool.not_true, Bool.not_false, if_true, if_false, and_true, true_and, memE, celE, w64, Nat.zero_add, Nat.add_zero, Nat.mul_one, putL, and_self, ldn, tm, t0, t1, t4, t5, t6, hl, hlt, p0.ld2, frV, stP_agg2, hst, hrd]
    exact ext_ansV (hX.put (Nat.le_refl _) _ _) rfl

theorem implShared_rc (m : Mem) (v : Value) (L : List It) (c : Int) (h : ItemsA m v L) (hF : GoodF L) (hc : 1 ≤ c ∧ c ≤ 400) : RC Try.prog 85 [v, .int .i64 c] m (AnsV (frV (sharedF L c))) := by
  refine rc_of_run mixed ok_impl_made__costOf (by simp) (go_start _ _ _ ?_)
  simp (config := {implicitDefEqProofs := false, maxDischargeDepth := 20}) (disch := first | omega | (simp only [lenE]; done) | (simp only [lenE]; omega) | rfl | (simp only [lenE, markR_len]; done) | (simp only [lenE, markR_len]; omega)) only [runE, mapE, listE, initT_5, initT_6, initT_7, initT_8, resV, oneV, binA, unA, reduceCtorEq, Nat.reduceEqDiff, Nat.reduceAdd, Nat.reduceLT, Nat.reduceLeDiff, Nat.reduceMul, Nat.reduceSub, ↓reduceIte, decide_true, decide_false, Bool.true_eq_false, Bool.false_eq_true, Bool.not_true, Bool.not_false, if_true, if_false, and_true, true_and, memE, celE, w64, Nat.zero_add, Nat.add_zero, Nat.mul_one, putL, and_self, ldn, c_impl_made__costOf, r_impl_made__costOf]
  obtain ⟨E, hE⟩ : ∃ M, M = roM m ++ [⟨.own, 67, [.int .i64 0, .int .i64 0]⟩] := ⟨_, rfl⟩
  rw [← hE]
  have hX : Ext m E := by rw [hE]; exact (Ext.refl m).one _ _
  have o0 : OwnB E m.length 67 [.int .i64 0, .int .i64 0] := by rw [hE]; exact OwnB.here (roM_len m).symm
  clear hE
  refine callH_rc (implCut_rc _ 0 1 ⟨by omega, by omega⟩ ⟨by omega, by omega⟩) ?_
  rintro r new0 ⟨rfl, nr0⟩
  rw [fr_zero]
  have hX0 := hX.app nr0
  have oo := o0.ext new0
  have hlv := ((Sees.ext hX0).items h).len
  simp (config := {implicitDefEqProofs := false, maxDischargeDepth := 20}) (disch := first | omega | (simp only [lenE]; done) | (simp only [lenE]; omega) | rfl | (simp only [lenE, markR_len]; done) | (simp only [lenE, markR_len]; omega)) only [runE, mapE, listE, initT_5, initT_6, initT_7, initT_8, resV, oneV, binA, unA, reduceCtorEq, Nat.reduceEqDiff, Nat.reduceAdd, Nat.reduceLT, Nat.reduceLeDiff, Nat.reduceMul, Nat.reduceSub, ↓reduceIte, decide_true, decide_false, Bool.true_eq_false, Bool.false_eq_true, Bool.not_true, Bool.not_false, if_true, if_false, and_true, true_and, memE, celE, w64, Nat.zero_add, Nat.add_zero, Nat.mul_one, putL, and_self, ldn, frV, stP_agg2, hlv]
  obtain ⟨E0, hE0⟩ : ∃ M, M = E ++ new0 := ⟨_, rfl⟩
  rw [← hE0] at hX0 oo ⊢
  have LE0 : E.length + new0.length = E0.length := by rw [hE0, List.length_append]
  rw [LE0]
  clear hE0
  have hgt : m.length < E0.length := oo.lt
  obtain ⟨E3, hE3⟩ : ∃ M, M = E0 ++ [⟨.own, 67, [.int .i64 0, .int .i64 1]⟩] := ⟨_, rfl⟩
  have hX3 : Ext m E3 := by rw [hE3]; exact hX0.one _ _
  have o3 : OwnB E3 m.length 67 [.int .i64 0, .int .i64 0] := by rw [hE3]; exact oo.ext _
  have p3 : OwnB E3 E0.length 67 [.int .i64 0, .int .i64 1] := by rw [hE3]; exact OwnB.here rfl
  try rw [← hE3]
  clear hE3
  refine loop_inv mixed (fun s => ∃ (k : Nat) (M : Mem), k ≤ L.length ∧ s.m = M ∧ Ext m M ∧ OwnB M m.length 67 [.int .i64 0, .int .i64 0] ∧ OwnB M E0.length 67 [.int .i64 (sharedTo L c k).1, .int .i64 (sharedTo L c k).2] ∧ s.t 1 = .int .i64 c ∧ s.t 4 = .pointer (some ⟨m.length, 0, none⟩) ∧ s.t 5 = .pointer (some ⟨E0.length, 0, none⟩) ∧ s.t 10 = v ∧ s.t 11 = .int .i64 (L.length : Int) ∧ s.t 12 = .int .i64 (k : Int)) (fun s => L.length - (intOf (s.t 12)).toNat)
    ⟨0, _, by omega, rfl, hX3, o3, p3, rfl, rfl, rfl, rfl, rfl, rfl⟩ ?_
  rintro s ⟨k, M, hk, tm, hX, o0, p0, t1, t4, t5, t10, t11, t12⟩
  have hM := (Sees.ext hX).items h
  have hl := hM.len
  have hbd := hM.1
  by_cases hkl : k < L.length
  · have hlt : (k : Int) < L.length := by omega
    have i1 := hM.at_ hkl
    have i2 := hM.ld hkl
    have g := hF.at_ hkl
    have hm := g.made
    have hd := g.daily
    have hs := g.setup
    have h0 := g.hd
    have hh := g.hdm
    have hstep : sharedTo L c (k + 1) = addF (addF (sharedTo L c k) (fr (L.getD k It0).setup c)) (fr ((L.getD k It0).hold * (L.getD k It0).daily * ((L.getD k It0).made - (L.getD k It0).daily) * c) (2 * (L.getD k It0).made)) := rfl
    obtain ⟨nn, nn2⟩ := shared_nums hF hc k (by omega)
    have nn2 := nn2 hkl
    generalize sharedTo L c k = p at *
    generalize L.getD k It0 = x at *
    have hc2 := mul_le2 (a := x.hold * x.daily * (x.made - x.daily)) (x := c) (A := 7020) (B := 400) (by omega) (by omega)
    have n1 := fr_nums (a := x.setup) (b := c) (A := 99) (B := 400) (by omega) (by omega)
    have n2 := fr_nums (a := x.hold * x.daily * (x.made - x.daily) * c) (b := 2 * x.made) (A := 2808000) (B := 80) (by omega) (by omega)
    have ok1 := plus_ok nn.1 nn.2 n1.1 n1.2 (by decide) (by decide)
    have ok2 := plus_ok nn2.1 nn2.2 n2.1 n2.2 (by decide) (by decide)
    have q1 : ∀ b, ldA (M ++ [b]) (some 2) (.pointer (some ⟨E0.length, 0, none⟩)) = some (.agg #[.int .i64 p.1, .int .i64 p.2]) := fun b => (p0.ext [b]).ld2
    simp (config := {implicitDefEqProofs := false, maxDischargeDepth := 20}) (disch := first | omega | (simp only [lenE]; done) | (simp only [lenE]; omega) | rfl | (simp only [lenE, markR_len]; done) | (simp only [lenE, markR_len]; omega)) only [runE, mapE, listE, initT_5, initT_6, initT_7, initT_8, resV, oneV, binA, unA, reduceCtorEq, Nat.reduceEqDiff, Nat.reduceAdd, Nat.reduceLT, Nat.reduceLeDiff, Nat.reduceMul, Nat.reduceSub, ↓reduceIte, decide_true, decide_false, Bool.true_eq_false, Bool.false_eq_true, Bool.not_true, Bool.not_false, if_true, if_false, and_true, true_and, memE, celE, w64, Nat.zero_add, Nat.add_zero, Nat.mul_one, putL, and_self, ldn, tm, t1, t4, t5, t10, t11, t12, hl, hlt, i1, i2, itV, stP_agg5, q1]
    obtain ⟨F, hF2⟩ : ∃ F, F = M ++ [⟨.own, 25, [.int .i64 x.daily, .int .i64 x.setup, .int .i64 x.hold, .int .i64 x.made, .int .i64 x.pause]⟩] := ⟨_, rfl⟩
    rw [← hF2]
    have hXF : Ext m F := by rw [hF2]; exact hX.one _ _
    have pF : OwnB F E0.length 67 [.int .i64 p.1, .int .i64 p.2] := by rw [hF2]; exact p0.ext _
    have oF : OwnB F m.length 67 [.int .i64 0, .int .i64 0] := by rw [hF2]; exact o0.ext _
    clear hF2
    refine rcallH_rc (implCut_rc _ x.setup c ⟨by omega, by omega⟩ ⟨by omega, by omega⟩) ?_
    rintro r new1 ⟨rfl, nr1⟩
    simp (config := {implicitDefEqProofs := false, maxDischargeDepth := 20}) (disch := first | omega | (simp only [lenE]; done) | (simp only [lenE]; omega) | rfl | (simp only [lenE, markR_len]; done) | (simp only [lenE, markR_len]; omega)) only [runE, mapE, listE, initT_5, initT_6, initT_7, initT_8, resV, oneV, binA, unA, reduceCtorEq, Nat.reduceEqDiff, Nat.reduceAdd, Nat.reduceLT, Nat.reduceLeDiff, Nat.reduceMul, Nat.reduceSub, ↓reduceIte, decide_true, decide_false, Bool.true_eq_false, Bool.false_eq_true, Bool.not_true, Bool.not_false, if_true, if_false, and_true, true_and, memE, celE, w64, Nat.zero_add, Nat.add_zero, Nat.mul_one, putL, and_self, ldn]
    refine rcallH_rc (implPlus_rc _ p (fr x.setup c) nn.1.1 nn.2.1 n1.1.1 n1.2.1 ok1.1 ok1.2) ?_
    rintro r new2 ⟨rfl, nr2⟩
    generalize hy : addF p (fr x.setup c) = y at *
    simp (config := {implicitDefEqProofs := false, maxDischargeDepth := 20}) (disch := first | omega | (simp only [lenE]; done) | (simp only [lenE]; omega) | rfl | (simp only [lenE, markR_len]; done) | (simp only [lenE, markR_len]; omega)) only [runE, mapE, listE, initT_5, initT_6, initT_7, initT_8, resV, oneV, binA, unA, reduceCtorEq, Nat.reduceEqDiff, Nat.reduceAdd, Nat.reduceLT, Nat.reduceLeDiff, Nat.reduceMul, Nat.reduceSub, ↓reduceIte, decide_true, decide_false, Bool.true_eq_false, Bool.false_eq_true, Bool.not_true, Bool.not_false, if_true, if_false, and_true, true_and, memE, celE, w64, Nat.zero_add, Nat.add_zero, Nat.mul_one, putL, and_self, ldn]
    refine rcallH_rc (implCut_rc _ (x.hold * x.daily * (x.made - x.daily) * c) (2 * x.made) ⟨by omega, by omega⟩ ⟨by omega, by omega⟩) ?_
    rintro r new3 ⟨rfl, nr3⟩
    simp (config := {implicitDefEqProofs := false, maxDischargeDepth := 20}) (disch := first | omega | (simp only [lenE]; done) | (simp only [lenE]; omega) | rfl | (simp only [lenE, markR_len]; done) | (simp only [lenE, markR_len]; omega)) only [runE, mapE, listE, initT_5, initT_6, initT_7, initT_8, resV, oneV, binA, unA, reduceCtorEq, Nat.reduceEqDiff, Nat.reduceAdd, Nat.reduceLT, Nat.reduceLeDiff, Nat.reduceMul, Nat.reduceSub, ↓reduceIte, decide_true, decide_false, Bool.true_eq_false, Bool.false_eq_true, Bool.not_true, Bool.not_false, if_true, if_false, and_true, true_and, memE, celE, w64, Nat.zero_add, Nat.add_zero, Nat.mul_one, putL, and_self, ldn]
    refine rcallH_rc (implPlus_rc _ y (fr (x.hold * x.daily * (x.made - x.daily) * c) (2 * x.made)) nn2.1.1 nn2.2.1 n2.1.1 n2.2.1 ok2.1 ok2.2) ?_
    rintro r new4 ⟨rfl, nr4⟩
    rw [← hstep]
    generalize hz : sharedTo L c (k + 1) = z at *
    have q0 := (((pF.ext new1).ext new2).ext new3).ext new4
    have r0 := (((oF.ext new1).ext new2).ext new3).ext new4
    have hst2 := q0.st (off := 0) (vs := [.int .i64 z.1, .int .i64 z.2]) (by simp) rfl
    simp (config := {implicitDefEqProofs := false, maxDischargeDepth := 20}) (disch := first | omega | (simp only [lenE]; done) | (simp only [lenE]; omega) | rfl | (simp only [lenE, markR_len]; done) | (simp only [lenE, markR_len]; omega)) only [runE, mapE, listE, initT_5, initT_6, initT_7, initT_8, resV, oneV, binA, unA, reduceCtorEq, Nat.reduceEqDiff, Nat.reduceAdd, Nat.reduceLT, Nat.reduceLeDiff, Nat.reduceMul, Nat.reduceSub, ↓reduceIte, decide_true, decide_false, Bool.true_eq_false, Bool.false_eq_true, Bool.not_true, Bool.not_false, if_true, if_false, and_true, true_and, memE, celE, w64, Nat.zero_add, Nat.add_zero, Nat.mul_one, putL, and_self, ldn, tm, t1, t4, t5, t10, t11, t12, frV, stP_agg2, hst2]
    refine ⟨⟨k + 1, _, by omega, rfl, ((((hXF.app nr1).app nr2).app nr3).app nr4).put (by omega) _ _, r0.set_ne (by omega) _, by rw [hz]; exact q0.set_self _ _, by simp⟩, ?_⟩
    simp [intOf]; omega
  · have hlt : ¬ ((k : Int) < L.length) := by omega
    have e : k = L.length := by omega
    subst e
    unfold sharedF
    generalize sharedTo L c L.length = z at *
    have hst := o0.st (off := 0) (vs := [.int .i64 z.1, .int .i64 z.2]) (by simp) rfl
    have hrd := (o0.set_self 67 [.int .i64 z.1, .int .i64 z.2]).rd
    simp (config := {implicitDefEqProofs := false, maxDischargeDepth := 20}) (disch := first | omega | (simp only [lenE]; done) | (simp only [lenE]; omega) | rfl | (simp only [lenE, markR_len]; done) | (simp only [lenE, markR_len]; omega)) only [runE, mapE, listE, initT_5, initT_6, initT_7, initT_8, resV, oneV, binA, unA, reduceCtorEq, Nat.reduceEqDiff, Nat.reduceAdd, Nat.reduceLT, Nat.reduceLeDiff, Nat.reduceMul, Nat.reduceSub, ↓reduceIte, decide_true, decide_false, Bool.true_eq_false, Bool.false_eq_true, Bool.not_true, Bool.not_false, if_true, if_false, and_true, true_and, memE, celE, w64, Nat.zero_add, Nat.add_zero, Nat.mul_one, putL, and_self, ldn, tm, t1, t4, t5, t10, t11, t12, hlt, p0.ld2, frV, stP_agg2, hst, hrd]
    exact ext_ansV (hX.put (Nat.le_refl _) _ _) rfl

def comOk (L : List It) (c : Int) : Bool := famB L && inR 1 400 c
theorem l8Common_rc (m : Mem) (v : Value) (L : List It) (c : Int) (h : ItemsA m v L) : RC Try.prog 79 [v, .int .i64 c] m (AnsV (.bool (comOk L c))) := by
  refine rc_of_run mixed ok_spec_l8Common (by simp) (go_start _ _ _ ?_)
  unfold comOk
  have hX := Ext.refl m
  simp (config := {implicitDefEqProofs := false, maxDischargeDepth := 20}) (disch := first | omega | (simp only [lenE]; done) | (simp only [lenE]; omega) | rfl | (simp only [lenE, markR_len]; done) | (simp only [lenE, markR_len]; omega)) only [runE, mapE, listE, initT_5, initT_6, initT_7, initT_8, resV, oneV, binA, unA, reduceCtorEq, Nat.reduceEqDiff, Nat.reduceAdd, Nat.reduceLT, Nat.reduceLeDiff, Nat.reduceMul, Nat.reduceSub, ↓reduceIte, decide_true, decide_false, Bool.true_eq_false, Bool.false_eq_true, Bool.not_true, Bool.not_false, if_true, if_false, and_true, true_and, memE, celE, w64, Nat.zero_add, Nat.add_zero, Nat.mul_one, putL, and_self, ldn, c_spec_l8Common, r_spec_l8Common]
  refine callH_rc (l8Family_rc _ v L ((Sees.ext hX).items h)) ?_
  rintro r new0 ⟨rfl, nr0⟩
  have hX := hX.app nr0
  cases g1 : famB L with
  | false =>
    simp (config := {implicitDefEqProofs := false, maxDischargeDepth := 20}) (disch := first | omega | (simp only [lenE]; done) | (simp only [lenE]; omega) | rfl | (simp only [lenE, markR_len]; done) | (simp only [lenE, markR_len]; omega)) only [runE, mapE, listE, initT_5, initT_6, initT_7, initT_8, resV, oneV, binA, unA, reduceCtorEq, Nat.reduceEqDiff, Nat.reduceAdd, Nat.reduceLT, Nat.reduceLeDiff, Nat.reduceMul, Nat.reduceSub, ↓reduceIte, decide_true, decide_false, Bool.true_eq_false, Bool.false_eq_true, Bool.not_true, Bool.not_false, if_true, if_false, and_true, true_and, memE, celE, w64, Nat.zero_add, Nat.add_zero, Nat.mul_one, putL, and_self, ldn, Bool.false_and, Bool.true_and, Bool.and_true, Bool.and_false, Bool.and_self]
    exact ext_ansV hX rfl
  | true =>
  simp (config := {implicitDefEqProofs := false, maxDischargeDepth := 20}) (disch := first | omega | (simp only [lenE]; done) | (simp only [lenE]; omega) | rfl | (simp only [lenE, markR_len]; done) | (simp only [lenE, markR_len]; omega)) only [runE, mapE, listE, initT_5, initT_6, initT_7, initT_8, resV, oneV, binA, unA, reduceCtorEq, Nat.reduceEqDiff, Nat.reduceAdd, Nat.reduceLT, Nat.reduceLeDiff, Nat.reduceMul, Nat.reduceSub, ↓reduceIte, decide_true, decide_false, Bool.true_eq_false, Bool.false_eq_true, Bool.not_true, Bool.not_false, if_true, if_false, and_true, true_and, memE, celE, w64, Nat.zero_add, Nat.add_zero, Nat.mul_one, putL, and_self, ldn]
  refine callH_rc (l1In_rc _ _ _ _) ?_
  rintro r new1 ⟨rfl, rfl⟩
  rw [List.append_nil, show (decide (1 ≤ c) && decide (c ≤ 400)) = inR 1 400 c from rfl]
  simp (config := {implicitDefEqProofs := false, maxDischargeDepth := 20}) (disch := first | omega | (simp only [lenE]; done) | (simp only [lenE]; omega) | rfl | (simp only [lenE, markR_len]; done) | (simp only [lenE, markR_len]; omega)) only [runE, mapE, listE, initT_5, initT_6, initT_7, initT_8, resV, oneV, binA, unA, reduceCtorEq, Nat.reduceEqDiff, Nat.reduceAdd, Nat.reduceLT, Nat.reduceLeDiff, Nat.reduceMul, Nat.reduceSub, ↓reduceIte, decide_true, decide_false, Bool.true_eq_false, Bool.false_eq_true, Bool.not_true, Bool.not_false, if_true, if_false, and_true, true_and, memE, celE, w64, Nat.zero_add, Nat.add_zero, Nat.mul_one, putL, and_self, ldn, Bool.false_and, Bool.true_and, Bool.and_true, Bool.and_false, Bool.and_self]
  exact ext_ansV hX rfl
theorem comOk_iff {L : List It} {c : Int} (h : comOk L c = true) : GoodF L ∧ 1 ≤ c ∧ c ≤ 400 := by
  unfold comOk at h
  rw [Bool.and_eq_true] at h
  exact ⟨goodF_iff.1 h.1, inR_iff.1 h.2⟩
def fitsA (L : List It) (c : Int) : Bool := comOk L c && fitsB L c
def comA (L : List It) (c : Int) : Int × Int := if comOk L c then sharedF L c else (0, 0)
theorem specCycleFits_rc (m : Mem) (v : Value) (L : List It) (c : Int) (h : ItemsA m v L) : RC Try.prog 43 [v, .int .i64 c] m (AnsV (.tuple #[.bool (fitsA L c), .bool (comOk L c)])) := by
  refine rc_of_run mixed ok_spec_CycleFits (by simp) (go_start _ _ _ ?_)
  unfold fitsA
  have hX := Ext.refl m
  simp (config := {implicitDefEqProofs := false, maxDischargeDepth := 20}) (disch := first | omega | (simp only [lenE]; done) | (simp only [lenE]; omega) | rfl | (simp only [lenE, markR_len]; done) | (simp only [lenE, markR_len]; omega)) only [runE, mapE, listE, initT_5, initT_6, initT_7, initT_8, resV, oneV, binA, unA, reduceCtorEq, Nat.reduceEqDiff, Nat.reduceAdd, Nat.reduceLT, Nat.reduceLeDiff, Nat.reduceMul, Nat.reduceSub, ↓reduceIte, decide_true, decide_false, Bool.true_eq_false, Bool.false_eq_true, Bool.not_true, Bool.not_false, if_true, if_false, and_true, true_and, memE, celE, w64, Nat.zero_add, Nat.add_zero, Nat.mul_one, putL, and_self, ldn, c_spec_CycleFits, r_spec_CycleFits]
  refine callH_rc (l8Common_rc _ v L c ((Sees.ext hX).items h)) ?_
  rintro r new0 ⟨rfl, nr0⟩
  have hX := hX.app nr0
  cases g1 : comOk L c with
  | false =>
    simp (config := {implicitDefEqProofs := false, maxDischargeDepth := 20}) (disch := first | omega | (simp only [lenE]; done) | (simp only [lenE]; omega) | rfl | (simp only [lenE, markR_len]; done) | (simp only [lenE, markR_len]; omega)) only [runE, mapE, listE, initT_5, initT_6, initT_7, initT_8, resV, oneV, binA, unA, reduceCtorEq, Nat.reduceEqDiff, Nat.reduceAdd, Nat.reduceLT, Nat.reduceLeDiff, Nat.reduceMul, Nat.reduceSub, ↓reduceIte, decide_true, decide_false, Bool.true_eq_false, Bool.false_eq_true, Bool.not_true, Bool.not_false, if_true, if_false, and_true, true_and, memE, celE, w64, Nat.zero_add, Nat.add_zero, Nat.mul_one, putL, and_self, ldn, Bool.false_and, Bool.true_and, Bool.and_true, Bool.and_false, Bool.and_self]
    exact ext_ansV hX rfl
  | true =>
  obtain ⟨hF, hc⟩ := comOk_iff g1
  simp (config := {implicitDefEqProofs := false, maxDischargeDepth := 20}) (disch := first | omega | (simp only [lenE]; done) | (simp only [lenE]; omega) | rfl | (simp only [lenE, markR_len]; done) | (simp only [lenE, markR_len]; omega)) only [runE, mapE, listE, initT_5, initT_6, initT_7, initT_8, resV, oneV, binA, unA, reduceCtorEq, Nat.reduceEqDiff, Nat.reduceAdd, Nat.reduceLT, Nat.reduceLeDiff, Nat.reduceMul, Nat.reduceSub, ↓reduceIte, decide_true, decide_false, Bool.true_eq_false, Bool.false_eq_true, Bool.not_true, Bool.not_false, if_true, if_false, and_true, true_and, memE, celE, w64, Nat.zero_add, Nat.add_zero, Nat.mul_one, putL, and_self, ldn]
  refine callH_rc (specFits_rc _ v L c ((Sees.ext hX).items h) hF hc) ?_
  rintro r new1 ⟨rfl, nr1⟩
  simp (config := {implicitDefEqProofs := false, maxDischargeDepth := 20}) (disch := first | omega | (simp only [lenE]; done) | (simp only [lenE]; omega) | rfl | (simp only [lenE, markR_len]; done) | (simp only [lenE, markR_len]; omega)) only [runE, mapE, listE, initT_5, initT_6, initT_7, initT_8, resV, oneV, binA, unA, reduceCtorEq, Nat.reduceEqDiff, Nat.reduceAdd, Nat.reduceLT, Nat.reduceLeDiff, Nat.reduceMul, Nat.reduceSub, ↓reduceIte, decide_true, decide_false, Bool.true_eq_false, Bool.false_eq_true, Bool.not_true, Bool.not_false, if_true, if_false, and_true, true_and, memE, celE, w64, Nat.zero_add, Nat.add_zero, Nat.mul_one, putL, and_self, ldn, Bool.false_and, Bool.true_and, Bool.and_true, Bool.and_false, Bool.and_self]
  exact ext_ansV (hX.app nr1) rfl
theorem implCycleFits_rc (m : Mem) (v : Value) (L : List It) (c : Int) (h : ItemsA m v L) : RC Try.prog 44 [v, .int .i64 c] m (AnsV (.tuple #[.bool (fitsA L c), .bool (comOk L c)])) := by
  refine rc_of_run mixed ok_impl_CycleFits (by simp) (go_start _ _ _ ?_)
  unfold fitsA comOk
  have hX := Ext.refl m
  simp (config := {implicitDefEqProofs := false, maxDischargeDepth := 20}) (disch := first | omega | (simp only [lenE]; done) | (simp only [lenE]; omega) | rfl | (simp only [lenE, markR_len]; done) | (simp only [lenE, markR_len]; omega)) only [runE, mapE, listE, initT_5, initT_6, initT_7, initT_8, resV, oneV, binA, unA, reduceCtorEq, Nat.reduceEqDiff, Nat.reduceAdd, Nat.reduceLT, Nat.reduceLeDiff, Nat.reduceMul, Nat.reduceSub, ↓reduceIte, decide_true, decide_false, Bool.true_eq_false, Bool.false_eq_true, Bool.not_true, Bool.not_false, if_true, if_false, and_true, true_and, memE, celE, w64, Nat.zero_add, Nat.add_zero, Nat.mul_one, putL, and_self, ldn, c_impl_CycleFits, r_impl_CycleFits]
  refine callH_rc (isFamily_rc _ v L ((Sees.ext hX).items h)) ?_
  rintro r new0 ⟨rfl, nr0⟩
  have hX := hX.app nr0
  cases g1 : famB L with
  | false =>
    simp (config := {implicitDefEqProofs := false, maxDischargeDepth := 20}) (disch := first | omega | (simp only [lenE]; done) | (simp only [lenE]; omega) | rfl | (simp only [lenE, markR_len]; done) | (simp only [lenE, markR_len]; omega)) only [runE, mapE, listE, initT_5, initT_6, initT_7, initT_8, resV, oneV, binA, unA, reduceCtorEq, Nat.reduceEqDiff, Nat.reduceAdd, Nat.reduceLT, Nat.reduceLeDiff, Nat.reduceMul, Nat.reduceSub, ↓reduceIte, decide_true, decide_false, Bool.true_eq_false, Bool.false_eq_true, Bool.not_true, Bool.not_false, if_true, if_false, and_true, true_and, memE, celE, w64, Nat.zero_add, Nat.add_zero, Nat.mul_one, putL, and_self, ldn, Bool.false_and, Bool.true_and, Bool.and_true, Bool.and_false, Bool.and_self]
    exact ext_ansV hX rfl
  | true =>
  simp (config := {implicitDefEqProofs := false, maxDischargeDepth := 20}) (disch := first | omega | (simp only [lenE]; done) | (simp only [lenE]; omega) | rfl | (simp only [lenE, markR_len]; done) | (simp only [lenE, markR_len]; omega)) only [runE, mapE, listE, initT_5, initT_6, initT_7, initT_8, resV, oneV, binA, unA, reduceCtorEq, Nat.reduceEqDiff, Nat.reduceAdd, Nat.reduceLT, Nat.reduceLeDiff, Nat.reduceMul, Nat.reduceSub, ↓reduceIte, decide_true, decide_false, Bool.true_eq_false, Bool.false_eq_true, Bool.not_true, Bool.not_false, if_true, if_false, and_true, true_and, memE, celE, w64, Nat.zero_add, Nat.add_zero, Nat.mul_one, putL, and_self, ldn]
  refine callH_rc (isCount_rc _ _ _) ?_
  rintro r new1 ⟨rfl, rfl⟩
  rw [List.append_nil]
  cases g2 : inR 1 400 c with
  | false =>
    simp (config := {implicitDefEqProofs := false, maxDischargeDepth := 20}) (disch := first | omega | (simp only [lenE]; done) | (simp only [lenE]; omega) | rfl | (simp only [lenE, markR_len]; done) | (simp only [lenE, markR_len]; omega)) only [runE, mapE, listE, initT_5, initT_6, initT_7, initT_8, resV, oneV, binA, unA, reduceCtorEq, Nat.reduceEqDiff, Nat.reduceAdd, Nat.reduceLT, Nat.reduceLeDiff, Nat.reduceMul, Nat.reduceSub, ↓reduceIte, decide_true, decide_false, Bool.true_eq_false, Bool.false_eq_true, Bool.not_true, Bool.not_false, if_true, if_false, and_true, true_and, memE, celE, w64, Nat.zero_add, Nat.add_zero, Nat.mul_one, putL, and_self, ldn, Bool.false_and, Bool.true_and, Bool.and_true, Bool.and_false, Bool.and_self]
    exact ext_ansV hX rfl
  | true =>
  simp (config := {implicitDefEqProofs := false, maxDischargeDepth := 20}) (disch := first | omega | (simp only [lenE]; done) | (simp only [lenE]; omega) | rfl | (simp only [lenE, markR_len]; done) | (simp only [lenE, markR_len]; omega)) only [runE, mapE, listE, initT_5, initT_6, initT_7, initT_8, resV, oneV, binA, unA, reduceCtorEq, Nat.reduceEqDiff, Nat.reduceAdd, Nat.reduceLT, Nat.reduceLeDiff, Nat.reduceMul, Nat.reduceSub, ↓reduceIte, decide_true, decide_false, Bool.true_eq_false, Bool.false_eq_true, Bool.not_true, Bool.not_false, if_true, if_false, and_true, true_and, memE, celE, w64, Nat.zero_add, Nat.add_zero, Nat.mul_one, putL, and_self, ldn]
  refine callH_rc (implFits_rc _ v L c ((Sees.ext hX).items h) (goodF_iff.1 g1) (inR_iff.1 g2)) ?_
  rintro r new1 ⟨rfl, nr1⟩
  simp (config := {implicitDefEqProofs := false, maxDischargeDepth := 20}) (disch := first | omega | (simp only [lenE]; done) | (simp only [lenE]; omega) | rfl | (simp only [lenE, markR_len]; done) | (simp only [lenE, markR_len]; omega)) only [runE, mapE, listE, initT_5, initT_6, initT_7, initT_8, resV, oneV, binA, unA, reduceCtorEq, Nat.reduceEqDiff, Nat.reduceAdd, Nat.reduceLT, Nat.reduceLeDiff, Nat.reduceMul, Nat.reduceSub, ↓reduceIte, decide_true, decide_false, Bool.true_eq_false, Bool.false_eq_true, Bool.not_true, Bool.not_false, if_true, if_false, and_true, true_and, memE, celE, w64, Nat.zero_add, Nat.add_zero, Nat.mul_one, putL, and_self, ldn, Bool.false_and, Bool.true_and, Bool.and_true, Bool.and_false, Bool.and_self]
  exact ext_ansV (hX.app nr1) rfl
theorem specCommonCost_rc (m : Mem) (v : Value) (L : List It) (c : Int) (h : ItemsA m v L) : RC Try.prog 47 [v, .int .i64 c] m (AnsV (.tuple #[frV (comA L c), .bool (comOk L c)])) := by
  refine rc_of_run mixed ok_spec_CommonCost (by simp) (go_start _ _ _ ?_)
  unfold comA
  simp (config := {implicitDefEqProofs := false, maxDischargeDepth := 20}) (disch := first | omega | (simp only [lenE]; done) | (simp only [lenE]; omega) | rfl | (simp only [lenE, markR_len]; done) | (simp only [lenE, markR_len]; omega)) only [runE, mapE, listE, initT_5, initT_6, initT_7, initT_8, resV, oneV, binA, unA, reduceCtorEq, Nat.reduceEqDiff, Nat.reduceAdd, Nat.reduceLT, Nat.reduceLeDiff, Nat.reduceMul, Nat.reduceSub, ↓reduceIte, decide_true, decide_false, Bool.true_eq_false, Bool.false_eq_true, Bool.not_true, Bool.not_false, if_true, if_false, and_true, true_and, memE, celE, w64, Nat.zero_add, Nat.add_zero, Nat.mul_one, putL, and_self, ldn, c_spec_CommonCost, r_spec_CommonCost]
  obtain ⟨E, hE⟩ : ∃ M, M = roM m ++ [⟨.own, 28, [.int .i64 0, .int .i64 0]⟩] := ⟨_, rfl⟩
  rw [← hE]
  have hX : Ext m E := by rw [hE]; exact (Ext.refl m).one _ _
  have o0 : OwnB E m.length 28 [.int .i64 0, .int .i64 0] := by rw [hE]; exact OwnB.here (roM_len m).symm
  clear hE
  refine callH_rc (l8Common_rc _ v L c ((Sees.ext hX).items h)) ?_
  rintro r new0 ⟨rfl, nr0⟩
  have hX := hX.app nr0
  have o0 := o0.ext new0
  cases g1 : comOk L c with
  | false =>
    have hst := o0.st (off := 0) (vs := [.int .i64 0, .int .i64 0]) (by simp) rfl
    have hrd := (o0.set_self 28 [.int .i64 0, .int .i64 0]).rd
    simp (config := {implicitDefEqProofs := false, maxDischargeDepth := 20}) (disch := first | omega | (simp only [lenE]; done) | (simp only [lenE]; omega) | rfl | (simp only [lenE, markR_len]; done) | (simp only [lenE, markR_len]; omega)) only [runE, mapE, listE, initT_5, initT_6, initT_7, initT_8, resV, oneV, binA, unA, reduceCtorEq, Nat.reduceEqDiff, Nat.reduceAdd, Nat.reduceLT, Nat.reduceLeDiff, Nat.reduceMul, Nat.reduceSub, ↓reduceIte, decide_true, decide_false, Bool.true_eq_false, Bool.false_eq_true, Bool.not_true, Bool.not_false, if_true, if_false, and_true, true_and, memE, celE, w64, Nat.zero_add, Nat.add_zero, Nat.mul_one, putL, and_self, ldn, hst, hrd, frV, stP_agg2, bld0, Bool.false_and, Bool.true_and, Bool.and_true, Bool.and_false, Bool.and_self]
    exact ext_ansV (hX.put (Nat.le_refl _) _ _) rfl
  | true =>
  obtain ⟨hF, hc⟩ := comOk_iff g1
  simp (config := {implicitDefEqProofs := false, maxDischargeDepth := 20}) (disch := first | omega | (simp only [lenE]; done) | (simp only [lenE]; omega) | rfl | (simp only [lenE, markR_len]; done) | (simp only [lenE, markR_len]; omega)) only [runE, mapE, listE, initT_5, initT_6, initT_7, initT_8, resV, oneV, binA, unA, reduceCtorEq, Nat.reduceEqDiff, Nat.reduceAdd, Nat.reduceLT, Nat.reduceLeDiff, Nat.reduceMul, Nat.reduceSub, ↓reduceIte, decide_true, decide_false, Bool.true_eq_false, Bool.false_eq_true, Bool.not_true, Bool.not_false, if_true, if_false, and_true, true_and, memE, celE, w64, Nat.zero_add, Nat.add_zero, Nat.mul_one, putL, and_self, ldn, if_true]
  refine callH_rc (specShared_rc _ v L c ((Sees.ext hX).items h) hF hc) ?_
  rintro r new1 ⟨rfl, nr1⟩
  generalize sharedF L c = z at *
  have hst := (o0.ext new1).st (off := 0) (vs := [.int .i64 z.1, .int .i64 z.2]) (by simp) rfl
  have hrd := ((o0.ext new1).set_self 28 [.int .i64 z.1, .int .i64 z.2]).rd
  simp (config := {implicitDefEqProofs := false, maxDischargeDepth := 20}) (disch := first | omega | (simp only [lenE]; done) | (simp only [lenE]; omega) | rfl | (simp only [lenE, markR_len]; done) | (simp only [lenE, markR_len]; omega)) only [runE, mapE, listE, initT_5, initT_6, initT_7, initT_8, resV, oneV, binA, unA, reduceCtorEq, Nat.reduceEqDiff, Nat.reduceAdd, Nat.reduceLT, Nat.reduceLeDiff, Nat.reduceMul, Nat.reduceSub, ↓reduceIte, decide_true, decide_false, Bool.true_eq_false, Bool.false_eq_true, Bool.not_true, Bool.not_false, if_true, if_false, and_true, true_and, memE, celE, w64, Nat.zero_add, Nat.add_zero, Nat.mul_one, putL, and_self, ldn, hst, hrd, frV, stP_agg2, Bool.false_and, Bool.true_and, Bool.and_true, Bool.and_false, Bool.and_self]
  exact ext_ansV ((hX.app nr1).put (Nat.le_refl _) _ _) rfl
theorem implCommonCost_rc (m : Mem) (v : Value) (L : List It) (c : Int) (h : ItemsA m v L) : RC Try.prog 48 [v, .int .i64 c] m (AnsV (.tuple #[frV (comA L c), .bool (comOk L c)])) := by
  refine rc_of_run mixed ok_impl_CommonCost (by simp) (go_start _ _ _ ?_)
  unfold comA comOk
  simp (config := {implicitDefEqProofs := false, maxDischargeDepth := 20}) (disch := first | omega | (simp only [lenE]; done) | (simp only [lenE]; omega) | rfl | (simp only [lenE, markR_len]; done) | (simp only [lenE, markR_len]; omega)) only [runE, mapE, listE, initT_5, initT_6, initT_7, initT_8, resV, oneV, binA, unA, reduceCtorEq, Nat.reduceEqDiff, Nat.reduceAdd, Nat.reduceLT, Nat.reduceLeDiff, Nat.reduceMul, Nat.reduceSub, ↓reduceIte, decide_true, decide_false, Bool.true_eq_false, Bool.false_eq_true, Bool.not_true, Bool.not_false, if_true, if_false, and_true, true_and, memE, celE, w64, Nat.zero_add, Nat.add_zero, Nat.mul_one, putL, and_self, ldn, c_impl_CommonCost, r_impl_CommonCost]
  obtain ⟨E, hE⟩ : ∃ M, M = roM m ++ [⟨.own, 28, [.int .i64 0, .int .i64 0]⟩] := ⟨_, rfl⟩
  rw [← hE]
  have hX : Ext m E := by rw [hE]; exact (Ext.refl m).one _ _
  have o0 : OwnB E m.length 28 [.int .i64 0, .int .i64 0] := by rw [hE]; exact OwnB.here (roM_len m).symm
  clear hE
  refine callH_rc (isFamily_rc _ v L ((Sees.ext hX).items h)) ?_
  rintro r new0 ⟨rfl, nr0⟩
  have hX := hX.app nr0
  have o0 := o0.ext new0
  cases g1 : famB L with
  | false =>
    have hst := o0.st (off := 0) (vs := [.int .i64 0, .int .i64 0]) (by simp) rfl
    have hrd := (o0.set_self 28 [.int .i64 0, .int .i64 0]).rd
    simp (config := {implicitDefEqProofs := false, maxDischargeDepth := 20}) (disch := first | omega | (simp only [lenE]; done) | (simp only [lenE]; omega) | rfl | (simp only [lenE, markR_len]; done) | (simp only [lenE, markR_len]; omega)) only [runE, mapE, listE, initT_5, initT_6, initT_7, initT_8, resV, oneV, binA, unA, reduceCtorEq, Nat.reduceEqDiff, Nat.reduceAdd, Nat.reduceLT, Nat.reduceLeDiff, Nat.reduceMul, Nat.reduceSub, ↓reduceIte, decide_true, decide_false, Bool.true_eq_false, Bool.false_eq_true, Bool.not_true, Bool.not_false, if_true, if_false, and_true, true_and, memE, celE, w64, Nat.zero_add, Nat.add_zero, Nat.mul_one, putL, and_self, ldn, hst, hrd, frV, stP_agg2, bld0, Bool.false_and, Bool.true_and, Bool.and_true, Bool.and_false, Bool.and_self]
    exact ext_ansV (hX.put (Nat.le_refl _) _ _) rfl
  | true =>
  simp (config := {implicitDefEqProofs := false, maxDischargeDepth := 20}) (disch := first | omega | (simp only [lenE]; done) | (simp only [lenE]; omega) | rfl | (simp only [lenE, markR_len]; done) | (simp only [lenE, markR_len]; omega)) only [runE, mapE, listE, initT_5, initT_6, initT_7, initT_8, resV, oneV, binA, unA, reduceCtorEq, Nat.reduceEqDiff, Nat.reduceAdd, Nat.reduceLT, Nat.reduceLeDiff, Nat.reduceMul, Nat.reduceSub, ↓reduceIte, decide_true, decide_false, Bool.true_eq_false, Bool.false_eq_true, Bool.not_true, Bool.not_false, if_true, if_false, and_true, true_and, memE, celE, w64, Nat.zero_add, Nat.add_zero, Nat.mul_one, putL, and_self, ldn]
  refine callH_rc (isCount_rc _ _ _) ?_
  rintro r new1 ⟨rfl, rfl⟩
  rw [List.append_nil]
  cases g2 : inR 1 400 c with
  | false =>
    have hst := o0.st (off := 0) (vs := [.int .i64 0, .int .i64 0]) (by simp) rfl
    have hrd := (o0.set_self 28 [.int .i64 0, .int .i64 0]).rd
    simp (config := {implicitDefEqProofs := false, maxDischargeDepth := 20}) (disch := first | omega | (simp only [lenE]; done) | (simp only [lenE]; omega) | rfl | (simp only [lenE, markR_len]; done) | (simp only [lenE, markR_len]; omega)) only [runE, mapE, listE, initT_5, initT_6, initT_7, initT_8, resV, oneV, binA, unA, reduceCtorEq, Nat.reduceEqDiff, Nat.reduceAdd, Nat.reduceLT, Nat.reduceLeDiff, Nat.reduceMul, Nat.reduceSub, ↓reduceIte, decide_true, decide_false, Bool.true_eq_false, Bool.false_eq_true, Bool.not_true, Bool.not_false, if_true, if_false, and_true, true_and, memE, celE, w64, Nat.zero_add, Nat.add_zero, Nat.mul_one, putL, and_self, ldn, hst, hrd, frV, stP_agg2, bld0, Bool.false_and, Bool.true_and, Bool.and_true, Bool.and_false, Bool.and_self]
    exact ext_ansV (hX.put (Nat.le_refl _) _ _) rfl
  | true =>
  simp (config := {implicitDefEqProofs := false, maxDischargeDepth := 20}) (disch := first | omega | (simp only [lenE]; done) | (simp only [lenE]; omega) | rfl | (simp only [lenE, markR_len]; done) | (simp only [lenE, markR_len]; omega)) only [runE, mapE, listE, initT_5, initT_6, initT_7, initT_8, resV, oneV, binA, unA, reduceCtorEq, Nat.reduceEqDiff, Nat.reduceAdd, Nat.reduceLT, Nat.reduceLeDiff, Nat.reduceMul, Nat.reduceSub, ↓reduceIte, decide_true, decide_false, Bool.true_eq_false, Bool.false_eq_true, Bool.not_true, Bool.not_false, if_true, if_false, and_true, true_and, memE, celE, w64, Nat.zero_add, Nat.add_zero, Nat.mul_one, putL, and_self, ldn, Bool.false_and, Bool.true_and, Bool.and_true, Bool.and_false, Bool.and_self, if_true]
  refine callH_rc (implShared_rc _ v L c ((Sees.ext hX).items h) (goodF_iff.1 g1) (inR_iff.1 g2)) ?_
  rintro r new1 ⟨rfl, nr1⟩
  generalize sharedF L c = z at *
  have hst := (o0.ext new1).st (off := 0) (vs := [.int .i64 z.1, .int .i64 z.2]) (by simp) rfl
  have hrd := ((o0.ext new1).set_self 28 [.int .i64 z.1, .int .i64 z.2]).rd
  simp (config := {implicitDefEqProofs := false, maxDischargeDepth := 20}) (disch := first | omega | (simp only [lenE]; done) | (simp only [lenE]; omega) | rfl | (simp only [lenE, markR_len]; done) | (simp only [lenE, markR_len]; omega)) only [runE, mapE, listE, initT_5, initT_6, initT_7, initT_8, resV, oneV, binA, unA, reduceCtorEq, Nat.reduceEqDiff, Nat.reduceAdd, Nat.reduceLT, Nat.reduceLeDiff, Nat.reduceMul, Nat.reduceSub, ↓reduceIte, decide_true, decide_false, Bool.true_eq_false, Bool.false_eq_true, Bool.not_true, Bool.not_false, if_true, if_false, and_true, true_and, memE, celE, w64, Nat.zero_add, Nat.add_zero, Nat.mul_one, putL, and_self, ldn, hst, hrd, frV, stP_agg2, Bool.false_and, Bool.true_and, Bool.and_true, Bool.and_false, Bool.and_self]
  exact ext_ansV ((hX.app nr1).put (Nat.le_refl _) _ _) rfl

theorem l8Least_rc (m : Mem) (v : Value) (L : List It) (h : ItemsA m v L) (hF : GoodF L) : RC Try.prog 82 [v] m (AnsV (.int .i64 ((fitL L).getD 0 0))) := by
  refine rc_of_run mixed ok_spec_l8Least (by simp) (go_start _ _ _ ?_)
  simp (config := {implicitDefEqProofs := false, maxDischargeDepth := 20}) (disch := first | omega | (simp only [lenE]; done) | (simp only [lenE]; omega) | rfl | (simp only [lenE, markR_len]; done) | (simp only [lenE, markR_len]; omega)) only [runE, mapE, listE, initT_5, initT_6, initT_7, initT_8, resV, oneV, binA, unA, reduceCtorEq, Nat.reduceEqDiff, Nat.reduceAdd, Nat.reduceLT, Nat.reduceLeDiff, Nat.reduceMul, Nat.reduceSub, ↓reduceIte, decide_true, decide_false, Bool.true_eq_false, Bool.false_eq_true, Bool.not_true, Bool.not_false, if_true, if_false, and_true, true_and, memE, celE, w64, Nat.zero_add, Nat.add_zero, Nat.mul_one, putL, and_self, ldn, c_spec_l8Least, r_spec_l8Least]
  obtain ⟨want, hw⟩ : ∃ want, want = (fitL L).getD 0 0 := ⟨_, rfl⟩
  rw [← hw]
  unfold fitL at hw
  refine loop_inv mixed (fun s => ∃ (k : Nat) (M : Mem), k ≤ 400 ∧ want = ((upFrom (1 + k) (400 - k)).filter (fitsB L)).getD 0 0 ∧ s.m = M ∧ Ext m M ∧ s.t 0 = v ∧ s.t 3 = .int .i64 (1 + (k : Int))) (fun s => 401 - (intOf (s.t 3)).toNat)
    ⟨0, _, by omega, hw, rfl, Ext.refl m, rfl, rfl⟩ ?_
  rintro s ⟨k, M, hk, hwant, tm, hX, t0, t3⟩
  have hM := (Sees.ext hX).items h
  by_cases hk4 : k < 400
  · have hle : (1 + (k : Int)) ≤ 400 := by omega
    simp (config := {implicitDefEqProofs := false, maxDischargeDepth := 20}) (disch := first | omega | (simp only [lenE]; done) | (simp only [lenE]; omega) | rfl | (simp only [lenE, markR_len]; done) | (simp only [lenE, markR_len]; omega)) only [runE, mapE, listE, initT_5, initT_6, initT_7, initT_8, resV, oneV, binA, unA, reduceCtorEq, Nat.reduceEqDiff, Nat.reduceAdd, Nat.reduceLT, Nat.reduceLeDiff, Nat.reduceMul, Nat.reduceSub, ↓reduceIte, decide_true, decide_false, Bool.true_eq_false, Bool.false_eq_true, Bool.not_true, Bool.not_false, if_true, if_false, and_true, true_and, memE, celE, w64, Nat.zero_add, Nat.add_zero, Nat.mul_one, putL, and_self, ldn, tm, t0, t3, hle]
    refine callH_rc (specFits_rc _ v L (1 + (k : Int)) hM hF (by omega)) ?_
    rintro r new ⟨rfl, nrn⟩
    have e0 : (1 + (k : Int)) + 1 = 1 + ((k + 1 : Nat) : Int) := by push_cast; omega
    rw [show 400 - k = (400 - (k + 1)) + 1 by omega, upFrom, e0] at hwant
    cases hf : fitsB L (1 + (k : Int)) with
    | true =>
      rw [List.filter_cons_of_pos hf, List.getD_cons_zero] at hwant
      simp (config := {implicitDefEqProofs := false, maxDischargeDepth := 20}) (disch := first | omega | (simp only [lenE]; done) | (simp only [lenE]; omega) | rfl | (simp only [lenE, markR_len]; done) | (simp only [lenE, markR_len]; omega)) only [runE, mapE, listE, initT_5, initT_6, initT_7, initT_8, resV, oneV, binA, unA, reduceCtorEq, Nat.reduceEqDiff, Nat.reduceAdd, Nat.reduceLT, Nat.reduceLeDiff, Nat.reduceMul, Nat.reduceSub, ↓reduceIte, decide_true, decide_false, Bool.true_eq_false, Bool.false_eq_true, Bool.not_true, Bool.not_false, if_true, if_false, and_true, true_and, memE, celE, w64, Nat.zero_add, Nat.add_zero, Nat.mul_one, putL, and_self, ldn, tm, t0, t3]
      exact ext_ansV (hX.app nrn) (by rw [hwant])
    | false =>
      rw [List.filter_cons_of_neg (by simp [hf])] at hwant
      simp (config := {implicitDefEqProofs := false, maxDischargeDepth := 20}) (disch := first | omega | (simp only [lenE]; done) | (simp only [lenE]; omega) | rfl | (simp only [lenE, markR_len]; done) | (simp only [lenE, markR_len]; omega)) only [runE, mapE, listE, initT_5, initT_6, initT_7, initT_8, resV, oneV, binA, unA, reduceCtorEq, Nat.reduceEqDiff, Nat.reduceAdd, Nat.reduceLT, Nat.reduceLeDiff, Nat.reduceMul, Nat.reduceSub, ↓reduceIte, decide_true, decide_false, Bool.true_eq_false, Bool.false_eq_true, Bool.not_true, Bool.not_false, if_true, if_false, and_true, true_and, memE, celE, w64, Nat.zero_add, Nat.add_zero, Nat.mul_one, putL, and_self, ldn, tm, t0, t3]
      refine ⟨⟨k + 1, _, by omega, hwant, rfl, hX.app nrn, by push_cast; congr 1⟩, ?_⟩
      simp [intOf]; omega
  · have e : k = 400 := by omega
    subst e
    have hle : ¬ ((1 + ((400 : Nat) : Int)) ≤ 400) := by omega
    have hwant : want = 0 := hwant
    simp (config := {implicitDefEqProofs := false, maxDischargeDepth := 20}) (disch := first | omega | (simp only [lenE]; done) | (simp only [lenE]; omega) | rfl | (simp only [lenE, markR_len]; done) | (simp only [lenE, markR_len]; omega)) only [runE, mapE, listE, initT_5, initT_6, initT_7, initT_8, resV, oneV, binA, unA, reduceCtorEq, Nat.reduceEqDiff, Nat.reduceAdd, Nat.reduceLT, Nat.reduceLeDiff, Nat.reduceMul, Nat.reduceSub, ↓reduceIte, decide_true, decide_false, Bool.true_eq_false, Bool.false_eq_true, Bool.not_true, Bool.not_false, if_true, if_false, and_true, true_and, memE, celE, w64, Nat.zero_add, Nat.add_zero, Nat.mul_one, putL, and_self, ldn, tm, t0, t3, hle]
    exact ext_ansV hX (by rw [hwant])
def leastOk (L : List It) : Bool := famB L && decide (0 < (fitL L).length)
def leastN (L : List It) : Int := if famB L then (fitL L).getD 0 0 else 0
theorem fitL_zero (L : List It) : ((fitL L).getD 0 0 == 0) = !decide (0 < (fitL L).length) := by
  cases e : fitL L with
  | nil => rfl
  | cons x l =>
    have := fitL_in (L := L) (c := x) (by rw [e]; simp)
    rw [List.getD_cons_zero, beq_eq_false_iff_ne.2 (by omega)]
    simp
theorem specLeastCommon_rc (m : Mem) (v : Value) (L : List It) (h : ItemsA m v L) : RC Try.prog 45 [v] m (AnsV (.tuple #[.int .i64 (leastN L), .bool (leastOk L)])) := by
  refine rc_of_run mixed ok_spec_LeastCommon (by simp) (go_start _ _ _ ?_)
  unfold leastN leastOk
  have hX := Ext.refl m
  simp (config := {implicitDefEqProofs := false, maxDischargeDepth := 20}) (disch := first | omega | (simp only [lenE]; done) | (simp only [lenE]; omega) | rfl | (simp only [lenE, markR_len]; done) | (simp only [lenE, markR_len]; omega)) only [runE, mapE, listE, initT_5, initT_6, initT_7, initT_8, resV, oneV, binA, unA, reduceCtorEq, Nat.reduceEqDiff, Nat.reduceAdd, Nat.reduceLT, Nat.reduceLeDiff, Nat.reduceMul, Nat.reduceSub, ↓reduceIte, decide_true, decide_false, Bool.true_eq_false, Bool.false_eq_true, Bool.not_true, Bool.not_false, if_true, if_false, and_true, true_and, memE, celE, w64, Nat.zero_add, Nat.add_zero, Nat.mul_one, putL, and_self, ldn, c_spec_LeastCommon, r_spec_LeastCommon]
  refine callH_rc (l8Family_rc _ v L ((Sees.ext hX).items h)) ?_
  rintro r new0 ⟨rfl, nr0⟩
  have hX := hX.app nr0
  cases g1 : famB L with
  | false =>
    simp (config := {implicitDefEqProofs := false, maxDischargeDepth := 20}) (disch := first | omega | (simp only [lenE]; done) | (simp only [lenE]; omega) | rfl | (simp only [lenE, markR_len]; done) | (simp only [lenE, markR_len]; omega)) only [runE, mapE, listE, initT_5, initT_6, initT_7, initT_8, resV, oneV, binA, unA, reduceCtorEq, Nat.reduceEqDiff, Nat.reduceAdd, Nat.reduceLT, Nat.reduceLeDiff, Nat.reduceMul, Nat.reduceSub, ↓reduceIte, decide_true, decide_false, Bool.true_eq_false, Bool.false_eq_true, Bool.not_true, Bool.not_false, if_true, if_false, and_true, true_and, memE, celE, w64, Nat.zero_add, Nat.add_zero, Nat.mul_one, putL, and_self, ldn, Bool.false_and, Bool.true_and, Bool.and_true, Bool.and_false, Bool.and_self]
    exact ext_ansV hX rfl
  | true =>
  have hF := goodF_iff.1 g1
  simp (config := {implicitDefEqProofs := false, maxDischargeDepth := 20}) (disch := first | omega | (simp only [lenE]; done) | (simp only [lenE]; omega) | rfl | (simp only [lenE, markR_len]; done) | (simp only [lenE, markR_len]; omega)) only [runE, mapE, listE, initT_5, initT_6, initT_7, initT_8, resV, oneV, binA, unA, reduceCtorEq, Nat.reduceEqDiff, Nat.reduceAdd, Nat.reduceLT, Nat.reduceLeDiff, Nat.reduceMul, Nat.reduceSub, ↓reduceIte, decide_true, decide_false, Bool.true_eq_false, Bool.false_eq_true, Bool.not_true, Bool.not_false, if_true, if_false, and_true, true_and, memE, celE, w64, Nat.zero_add, Nat.add_zero, Nat.mul_one, putL, and_self, ldn]
  refine callH_rc (l8Least_rc _ v L ((Sees.ext hX).items h) hF) ?_
  rintro r new1 ⟨rfl, nr1⟩
  have hX := hX.app nr1
  have hz := fitL_zero L
  cases g2 : decide (0 < (fitL L).length) with
  | false =>
    rw [g2] at hz
    have hz0 : (fitL L).getD 0 0 = 0 := by simpa using hz
    simp (config := {implicitDefEqProofs := false, maxDischargeDepth := 20}) (disch := first | omega | (simp only [lenE]; done) | (simp only [lenE]; omega) | rfl | (simp only [lenE, markR_len]; done) | (simp only [lenE, markR_len]; omega)) only [runE, mapE, listE, initT_5, initT_6, initT_7, initT_8, resV, oneV, binA, unA, reduceCtorEq, Nat.reduceEqDiff, Nat.reduceAdd, Nat.reduceLT, Nat.reduceLeDiff, Nat.reduceMul, Nat.reduceSub, ↓reduceIte, decide_true, decide_false, Bool.true_eq_false, Bool.false_eq_true, Bool.not_true, Bool.not_false, if_true, if_false, and_true, true_and, memE, celE, w64, Nat.zero_add, Nat.add_zero, Nat.mul_one, putL, and_self, ldn, hz, Bool.false_and, Bool.true_and, Bool.and_true, Bool.and_false, Bool.and_self, Bool.not_false]
    rw [hz0]
    exact ext_ansV hX rfl
  | true =>
  rw [g2] at hz
  simp (config := {implicitDefEqProofs := false, maxDischargeDepth := 20}) (disch := first | omega | (simp only [lenE]; done) | (simp only [lenE]; omega) | rfl | (simp only [lenE, markR_len]; done) | (simp only [lenE, markR_len]; omega)) only [runE, mapE, listE, initT_5, initT_6, initT_7, initT_8, resV, oneV, binA, unA, reduceCtorEq, Nat.reduceEqDiff, Nat.reduceAdd, Nat.reduceLT, Nat.reduceLeDiff, Nat.reduceMul, Nat.reduceSub, ↓reduceIte, decide_true, decide_false, Bool.true_eq_false, Bool.false_eq_true, Bool.not_true, Bool.not_false, if_true, if_false, and_true, true_and, memE, celE, w64, Nat.zero_add, Nat.add_zero, Nat.mul_one, putL, and_self, ldn, hz, Bool.false_and, Bool.true_and, Bool.and_true, Bool.and_false, Bool.and_self, Bool.not_true]
  refine callH_rc (l8Least_rc _ v L ((Sees.ext hX).items h) hF) ?_
  rintro r new2 ⟨rfl, nr2⟩
  simp (config := {implicitDefEqProofs := false, maxDischargeDepth := 20}) (disch := first | omega | (simp only [lenE]; done) | (simp only [lenE]; omega) | rfl | (simp only [lenE, markR_len]; done) | (simp only [lenE, markR_len]; omega)) only [runE, mapE, listE, initT_5, initT_6, initT_7, initT_8, resV, oneV, binA, unA, reduceCtorEq, Nat.reduceEqDiff, Nat.reduceAdd, Nat.reduceLT, Nat.reduceLeDiff, Nat.reduceMul, Nat.reduceSub, ↓reduceIte, decide_true, decide_false, Bool.true_eq_false, Bool.false_eq_true, Bool.not_true, Bool.not_false, if_true, if_false, and_true, true_and, memE, celE, w64, Nat.zero_add, Nat.add_zero, Nat.mul_one, putL, and_self, ldn, Bool.false_and, Bool.true_and, Bool.and_true, Bool.and_false, Bool.and_self, if_true]
  exact ext_ansV (hX.app nr2) rfl

theorem fitTest_rc (m M : Mem) (v : Value) (L : List It) (bid : Nat) (x : Int) (hx : 1 ≤ x ∧ x ≤ 400) (hM : ItemsA M v L) (hb : rdc M bid 0 = some v) (hF : GoodF L) :
    RC Try.prog 114 [.int .i64 x, .pointer (some ⟨bid, 0, none⟩)] M (AnsV (.bool (!fitsB L x))) := by
  refine rc_of_run mixed ok_impl_made__choices_1 (by simp) (go_start _ _ _ ?_)
  have hb' : rdc (roM M) bid 0 = some v := (rdc_roM M bid 0).trans hb
  simp (config := {implicitDefEqProofs := false, maxDischargeDepth := 20}) (disch := first | omega | (simp only [lenE]; done) | (simp only [lenE]; omega) | rfl | (simp only [lenE, markR_len]; done) | (simp only [lenE, markR_len]; omega)) only [runE, mapE, listE, initT_5, initT_6, initT_7, initT_8, resV, oneV, binA, unA, reduceCtorEq, Nat.reduceEqDiff, Nat.reduceAdd, Nat.reduceLT, Nat.reduceLeDiff, Nat.reduceMul, Nat.reduceSub, ↓reduceIte, decide_true, decide_false, Bool.true_eq_false, Bool.false_eq_true, Bool.not_true, Bool.not_false, if_true, if_false, and_true, true_and, memE, celE, w64, Nat.zero_add, Nat.add_zero, Nat.mul_one, putL, and_self, ldn, c_impl_made__choices_1, r_impl_made__choices_1, hb']
  refine callH_rc (implFits_rc _ v L x hM.ro hF hx) ?_
  rintro r new ⟨rfl, nrn⟩
  simp (config := {implicitDefEqProofs := false, maxDischargeDepth := 20}) (disch := first | omega | (simp only [lenE]; done) | (simp only [lenE]; omega) | rfl | (simp only [lenE, markR_len]; done) | (simp only [lenE, markR_len]; omega)) only [runE, mapE, listE, initT_5, initT_6, initT_7, initT_8, resV, oneV, binA, unA, reduceCtorEq, Nat.reduceEqDiff, Nat.reduceAdd, Nat.reduceLT, Nat.reduceLeDiff, Nat.reduceMul, Nat.reduceSub, ↓reduceIte, decide_true, decide_false, Bool.true_eq_false, Bool.false_eq_true, Bool.not_true, Bool.not_false, if_true, if_false, and_true, true_and, memE, celE, w64, Nat.zero_add, Nat.add_zero, Nat.mul_one, putL, and_self, ldn]
  exact ext_ansV ((Ext.refl M).app nrn) rfl
theorem filter_not_not (f : Int → Bool) (l : List Int) : l.filter (fun x => !(!f x)) = l.filter f := by
  congr 1
  funext x
  cases f x <;> rfl
theorem madeChoices_rc (m : Mem) (v : Value) (L : List It) (h : ItemsA m v L) (hF : GoodF L) : RC Try.prog 83 [v] m (fun r new => NoRo new ∧ IntsA (m ++ new) r (fitL L)) := by
  refine rc_of_run mixed ok_impl_made__choices (by simp) (go_start _ _ _ ?_)
  obtain ⟨_, vid, vfl, hv, hcells⟩ := _root_.id h
  subst hv
  simp (config := {implicitDefEqProofs := false, maxDischargeDepth := 20}) (disch := first | omega | (simp only [lenE]; done) | (simp only [lenE]; omega) | rfl | (simp only [lenE, markR_len]; done) | (simp only [lenE, markR_len]; omega)) only [runE, mapE, listE, initT_5, initT_6, initT_7, initT_8, resV, oneV, binA, unA, reduceCtorEq, Nat.reduceEqDiff, Nat.reduceAdd, Nat.reduceLT, Nat.reduceLeDiff, Nat.reduceMul, Nat.reduceSub, ↓reduceIte, decide_true, decide_false, Bool.true_eq_false, Bool.false_eq_true, Bool.not_true, Bool.not_false, if_true, if_false, and_true, true_and, memE, celE, w64, Nat.zero_add, Nat.add_zero, Nat.mul_one, putL, and_self, ldn, c_impl_made__choices, r_impl_made__choices]
  obtain ⟨E, hE⟩ : ∃ M, M = roM m ++ [⟨.own, 85, [.slice (some ⟨vid, 0, none⟩) L.length vfl]⟩] := ⟨_, rfl⟩
  rw [← hE]
  have hX : Ext m E := by rw [hE]; exact (Ext.refl m).one _ _
  have o0 : OwnB E m.length 85 [.slice (some ⟨vid, 0, none⟩) L.length vfl] := by rw [hE]; exact OwnB.here (roM_len m).symm
  clear hE
  refine callH_rc (countsUpTo_rc _ 400 (by omega)) ?_
  rintro r new0 ⟨nr0, w, rfl, hA⟩
  have hX0 := hX.app nr0
  have ob := o0.ext new0
  obtain ⟨h8, rid, rfl2, hr, hlo, hhi, hor⟩ := hA.now
  subst hr
  have hgt := o0.lt
  have hT : TestX rid (E ++ new0) (.func (.func 114) #[] #[.pointer (some ⟨m.length, 0, none⟩)]) (upFrom 1 400) (fun x => !fitsB L x) := by
    refine ⟨_, _, rfl, fun M x hM hx => ?_⟩
    have hx := upFrom_mem.1 hx
    have hI : ItemsA (E ++ new0) (.slice (some ⟨vid, 0, none⟩) L.length vfl) L := (Sees.ext hX0).items h
    have rdX : ∀ (i k : Nat) (u : Value), i ≠ rid → rdc (E ++ new0) i k = some u → rdc M i k = some u := fun i k u hi hu => by
      unfold rdc at hu ⊢
      cases hm : (E ++ new0)[i]? with
      | none => rw [hm] at hu; cases hu
      | some b =>
        rw [hm] at hu
        simp only [] at hu
        split at hu
        · cases hu
        · rename_i hd
          obtain ⟨b', hb, e, hd2⟩ := hM i b hi hm hd
          rw [hb]
          simp only [hd2, if_false, e]
          exact hu
    have hvid : vid < m.length := by
      have hpos := hF.len
      have := hcells 0 0 (by omega) (by decide)
      obtain ⟨u, hu⟩ := itC_some (L.getD 0 It0) (i := 0) (by decide)
      rw [hu] at this
      unfold rdc at this
      cases hm : m[vid]? with
      | none => rw [hm] at this; cases this
      | some b => exact (List.getElem?_eq_some_iff.1 hm).1
    have hIM : ItemsA M (.slice (some ⟨vid, 0, none⟩) L.length vfl) L := by
      obtain ⟨hb9, id2, fl2, he2, hc2⟩ := hI
      cases he2
      refine ⟨hb9, vid, vfl, rfl, fun k i hk hi => ?_⟩
      obtain ⟨u, hu⟩ := itC_some (L.getD k It0) hi
      have := hc2 k i hk hi
      rw [hu] at this ⊢
      exact rdX vid _ _ (by omega) this
    exact fitTest_rc m M _ L m.length x (by omega) hIM (rdX m.length 0 _ (by omega) (ob.rd 0)) hF
  simp (config := {implicitDefEqProofs := false, maxDischargeDepth := 20}) (disch := first | omega | (simp only [lenE]; done) | (simp only [lenE]; omega) | rfl | (simp only [lenE, markR_len]; done) | (simp only [lenE, markR_len]; omega)) only [runE, mapE, listE, initT_5, initT_6, initT_7, initT_8, resV, oneV, binA, unA, reduceCtorEq, Nat.reduceEqDiff, Nat.reduceAdd, Nat.reduceLT, Nat.reduceLeDiff, Nat.reduceMul, Nat.reduceSub, ↓reduceIte, decide_true, decide_false, Bool.true_eq_false, Bool.false_eq_true, Bool.not_true, Bool.not_false, if_true, if_false, and_true, true_and, memE, celE, w64, Nat.zero_add, Nat.add_zero, Nat.mul_one, putL, and_self, ldn, id_eq]
  refine callH_ac (deleteInts_ac (E ++ new0) rid rfl2 _ (upFrom 1 400) (fun x => !fitsB L x) hor h8 hT) ?_
  rintro r M' ⟨hL, hP⟩
  have hXM : Ext m M' := hL.extX hX0 (by omega)
  rw [filter_not_not] at hP
  simp (config := {implicitDefEqProofs := false, maxDischargeDepth := 20}) (disch := first | omega | (simp only [lenE]; done) | (simp only [lenE]; omega) | rfl | (simp only [lenE, markR_len]; done) | (simp only [lenE, markR_len]; omega)) only [runE, mapE, listE, initT_5, initT_6, initT_7, initT_8, resV, oneV, binA, unA, reduceCtorEq, Nat.reduceEqDiff, Nat.reduceAdd, Nat.reduceLT, Nat.reduceLeDiff, Nat.reduceMul, Nat.reduceSub, ↓reduceIte, decide_true, decide_false, Bool.true_eq_false, Bool.false_eq_true, Bool.not_true, Bool.not_false, if_true, if_false, and_true, true_and, memE, celE, w64, Nat.zero_add, Nat.add_zero, Nat.mul_one, putL, and_self, ldn]
  obtain ⟨nn, rfl, hn⟩ := hXM
  refine ⟨nn, rfl, hn, hn, ?_⟩
  refine (hP.at_ (M' := m ++ nn) ?_).ints
  rw [List.getElem?_append_right (by omega), List.getElem?_append_right (by rw [roM_len]; omega), roM_len]
theorem shared_fit {L : List It} (hF : GoodF L) {c : Int} (hc : 1 ≤ c ∧ c ≤ 400) : Fit (sharedF L c) := by
  have := (shared_nums hF hc L.length (Nat.le_refl _)).1
  unfold sharedF
  exact ⟨by omega, by omega, by omega, by omega⟩
theorem paceMade (m : Mem) (v : Value) (L : List It) (h : ItemsA m v L) (hF : GoodF L) : Pace m (.iface 85 v) (fitL L) (sharedF L) := by
  refine ⟨⟨_, _, rfl⟩, ⟨83, v, by kernel_rfl, fun M hM => madeChoices_rc M v L (hM.items h) hF⟩, ⟨85, v, by kernel_rfl, fun M c hM hc => ?_⟩, fun c hc => shared_fit hF (fitL_in hc)⟩
  exact implShared_rc M v L c (hM.items h) hF (fitL_in hc)
theorem implLeastCommon_rc (m : Mem) (v : Value) (L : List It) (h : ItemsA m v L) : RC Try.prog 46 [v] m (AnsV (.tuple #[.int .i64 (leastN L), .bool (leastOk L)])) := by
  refine rc_of_run mixed ok_impl_LeastCommon (by simp) (go_start _ _ _ ?_)
  unfold leastN leastOk
  have hX := Ext.refl m
  simp (config := {implicitDefEqProofs := false, maxDischargeDepth := 20}) (disch := first | omega | (simp only [lenE]; done) | (simp only [lenE]; omega) | rfl | (simp only [lenE, markR_len]; done) | (simp only [lenE, markR_len]; omega)) only [runE, mapE, listE, initT_5, initT_6, initT_7, initT_8, resV, oneV, binA, unA, reduceCtorEq, Nat.reduceEqDiff, Nat.reduceAdd, Nat.reduceLT, Nat.reduceLeDiff, Nat.reduceMul, Nat.reduceSub, ↓reduceIte, decide_true, decide_false, Bool.true_eq_false, Bool.false_eq_true, Bool.not_true, Bool.not_false, if_true, if_false, and_true, true_and, memE, celE, w64, Nat.zero_add, Nat.add_zero, Nat.mul_one, putL, and_self, ldn, c_impl_LeastCommon, r_impl_LeastCommon]
  refine callH_rc (isFamily_rc _ v L ((Sees.ext hX).items h)) ?_
  rintro r new0 ⟨rfl, nr0⟩
  have hX := hX.app nr0
  cases g1 : famB L with
  | false =>
    simp (config := {implicitDefEqProofs := false, maxDischargeDepth := 20}) (disch := first | omega | (simp only [lenE]; done) | (simp only [lenE]; omega) | rfl | (simp only [lenE, markR_len]; done) | (simp only [lenE, markR_len]; omega)) only [runE, mapE, listE, initT_5, initT_6, initT_7, initT_8, resV, oneV, binA, unA, reduceCtorEq, Nat.reduceEqDiff, Nat.reduceAdd, Nat.reduceLT, Nat.reduceLeDiff, Nat.reduceMul, Nat.reduceSub, ↓reduceIte, decide_true, decide_false, Bool.true_eq_false, Bool.false_eq_true, Bool.not_true, Bool.not_false, if_true, if_false, and_true, true_and, memE, celE, w64, Nat.zero_add, Nat.add_zero, Nat.mul_one, putL, and_self, ldn, Bool.false_and, Bool.true_and, Bool.and_true, Bool.and_false, Bool.and_self]
    exact ext_ansV hX rfl
  | true =>
  have hF := goodF_iff.1 g1
  simp (config := {implicitDefEqProofs := false, maxDischargeDepth := 20}) (disch := first | omega | (simp only [lenE]; done) | (simp only [lenE]; omega) | rfl | (simp only [lenE, markR_len]; done) | (simp only [lenE, markR_len]; omega)) only [runE, mapE, listE, initT_5, initT_6, initT_7, initT_8, resV, oneV, binA, unA, reduceCtorEq, Nat.reduceEqDiff, Nat.reduceAdd, Nat.reduceLT, Nat.reduceLeDiff, Nat.reduceMul, Nat.reduceSub, ↓reduceIte, decide_true, decide_false, Bool.true_eq_false, Bool.false_eq_true, Bool.not_true, Bool.not_false, if_true, if_false, and_true, true_and, memE, celE, w64, Nat.zero_add, Nat.add_zero, Nat.mul_one, putL, and_self, ldn]
  refine callH_rc (madeChoices_rc _ v L ((Sees.ext hX).items h) hF) ?_
  rintro w new1 ⟨nr1, hI⟩
  have hX := hX.app nr1
  have hl := hI.len
  by_cases h0 : 0 < (fitL L).length
  · have hne : (((fitL L).length : Int) == 0) = false := by rw [beq_eq_false_iff_ne]; omega
    have i0 : iadA 1 w (.int .i64 0) = some (pAt w 0) := hI.at_ 0 h0
    have l0 := hI.ld 0 h0
    rw [decide_eq_true h0]
    simp (config := {implicitDefEqProofs := false, maxDischargeDepth := 20}) (disch := first | omega | (simp only [lenE]; done) | (simp only [lenE]; omega) | rfl | (simp only [lenE, markR_len]; done) | (simp only [lenE, markR_len]; omega)) only [runE, mapE, listE, initT_5, initT_6, initT_7, initT_8, resV, oneV, binA, unA, reduceCtorEq, Nat.reduceEqDiff, Nat.reduceAdd, Nat.reduceLT, Nat.reduceLeDiff, Nat.reduceMul, Nat.reduceSub, ↓reduceIte, decide_true, decide_false, Bool.true_eq_false, Bool.false_eq_true, Bool.not_true, Bool.not_false, if_true, if_false, and_true, true_and, memE, celE, w64, Nat.zero_add, Nat.add_zero, Nat.mul_one, putL, and_self, ldn, hl, hne, i0, l0, Bool.false_and, Bool.true_and, Bool.and_true, Bool.and_false, Bool.and_self, if_true]
    exact ext_ansV hX rfl
  · have he : (((fitL L).length : Int) == 0) = true := by rw [beq_iff_eq]; omega
    have e : fitL L = [] := List.eq_nil_of_length_eq_zero (by omega)
    rw [decide_eq_false h0]
    simp (config := {implicitDefEqProofs := false, maxDischargeDepth := 20}) (disch := first | omega | (simp only [lenE]; done) | (simp only [lenE]; omega) | rfl | (simp only [lenE, markR_len]; done) | (simp only [lenE, markR_len]; omega)) only [runE, mapE, listE, initT_5, initT_6, initT_7, initT_8, resV, oneV, binA, unA, reduceCtorEq, Nat.reduceEqDiff, Nat.reduceAdd, Nat.reduceLT, Nat.reduceLeDiff, Nat.reduceMul, Nat.reduceSub, ↓reduceIte, decide_true, decide_false, Bool.true_eq_false, Bool.false_eq_true, Bool.not_true, Bool.not_false, if_true, if_false, and_true, true_and, memE, celE, w64, Nat.zero_add, Nat.add_zero, Nat.mul_one, putL, and_self, ldn, hl, he, Bool.false_and, Bool.true_and, Bool.and_true, Bool.and_false, Bool.and_self, if_true]
    rw [e]
    exact ext_ansV hX rfl
def bestComN (L : List It) : Int := if famB L then pickOf (sharedF L) (fitL L) else 0
theorem implBestCommon_rc (m : Mem) (v : Value) (L : List It) (h : ItemsA m v L) : RC Try.prog 50 [v] m (AnsV (.tuple #[.int .i64 (bestComN L), .bool (leastOk L)])) := by
  refine rc_of_run mixed ok_impl_BestCommon (by simp) (go_start _ _ _ ?_)
  unfold bestComN leastOk
  have hX := Ext.refl m
  simp (config := {implicitDefEqProofs := false, maxDischargeDepth := 20}) (disch := first | omega | (simp only [lenE]; done) | (simp only [lenE]; omega) | rfl | (simp only [lenE, markR_len]; done) | (simp only [lenE, markR_len]; omega)) only [runE, mapE, listE, initT_5, initT_6, initT_7, initT_8, resV, oneV, binA, unA, reduceCtorEq, Nat.reduceEqDiff, Nat.reduceAdd, Nat.reduceLT, Nat.reduceLeDiff, Nat.reduceMul, Nat.reduceSub, ↓reduceIte, decide_true, decide_false, Bool.true_eq_false, Bool.false_eq_true, Bool.not_true, Bool.not_false, if_true, if_false, and_true, true_and, memE, celE, w64, Nat.zero_add, Nat.add_zero, Nat.mul_one, putL, and_self, ldn, c_impl_BestCommon, r_impl_BestCommon]
  refine callH_rc (isFamily_rc _ v L ((Sees.ext hX).items h)) ?_
  rintro r new0 ⟨rfl, nr0⟩
  have hX := hX.app nr0
  cases g1 : famB L with
  | false =>
    simp (config := {implicitDefEqProofs := false, maxDischargeDepth := 20}) (disch := first | omega | (simp only [lenE]; done) | (simp only [lenE]; omega) | rfl | (simp only [lenE, markR_len]; done) | (simp only [lenE, markR_len]; omega)) only [runE, mapE, listE, initT_5, initT_6, initT_7, initT_8, resV, oneV, binA, unA, reduceCtorEq, Nat.reduceEqDiff, Nat.reduceAdd, Nat.reduceLT, Nat.reduceLeDiff, Nat.reduceMul, Nat.reduceSub, ↓reduceIte, decide_true, decide_false, Bool.true_eq_false, Bool.false_eq_true, Bool.not_true, Bool.not_false, if_true, if_false, and_true, true_and, memE, celE, w64, Nat.zero_add, Nat.add_zero, Nat.mul_one, putL, and_self, ldn, Bool.false_and, Bool.true_and, Bool.and_true, Bool.and_false, Bool.and_self]
    exact ext_ansV hX rfl
  | true =>
  have hF := goodF_iff.1 g1
  simp (config := {implicitDefEqProofs := false, maxDischargeDepth := 20}) (disch := first | omega | (simp only [lenE]; done) | (simp only [lenE]; omega) | rfl | (simp only [lenE, markR_len]; done) | (simp only [lenE, markR_len]; omega)) only [runE, mapE, listE, initT_5, initT_6, initT_7, initT_8, resV, oneV, binA, unA, reduceCtorEq, Nat.reduceEqDiff, Nat.reduceAdd, Nat.reduceLT, Nat.reduceLeDiff, Nat.reduceMul, Nat.reduceSub, ↓reduceIte, decide_true, decide_false, Bool.true_eq_false, Bool.false_eq_true, Bool.not_true, Bool.not_false, if_true, if_false, and_true, true_and, memE, celE, w64, Nat.zero_add, Nat.add_zero, Nat.mul_one, putL, and_self, ldn]
  refine callH_rc (bestChoice_rc _ _ _ _ (paceMade _ v L ((Sees.ext hX).items h) hF)) ?_
  rintro r new1 ⟨rfl, nr1⟩
  generalize pickOf (sharedF L) (fitL L) = q at *
  simp (config := {implicitDefEqProofs := false, maxDischargeDepth := 20}) (disch := first | omega | (simp only [lenE]; done) | (simp only [lenE]; omega) | rfl | (simp only [lenE, markR_len]; done) | (simp only [lenE, markR_len]; omega)) only [runE, mapE, listE, initT_5, initT_6, initT_7, initT_8, resV, oneV, binA, unA, reduceCtorEq, Nat.reduceEqDiff, Nat.reduceAdd, Nat.reduceLT, Nat.reduceLeDiff, Nat.reduceMul, Nat.reduceSub, ↓reduceIte, decide_true, decide_false, Bool.true_eq_false, Bool.false_eq_true, Bool.not_true, Bool.not_false, if_true, if_false, and_true, true_and, memE, celE, w64, Nat.zero_add, Nat.add_zero, Nat.mul_one, putL, and_self, ldn, ext_2_0, ext_2_1, Bool.false_and, Bool.true_and, Bool.and_true, Bool.and_false, Bool.and_self, if_true]
  exact ext_ansV (hX.app nr1) rfl

end Go.Proofs.Ytmjnjhdacliieaa.Ab
