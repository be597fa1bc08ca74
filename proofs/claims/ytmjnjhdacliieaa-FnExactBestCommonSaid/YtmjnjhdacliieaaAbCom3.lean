/- The model's comparison of common cycles, and its best one. -/
import Derived.Test.YtmjnjhdacliieaaAbCom2
namespace Go.Proofs.Ytmjnjhdacliieaa.Ab
open Go Go.RowKit
set_option linter.unusedVariables false
set_option linter.unusedSimpArgs false
set_option maxRecDepth 10000

theorem cheaper_rc (m : Mem) (v : Value) (L : List It) (a b : Int) (h : ItemsA m v L) (hF : GoodF L) (ha : 1 ≤ a ∧ a ≤ 400) (hb : 1 ≤ b ∧ b ≤ 400) :
    RC Try.prog 86 [v, .int .i64 a, .int .i64 b] m (AnsV (.bool (cheaperB L a b))) := by
  refine rc_of_run mixed ok_spec_l8Cheaper (by simp) (go_start _ _ _ ?_)
  simp (config := {implicitDefEqProofs := false, maxDischargeDepth := 20}) (disch := first | omega | (simp only [lenE]; done) | (simp only [lenE]; omega) | rfl | (simp only [lenE, markR_len]; done) | (simp only [lenE, markR_len]; omega)) only [runE, mapE, listE, initT_5, initT_6, initT_7, initT_8, resV, oneV, binA, unA, reduceCtorEq, Nat.reduceEqDiff, Nat.reduceAdd, Nat.reduceLT, Nat.reduceLeDiff, Nat.reduceMul, Nat.reduceSub, ↓reduceIte, decide_true, decide_false, Bool.true_eq_false, Bool.false_eq_true, Bool.not_true, Bool.not_false, if_true, if_false, and_true, true_and, memE, celE, w64, Nat.zero_add, Nat.add_zero, Nat.mul_one, putL, and_self, ldn, c_spec_l8Cheaper, r_spec_l8Cheaper, bld01, stP_agg2]
  try refine ⟨?_, ?_⟩
  all_goals
    obtain ⟨E, hE⟩ : ∃ M, M = roM m ++ [⟨.own, 28, [.int .i64 0, .int .i64 1]⟩] := ⟨_, rfl⟩
    have hX : Ext m E := by rw [hE]; exact (Ext.refl m).one _ _
    have o0 : OwnB E m.length 28 [.int .i64 0, .int .i64 1] := by rw [hE]; exact OwnB.here (roM_len m).symm
    try rw [← hE]
    clear hE
    refine loop_inv mixed (fun s => ∃ (k : Nat) (M : Mem), k ≤ L.length ∧ s.m = M ∧ Ext m M ∧ OwnB M m.length 28 [.int .i64 (growTo L k).1, .int .i64 (growTo L k).2] ∧ s.t 0 = v ∧ s.t 1 = .int .i64 a ∧ s.t 2 = .int .i64 b ∧ s.t 7 = .int .i64 (setupTo L k) ∧ s.t 8 = .pointer (some ⟨m.length, 0, none⟩) ∧ s.t 9 = .int .i64 (k : Int)) (fun s => L.length - (intOf (s.t 9)).toNat)
      ⟨0, _, by omega, rfl, hX, o0, rfl, rfl, rfl, rfl, rfl, rfl⟩ ?_
    rintro s ⟨k, M, hk, tm, hX, p0, t0, t1, t2, t7, t8, t9⟩
    have hM := (Sees.ext hX).items h
    have hl := hM.len
    have hlen := hF.len
    by_cases hkl : k < L.length
    · have hlt : (k : Int) < L.length := by omega
      have i1 := hM.at_ hkl
      have i2 := hM.ld hkl
      have g := hF.at_ hkl
      have hm := g.made
      have hd := g.daily
      have hs := g.setup
      have h0 := g.hd
      have hh := g.hdm
      have sn := setup_nn hF k (by omega)
      have hset : setupTo L (k + 1) = setupTo L k + (L.getD k It0).setup := rfl
      have hstep : growTo L (k + 1) = addF (growTo L k) (fr ((L.getD k It0).hold * (L.getD k It0).daily * ((L.getD k It0).made - (L.getD k It0).daily)) (2 * (L.getD k It0).made)) := rfl
      have nn := grow_nums hF k (by omega)
      generalize growTo L k = p at *
      generalize setupTo L k = S at *
      generalize L.getD k It0 = x at *
      have n2 := fr_nums (a := x.hold * x.daily * (x.made - x.daily)) (b := 2 * x.made) (A := 7020) (B := 80) (by omega) (by omega)
      have ok2 := plus_ok nn.1 nn.2 n2.1 n2.2 (by decide) (by decide)
      have q1 : ∀ b, ldA (M ++ [b]) (some 2) (.pointer (some ⟨m.length, 0, none⟩)) = some (.agg #[.int .i64 p.1, .int .i64 p.2]) := fun b => (p0.ext [b]).ld2
      simp (config := {implicitDefEqProofs := false, maxDischargeDepth := 20}) (disch := first | omega | (simp only [lenE]; done) | (simp only [lenE]; omega) | rfl | (simp only [lenE, markR_len]; done) | (simp only [lenE, markR_len]; omega)) only [runE, mapE, listE, initT_5, initT_6, initT_7, initT_8, resV, oneV, binA, unA, reduceCtorEq, Nat.reduceEqDiff, Nat.reduceAdd, Nat.reduceLT, Nat.reduceLeDiff, Nat.reduceMul, Nat.reduceSub, ↓reduceIte, decide_true, decide_false, Bool.true_eq_false, Bool.false_eq_true, Bool.not_true, Bool.not_false, if_true, if_false, and_true, true_and, memE, celE, w64, Nat.zero_add, Nat.add_zero, Nat.mul_one, putL, and_self, ldn, tm, t0, t1, t2, t7, t8, t9, hl, hlt, i1, i2, itV, stP_agg5, q1]
      obtain ⟨F, hF2⟩ : ∃ F, F = M ++ [⟨.own, 25, [.int .i64 x.daily, .int .i64 x.setup, .int .i64 x.hold, .int .i64 x.made, .int .i64 x.pause]⟩] := ⟨_, rfl⟩
      rw [← hF2]
      have hXF : Ext m F := by rw [hF2]; exact hX.one _ _
      have pF : OwnB F m.length 28 [.int .i64 p.1, .int .i64 p.2] := by rw [hF2]; exact p0.ext _
      clear hF2
      refine rcallH_rc (specCut_rc _ (x.hold * x.daily * (x.made - x.daily)) (2 * x.made) ⟨by omega, by omega⟩ ⟨by omega, by omega⟩) ?_
      rintro r new3 ⟨rfl, nr3⟩
      simp (config := {implicitDefEqProofs := false, maxDischargeDepth := 20}) (disch := first | omega | (simp only [lenE]; done) | (simp only [lenE]; omega) | rfl | (simp only [lenE, markR_len]; done) | (simp only [lenE, markR_len]; omega)) only [runE, mapE, listE, initT_5, initT_6, initT_7, initT_8, resV, oneV, binA, unA, reduceCtorEq, Nat.reduceEqDiff, Nat.reduceAdd, Nat.reduceLT, Nat.reduceLeDiff, Nat.reduceMul, Nat.reduceSub, ↓reduceIte, decide_true, decide_false, Bool.true_eq_false, Bool.false_eq_true, Bool.not_true, Bool.not_false, if_true, if_false, and_true, true_and, memE, celE, w64, Nat.zero_add, Nat.add_zero, Nat.mul_one, putL, and_self, ldn]
      refine rcallH_rc (specPlus_rc _ p (fr (x.hold * x.daily * (x.made - x.daily)) (2 * x.made)) nn.1.1 nn.2.1 n2.1.1 n2.2.1 ok2.1 ok2.2) ?_
      rintro r new4 ⟨rfl, nr4⟩
      rw [← hstep]
      generalize hz : growTo L (k + 1) = z at *
      have q0 := (pF.ext new3).ext new4
      have hst2 := q0.st (off := 0) (vs := [.int .i64 z.1, .int .i64 z.2]) (by simp) rfl
      simp (config := {implicitDefEqProofs := false, maxDischargeDepth := 20}) (disch := first | omega | (simp only [lenE]; done) | (simp only [lenE]; omega) | rfl | (simp only [lenE, markR_len]; done) | (simp only [lenE, markR_len]; omega)) only [runE, mapE, listE, initT_5, initT_6, initT_7, initT_8, resV, oneV, binA, unA, reduceCtorEq, Nat.reduceEqDiff, Nat.reduceAdd, Nat.reduceLT, Nat.reduceLeDiff, Nat.reduceMul, Nat.reduceSub, ↓reduceIte, decide_true, decide_false, Bool.true_eq_false, Bool.false_eq_true, Bool.not_true, Bool.not_false, if_true, if_false, and_true, true_and, memE, celE, w64, Nat.zero_add, Nat.add_zero, Nat.mul_one, putL, and_self, ldn, tm, t0, t1, t2, t7, t8, t9, frV, stP_agg2, hst2]
      refine ⟨⟨k + 1, _, by omega, rfl, ((hXF.app nr3).app nr4).put (Nat.le_refl _) _ _, by rw [hz]; exact q0.set_self _ _, by rw [hset], by simp⟩, ?_⟩
      simp [intOf]; omega
    · have hlt : ¬ ((k : Int) < L.length) := by omega
      have e : k = L.length := by omega
      subst e
      have nn := grow_nums hF L.length (Nat.le_refl _)
      have sn := setup_nn hF L.length (Nat.le_refl _)
      unfold cheaperB
      generalize growTo L L.length = z at *
      generalize setupTo L L.length = S at *
      have m1 := mul_le2 (a := S) (x := z.2) (A := 396) (B := 5120000) (by omega) (by omega)
      have m2 := mul_le2 (a := S * z.2) (x := b) (A := 2027520000) (B := 400) (by omega) (by omega)
      have m3 := mul_le2 (a := S * z.2) (x := a) (A := 2027520000) (B := 400) (by omega) (by omega)
      have m4 := mul_le2 (a := z.1) (x := a) (A := 1843200000) (B := 400) (by omega) (by omega)
      have m5 := mul_le2 (a := z.1 * a) (x := a) (A := 737280000000) (B := 400) (by omega) (by omega)
      have m6 := mul_le2 (a := z.1 * a * a) (x := b) (A := 294912000000000) (B := 400) (by omega) (by omega)
      have m7 := mul_le2 (a := z.1) (x := b) (A := 1843200000) (B := 400) (by omega) (by omega)
      have m8 := mul_le2 (a := z.1 * b) (x := b) (A := 737280000000) (B := 400) (by omega) (by omega)
      have m9 := mul_le2 (a := z.1 * b * b) (x := a) (A := 294912000000000) (B := 400) (by omega) (by omega)
      simp (config := {implicitDefEqProofs := false, maxDischargeDepth := 20}) (disch := first | omega | (simp only [lenE]; done) | (simp only [lenE]; omega) | rfl | (simp only [lenE, markR_len]; done) | (simp only [lenE, markR_len]; omega)) only [runE, mapE, listE, initT_5, initT_6, initT_7, initT_8, resV, oneV, binA, unA, reduceCtorEq, Nat.reduceEqDiff, Nat.reduceAdd, Nat.reduceLT, Nat.reduceLeDiff, Nat.reduceMul, Nat.reduceSub, ↓reduceIte, decide_true, decide_false, Bool.true_eq_false, Bool.false_eq_true, Bool.not_true, Bool.not_false, if_true, if_false, and_true, true_and, memE, celE, w64, Nat.zero_add, Nat.add_zero, Nat.mul_one, putL, and_self, ldn, tm, t0, t1, t2, t7, t8, t9, hl, hlt, iada_0, iada_1, p0.rd]
      exact ext_ansV hX rfl
theorem specBestCommon_rc (m : Mem) (v : Value) (L : List It) (h : ItemsA m v L) : RC Try.prog 49 [v] m (AnsV (.tuple #[.int .i64 (bestComN L), .bool (leastOk L)])) := by
  refine rc_of_run mixed ok_spec_BestCommon (by simp) (go_start _ _ _ ?_)
  unfold bestComN leastOk
  have hX := Ext.refl m
  simp (config := {implicitDefEqProofs := false, maxDischargeDepth := 20}) (disch := first | omega | (simp only [lenE]; done) | (simp only [lenE]; omega) | rfl | (simp only [lenE, markR_len]; done) | (simp only [lenE, markR_len]; omega)) only [runE, mapE, listE, initT_5, initT_6, initT_7, initT_8, resV, oneV, binA, unA, reduceCtorEq, Nat.reduceEqDiff, Nat.reduceAdd, Nat.reduceLT, Nat.reduceLeDiff, Nat.reduceMul, Nat.reduceSub, ↓reduceIte, decide_true, decide_false, Bool.true_eq_false, Bool.false_eq_true, Bool.not_true, Bool.not_false, if_true, if_false, and_true, true_and, memE, celE, w64, Nat.zero_add, Nat.add_zero, Nat.mul_one, putL, and_self, ldn, c_spec_BestCommon, r_spec_BestCommon]
  refine callH_rc (l8Family_rc _ v L ((Sees.ext hX).items h)) ?_
  rintro r new0 ⟨rfl, nr0⟩
  have hX := hX.app nr0
  cases g1 : famB L with
  | false =>
    simp (config := {implicitDefEqProofs := false, maxDischargeDepth := 20}) (disch := first | omega | (simp only [lenE]; done) | (simp only [lenE]; omega) | rfl | (simp only [lenE, markR_len]; done) | (simp only [lenE, markR_len]; omega)) only [runE, mapE, listE, initT_5, initT_6, initT_7, initT_8, resV, oneV, binA, unA, reduceCtorEq, Nat.reduceEqDiff, Nat.reduceAdd, Nat.reduceLT, Nat.reduceLeDiff, Nat.reduceMul, Nat.reduceSub, ↓reduceIte, decide_true, decide_false, Bool.true_eq_false, Bool.false_eq_true, Bool.not_true, Bool.not_false, if_true, if_false, and_true, true_and, memE, celE, w64, Nat.zero_add, Nat.add_zero, Nat.mul_one, putL, and_self, ldn, Bool.false_and, Bool.true_and, Bool.and_true, Bool.and_false, Bool.and_self]
    exact ext_ansV hX rfl
  | true =>
  have hF := goodF_iff.1 g1
  simp (config := {implicitDefEqProofs := false, maxDischargeDepth := 20}) (disch := first | omega | (simp only [lenE]; done) | (simp only [lenE]; omega) | rfl | (simp only [lenE, markR_len]; done) | (simp only [lenE, markR_len]; omega)) only [runE, mapE, listE, initT_5, initT_6, initT_7, initT_8, resV, oneV, binA, unA, reduceCtorEq, Nat.reduceEqDiff, Nat.reduceAdd, Nat.reduceLT, Nat.reduceLeDiff, Nat.reduceMul, Nat.reduceSub, ↓reduceIte, decide_true, decide_false, Bool.true_eq_false, Bool.false_eq_true, Bool.not_true, Bool.not_false, if_true, if_false, and_true, true_and, memE, celE, w64, Nat.zero_add, Nat.add_zero, Nat.mul_one, putL, and_self, ldn]
  refine callH_rc (l8Least_rc _ v L ((Sees.ext hX).items h) hF) ?_
  rintro r new1 ⟨rfl, nr1⟩
  have hX := hX.app nr1
  have hz := fitL_zero L
  rcases fitL_form hF with h0 | ⟨b0, n, hb0, hbn, hform⟩
  · rw [h0] at hz ⊢
    simp only [List.length_nil, List.getD_nil] at hz ⊢
    simp (config := {implicitDefEqProofs := false, maxDischargeDepth := 20}) (disch := first | omega | (simp only [lenE]; done) | (simp only [lenE]; omega) | rfl | (simp only [lenE, markR_len]; done) | (simp only [lenE, markR_len]; omega)) only [runE, mapE, listE, initT_5, initT_6, initT_7, initT_8, resV, oneV, binA, unA, reduceCtorEq, Nat.reduceEqDiff, Nat.reduceAdd, Nat.reduceLT, Nat.reduceLeDiff, Nat.reduceMul, Nat.reduceSub, ↓reduceIte, decide_true, decide_false, Bool.true_eq_false, Bool.false_eq_true, Bool.not_true, Bool.not_false, if_true, if_false, and_true, true_and, memE, celE, w64, Nat.zero_add, Nat.add_zero, Nat.mul_one, putL, and_self, ldn, hz, Bool.false_and, Bool.true_and, Bool.and_true, Bool.and_false, Bool.and_self, Bool.not_false, show decide ((0 : Nat) < 0) = false from rfl, show ((0 : Int) == 0) = true from rfl]
    exact ext_ansV hX rfl
  · rw [hform] at hz ⊢
    have hlen : decide (0 < (upFrom b0 (n + 1)).length) = true := by rw [upFrom_len]; exact decide_eq_true (by omega)
    have hhead : (upFrom b0 (n + 1)).getD 0 0 = b0 := rfl
    rw [hlen, hhead] at hz ⊢
    simp (config := {implicitDefEqProofs := false, maxDischargeDepth := 20}) (disch := first | omega | (simp only [lenE]; done) | (simp only [lenE]; omega) | rfl | (simp only [lenE, markR_len]; done) | (simp only [lenE, markR_len]; omega)) only [runE, mapE, listE, initT_5, initT_6, initT_7, initT_8, resV, oneV, binA, unA, reduceCtorEq, Nat.reduceEqDiff, Nat.reduceAdd, Nat.reduceLT, Nat.reduceLeDiff, Nat.reduceMul, Nat.reduceSub, ↓reduceIte, decide_true, decide_false, Bool.true_eq_false, Bool.false_eq_true, Bool.not_true, Bool.not_false, if_true, if_false, and_true, true_and, memE, celE, w64, Nat.zero_add, Nat.add_zero, Nat.mul_one, putL, and_self, ldn, hz, Bool.false_and, Bool.true_and, Bool.and_true, Bool.and_false, Bool.and_self, Bool.not_true]
    refine callH_rc (l8Least_rc _ v L ((Sees.ext hX).items h) hF) ?_
    rintro r new2 ⟨rfl, nr2⟩
    have hX := hX.app nr2
    rw [hform, hhead]
    obtain ⟨want, hw⟩ : ∃ want, want = bestIn (cheaperB L) (upFrom (b0 + 1) n) b0 := ⟨_, rfl⟩
    have hpick : pickOf (sharedF L) (upFrom b0 (n + 1)) = want := by
      rw [hw]
      unfold pickOf
      show bestIn (fun a b => lessF (sharedF L a) (sharedF L b)) (upFrom (b0 + 1) n) b0 = _
      refine (bestIn_congr _ _ fun x hx y hy => ?_).symm
      have hx := upFrom_mem.1 hx
      have hy2 : 1 ≤ y ∧ y ≤ 400 := by
        rcases hy with rfl | hy
        · omega
        · have := upFrom_mem.1 hy; omega
      exact cheaper_less hF (by omega) hy2
    rw [hpick]
    clear hpick
    simp (config := {implicitDefEqProofs := false, maxDischargeDepth := 20}) (disch := first | omega | (simp only [lenE]; done) | (simp only [lenE]; omega) | rfl | (simp only [lenE, markR_len]; done) | (simp only [lenE, markR_len]; omega)) only [runE, mapE, listE, initT_5, initT_6, initT_7, initT_8, resV, oneV, binA, unA, reduceCtorEq, Nat.reduceEqDiff, Nat.reduceAdd, Nat.reduceLT, Nat.reduceLeDiff, Nat.reduceMul, Nat.reduceSub, ↓reduceIte, decide_true, decide_false, Bool.true_eq_false, Bool.false_eq_true, Bool.not_true, Bool.not_false, if_true, if_false, and_true, true_and, memE, celE, w64, Nat.zero_add, Nat.add_zero, Nat.mul_one, putL, and_self, ldn, Bool.false_and, Bool.true_and, Bool.and_true, Bool.and_false, Bool.and_self, if_true]
    refine loop_inv mixed (fun s => ∃ (k : Nat) (b : Int) (M : Mem), k ≤ n ∧ (1 ≤ b ∧ b ≤ 400) ∧ want = bestIn (cheaperB L) (upFrom (b0 + 1 + k) (n - k)) b ∧ s.m = M ∧ Ext m M ∧ s.t 0 = v ∧ s.t 4 = .int .i64 b ∧ s.t 5 = .int .i64 (b0 + 1 + (k : Int))) (fun s => 401 - (intOf (s.t 5)).toNat)
      ⟨0, b0, _, by omega, by omega, by simpa using hw, rfl, hX, rfl, rfl, by simp; rfl⟩ ?_
    rintro s ⟨k, b, M, hk, hb, hwant, tm, hX, t0, t4, t5⟩
    have hM := (Sees.ext hX).items h
    by_cases hkn : k < n
    · have hle : (b0 + 1 + (k : Int)) ≤ 400 := by omega
      simp (config := {implicitDefEqProofs := false, maxDischargeDepth := 20}) (disch := first | omega | (simp only [lenE]; done) | (simp only [lenE]; omega) | rfl | (simp only [lenE, markR_len]; done) | (simp only [lenE, markR_len]; omega)) only [runE, mapE, listE, initT_5, initT_6, initT_7, initT_8, resV, oneV, binA, unA, reduceCtorEq, Nat.reduceEqDiff, Nat.reduceAdd, Nat.reduceLT, Nat.reduceLeDiff, Nat.reduceMul, Nat.reduceSub, ↓reduceIte, decide_true, decide_false, Bool.true_eq_false, Bool.false_eq_true, Bool.not_true, Bool.not_false, if_true, if_false, and_true, true_and, memE, celE, w64, Nat.zero_add, Nat.add_zero, Nat.mul_one, putL, and_self, ldn, tm, t0, t4, t5, hle]
      refine callH_rc (cheaper_rc _ v L (b0 + 1 + (k : Int)) b hM hF (by omega) hb) ?_
      rintro r new3 ⟨rfl, nr3⟩
      have e0 : (b0 + 1 + (k : Int)) + 1 = b0 + 1 + ((k + 1 : Nat) : Int) := by push_cast; omega
      rw [show n - k = (n - (k + 1)) + 1 by omega, upFrom, e0] at hwant
      simp only [bestIn] at hwant
      cases hls : cheaperB L (b0 + 1 + (k : Int)) b with
      | true =>
        rw [hls] at hwant
        simp (config := {implicitDefEqProofs := false, maxDischargeDepth := 20}) (disch := first | omega | (simp only [lenE]; done) | (simp only [lenE]; omega) | rfl | (simp only [lenE, markR_len]; done) | (simp only [lenE, markR_len]; omega)) only [runE, mapE, listE, initT_5, initT_6, initT_7, initT_8, resV, oneV, binA, unA, reduceCtorEq, Nat.reduceEqDiff, Nat.reduceAdd, Nat.reduceLT, Nat.reduceLeDiff, Nat.reduceMul, Nat.reduceSub, ↓reduceIte, decide_true, decide_false, Bool.true_eq_false, Bool.false_eq_true, Bool.not_true, Bool.not_false, if_true, if_false, and_true, true_and, memE, celE, w64, Nat.zero_add, Nat.add_zero, Nat.mul_one, putL, and_self, ldn, tm, t0, t4, t5]
        refine ⟨⟨k + 1, b0 + 1 + (k : Int), _, by omega, by omega, by simpa using hwant, rfl, hX.app nr3, rfl, by push_cast; congr 1⟩, ?_⟩
        simp [intOf]; omega
      | false =>
        rw [hls] at hwant
        simp (config := {implicitDefEqProofs := false, maxDischargeDepth := 20}) (disch := first | omega | (simp only [lenE]; done) | (simp only [lenE]; omega) | rfl | (simp only [lenE, markR_len]; done) | (simp only [lenE, markR_len]; omega)) only [runE, mapE, listE, initT_5, initT_6, initT_7, initT_8, resV, oneV, binA, unA, reduceCtorEq, Nat.reduceEqDiff, Nat.reduceAdd, Nat.reduceLT, Nat.reduceLeDiff, Nat.reduceMul, Nat.reduceSub, ↓reduceIte, decide_true, decide_false, Bool.true_eq_false, Bool.false_eq_true, Bool.not_true, Bool.not_false, if_true, if_false, and_true, true_and, memE, celE, w64, Nat.zero_add, Nat.add_zero, Nat.mul_one, putL, and_self, ldn, tm, t0, t4, t5]
        refine ⟨⟨k + 1, b, _, by omega, hb, by simpa using hwant, rfl, hX.app nr3, rfl, by push_cast; congr 1⟩, ?_⟩
        simp [intOf]; omega
    · have e : k = n := by omega
      subst e
      have hle : ¬ ((b0 + 1 + (k : Int)) ≤ 400) := by omega
      rw [Nat.sub_self] at hwant
      have hwant : want = b := hwant
      subst hwant
      simp (config := {implicitDefEqProofs := false, maxDischargeDepth := 20}) (disch := first | omega | (simp only [lenE]; done) | (simp only [lenE]; omega) | rfl | (simp only [lenE, markR_len]; done) | (simp only [lenE, markR_len]; omega)) only [runE, mapE, listE, initT_5, initT_6, initT_7, initT_8, resV, oneV, binA, unA, reduceCtorEq, Nat.reduceEqDiff, Nat.reduceAdd, Nat.reduceLT, Nat.reduceLeDiff, Nat.reduceMul, Nat.reduceSub, ↓reduceIte, decide_true, decide_false, Bool.true_eq_false, Bool.false_eq_true, Bool.not_true, Bool.not_false, if_true, if_false, and_true, true_and, memE, celE, w64, Nat.zero_add, Nat.add_zero, Nat.mul_one, putL, and_self, ldn, tm, t0, t4, t5, hle]
      exact ext_ansV hX rfl
end Go.Proofs.Ytmjnjhdacliieaa.Ab
