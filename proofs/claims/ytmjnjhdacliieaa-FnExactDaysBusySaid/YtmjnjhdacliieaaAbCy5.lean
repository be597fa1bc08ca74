/- BestCycle and PowerCycle on both sides. -/
import Derived.Test.YtmjnjhdacliieaaAbCy4
namespace Go.Proofs.Ytmjnjhdacliieaa.Ab
open Go Go.RowKit
set_option linter.unusedVariables false
set_option linter.unusedSimpArgs false
set_option maxRecDepth 10000

theorem OwnB.ld5 {M : Mem} {id : Nat} {e : TypeId} {a b c d f : Value} (h : OwnB M id e [a, b, c, d, f]) : ldA M (some 5) (.pointer (some ⟨id, 0, none⟩)) = some (.agg #[a, b, c, d, f]) := by
  unfold OwnB at h
  simp [ldA, rdn, rdc, h]
theorem daily_fit {x : It} (h : GoodI x) {c : Int} (hc : 1 ≤ c ∧ c ≤ 512) : Fit (dailyF x c) := by
  have := daily_nn h hc
  exact ⟨by omega, by omega, by omega, by omega⟩
theorem daily_mul {x : It} (h : GoodI x) {a b : Int} (ha : 1 ≤ a ∧ a ≤ 512) (hb : 1 ≤ b ∧ b ≤ 512) : 0 ≤ (dailyF x a).1 * (dailyF x b).2 ∧ (dailyF x a).1 * (dailyF x b).2 ≤ 9223372036854775807 := by
  have h1 := daily_nn h ha
  have h2 := daily_nn h hb
  have := mul_le2 (a := (dailyF x a).1) (x := (dailyF x b).2) (A := 47186118) (B := 1024) (by omega) (by omega)
  omega

theorem l8Best_rc (m : Mem) (x : It) (h : GoodI x) : RC Try.prog 67 [itV x] m (AnsV (.int .i64 (bestCyc x))) := by
  refine rc_of_run mixed ok_spec_l8Best (by simp) (go_start _ _ _ ?_)
  simp (config := {implicitDefEqProofs := false, maxDischargeDepth := 20}) (disch := first | omega | (simp only [lenE]; done) | (simp only [lenE]; omega) | rfl | (simp only [lenE, markR_len]; done) | (simp only [lenE, markR_len]; omega)) only [runE, mapE, listE, initT_5, initT_6, initT_7, initT_8, resV, oneV, binA, unA, reduceCtorEq, Nat.reduceEqDiff, Nat.reduceAdd, Nat.reduceLT, Nat.reduceLeDiff, Nat.reduceMul, Nat.reduceSub, ↓reduceIte, decide_true, decide_false, Bool.true_eq_false, Bool.false_eq_true, Bool.not_true, Bool.not_false, if_true, if_false, and_true, true_and, memE, celE, w64, Nat.zero_add, Nat.add_zero, Nat.mul_one, putL, and_self, ldn, c_spec_l8Best, r_spec_l8Best, itV]
  obtain ⟨E, hE⟩ : ∃ M, M = roM m ++ [⟨.own, 25, [.int .i64 x.daily, .int .i64 x.setup, .int .i64 x.hold, .int .i64 x.made, .int .i64 x.pause]⟩] := ⟨_, rfl⟩
  rw [← hE]
  have hX : Ext m E := by rw [hE]; exact ((Ext.refl m).one _ _)
  have LE : E.length = m.length + 1 := by rw [hE]; simp [roM_len]
  have o0 : OwnB E (m.length) 25 [.int .i64 x.daily, .int .i64 x.setup, .int .i64 x.hold, .int .i64 x.made, .int .i64 x.pause] := by rw [hE]; exact OwnB.here (by simp [roM_len])
  clear hE
  obtain ⟨want, hw⟩ : ∃ want, want = bestCyc x := ⟨_, rfl⟩
  rw [← hw]
  unfold bestCyc at hw
  refine loop_inv mixed (fun s => ∃ (k : Nat) (b : Int) (M : Mem), k ≤ 63 ∧ (1 ≤ b ∧ b ≤ 64) ∧ want = bestIn (dailyLt x 1) (upFrom (2 + k) (63 - k)) b ∧ s.m = M ∧ Ext m M ∧ OwnB M m.length 25 [.int .i64 x.daily, .int .i64 x.setup, .int .i64 x.hold, .int .i64 x.made, .int .i64 x.pause] ∧ s.t 1 = .pointer (some ⟨m.length, 0, none⟩) ∧ s.t 3 = .int .i64 b ∧ s.t 4 = .int .i64 (2 + (k : Int))) (fun s => 65 - (intOf (s.t 4)).toNat)
    ⟨0, 1, _, by omega, by omega, hw, rfl, hX, o0, rfl, rfl, rfl⟩ ?_
  rintro s ⟨k, b, M, hk, hb, hwant, tm, hX, o0, t1, t3, t4⟩
  by_cases hk6 : k < 63
  · have hle : (2 + (k : Int)) ≤ 64 := by omega
    simp (config := {implicitDefEqProofs := false, maxDischargeDepth := 20}) (disch := first | omega | (simp only [lenE]; done) | (simp only [lenE]; omega) | rfl | (simp only [lenE, markR_len]; done) | (simp only [lenE, markR_len]; omega)) only [runE, mapE, listE, initT_5, initT_6, initT_7, initT_8, resV, oneV, binA, unA, reduceCtorEq, Nat.reduceEqDiff, Nat.reduceAdd, Nat.reduceLT, Nat.reduceLeDiff, Nat.reduceMul, Nat.reduceSub, ↓reduceIte, decide_true, decide_false, Bool.true_eq_false, Bool.false_eq_true, Bool.not_true, Bool.not_false, if_true, if_false, and_true, true_and, memE, celE, w64, Nat.zero_add, Nat.add_zero, Nat.mul_one, putL, and_self, ldn, tm, t1, t3, t4, hle, o0.ld5]
    refine rcallH_rc (specDaily_rc _ x (2 + (k : Int)) h (by omega)) ?_
    rintro r new ⟨rfl, nrn⟩
    simp (config := {implicitDefEqProofs := false, maxDischargeDepth := 20}) (disch := first | omega | (simp only [lenE]; done) | (simp only [lenE]; omega) | rfl | (simp only [lenE, markR_len]; done) | (simp only [lenE, markR_len]; omega)) only [runE, mapE, listE, initT_5, initT_6, initT_7, initT_8, resV, oneV, binA, unA, reduceCtorEq, Nat.reduceEqDiff, Nat.reduceAdd, Nat.reduceLT, Nat.reduceLeDiff, Nat.reduceMul, Nat.reduceSub, ↓reduceIte, decide_true, decide_false, Bool.true_eq_false, Bool.false_eq_true, Bool.not_true, Bool.not_false, if_true, if_false, and_true, true_and, memE, celE, w64, Nat.zero_add, Nat.add_zero, Nat.mul_one, putL, and_self, ldn, tm, t1, t3, t4, (o0.ext new).ld5]
    refine rcallH_rc (specDaily_rc _ x b h (by omega)) ?_
    rintro r new2 ⟨rfl, nrn2⟩
    simp (config := {implicitDefEqProofs := false, maxDischargeDepth := 20}) (disch := first | omega | (simp only [lenE]; done) | (simp only [lenE]; omega) | rfl | (simp only [lenE, markR_len]; done) | (simp only [lenE, markR_len]; omega)) only [runE, mapE, listE, initT_5, initT_6, initT_7, initT_8, resV, oneV, binA, unA, reduceCtorEq, Nat.reduceEqDiff, Nat.reduceAdd, Nat.reduceLT, Nat.reduceLeDiff, Nat.reduceMul, Nat.reduceSub, ↓reduceIte, decide_true, decide_false, Bool.true_eq_false, Bool.false_eq_true, Bool.not_true, Bool.not_false, if_true, if_false, and_true, true_and, memE, celE, w64, Nat.zero_add, Nat.add_zero, Nat.mul_one, putL, and_self, ldn]
    refine rcallH_rc (specLess_rc _ (dailyF x (2 + (k : Int))) (dailyF x b) (daily_mul h (by omega) (by omega)) (daily_mul h (by omega) (by omega))) ?_
    rintro r new3 ⟨rfl, nrn3⟩
    have hX3 := ((hX.app nrn).app nrn2).app nrn3
    have o3 := ((o0.ext new).ext new2).ext new3
    have e1 : upFrom (2 + (k : Int)) (63 - k) = (2 + (k : Int)) :: upFrom (2 + ((k + 1 : Nat) : Int)) (63 - (k + 1)) := by
      have e0 : (2 + (k : Int)) + 1 = 2 + ((k + 1 : Nat) : Int) := by push_cast; omega
      rw [show 63 - k = (63 - (k + 1)) + 1 by omega, upFrom, e0]
    rw [e1] at hwant
    simp only [bestIn] at hwant
    have e2 : dailyLt x 1 (2 + (k : Int)) b = lessF (dailyF x (2 + (k : Int))) (dailyF x b) := by unfold dailyLt; rw [Int.one_mul, Int.one_mul]
    rw [e2] at hwant
    cases hl : lessF (dailyF x (2 + (k : Int))) (dailyF x b) with
    | true =>
      rw [hl] at hwant
      simp (config := {implicitDefEqProofs := false, maxDischargeDepth := 20}) (disch := first | omega | (simp only [lenE]; done) | (simp only [lenE]; omega) | rfl | (simp only [lenE, markR_len]; done) | (simp only [lenE, markR_len]; omega)) only [runE, mapE, listE, initT_5, initT_6, initT_7, initT_8, resV, oneV, binA, unA, reduceCtorEq, Nat.reduceEqDiff, Nat.reduceAdd, Nat.reduceLT, Nat.reduceLeDiff, Nat.reduceMul, Nat.reduceSub, ↓reduceIte, decide_true, decide_false, Bool.true_eq_false, Bool.false_eq_true, Bool.not_true, Bool.not_false, if_true, if_false, and_true, true_and, memE, celE, w64, Nat.zero_add, Nat.add_zero, Nat.mul_one, putL, and_self, ldn, tm, t1, t3, t4]
      refine ⟨⟨k + 1, 2 + (k : Int), _, by omega, by omega, by simpa using hwant, rfl, hX3, o3, rfl, by push_cast; congr 1⟩, ?_⟩
      simp [intOf]; omega
    | false =>
      rw [hl] at hwant
      simp (config := {implicitDefEqProofs := false, maxDischargeDepth := 20}) (disch := first | omega | (simp only [lenE]; done) | (simp only [lenE]; omega) | rfl | (simp only [lenE, markR_len]; done) | (simp only [lenE, markR_len]; omega)) only [runE, mapE, listE, initT_5, initT_6, initT_7, initT_8, resV, oneV, binA, unA, reduceCtorEq, Nat.reduceEqDiff, Nat.reduceAdd, Nat.reduceLT, Nat.reduceLeDiff, Nat.reduceMul, Nat.reduceSub, ↓reduceIte, decide_true, decide_false, Bool.true_eq_false, Bool.false_eq_true, Bool.not_true, Bool.not_false, if_true, if_false, and_true, true_and, memE, celE, w64, Nat.zero_add, Nat.add_zero, Nat.mul_one, putL, and_self, ldn, tm, t1, t3, t4]
      refine ⟨⟨k + 1, b, _, by omega, hb, by simpa using hwant, rfl, hX3, o3, rfl, by push_cast; congr 1⟩, ?_⟩
      simp [intOf]; omega
  · have e : k = 63 := by omega
    subst e
    have hle : ¬ ((2 + ((63 : Nat) : Int)) ≤ 64) := by omega
    have hwant : want = b := hwant
    subst hwant
    simp (config := {implicitDefEqProofs := false, maxDischargeDepth := 20}) (disch := first | omega | (simp only [lenE]; done) | (simp only [lenE]; omega) | rfl | (simp only [lenE, markR_len]; done) | (simp only [lenE, markR_len]; omega)) only [runE, mapE, listE, initT_5, initT_6, initT_7, initT_8, resV, oneV, binA, unA, reduceCtorEq, Nat.reduceEqDiff, Nat.reduceAdd, Nat.reduceLT, Nat.reduceLeDiff, Nat.reduceMul, Nat.reduceSub, ↓reduceIte, decide_true, decide_false, Bool.true_eq_false, Bool.false_eq_true, Bool.not_true, Bool.not_false, if_true, if_false, and_true, true_and, memE, celE, w64, Nat.zero_add, Nat.add_zero, Nat.mul_one, putL, and_self, ldn, tm, t1, t3, t4, hle]
    exact ext_ansV hX rfl

def bestA (x : It) : Int := if x.good then bestCyc x else 0
def powerA (x : It) : Int := if x.good then powerCyc x else 0
theorem specBestCycle_rc (m : Mem) (x : It) : RC Try.prog 25 [itV x] m (AnsV (.tuple #[.int .i64 (bestA x), .bool x.good])) := by
  refine rc_of_run mixed ok_spec_BestCycle (by simp) (go_start _ _ _ ?_)
  unfold bestA
  simp (config := {implicitDefEqProofs := false, maxDischargeDepth := 20}) (disch := first | omega | (simp only [lenE]; done) | (simp only [lenE]; omega) | rfl | (simp only [lenE, markR_len]; done) | (simp only [lenE, markR_len]; omega)) only [runE, mapE, listE, initT_5, initT_6, initT_7, initT_8, resV, oneV, binA, unA, reduceCtorEq, Nat.reduceEqDiff, Nat.reduceAdd, Nat.reduceLT, Nat.reduceLeDiff, Nat.reduceMul, Nat.reduceSub, ↓reduceIte, decide_true, decide_false, Bool.true_eq_false, Bool.false_eq_true, Bool.not_true, Bool.not_false, if_true, if_false, and_true, true_and, memE, celE, w64, Nat.zero_add, Nat.add_zero, Nat.mul_one, putL, and_self, ldn, c_spec_BestCycle, r_spec_BestCycle, itV]
  obtain ⟨E, hE⟩ : ∃ M, M = roM m ++ [⟨.own, 25, [.int .i64 x.daily, .int .i64 x.setup, .int .i64 x.hold, .int .i64 x.made, .int .i64 x.pause]⟩] := ⟨_, rfl⟩
  rw [← hE]
  have hX : Ext m E := by rw [hE]; exact ((Ext.refl m).one _ _)
  have LE : E.length = m.length + 1 := by rw [hE]; simp [roM_len]
  have o0 : OwnB E (m.length) 25 [.int .i64 x.daily, .int .i64 x.setup, .int .i64 x.hold, .int .i64 x.made, .int .i64 x.pause] := by rw [hE]; exact OwnB.here (by simp [roM_len])
  clear hE
  refine callH_rc (l8Item_rc _ x) ?_
  rintro r new0 ⟨rfl, nr0⟩
  cases hg : x.good with
  | false =>
    simp (config := {implicitDefEqProofs := false, maxDischargeDepth := 20}) (disch := first | omega | (simp only [lenE]; done) | (simp only [lenE]; omega) | rfl | (simp only [lenE, markR_len]; done) | (simp only [lenE, markR_len]; omega)) only [runE, mapE, listE, initT_5, initT_6, initT_7, initT_8, resV, oneV, binA, unA, reduceCtorEq, Nat.reduceEqDiff, Nat.reduceAdd, Nat.reduceLT, Nat.reduceLeDiff, Nat.reduceMul, Nat.reduceSub, ↓reduceIte, decide_true, decide_false, Bool.true_eq_false, Bool.false_eq_true, Bool.not_true, Bool.not_false, if_true, if_false, and_true, true_and, memE, celE, w64, Nat.zero_add, Nat.add_zero, Nat.mul_one, putL, and_self, ldn]
    exact ext_ansV (hX.app nr0) rfl
  | true =>
  simp (config := {implicitDefEqProofs := false, maxDischargeDepth := 20}) (disch := first | omega | (simp only [lenE]; done) | (simp only [lenE]; omega) | rfl | (simp only [lenE, markR_len]; done) | (simp only [lenE, markR_len]; omega)) only [runE, mapE, listE, initT_5, initT_6, initT_7, initT_8, resV, oneV, binA, unA, reduceCtorEq, Nat.reduceEqDiff, Nat.reduceAdd, Nat.reduceLT, Nat.reduceLeDiff, Nat.reduceMul, Nat.reduceSub, ↓reduceIte, decide_true, decide_false, Bool.true_eq_false, Bool.false_eq_true, Bool.not_true, Bool.not_false, if_true, if_false, and_true, true_and, memE, celE, w64, Nat.zero_add, Nat.add_zero, Nat.mul_one, putL, and_self, ldn, (o0.ext new0).ld5]
  refine callH_rc (l8Best_rc _ x (goodI_iff.1 hg)) ?_
  rintro r new1 ⟨rfl, nr1⟩
  obtain ⟨q, hq⟩ : ∃ q, q = bestCyc x := ⟨_, rfl⟩
  rw [← hq]
  simp (config := {implicitDefEqProofs := false, maxDischargeDepth := 20}) (disch := first | omega | (simp only [lenE]; done) | (simp only [lenE]; omega) | rfl | (simp only [lenE, markR_len]; done) | (simp only [lenE, markR_len]; omega)) only [runE, mapE, listE, initT_5, initT_6, initT_7, initT_8, resV, oneV, binA, unA, reduceCtorEq, Nat.reduceEqDiff, Nat.reduceAdd, Nat.reduceLT, Nat.reduceLeDiff, Nat.reduceMul, Nat.reduceSub, ↓reduceIte, decide_true, decide_false, Bool.true_eq_false, Bool.false_eq_true, Bool.not_true, Bool.not_false, if_true, if_false, and_true, true_and, memE, celE, w64, Nat.zero_add, Nat.add_zero, Nat.mul_one, putL, and_self, ldn]
  exact ext_ansV ((hX.app nr0).app nr1) rfl

theorem specPowerCycle_rc (m : Mem) (x : It) : RC Try.prog 27 [itV x] m (AnsV (.tuple #[.int .i64 (powerA x), .bool x.good])) := by
  refine rc_of_run mixed ok_spec_PowerCycle (by simp) (go_start _ _ _ ?_)
  unfold powerA
  simp (config := {implicitDefEqProofs := false, maxDischargeDepth := 20}) (disch := first | omega | (simp only [lenE]; done) | (simp only [lenE]; omega) | rfl | (simp only [lenE, markR_len]; done) | (simp only [lenE, markR_len]; omega)) only [runE, mapE, listE, initT_5, initT_6, initT_7, initT_8, resV, oneV, binA, unA, reduceCtorEq, Nat.reduceEqDiff, Nat.reduceAdd, Nat.reduceLT, Nat.reduceLeDiff, Nat.reduceMul, Nat.reduceSub, ↓reduceIte, decide_true, decide_false, Bool.true_eq_false, Bool.false_eq_true, Bool.not_true, Bool.not_false, if_true, if_false, and_true, true_and, memE, celE, w64, Nat.zero_add, Nat.add_zero, Nat.mul_one, putL, and_self, ldn, c_spec_PowerCycle, r_spec_PowerCycle, itV]
  obtain ⟨E, hE⟩ : ∃ M, M = roM m ++ [⟨.own, 25, [.int .i64 x.daily, .int .i64 x.setup, .int .i64 x.hold, .int .i64 x.made, .int .i64 x.pause]⟩] := ⟨_, rfl⟩
  rw [← hE]
  have hX : Ext m E := by rw [hE]; exact ((Ext.refl m).one _ _)
  have LE : E.length = m.length + 1 := by rw [hE]; simp [roM_len]
  have o0 : OwnB E (m.length) 25 [.int .i64 x.daily, .int .i64 x.setup, .int .i64 x.hold, .int .i64 x.made, .int .i64 x.pause] := by rw [hE]; exact OwnB.here (by simp [roM_len])
  clear hE
  refine callH_rc (l8Item_rc _ x) ?_
  rintro r new0 ⟨rfl, nr0⟩
  cases hg : x.good with
  | false =>
    simp (config := {implicitDefEqProofs := false, maxDischargeDepth := 20}) (disch := first | omega | (simp only [lenE]; done) | (simp only [lenE]; omega) | rfl | (simp only [lenE, markR_len]; done) | (simp only [lenE, markR_len]; omega)) only [runE, mapE, listE, initT_5, initT_6, initT_7, initT_8, resV, oneV, binA, unA, reduceCtorEq, Nat.reduceEqDiff, Nat.reduceAdd, Nat.reduceLT, Nat.reduceLeDiff, Nat.reduceMul, Nat.reduceSub, ↓reduceIte, decide_true, decide_false, Bool.true_eq_false, Bool.false_eq_true, Bool.not_true, Bool.not_false, if_true, if_false, and_true, true_and, memE, celE, w64, Nat.zero_add, Nat.add_zero, Nat.mul_one, putL, and_self, ldn]
    exact ext_ansV (hX.app nr0) rfl
  | true =>
  have h := goodI_iff.1 hg
  simp (config := {implicitDefEqProofs := false, maxDischargeDepth := 20}) (disch := first | omega | (simp only [lenE]; done) | (simp only [lenE]; omega) | rfl | (simp only [lenE, markR_len]; done) | (simp only [lenE, markR_len]; omega)) only [runE, mapE, listE, initT_5, initT_6, initT_7, initT_8, resV, oneV, binA, unA, reduceCtorEq, Nat.reduceEqDiff, Nat.reduceAdd, Nat.reduceLT, Nat.reduceLeDiff, Nat.reduceMul, Nat.reduceSub, ↓reduceIte, decide_true, decide_false, Bool.true_eq_false, Bool.false_eq_true, Bool.not_true, Bool.not_false, if_true, if_false, and_true, true_and, memE, celE, w64, Nat.zero_add, Nat.add_zero, Nat.mul_one, putL, and_self, ldn, if_true]
  obtain ⟨want, hw⟩ : ∃ want, want = powerCyc x := ⟨_, rfl⟩
  rw [← hw]
  unfold powerCyc at hw
  have facts : ∀ k : Nat, k < 6 → 2 ≤ ([2, 4, 8, 16, 32, 64, 128] : List Int).getD k 0 ∧ ([2, 4, 8, 16, 32, 64, 128] : List Int).getD k 0 ≤ 64 ∧ ([2, 4, 8, 16, 32, 64, 128] : List Int).getD (k + 1) 0 = 2 * ([2, 4, 8, 16, 32, 64, 128] : List Int).getD k 0 ∧ ([2, 4, 8, 16, 32, 64] : List Int).drop k = ([2, 4, 8, 16, 32, 64, 128] : List Int).getD k 0 :: ([2, 4, 8, 16, 32, 64] : List Int).drop (k + 1) := by decide
  refine loop_inv mixed (fun s => ∃ (k : Nat) (b : Int) (M : Mem), k ≤ 6 ∧ (1 ≤ b ∧ b ≤ 64) ∧ want = bestIn (dailyLt x 1) (([2, 4, 8, 16, 32, 64] : List Int).drop k) b ∧ s.m = M ∧ Ext m M ∧ OwnB M m.length 25 [.int .i64 x.daily, .int .i64 x.setup, .int .i64 x.hold, .int .i64 x.made, .int .i64 x.pause] ∧ s.t 1 = .pointer (some ⟨m.length, 0, none⟩) ∧ s.t 4 = .int .i64 b ∧ s.t 5 = .int .i64 (([2, 4, 8, 16, 32, 64, 128] : List Int).getD k 0)) (fun s => 128 - (intOf (s.t 5)).toNat)
    ⟨0, 1, _, by omega, by omega, hw, rfl, hX.app nr0, o0.ext new0, rfl, rfl, rfl⟩ ?_
  rintro s ⟨k, b, M, hk, hb, hwant, tm, hX, o0, t1, t3, t4⟩
  by_cases hk6 : k < 6
  · obtain ⟨f1, f2, f3, f4⟩ := facts k hk6
    rw [f4] at hwant
    generalize ([2, 4, 8, 16, 32, 64, 128] : List Int).getD k 0 = c at *
    simp (config := {implicitDefEqProofs := false, maxDischargeDepth := 20}) (disch := first | omega | (simp only [lenE]; done) | (simp only [lenE]; omega) | rfl | (simp only [lenE, markR_len]; done) | (simp only [lenE, markR_len]; omega)) only [runE, mapE, listE, initT_5, initT_6, initT_7, initT_8, resV, oneV, binA, unA, reduceCtorEq, Nat.reduceEqDiff, Nat.reduceAdd, Nat.reduceLT, Nat.reduceLeDiff, Nat.reduceMul, Nat.reduceSub, ↓reduceIte, decide_true, decide_false, Bool.true_eq_false, Bool.false_eq_true, Bool.not_true, Bool.not_false, if_true, if_false, and_true, true_and, memE, celE, w64, Nat.zero_add, Nat.add_zero, Nat.mul_one, putL, and_self, ldn, tm, t1, t3, t4, f2, o0.ld5]
    refine rcallH_rc (specDaily_rc _ x c h (by omega)) ?_
    rintro r new ⟨rfl, nrn⟩
    simp (config := {implicitDefEqProofs := false, maxDischargeDepth := 20}) (disch := first | omega | (simp only [lenE]; done) | (simp only [lenE]; omega) | rfl | (simp only [lenE, markR_len]; done) | (simp only [lenE, markR_len]; omega)) only [runE, mapE, listE, initT_5, initT_6, initT_7, initT_8, resV, oneV, binA, unA, reduceCtorEq, Nat.reduceEqDiff, Nat.reduceAdd, Nat.reduceLT, Nat.reduceLeDiff, Nat.reduceMul, Nat.reduceSub, ↓reduceIte, decide_true, decide_false, Bool.true_eq_false, Bool.false_eq_true, Bool.not_true, Bool.not_false, if_true, if_false, and_true, true_and, memE, celE, w64, Nat.zero_add, Nat.add_zero, Nat.mul_one, putL, and_self, ldn, tm, t1, t3, t4, (o0.ext new).ld5]
    refine rcallH_rc (specDaily_rc _ x b h (by omega)) ?_
    rintro r new2 ⟨rfl, nrn2⟩
    simp (config := {implicitDefEqProofs := false, maxDischargeDepth := 20}) (disch := first | omega | (simp only [lenE]; done) | (simp only [lenE]; omega) | rfl | (simp only [lenE, markR_len]; done) | (simp only [lenE, markR_len]; omega)) only [runE, mapE, listE, initT_5, initT_6, initT_7, initT_8, resV, oneV, binA, unA, reduceCtorEq, Nat.reduceEqDiff, Nat.reduceAdd, Nat.reduceLT, Nat.reduceLeDiff, Nat.reduceMul, Nat.reduceSub, ↓reduceIte, decide_true, decide_false, Bool.true_eq_false, Bool.false_eq_true, Bool.not_true, Bool.not_false, if_true, if_false, and_true, true_and, memE, celE, w64, Nat.zero_add, Nat.add_zero, Nat.mul_one, putL, and_self, ldn]
    refine rcallH_rc (specLess_rc _ (dailyF x c) (dailyF x b) (daily_mul h (by omega) (by omega)) (daily_mul h (by omega) (by omega))) ?_
    rintro r new3 ⟨rfl, nrn3⟩
    have hX3 := ((hX.app nrn).app nrn2).app nrn3
    have o3 := ((o0.ext new).ext new2).ext new3
    simp only [bestIn] at hwant
    have e2 : dailyLt x 1 c b = lessF (dailyF x c) (dailyF x b) := by unfold dailyLt; rw [Int.one_mul, Int.one_mul]
    rw [e2] at hwant
    cases hl : lessF (dailyF x c) (dailyF x b) with
    | true =>
      rw [hl] at hwant
      simp (config := {implicitDefEqProofs := false, maxDischargeDepth := 20}) (disch := first | omega | (simp only [lenE]; done) | (simp only [lenE]; omega) | rfl | (simp only [lenE, markR_len]; done) | (simp only [lenE, markR_len]; omega)) only [runE, mapE, listE, initT_5, initT_6, initT_7, initT_8, resV, oneV, binA, unA, reduceCtorEq, Nat.reduceEqDiff, Nat.reduceAdd, Nat.reduceLT, Nat.reduceLeDiff, Nat.reduceMul, Nat.reduceSub, ↓reduceIte, decide_true, decide_false, Bool.true_eq_false, Bool.false_eq_true, Bool.not_true, Bool.not_false, if_true, if_false, and_true, true_and, memE, celE, w64, Nat.zero_add, Nat.add_zero, Nat.mul_one, putL, and_self, ldn, tm, t1, t3, t4]
      refine ⟨⟨k + 1, c, _, by omega, by omega, by simpa using hwant, rfl, hX3, o3, rfl, by rw [f3]⟩, ?_⟩
      simp [intOf]; omega
    | false =>
      rw [hl] at hwant
      simp (config := {implicitDefEqProofs := false, maxDischargeDepth := 20}) (disch := first | omega | (simp only [lenE]; done) | (simp only [lenE]; omega) | rfl | (simp only [lenE, markR_len]; done) | (simp only [lenE, markR_len]; omega)) only [runE, mapE, listE, initT_5, initT_6, initT_7, initT_8, resV, oneV, binA, unA, reduceCtorEq, Nat.reduceEqDiff, Nat.reduceAdd, Nat.reduceLT, Nat.reduceLeDiff, Nat.reduceMul, Nat.reduceSub, ↓reduceIte, decide_true, decide_false, Bool.true_eq_false, Bool.false_eq_true, Bool.not_true, Bool.not_false, if_true, if_false, and_true, true_and, memE, celE, w64, Nat.zero_add, Nat.add_zero, Nat.mul_one, putL, and_self, ldn, tm, t1, t3, t4]
      refine ⟨⟨k + 1, b, _, by omega, hb, by simpa using hwant, rfl, hX3, o3, rfl, by rw [f3]⟩, ?_⟩
      simp [intOf]; omega
  · have e : k = 6 := by omega
    subst e
    have hwant : want = b := hwant
    subst hwant
    simp only [List.getD_cons_zero, List.getD_cons_succ] at t4
    simp (config := {implicitDefEqProofs := false, maxDischargeDepth := 20}) (disch := first | omega | (simp only [lenE]; done) | (simp only [lenE]; omega) | rfl | (simp only [lenE, markR_len]; done) | (simp only [lenE, markR_len]; omega)) only [runE, mapE, listE, initT_5, initT_6, initT_7, initT_8, resV, oneV, binA, unA, reduceCtorEq, Nat.reduceEqDiff, Nat.reduceAdd, Nat.reduceLT, Nat.reduceLeDiff, Nat.reduceMul, Nat.reduceSub, ↓reduceIte, decide_true, decide_false, Bool.true_eq_false, Bool.false_eq_true, Bool.not_true, Bool.not_false, if_true, if_false, and_true, true_and, memE, celE, w64, Nat.zero_add, Nat.add_zero, Nat.mul_one, putL, and_self, ldn, tm, t1, t3, t4, show ((128 : Int) ≤ 64) = False by simp]
    exact ext_ansV hX rfl

theorem ordChoices_rc (m : Mem) (x : It) : RC Try.prog 147 [itV x] m (AnsO m (IntsO (upFrom 1 64)) id) := by
  refine rc_of_run mixed ok_impl_ordered__choices (by simp) (go_start _ _ _ ?_)
  simp (config := {implicitDefEqProofs := false, maxDischargeDepth := 20}) (disch := first | omega | (simp only [lenE]; done) | (simp only [lenE]; omega) | rfl | (simp only [lenE, markR_len]; done) | (simp only [lenE, markR_len]; omega)) only [runE, mapE, listE, initT_5, initT_6, initT_7, initT_8, resV, oneV, binA, unA, reduceCtorEq, Nat.reduceEqDiff, Nat.reduceAdd, Nat.reduceLT, Nat.reduceLeDiff, Nat.reduceMul, Nat.reduceSub, ↓reduceIte, decide_true, decide_false, Bool.true_eq_false, Bool.false_eq_true, Bool.not_true, Bool.not_false, if_true, if_false, and_true, true_and, memE, celE, w64, Nat.zero_add, Nat.add_zero, Nat.mul_one, putL, and_self, ldn, c_impl_ordered__choices, r_impl_ordered__choices, itV]
  obtain ⟨E, hE⟩ : ∃ M, M = roM m ++ [⟨.own, 69, [.int .i64 x.daily, .int .i64 x.setup, .int .i64 x.hold, .int .i64 x.made, .int .i64 x.pause]⟩] := ⟨_, rfl⟩
  rw [← hE]
  have hX : Ext m E := by rw [hE]; exact ((Ext.refl m).one _ _)
  have LE : E.length = m.length + 1 := by rw [hE]; simp [roM_len]
  have o0 : OwnB E (m.length) 69 [.int .i64 x.daily, .int .i64 x.setup, .int .i64 x.hold, .int .i64 x.made, .int .i64 x.pause] := by rw [hE]; exact OwnB.here (by simp [roM_len])
  clear hE
  refine callH_rc (countsUpTo_rc _ 64 (by omega)) ?_
  rintro r new ⟨nrn, lv, rfl, hA⟩
  simp (config := {implicitDefEqProofs := false, maxDischargeDepth := 20}) (disch := first | omega | (simp only [lenE]; done) | (simp only [lenE]; omega) | rfl | (simp only [lenE, markR_len]; done) | (simp only [lenE, markR_len]; omega)) only [runE, mapE, listE, initT_5, initT_6, initT_7, initT_8, resV, oneV, binA, unA, reduceCtorEq, Nat.reduceEqDiff, Nat.reduceAdd, Nat.reduceLT, Nat.reduceLeDiff, Nat.reduceMul, Nat.reduceSub, ↓reduceIte, decide_true, decide_false, Bool.true_eq_false, Bool.false_eq_true, Bool.not_true, Bool.not_false, if_true, if_false, and_true, true_and, memE, celE, w64, Nat.zero_add, Nat.add_zero, Nat.mul_one, putL, and_self, ldn, id_eq]
  exact Ext.pass hX nrn (IntsO.wide _) hA
theorem upFrom_head (cost : Int → Int × Int) (n : Nat) : pickOf cost (upFrom 1 (n + 1)) = bestIn (fun a b => lessF (cost a) (cost b)) (upFrom 2 n) 1 := rfl
theorem paceOrd (m : Mem) (x : It) (h : GoodI x) : Pace m (.iface 69 (itV x)) (upFrom 1 64) (dailyF x) := by
  refine ⟨⟨_, _, rfl⟩, ⟨147, itV x, by kernel_rfl, fun M _ => (ordChoices_rc M x).mono fun _ _ => ansO_ints⟩, ⟨66, itV x, by kernel_rfl, fun M c _ hc => ?_⟩, fun c hc => ?_⟩
  · have := upFrom_mem.1 hc
    exact implDaily_rc M x c h (by omega)
  · have := upFrom_mem.1 hc
    exact daily_fit h (by omega)
theorem paceDbl (m : Mem) (x : It) (h : GoodI x) : Pace m (.iface 74 (itV x)) [1, 2, 4, 8, 16, 32, 64] (dailyF x) := by
  have key : ∀ c ∈ ([1, 2, 4, 8, 16, 32, 64] : List Int), 1 ≤ c ∧ c ≤ 64 := by decide
  refine ⟨⟨_, _, rfl⟩, ⟨148, itV x, by kernel_rfl, fun M _ => (powers_rc M (itV x) rfl).mono fun _ _ => ansO_ints⟩, ⟨66, itV x, by kernel_rfl, fun M c _ hc => ?_⟩, fun c hc => ?_⟩
  · have := key c hc
    exact implDaily_rc M x c h (by omega)
  · have := key c hc
    exact daily_fit h (by omega)

theorem implBestCycle_rc (m : Mem) (x : It) : RC Try.prog 26 [itV x] m (AnsV (.tuple #[.int .i64 (bestA x), .bool x.good])) := by
  refine rc_of_run mixed ok_impl_BestCycle (by simp) (go_start _ _ _ ?_)
  unfold bestA
  simp (config := {implicitDefEqProofs := false, maxDischargeDepth := 20}) (disch := first | omega | (simp only [lenE]; done) | (simp only [lenE]; omega) | rfl | (simp only [lenE, markR_len]; done) | (simp only [lenE, markR_len]; omega)) only [runE, mapE, listE, initT_5, initT_6, initT_7, initT_8, resV, oneV, binA, unA, reduceCtorEq, Nat.reduceEqDiff, Nat.reduceAdd, Nat.reduceLT, Nat.reduceLeDiff, Nat.reduceMul, Nat.reduceSub, ↓reduceIte, decide_true, decide_false, Bool.true_eq_false, Bool.false_eq_true, Bool.not_true, Bool.not_false, if_true, if_false, and_true, true_and, memE, celE, w64, Nat.zero_add, Nat.add_zero, Nat.mul_one, putL, and_self, ldn, c_impl_BestCycle, r_impl_BestCycle, itV]
  obtain ⟨E, hE⟩ : ∃ M, M = roM m ++ [⟨.own, 25, [.int .i64 x.daily, .int .i64 x.setup, .int .i64 x.hold, .int .i64 x.made, .int .i64 x.pause]⟩] := ⟨_, rfl⟩
  rw [← hE]
  have hX : Ext m E := by rw [hE]; exact ((Ext.refl m).one _ _)
  have LE : E.length = m.length + 1 := by rw [hE]; simp [roM_len]
  have o0 : OwnB E (m.length) 25 [.int .i64 x.daily, .int .i64 x.setup, .int .i64 x.hold, .int .i64 x.made, .int .i64 x.pause] := by rw [hE]; exact OwnB.here (by simp [roM_len])
  clear hE
  refine callH_rc (isItem_rc _ x) ?_
  rintro r new0 ⟨rfl, nr0⟩
  cases hg : x.good with
  | false =>
    simp (config := {implicitDefEqProofs := false, maxDischargeDepth := 20}) (disch := first | omega | (simp only [lenE]; done) | (simp only [lenE]; omega) | rfl | (simp only [lenE, markR_len]; done) | (simp only [lenE, markR_len]; omega)) only [runE, mapE, listE, initT_5, initT_6, initT_7, initT_8, resV, oneV, binA, unA, reduceCtorEq, Nat.reduceEqDiff, Nat.reduceAdd, Nat.reduceLT, Nat.reduceLeDiff, Nat.reduceMul, Nat.reduceSub, ↓reduceIte, decide_true, decide_false, Bool.true_eq_false, Bool.false_eq_true, Bool.not_true, Bool.not_false, if_true, if_false, and_true, true_and, memE, celE, w64, Nat.zero_add, Nat.add_zero, Nat.mul_one, putL, and_self, ldn]
    exact ext_ansV (hX.app nr0) rfl
  | true =>
  simp (config := {implicitDefEqProofs := false, maxDischargeDepth := 20}) (disch := first | omega | (simp only [lenE]; done) | (simp only [lenE]; omega) | rfl | (simp only [lenE, markR_len]; done) | (simp only [lenE, markR_len]; omega)) only [runE, mapE, listE, initT_5, initT_6, initT_7, initT_8, resV, oneV, binA, unA, reduceCtorEq, Nat.reduceEqDiff, Nat.reduceAdd, Nat.reduceLT, Nat.reduceLeDiff, Nat.reduceMul, Nat.reduceSub, ↓reduceIte, decide_true, decide_false, Bool.true_eq_false, Bool.false_eq_true, Bool.not_true, Bool.not_false, if_true, if_false, and_true, true_and, memE, celE, w64, Nat.zero_add, Nat.add_zero, Nat.mul_one, putL, and_self, ldn, (o0.ext new0).ld5, bld5]
  refine callH_rc (bestChoice_rc _ _ _ _ (paceOrd _ x (goodI_iff.1 hg))) ?_
  rintro r new1 ⟨rfl, nr1⟩
  have e : pickOf (dailyF x) (upFrom 1 64) = bestCyc x := by
    unfold bestCyc pickOf
    have : (fun a b => lessF (dailyF x a) (dailyF x b)) = dailyLt x 1 := by
      funext a b
      unfold dailyLt
      rw [Int.one_mul, Int.one_mul]
    rw [this]
    rfl
  rw [e]
  obtain ⟨q, hq⟩ : ∃ q, q = bestCyc x := ⟨_, rfl⟩
  rw [← hq]
  have hd : decide (0 < ((upFrom 1 64) : List Int).length) = true := rfl
  rw [hd]
  simp (config := {implicitDefEqProofs := false, maxDischargeDepth := 20}) (disch := first | omega | (simp only [lenE]; done) | (simp only [lenE]; omega) | rfl | (simp only [lenE, markR_len]; done) | (simp only [lenE, markR_len]; omega)) only [runE, mapE, listE, initT_5, initT_6, initT_7, initT_8, resV, oneV, binA, unA, reduceCtorEq, Nat.reduceEqDiff, Nat.reduceAdd, Nat.reduceLT, Nat.reduceLeDiff, Nat.reduceMul, Nat.reduceSub, ↓reduceIte, decide_true, decide_false, Bool.true_eq_false, Bool.false_eq_true, Bool.not_true, Bool.not_false, if_true, if_false, and_true, true_and, memE, celE, w64, Nat.zero_add, Nat.add_zero, Nat.mul_one, putL, and_self, ldn, ext_2_0, ext_2_1]
  exact ext_ansV ((hX.app nr0).app nr1) rfl

theorem implPowerCycle_rc (m : Mem) (x : It) : RC Try.prog 28 [itV x] m (AnsV (.tuple #[.int .i64 (powerA x), .bool x.good])) := by
  refine rc_of_run mixed ok_impl_PowerCycle (by simp) (go_start _ _ _ ?_)
  unfold powerA
  simp (config := {implicitDefEqProofs := false, maxDischargeDepth := 20}) (disch := first | omega | (simp only [lenE]; done) | (simp only [lenE]; omega) | rfl | (simp only [lenE, markR_len]; done) | (simp only [lenE, markR_len]; omega)) only [runE, mapE, listE, initT_5, initT_6, initT_7, initT_8, resV, oneV, binA, unA, reduceCtorEq, Nat.reduceEqDiff, Nat.reduceAdd, Nat.reduceLT, Nat.reduceLeDiff, Nat.reduceMul, Nat.reduceSub, ↓reduceIte, decide_true, decide_false, Bool.true_eq_false, Bool.false_eq_true, Bool.not_true, Bool.not_false, if_true, if_false, and_true, true_and, memE, celE, w64, Nat.zero_add, Nat.add_zero, Nat.mul_one, putL, and_self, ldn, c_impl_PowerCycle, r_impl_PowerCycle, itV]
  obtain ⟨E, hE⟩ : ∃ M, M = roM m ++ [⟨.own, 25, [.int .i64 x.daily, .int .i64 x.setup, .int .i64 x.hold, .int .i64 x.made, .int .i64 x.pause]⟩] := ⟨_, rfl⟩
  rw [← hE]
  have hX : Ext m E := by rw [hE]; exact ((Ext.refl m).one _ _)
  have LE : E.length = m.length + 1 := by rw [hE]; simp [roM_len]
  have o0 : OwnB E (m.length) 25 [.int .i64 x.daily, .int .i64 x.setup, .int .i64 x.hold, .int .i64 x.made, .int .i64 x.pause] := by rw [hE]; exact OwnB.here (by simp [roM_len])
  clear hE
  refine callH_rc (isItem_rc _ x) ?_
  rintro r new0 ⟨rfl, nr0⟩
  cases hg : x.good with
  | false =>
    simp (config := {implicitDefEqProofs := false, maxDischargeDepth := 20}) (disch := first | omega | (simp only [lenE]; done) | (simp only [lenE]; omega) | rfl | (simp only [lenE, markR_len]; done) | (simp only [lenE, markR_len]; omega)) only [runE, mapE, listE, initT_5, initT_6, initT_7, initT_8, resV, oneV, binA, unA, reduceCtorEq, Nat.reduceEqDiff, Nat.reduceAdd, Nat.reduceLT, Nat.reduceLeDiff, Nat.reduceMul, Nat.reduceSub, ↓reduceIte, decide_true, decide_false, Bool.true_eq_false, Bool.false_eq_true, Bool.not_true, Bool.not_false, if_true, if_false, and_true, true_and, memE, celE, w64, Nat.zero_add, Nat.add_zero, Nat.mul_one, putL, and_self, ldn]
    exact ext_ansV (hX.app nr0) rfl
  | true =>
  simp (config := {implicitDefEqProofs := false, maxDischargeDepth := 20}) (disch := first | omega | (simp only [lenE]; done) | (simp only [lenE]; omega) | rfl | (simp only [lenE, markR_len]; done) | (simp only [lenE, markR_len]; omega)) only [runE, mapE, listE, initT_5, initT_6, initT_7, initT_8, resV, oneV, binA, unA, reduceCtorEq, Nat.reduceEqDiff, Nat.reduceAdd, Nat.reduceLT, Nat.reduceLeDiff, Nat.reduceMul, Nat.reduceSub, ↓reduceIte, decide_true, decide_false, Bool.true_eq_false, Bool.false_eq_true, Bool.not_true, Bool.not_false, if_true, if_false, and_true, true_and, memE, celE, w64, Nat.zero_add, Nat.add_zero, Nat.mul_one, putL, and_self, ldn, (o0.ext new0).ld5, bld5]
  refine callH_rc (bestChoice_rc _ _ _ _ (paceDbl _ x (goodI_iff.1 hg))) ?_
  rintro r new1 ⟨rfl, nr1⟩
  have e : pickOf (dailyF x) [1, 2, 4, 8, 16, 32, 64] = powerCyc x := by
    unfold powerCyc pickOf
    have : (fun a b => lessF (dailyF x a) (dailyF x b)) = dailyLt x 1 := by
      funext a b
      unfold dailyLt
      rw [Int.one_mul, Int.one_mul]
    rw [this]
    rfl
  rw [e]
  obtain ⟨q, hq⟩ : ∃ q, q = powerCyc x := ⟨_, rfl⟩
  rw [← hq]
  have hd : decide (0 < ([1, 2, 4, 8, 16, 32, 64] : List Int).length) = true := rfl
  rw [hd]
  simp (config := {implicitDefEqProofs := false, maxDischargeDepth := 20}) (disch := first | omega | (simp only [lenE]; done) | (simp only [lenE]; omega) | rfl | (simp only [lenE, markR_len]; done) | (simp only [lenE, markR_len]; omega)) only [runE, mapE, listE, initT_5, initT_6, initT_7, initT_8, resV, oneV, binA, unA, reduceCtorEq, Nat.reduceEqDiff, Nat.reduceAdd, Nat.reduceLT, Nat.reduceLeDiff, Nat.reduceMul, Nat.reduceSub, ↓reduceIte, decide_true, decide_false, Bool.true_eq_false, Bool.false_eq_true, Bool.not_true, Bool.not_false, if_true, if_false, and_true, true_and, memE, celE, w64, Nat.zero_add, Nat.add_zero, Nat.mul_one, putL, and_self, ldn, ext_2_0, ext_2_1]
  exact ext_ansV ((hX.app nr0).app nr1) rfl

theorem specIsItem_rc (m : Mem) (x : It) : RC Try.prog 19 [itV x] m (AnsV (.bool x.good)) := by
  refine rc_of_run mixed ok_spec_IsItem (by simp) (go_start _ _ _ ?_)
  simp (config := {implicitDefEqProofs := false, maxDischargeDepth := 20}) (disch := first | omega | (simp only [lenE]; done) | (simp only [lenE]; omega) | rfl | (simp only [lenE, markR_len]; done) | (simp only [lenE, markR_len]; omega)) only [runE, mapE, listE, initT_5, initT_6, initT_7, initT_8, resV, oneV, binA, unA, reduceCtorEq, Nat.reduceEqDiff, Nat.reduceAdd, Nat.reduceLT, Nat.reduceLeDiff, Nat.reduceMul, Nat.reduceSub, ↓reduceIte, decide_true, decide_false, Bool.true_eq_false, Bool.false_eq_true, Bool.not_true, Bool.not_false, if_true, if_false, and_true, true_and, memE, celE, w64, Nat.zero_add, Nat.add_zero, Nat.mul_one, putL, and_self, ldn, c_spec_IsItem, r_spec_IsItem, itV]
  obtain ⟨E, hE⟩ : ∃ M, M = roM m ++ [⟨.own, 25, [.int .i64 x.daily, .int .i64 x.setup, .int .i64 x.hold, .int .i64 x.made, .int .i64 x.pause]⟩] := ⟨_, rfl⟩
  rw [← hE]
  have hX : Ext m E := by rw [hE]; exact ((Ext.refl m).one _ _)
  have LE : E.length = m.length + 1 := by rw [hE]; simp [roM_len]
  have o0 : OwnB E (m.length) 25 [.int .i64 x.daily, .int .i64 x.setup, .int .i64 x.hold, .int .i64 x.made, .int .i64 x.pause] := by rw [hE]; exact OwnB.here (by simp [roM_len])
  clear hE
  refine callH_rc (l8Item_rc _ x) ?_
  rintro r new0 ⟨rfl, nr0⟩
  simp (config := {implicitDefEqProofs := false, maxDischargeDepth := 20}) (disch := first | omega | (simp only [lenE]; done) | (simp only [lenE]; omega) | rfl | (simp only [lenE, markR_len]; done) | (simp only [lenE, markR_len]; omega)) only [runE, mapE, listE, initT_5, initT_6, initT_7, initT_8, resV, oneV, binA, unA, reduceCtorEq, Nat.reduceEqDiff, Nat.reduceAdd, Nat.reduceLT, Nat.reduceLeDiff, Nat.reduceMul, Nat.reduceSub, ↓reduceIte, decide_true, decide_false, Bool.true_eq_false, Bool.false_eq_true, Bool.not_true, Bool.not_false, if_true, if_false, and_true, true_and, memE, celE, w64, Nat.zero_add, Nat.add_zero, Nat.mul_one, putL, and_self, ldn]
  exact ext_ansV (hX.app nr0) rfl
end Go.Proofs.Ytmjnjhdacliieaa.Ab
