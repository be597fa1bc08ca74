/- Contracts of markets: the lists of profits, the joint order, the seller's order, what is lost. -/
import Derived.Test.YtdcheilmjooacaaAbMk3
namespace Go.Proofs.Ytdcheilmjooacaa.Ab
open Go Go.RowKit
set_option linter.unusedVariables false
set_option linter.unusedSimpArgs false

def fL (f : Nat → Int) (n : Nat) : List Int := (List.range n).map f
theorem fL_len (f : Nat → Int) (n : Nat) : (fL f n).length = n := by simp [fL]
theorem fL_s (f : Nat → Int) (n : Nat) : fL f (n + 1) = fL f n ++ [f n] := by simp [fL, List.range_succ]
theorem fL_at {f : Nat → Int} {n j : Nat} (h : j < n) : (fL f n).getD j 0 = f j := by simp [fL, List.getD_eq_getElem?_getD, h]
theorem gL_f (f : Nat → Int) (n : Nat) : gL (fL f (n + 1)) = argG f n := by
  unfold gL
  rw [fL_len, Nat.add_sub_cancel]
  exact argG_congr fun j hj => fL_at (by omega)
theorem fL_best (f : Nat → Int) (n : Nat) : (fL f (n + 1)).getD (argG f n) 0 = f (argG f n) := fL_at (by have := argG_le f n; omega)
theorem ext_intsM {m M : Mem} {l : List Int} {id n : Nat} {f : Value → Value} (h : Ext m M) (ho : OwnR M id l) (hid : m.length ≤ id) (hn : n = l.length) (hl : l.length ≤ 1048576) :
    newQ m (AnsO m (IntsO l) f) (f (.slice (some ⟨id, 0, none⟩) n 1)) M := by
  subst hn
  exact ext_ansO h fun M' hM => ⟨hl, id, 1, rfl, hid, ho.lt, ho.at_ (hM _ hid ho.lt)⟩
def jpsA (k : Mk) : List Int := if k.good then fL (joiP k) 9 else []
theorem jointProfits_rc (m : Mem) (v : Value) (k : Mk) (h : MkA m v k) (hg : GoodM k) :
    RC Try.prog 86 [v] m (AnsO m (IntsO (fL (joiP k) 9)) id) := by
  refine rc_of_run mixed ok_impl_jointProfits (by simp) (go_start _ _ _ ?_)
  obtain ⟨u, rfl, hu⟩ := h.ro
  try simp (config := {implicitDefEqProofs := false, maxDischargeDepth := 20}) (disch := first | omega | (simp only [lenE]; done) | (simp only [lenE]; omega) | rfl | (simp only [lenE, markR_len]; done) | (simp only [lenE, markR_len]; omega)) only [runE, mapE, listE, initT_5, initT_6, initT_7, initT_8, resV, oneV, binA, unA, reduceCtorEq, Nat.reduceEqDiff, Nat.reduceAdd, Nat.reduceLT, Nat.reduceLeDiff, Nat.reduceMul, Nat.reduceSub, ↓reduceIte, decide_true, decide_false, Bool.true_eq_false, Bool.false_eq_true, Bool.not_true, Bool.not_false, if_true, if_false, and_true, true_and, memE, celE, w64, Nat.zero_add, Nat.add_zero, Nat.mul_one, putL, and_self, ldn, c_impl_jointProfits, r_impl_jointProfits, bsl_none]
  obtain ⟨E, hE⟩ : ∃ M', M' = roM m ++ [⟨.own, 27, [u, .int .i64 k.price, .int .i64 k.make, .int .i64 k.left]⟩] ++ [⟨.own, 3, []⟩] := ⟨_, rfl⟩
  rw [← hE]
  have hX : Ext m E := by rw [hE]; exact (((Ext.refl m).one _ _).one _ _)
  have LE : E.length = m.length + 2 := by rw [hE]; simp [roM_len]
  have oM : OwnB E (m.length) 27 [u, .int .i64 k.price, .int .i64 k.make, .int .i64 k.left] := by rw [hE]; exact ((OwnB.here (by simp [roM_len])).ext _)
  have oR : OwnB E (m.length + 1) 3 [] := by rw [hE]; exact (OwnB.here (by simp [roM_len]))
  clear hE
  refine loop_inv mixed (fun s => ∃ (j : Nat) (M : Mem) (id : Nat), j ≤ 9 ∧ s.m = M ∧ Ext m M ∧ OwnB M m.length 27 [u, .int .i64 k.price, .int .i64 k.make, .int .i64 k.left] ∧ m.length + 1 ≤ id ∧ OwnR M id (fL (joiP k) j) ∧ s.t 1 = .pointer (some ⟨m.length, 0, none⟩) ∧ s.t 3 = .slice (some ⟨id, 0, none⟩) j 1 ∧ s.t 6 = .int .i64 (j : Int)) (fun s => 14 - (intOf (s.t 6)).toNat)
    ⟨0, _, m.length + 1, by omega, rfl, hX, oM, by omega, oR, rfl, rfl, rfl⟩ ?_
  rintro s ⟨j, M, id, hj, tm, hX, oM, hid, ho, t1, t3, t6⟩
  by_cases hlt : j < 9
  · have hlt' : (j : Int) < 9 := by omega
    have hj8 : j ≤ 8 := by omega
    simp (config := {implicitDefEqProofs := false, maxDischargeDepth := 20}) (disch := first | omega | (simp only [lenE]; done) | (simp only [lenE]; omega) | rfl | (simp only [lenE, markR_len]; done) | (simp only [lenE, markR_len]; omega)) only [runE, mapE, listE, initT_5, initT_6, initT_7, initT_8, resV, oneV, binA, unA, reduceCtorEq, Nat.reduceEqDiff, Nat.reduceAdd, Nat.reduceLT, Nat.reduceLeDiff, Nat.reduceMul, Nat.reduceSub, ↓reduceIte, decide_true, decide_false, Bool.true_eq_false, Bool.false_eq_true, Bool.not_true, Bool.not_false, if_true, if_false, and_true, true_and, memE, celE, w64, Nat.zero_add, Nat.add_zero, Nat.mul_one, putL, and_self, ldn, tm, t1, t3, t6, oM.mk4, hlt']
    first | refine callH_rc (jointProfit_rc _ _ k j ⟨u, rfl, hX.ints hu⟩ hg hj8) ?_ | refine rcallH_rc (jointProfit_rc _ _ k j ⟨u, rfl, hX.ints hu⟩ hg hj8) ?_
    rintro r n2 ⟨rfl, nr2⟩
    have ho2 := ho.ext n2
    have oM2 := oM.ext n2
    have hX2 := hX.app nr2
    have happ := app_num (x := (joiP k) j) (id2 := (M ++ n2).length) (n := j) ho2 (by rw [fL_len]; omega) rfl (by rw [fL_len])
    obtain ⟨M2, hM2⟩ : ∃ M', M' = M ++ n2 := ⟨_, rfl⟩
    rw [← hM2] at happ ho2 oM2 hX2 ⊢
    simp (config := {implicitDefEqProofs := false, maxDischargeDepth := 20}) (disch := first | omega | (simp only [lenE]; done) | (simp only [lenE]; omega) | rfl | (simp only [lenE, markR_len]; done) | (simp only [lenE, markR_len]; omega)) only [runE, mapE, listE, initT_5, initT_6, initT_7, initT_8, resV, oneV, binA, unA, reduceCtorEq, Nat.reduceEqDiff, Nat.reduceAdd, Nat.reduceLT, Nat.reduceLeDiff, Nat.reduceMul, Nat.reduceSub, ↓reduceIte, decide_true, decide_false, Bool.true_eq_false, Bool.false_eq_true, Bool.not_true, Bool.not_false, if_true, if_false, and_true, true_and, memE, celE, w64, Nat.zero_add, Nat.add_zero, Nat.mul_one, putL, and_self, ldn, t1, t3, t6, bsl_one, happ, ext_2_0, ext_2_1]
    have hidl := ho2.lt
    have hl2 := hX2.len
    refine ⟨⟨j + 1, _, M2.length + 1, by omega, rfl, ((hX2.dead (by omega)).one _ _).one _ _, oM2.at_ (same_gen (by omega) hidl), by omega, ?_, rfl, by simp⟩, ?_⟩
    · rw [fL_s]
      exact OwnB.here (by simp)
    · simp [intOf]; omega
  · have hlt' : ¬ (j : Int) < 9 := by omega
    obtain rfl : j = 9 := by omega
    simp (config := {implicitDefEqProofs := false, maxDischargeDepth := 20}) (disch := first | omega | (simp only [lenE]; done) | (simp only [lenE]; omega) | rfl | (simp only [lenE, markR_len]; done) | (simp only [lenE, markR_len]; omega)) only [runE, mapE, listE, initT_5, initT_6, initT_7, initT_8, resV, oneV, binA, unA, reduceCtorEq, Nat.reduceEqDiff, Nat.reduceAdd, Nat.reduceLT, Nat.reduceLeDiff, Nat.reduceMul, Nat.reduceSub, ↓reduceIte, decide_true, decide_false, Bool.true_eq_false, Bool.false_eq_true, Bool.not_true, Bool.not_false, if_true, if_false, and_true, true_and, memE, celE, w64, Nat.zero_add, Nat.add_zero, Nat.mul_one, putL, and_self, ldn, tm, t1, t3, t6, hlt']
    exact ext_intsM (f := _root_.id) hX ho (by omega) (by rw [fL_len]) (by rw [fL_len]; omega)
theorem specJointProfits_rc (m : Mem) (v : Value) (k : Mk) (h : MkA m v k) :
    RC Try.prog 36 [v] m (AnsO m (IntsO (jpsA k)) fun v => .tuple #[v, .bool k.good]) := by
  refine rc_of_run mixed ok_spec_JointProfits (by simp) (go_start _ _ _ ?_)
  obtain ⟨u, rfl, hu⟩ := h.ro
  unfold jpsA
  try simp (config := {implicitDefEqProofs := false, maxDischargeDepth := 20}) (disch := first | omega | (simp only [lenE]; done) | (simp only [lenE]; omega) | rfl | (simp only [lenE, markR_len]; done) | (simp only [lenE, markR_len]; omega)) only [runE, mapE, listE, initT_5, initT_6, initT_7, initT_8, resV, oneV, binA, unA, reduceCtorEq, Nat.reduceEqDiff, Nat.reduceAdd, Nat.reduceLT, Nat.reduceLeDiff, Nat.reduceMul, Nat.reduceSub, ↓reduceIte, decide_true, decide_false, Bool.true_eq_false, Bool.false_eq_true, Bool.not_true, Bool.not_false, if_true, if_false, and_true, true_and, memE, celE, w64, Nat.zero_add, Nat.add_zero, Nat.mul_one, putL, and_self, ldn, c_spec_JointProfits, r_spec_JointProfits, bsl_none]
  obtain ⟨E, hE⟩ : ∃ M', M' = roM m ++ [⟨.own, 27, [u, .int .i64 k.price, .int .i64 k.make, .int .i64 k.left]⟩] ++ [⟨.own, 3, []⟩] := ⟨_, rfl⟩
  rw [← hE]
  have hX : Ext m E := by rw [hE]; exact (((Ext.refl m).one _ _).one _ _)
  have LE : E.length = m.length + 2 := by rw [hE]; simp [roM_len]
  have oM : OwnB E (m.length) 27 [u, .int .i64 k.price, .int .i64 k.make, .int .i64 k.left] := by rw [hE]; exact ((OwnB.here (by simp [roM_len])).ext _)
  have oR : OwnB E (m.length + 1) 3 [] := by rw [hE]; exact (OwnB.here (by simp [roM_len]))
  clear hE
  try simp (config := {implicitDefEqProofs := false, maxDischargeDepth := 20}) (disch := first | omega | (simp only [lenE]; done) | (simp only [lenE]; omega) | rfl | (simp only [lenE, markR_len]; done) | (simp only [lenE, markR_len]; omega)) only [runE, mapE, listE, initT_5, initT_6, initT_7, initT_8, resV, oneV, binA, unA, reduceCtorEq, Nat.reduceEqDiff, Nat.reduceAdd, Nat.reduceLT, Nat.reduceLeDiff, Nat.reduceMul, Nat.reduceSub, ↓reduceIte, decide_true, decide_false, Bool.true_eq_false, Bool.false_eq_true, Bool.not_true, Bool.not_false, if_true, if_false, and_true, true_and, memE, celE, w64, Nat.zero_add, Nat.add_zero, Nat.mul_one, putL, and_self, ldn, oM.mk4]
  first | refine callH_rc (l10Market_rc _ _ k ⟨u, rfl, hX.ints hu⟩) ?_ | refine rcallH_rc (l10Market_rc _ _ k ⟨u, rfl, hX.ints hu⟩) ?_
  rintro r n1 ⟨rfl, nr1⟩
  obtain ⟨E1, hE1⟩ : ∃ M', M' = E ++ n1 := ⟨_, rfl⟩
  rw [← hE1]
  replace hX : Ext m E1 := by rw [hE1]; exact hX.app nr1
  replace oM := oM.ext n1
  rw [← hE1] at oM
  replace oR := oR.ext n1
  rw [← hE1] at oR
  clear hE1
  cases g1 : k.good with
  | false =>
    try simp (config := {implicitDefEqProofs := false, maxDischargeDepth := 20}) (disch := first | omega | (simp only [lenE]; done) | (simp only [lenE]; omega) | rfl | (simp only [lenE, markR_len]; done) | (simp only [lenE, markR_len]; omega)) only [runE, mapE, listE, initT_5, initT_6, initT_7, initT_8, resV, oneV, binA, unA, reduceCtorEq, Nat.reduceEqDiff, Nat.reduceAdd, Nat.reduceLT, Nat.reduceLeDiff, Nat.reduceMul, Nat.reduceSub, ↓reduceIte, decide_true, decide_false, Bool.true_eq_false, Bool.false_eq_true, Bool.not_true, Bool.not_false, if_true, if_false, and_true, true_and, memE, celE, w64, Nat.zero_add, Nat.add_zero, Nat.mul_one, putL, and_self, ldn, oM.mk4]
    exact ext_intsM (f := fun v => .tuple #[v, .bool false]) hX (l := []) oR (by omega) rfl (by simp)
  | true =>
  try simp (config := {implicitDefEqProofs := false, maxDischargeDepth := 20}) (disch := first | omega | (simp only [lenE]; done) | (simp only [lenE]; omega) | rfl | (simp only [lenE, markR_len]; done) | (simp only [lenE, markR_len]; omega)) only [runE, mapE, listE, initT_5, initT_6, initT_7, initT_8, resV, oneV, binA, unA, reduceCtorEq, Nat.reduceEqDiff, Nat.reduceAdd, Nat.reduceLT, Nat.reduceLeDiff, Nat.reduceMul, Nat.reduceSub, ↓reduceIte, decide_true, decide_false, Bool.true_eq_false, Bool.false_eq_true, Bool.not_true, Bool.not_false, if_true, if_false, and_true, true_and, memE, celE, w64, Nat.zero_add, Nat.add_zero, Nat.mul_one, putL, and_self, ldn, oM.mk4]
  have hg := goodM_iff.1 g1
  refine loop_inv mixed (fun s => ∃ (j : Nat) (M : Mem) (id : Nat), j ≤ 9 ∧ s.m = M ∧ Ext m M ∧ OwnB M m.length 27 [u, .int .i64 k.price, .int .i64 k.make, .int .i64 k.left] ∧ m.length + 1 ≤ id ∧ OwnR M id (fL (joiP k) j) ∧ s.t 1 = .pointer (some ⟨m.length, 0, none⟩) ∧ s.t 4 = .slice (some ⟨id, 0, none⟩) j 1 ∧ s.t 5 = .int .i64 (j : Int)) (fun s => 14 - (intOf (s.t 5)).toNat)
    ⟨0, _, m.length + 1, by omega, rfl, hX, oM, by omega, oR, rfl, rfl, rfl⟩ ?_
  rintro s ⟨j, M, id, hj, tm, hX, oM, hid, ho, t1, t4, t5⟩
  by_cases hlt : j < 9
  · have hlt' : (j : Int) ≤ 8 := by omega
    have hj8 : j ≤ 8 := by omega
    simp (config := {implicitDefEqProofs := false, maxDischargeDepth := 20}) (disch := first | omega | (simp only [lenE]; done) | (simp only [lenE]; omega) | rfl | (simp only [lenE, markR_len]; done) | (simp only [lenE, markR_len]; omega)) only [runE, mapE, listE, initT_5, initT_6, initT_7, initT_8, resV, oneV, binA, unA, reduceCtorEq, Nat.reduceEqDiff, Nat.reduceAdd, Nat.reduceLT, Nat.reduceLeDiff, Nat.reduceMul, Nat.reduceSub, ↓reduceIte, decide_true, decide_false, Bool.true_eq_false, Bool.false_eq_true, Bool.not_true, Bool.not_false, if_true, if_false, and_true, true_and, memE, celE, w64, Nat.zero_add, Nat.add_zero, Nat.mul_one, putL, and_self, ldn, tm, t1, t4, t5, oM.mk4, hlt']
    first | refine callH_rc (l10Joint_rc _ _ k j ⟨u, rfl, hX.ints hu⟩ hg hj8) ?_ | refine rcallH_rc (l10Joint_rc _ _ k j ⟨u, rfl, hX.ints hu⟩ hg hj8) ?_
    rintro r n2 ⟨rfl, nr2⟩
    have ho2 := ho.ext n2
    have oM2 := oM.ext n2
    have hX2 := hX.app nr2
    have happ := app_num (x := (joiP k) j) (id2 := (M ++ n2).length) (n := j) ho2 (by rw [fL_len]; omega) rfl (by rw [fL_len])
    obtain ⟨M2, hM2⟩ : ∃ M', M' = M ++ n2 := ⟨_, rfl⟩
    rw [← hM2] at happ ho2 oM2 hX2 ⊢
    simp (config := {implicitDefEqProofs := false, maxDischargeDepth := 20}) (disch := first | omega | (simp only [lenE]; done) | (simp only [lenE]; omega) | rfl | (simp only [lenE, markR_len]; done) | (simp only [lenE, markR_len]; omega)) only [runE, mapE, listE, initT_5, initT_6, initT_7, initT_8, resV, oneV, binA, unA, reduceCtorEq, Nat.reduceEqDiff, Nat.reduceAdd, Nat.reduceLT, Nat.reduceLeDiff, Nat.reduceMul, Nat.reduceSub, ↓reduceIte, decide_true, decide_false, Bool.true_eq_false, Bool.false_eq_true, Bool.not_true, Bool.not_false, if_true, if_false, and_true, true_and, memE, celE, w64, Nat.zero_add, Nat.add_zero, Nat.mul_one, putL, and_self, ldn, t1, t4, t5, bsl_one, happ, ext_2_0, ext_2_1]
    have hidl := ho2.lt
    have hl2 := hX2.len
    refine ⟨⟨j + 1, _, M2.length + 1, by omega, rfl, ((hX2.dead (by omega)).one _ _).one _ _, oM2.at_ (same_gen (by omega) hidl), by omega, ?_, rfl, by simp⟩, ?_⟩
    · rw [fL_s]
      exact OwnB.here (by simp)
    · simp [intOf]; omega
  · have hlt' : ¬ (j : Int) ≤ 8 := by omega
    obtain rfl : j = 9 := by omega
    simp (config := {implicitDefEqProofs := false, maxDischargeDepth := 20}) (disch := first | omega | (simp only [lenE]; done) | (simp only [lenE]; omega) | rfl | (simp only [lenE, markR_len]; done) | (simp only [lenE, markR_len]; omega)) only [runE, mapE, listE, initT_5, initT_6, initT_7, initT_8, resV, oneV, binA, unA, reduceCtorEq, Nat.reduceEqDiff, Nat.reduceAdd, Nat.reduceLT, Nat.reduceLeDiff, Nat.reduceMul, Nat.reduceSub, ↓reduceIte, decide_true, decide_false, Bool.true_eq_false, Bool.false_eq_true, Bool.not_true, Bool.not_false, if_true, if_false, and_true, true_and, memE, celE, w64, Nat.zero_add, Nat.add_zero, Nat.mul_one, putL, and_self, ldn, tm, t1, t4, t5, hlt']
    exact ext_intsM (f := fun v => .tuple #[v, .bool true]) hX ho (by omega) (by simp [fL_len]) (by simp [fL_len])
theorem implJointProfits_rc (m : Mem) (v : Value) (k : Mk) (h : MkA m v k) :
    RC Try.prog 37 [v] m (AnsO m (IntsO (jpsA k)) fun v => .tuple #[v, .bool k.good]) := by
  refine rc_of_run mixed ok_impl_JointProfits (by simp) (go_start _ _ _ ?_)
  obtain ⟨u, rfl, hu⟩ := h.ro
  unfold jpsA
  try simp (config := {implicitDefEqProofs := false, maxDischargeDepth := 20}) (disch := first | omega | (simp only [lenE]; done) | (simp only [lenE]; omega) | rfl | (simp only [lenE, markR_len]; done) | (simp only [lenE, markR_len]; omega)) only [runE, mapE, listE, initT_5, initT_6, initT_7, initT_8, resV, oneV, binA, unA, reduceCtorEq, Nat.reduceEqDiff, Nat.reduceAdd, Nat.reduceLT, Nat.reduceLeDiff, Nat.reduceMul, Nat.reduceSub, ↓reduceIte, decide_true, decide_false, Bool.true_eq_false, Bool.false_eq_true, Bool.not_true, Bool.not_false, if_true, if_false, and_true, true_and, memE, celE, w64, Nat.zero_add, Nat.add_zero, Nat.mul_one, putL, and_self, ldn, c_impl_JointProfits, r_impl_JointProfits]
  obtain ⟨E, hE⟩ : ∃ M', M' = roM m ++ [⟨.own, 27, [u, .int .i64 k.price, .int .i64 k.make, .int .i64 k.left]⟩] := ⟨_, rfl⟩
  rw [← hE]
  have hX : Ext m E := by rw [hE]; exact ((Ext.refl m).one _ _)
  have LE : E.length = m.length + 1 := by rw [hE]; simp [roM_len]
  have oM : OwnB E (m.length) 27 [u, .int .i64 k.price, .int .i64 k.make, .int .i64 k.left] := by rw [hE]; exact (OwnB.here (by simp [roM_len]))
  clear hE
  try simp (config := {implicitDefEqProofs := false, maxDischargeDepth := 20}) (disch := first | omega | (simp only [lenE]; done) | (simp only [lenE]; omega) | rfl | (simp only [lenE, markR_len]; done) | (simp only [lenE, markR_len]; omega)) only [runE, mapE, listE, initT_5, initT_6, initT_7, initT_8, resV, oneV, binA, unA, reduceCtorEq, Nat.reduceEqDiff, Nat.reduceAdd, Nat.reduceLT, Nat.reduceLeDiff, Nat.reduceMul, Nat.reduceSub, ↓reduceIte, decide_true, decide_false, Bool.true_eq_false, Bool.false_eq_true, Bool.not_true, Bool.not_false, if_true, if_false, and_true, true_and, memE, celE, w64, Nat.zero_add, Nat.add_zero, Nat.mul_one, putL, and_self, ldn, oM.mk4]
  first | refine callH_rc (implIsMarket_rc _ _ k ⟨u, rfl, hX.ints hu⟩) ?_ | refine rcallH_rc (implIsMarket_rc _ _ k ⟨u, rfl, hX.ints hu⟩) ?_
  rintro r n1 ⟨rfl, nr1⟩
  obtain ⟨E1, hE1⟩ : ∃ M', M' = E ++ n1 := ⟨_, rfl⟩
  rw [← hE1]
  replace hX : Ext m E1 := by rw [hE1]; exact hX.app nr1
  replace oM := oM.ext n1
  rw [← hE1] at oM
  clear hE1
  cases g1 : k.good with
  | false =>
    try simp (config := {implicitDefEqProofs := false, maxDischargeDepth := 20}) (disch := first | omega | (simp only [lenE]; done) | (simp only [lenE]; omega) | rfl | (simp only [lenE, markR_len]; done) | (simp only [lenE, markR_len]; omega)) only [runE, mapE, listE, initT_5, initT_6, initT_7, initT_8, resV, oneV, binA, unA, reduceCtorEq, Nat.reduceEqDiff, Nat.reduceAdd, Nat.reduceLT, Nat.reduceLeDiff, Nat.reduceMul, Nat.reduceSub, ↓reduceIte, decide_true, decide_false, Bool.true_eq_false, Bool.false_eq_true, Bool.not_true, Bool.not_false, if_true, if_false, and_true, true_and, memE, celE, w64, Nat.zero_add, Nat.add_zero, Nat.mul_one, putL, and_self, ldn, bsl_none, oM.mk4]
    try simp (config := {implicitDefEqProofs := false, maxDischargeDepth := 20}) (disch := first | omega | (simp only [lenE]; done) | (simp only [lenE]; omega) | rfl | (simp only [lenE, markR_len]; done) | (simp only [lenE, markR_len]; omega)) only [runE, mapE, listE, initT_5, initT_6, initT_7, initT_8, resV, oneV, binA, unA, reduceCtorEq, Nat.reduceEqDiff, Nat.reduceAdd, Nat.reduceLT, Nat.reduceLeDiff, Nat.reduceMul, Nat.reduceSub, ↓reduceIte, decide_true, decide_false, Bool.true_eq_false, Bool.false_eq_true, Bool.not_true, Bool.not_false, if_true, if_false, and_true, true_and, memE, celE, w64, Nat.zero_add, Nat.add_zero, Nat.mul_one, putL, and_self, ldn, bsl_none]
    exact ext_noInts (f := fun v => .tuple #[v, .bool false]) hX rfl
  | true =>
  try simp (config := {implicitDefEqProofs := false, maxDischargeDepth := 20}) (disch := first | omega | (simp only [lenE]; done) | (simp only [lenE]; omega) | rfl | (simp only [lenE, markR_len]; done) | (simp only [lenE, markR_len]; omega)) only [runE, mapE, listE, initT_5, initT_6, initT_7, initT_8, resV, oneV, binA, unA, reduceCtorEq, Nat.reduceEqDiff, Nat.reduceAdd, Nat.reduceLT, Nat.reduceLeDiff, Nat.reduceMul, Nat.reduceSub, ↓reduceIte, decide_true, decide_false, Bool.true_eq_false, Bool.false_eq_true, Bool.not_true, Bool.not_false, if_true, if_false, and_true, true_and, memE, celE, w64, Nat.zero_add, Nat.add_zero, Nat.mul_one, putL, and_self, ldn, oM.mk4]
  have hg := goodM_iff.1 g1
  first | refine callH_rc (jointProfits_rc _ _ k ⟨u, rfl, hX.ints hu⟩ hg) ?_ | refine rcallH_rc (jointProfits_rc _ _ k ⟨u, rfl, hX.ints hu⟩ hg) ?_
  rintro r n2 ⟨nr2, w, e, hw⟩
  rw [id_eq] at e
  subst e
  simp (config := {implicitDefEqProofs := false, maxDischargeDepth := 20}) (disch := first | omega | (simp only [lenE]; done) | (simp only [lenE]; omega) | rfl | (simp only [lenE, markR_len]; done) | (simp only [lenE, markR_len]; omega)) only [runE, mapE, listE, initT_5, initT_6, initT_7, initT_8, resV, oneV, binA, unA, reduceCtorEq, Nat.reduceEqDiff, Nat.reduceAdd, Nat.reduceLT, Nat.reduceLeDiff, Nat.reduceMul, Nat.reduceSub, ↓reduceIte, decide_true, decide_false, Bool.true_eq_false, Bool.false_eq_true, Bool.not_true, Bool.not_false, if_true, if_false, and_true, true_and, memE, celE, w64, Nat.zero_add, Nat.add_zero, Nat.mul_one, putL, and_self, ldn]
  exact hX.pass (f := fun v => .tuple #[v, .bool true]) nr2 (IntsO.wide _) hw
theorem l10Best_rc (m : Mem) (v : Value) (k : Mk)  (h : MkA m v k) (hg : GoodM k) :
    RC Try.prog 87 [v] m (AnsV (.int .i64 (joiO k))) := by
  refine rc_of_run mixed ok_spec_l10Best (by simp) (go_start _ _ _ ?_)
  obtain ⟨u, rfl, hu⟩ := h.ro
  try simp (config := {implicitDefEqProofs := false, maxDischargeDepth := 20}) (disch := first | omega | (simp only [lenE]; done) | (simp only [lenE]; omega) | rfl | (simp only [lenE, markR_len]; done) | (simp only [lenE, markR_len]; omega)) only [runE, mapE, listE, initT_5, initT_6, initT_7, initT_8, resV, oneV, binA, unA, reduceCtorEq, Nat.reduceEqDiff, Nat.reduceAdd, Nat.reduceLT, Nat.reduceLeDiff, Nat.reduceMul, Nat.reduceSub, ↓reduceIte, decide_true, decide_false, Bool.true_eq_false, Bool.false_eq_true, Bool.not_true, Bool.not_false, if_true, if_false, and_true, true_and, memE, celE, w64, Nat.zero_add, Nat.add_zero, Nat.mul_one, putL, and_self, ldn, c_spec_l10Best, r_spec_l10Best]
  obtain ⟨E, hE⟩ : ∃ M', M' = roM m ++ [⟨.own, 27, [u, .int .i64 k.price, .int .i64 k.make, .int .i64 k.left]⟩] := ⟨_, rfl⟩
  rw [← hE]
  have hX : Ext m E := by rw [hE]; exact ((Ext.refl m).one _ _)
  have LE : E.length = m.length + 1 := by rw [hE]; simp [roM_len]
  have oM : OwnB E (m.length) 27 [u, .int .i64 k.price, .int .i64 k.make, .int .i64 k.left] := by rw [hE]; exact (OwnB.here (by simp [roM_len]))
  clear hE
  refine loop_inv mixed (fun s => ∃ (j : Nat) (M : Mem), j ≤ 8 ∧ s.m = M ∧ Ext m M ∧ OwnB M m.length 27 [u, .int .i64 k.price, .int .i64 k.make, .int .i64 k.left] ∧ s.t 1 = .pointer (some ⟨m.length, 0, none⟩) ∧ s.t 3 = .int .i64 ((argG (joiP k) j : Nat) : Int) ∧ s.t 4 = .int .i64 ((j + 1 : Nat) : Int)) (fun s => 15 - (intOf (s.t 4)).toNat)
    ⟨0, _, by omega, rfl, hX, oM, rfl, rfl, rfl⟩ ?_
  rintro s ⟨j, M, hj, tm, hX, oM, t1, t3, t4⟩
  have hA := argG_le (joiP k) j
  by_cases hlt : j < 8
  · have hlt' : ((j + 1 : Nat) : Int) ≤ 8 := by omega
    simp (config := {implicitDefEqProofs := false, maxDischargeDepth := 20}) (disch := first | omega | (simp only [lenE]; done) | (simp only [lenE]; omega) | rfl | (simp only [lenE, markR_len]; done) | (simp only [lenE, markR_len]; omega)) only [runE, mapE, listE, initT_5, initT_6, initT_7, initT_8, resV, oneV, binA, unA, reduceCtorEq, Nat.reduceEqDiff, Nat.reduceAdd, Nat.reduceLT, Nat.reduceLeDiff, Nat.reduceMul, Nat.reduceSub, ↓reduceIte, decide_true, decide_false, Bool.true_eq_false, Bool.false_eq_true, Bool.not_true, Bool.not_false, if_true, if_false, and_true, true_and, memE, celE, w64, Nat.zero_add, Nat.add_zero, Nat.mul_one, putL, and_self, ldn, tm, t1, t3, t4, oM.mk4, hlt']
    first | refine callH_rc (l10Joint_rc _ _ k (j + 1) ⟨u, rfl, hX.ints hu⟩ hg (by omega)) ?_ | refine rcallH_rc (l10Joint_rc _ _ k (j + 1) ⟨u, rfl, hX.ints hu⟩ hg (by omega)) ?_
    rintro r n1 ⟨rfl, nr1⟩
    have oM2 := oM.ext n1
    simp (config := {implicitDefEqProofs := false, maxDischargeDepth := 20}) (disch := first | omega | (simp only [lenE]; done) | (simp only [lenE]; omega) | rfl | (simp only [lenE, markR_len]; done) | (simp only [lenE, markR_len]; omega)) only [runE, mapE, listE, initT_5, initT_6, initT_7, initT_8, resV, oneV, binA, unA, reduceCtorEq, Nat.reduceEqDiff, Nat.reduceAdd, Nat.reduceLT, Nat.reduceLeDiff, Nat.reduceMul, Nat.reduceSub, ↓reduceIte, decide_true, decide_false, Bool.true_eq_false, Bool.false_eq_true, Bool.not_true, Bool.not_false, if_true, if_false, and_true, true_and, memE, celE, w64, Nat.zero_add, Nat.add_zero, Nat.mul_one, putL, and_self, ldn, tm, t1, t3, t4, oM2.mk4]
    first | refine callH_rc (l10Joint_rc _ _ k (argG (joiP k) j) ⟨u, rfl, (hX.app nr1).ints hu⟩ hg (by omega)) ?_ | refine rcallH_rc (l10Joint_rc _ _ k (argG (joiP k) j) ⟨u, rfl, (hX.app nr1).ints hu⟩ hg (by omega)) ?_
    rintro r n2 ⟨rfl, nr2⟩
    by_cases hc2 : joiP k (argG (joiP k) j) < joiP k (j + 1)
    · simp (config := {implicitDefEqProofs := false, maxDischargeDepth := 20}) (disch := first | omega | (simp only [lenE]; done) | (simp only [lenE]; omega) | rfl | (simp only [lenE, markR_len]; done) | (simp only [lenE, markR_len]; omega)) only [runE, mapE, listE, initT_5, initT_6, initT_7, initT_8, resV, oneV, binA, unA, reduceCtorEq, Nat.reduceEqDiff, Nat.reduceAdd, Nat.reduceLT, Nat.reduceLeDiff, Nat.reduceMul, Nat.reduceSub, ↓reduceIte, decide_true, decide_false, Bool.true_eq_false, Bool.false_eq_true, Bool.not_true, Bool.not_false, if_true, if_false, and_true, true_and, memE, celE, w64, Nat.zero_add, Nat.add_zero, Nat.mul_one, putL, and_self, ldn, tm, t1, t3, t4, gt_iff_lt, hc2]
      refine ⟨⟨j + 1, _, by omega, rfl, (hX.app nr1).app nr2, oM2.ext n2, by simp only [argG]; rw [if_pos hc2], by simp⟩, by simp [intOf]; omega⟩
    · simp (config := {implicitDefEqProofs := false, maxDischargeDepth := 20}) (disch := first | omega | (simp only [lenE]; done) | (simp only [lenE]; omega) | rfl | (simp only [lenE, markR_len]; done) | (simp only [lenE, markR_len]; omega)) only [runE, mapE, listE, initT_5, initT_6, initT_7, initT_8, resV, oneV, binA, unA, reduceCtorEq, Nat.reduceEqDiff, Nat.reduceAdd, Nat.reduceLT, Nat.reduceLeDiff, Nat.reduceMul, Nat.reduceSub, ↓reduceIte, decide_true, decide_false, Bool.true_eq_false, Bool.false_eq_true, Bool.not_true, Bool.not_false, if_true, if_false, and_true, true_and, memE, celE, w64, Nat.zero_add, Nat.add_zero, Nat.mul_one, putL, and_self, ldn, tm, t1, t3, t4, gt_iff_lt, hc2]
      refine ⟨⟨j + 1, _, by omega, rfl, (hX.app nr1).app nr2, oM2.ext n2, by simp only [argG]; rw [if_neg hc2], by simp⟩, by simp [intOf]; omega⟩
  · have hlt' : ¬ ((j + 1 : Nat) : Int) ≤ 8 := by omega
    obtain rfl : j = 8 := by omega
    simp (config := {implicitDefEqProofs := false, maxDischargeDepth := 20}) (disch := first | omega | (simp only [lenE]; done) | (simp only [lenE]; omega) | rfl | (simp only [lenE, markR_len]; done) | (simp only [lenE, markR_len]; omega)) only [runE, mapE, listE, initT_5, initT_6, initT_7, initT_8, resV, oneV, binA, unA, reduceCtorEq, Nat.reduceEqDiff, Nat.reduceAdd, Nat.reduceLT, Nat.reduceLeDiff, Nat.reduceMul, Nat.reduceSub, ↓reduceIte, decide_true, decide_false, Bool.true_eq_false, Bool.false_eq_true, Bool.not_true, Bool.not_false, if_true, if_false, and_true, true_and, memE, celE, w64, Nat.zero_add, Nat.add_zero, Nat.mul_one, putL, and_self, ldn, tm, t1, t3, t4, hlt']
    exact ext_ansV hX rfl
theorem l10Sold_rc (m : Mem) (v : Value) (k : Mk) (c : Ct) (h : MkA m v k) (hg : GoodM k) (hc : GoodC c) :
    RC Try.prog 91 [v, ctV c] m (AnsV (.int .i64 (selO k c))) := by
  refine rc_of_run mixed ok_spec_l10Sold (by simp) (go_start _ _ _ ?_)
  obtain ⟨u, rfl, hu⟩ := h.ro
  try simp (config := {implicitDefEqProofs := false, maxDischargeDepth := 20}) (disch := first | omega | (simp only [lenE]; done) | (simp only [lenE]; omega) | rfl | (simp only [lenE, markR_len]; done) | (simp only [lenE, markR_len]; omega)) only [runE, mapE, listE, initT_5, initT_6, initT_7, initT_8, resV, oneV, binA, unA, reduceCtorEq, Nat.reduceEqDiff, Nat.reduceAdd, Nat.reduceLT, Nat.reduceLeDiff, Nat.reduceMul, Nat.reduceSub, ↓reduceIte, decide_true, decide_false, Bool.true_eq_false, Bool.false_eq_true, Bool.not_true, Bool.not_false, if_true, if_false, and_true, true_and, memE, celE, w64, Nat.zero_add, Nat.add_zero, Nat.mul_one, putL, and_self, ldn, c_spec_l10Sold, r_spec_l10Sold, ctV]
  obtain ⟨E, hE⟩ : ∃ M', M' = roM m ++ [⟨.own, 27, [u, .int .i64 k.price, .int .i64 k.make, .int .i64 k.left]⟩] ++ [⟨.own, 34, [.int .i64 c.pay, .int .i64 c.back, .int .i64 c.share]⟩] := ⟨_, rfl⟩
  rw [← hE]
  have hX : Ext m E := by rw [hE]; exact (((Ext.refl m).one _ _).one _ _)
  have LE : E.length = m.length + 2 := by rw [hE]; simp [roM_len]
  have oM : OwnB E (m.length) 27 [u, .int .i64 k.price, .int .i64 k.make, .int .i64 k.left] := by rw [hE]; exact ((OwnB.here (by simp [roM_len])).ext _)
  have oC : OwnB E (m.length + 1) 34 [.int .i64 c.pay, .int .i64 c.back, .int .i64 c.share] := by rw [hE]; exact (OwnB.here (by simp [roM_len]))
  clear hE
  refine loop_inv mixed (fun s => ∃ (j : Nat) (M : Mem), j ≤ 8 ∧ s.m = M ∧ Ext m M ∧ OwnB M m.length 27 [u, .int .i64 k.price, .int .i64 k.make, .int .i64 k.left] ∧ OwnB M (m.length + 1) 34 [.int .i64 c.pay, .int .i64 c.back, .int .i64 c.share] ∧ s.t 2 = .pointer (some ⟨m.length, 0, none⟩) ∧ s.t 3 = .pointer (some ⟨m.length + 1, 0, none⟩) ∧ s.t 5 = .int .i64 ((argG (selP k c) j : Nat) : Int) ∧ s.t 6 = .int .i64 ((j + 1 : Nat) : Int)) (fun s => 15 - (intOf (s.t 6)).toNat)
    ⟨0, _, by omega, rfl, hX, oM, oC, rfl, rfl, rfl, rfl⟩ ?_
  rintro s ⟨j, M, hj, tm, hX, oM, oC, t2, t3, t5, t6⟩
  have hA := argG_le (selP k c) j
  by_cases hlt : j < 8
  · have hlt' : ((j + 1 : Nat) : Int) ≤ 8 := by omega
    simp (config := {implicitDefEqProofs := false, maxDischargeDepth := 20}) (disch := first | omega | (simp only [lenE]; done) | (simp only [lenE]; omega) | rfl | (simp only [lenE, markR_len]; done) | (simp only [lenE, markR_len]; omega)) only [runE, mapE, listE, initT_5, initT_6, initT_7, initT_8, resV, oneV, binA, unA, reduceCtorEq, Nat.reduceEqDiff, Nat.reduceAdd, Nat.reduceLT, Nat.reduceLeDiff, Nat.reduceMul, Nat.reduceSub, ↓reduceIte, decide_true, decide_false, Bool.true_eq_false, Bool.false_eq_true, Bool.not_true, Bool.not_false, if_true, if_false, and_true, true_and, memE, celE, w64, Nat.zero_add, Nat.add_zero, Nat.mul_one, putL, and_self, ldn, tm, t2, t3, t5, t6, oM.mk4, oC.mk3, hlt']
    first | refine callH_rc (l10Seller_rc _ _ k c (j + 1) ⟨u, rfl, hX.ints hu⟩ hg hc (by omega)) ?_ | refine rcallH_rc (l10Seller_rc _ _ k c (j + 1) ⟨u, rfl, hX.ints hu⟩ hg hc (by omega)) ?_
    rintro r n1 ⟨rfl, nr1⟩
    have oM2 := oM.ext n1
    have oC2 := oC.ext n1
    simp (config := {implicitDefEqProofs := false, maxDischargeDepth := 20}) (disch := first | omega | (simp only [lenE]; done) | (simp only [lenE]; omega) | rfl | (simp only [lenE, markR_len]; done) | (simp only [lenE, markR_len]; omega)) only [runE, mapE, listE, initT_5, initT_6, initT_7, initT_8, resV, oneV, binA, unA, reduceCtorEq, Nat.reduceEqDiff, Nat.reduceAdd, Nat.reduceLT, Nat.reduceLeDiff, Nat.reduceMul, Nat.reduceSub, ↓reduceIte, decide_true, decide_false, Bool.true_eq_false, Bool.false_eq_true, Bool.not_true, Bool.not_false, if_true, if_false, and_true, true_and, memE, celE, w64, Nat.zero_add, Nat.add_zero, Nat.mul_one, putL, and_self, ldn, tm, t2, t3, t5, t6, oM2.mk4, oC2.mk3]
    first | refine callH_rc (l10Seller_rc _ _ k c (argG (selP k c) j) ⟨u, rfl, (hX.app nr1).ints hu⟩ hg hc (by omega)) ?_ | refine rcallH_rc (l10Seller_rc _ _ k c (argG (selP k c) j) ⟨u, rfl, (hX.app nr1).ints hu⟩ hg hc (by omega)) ?_
    rintro r n2 ⟨rfl, nr2⟩
    by_cases hc2 : selP k c (argG (selP k c) j) < selP k c (j + 1)
    · simp (config := {implicitDefEqProofs := false, maxDischargeDepth := 20}) (disch := first | omega | (simp only [lenE]; done) | (simp only [lenE]; omega) | rfl | (simp only [lenE, markR_len]; done) | (simp only [lenE, markR_len]; omega)) only [runE, mapE, listE, initT_5, initT_6, initT_7, initT_8, resV, oneV, binA, unA, reduceCtorEq, Nat.reduceEqDiff, Nat.reduceAdd, Nat.reduceLT, Nat.reduceLeDiff, Nat.reduceMul, Nat.reduceSub, ↓reduceIte, decide_true, decide_false, Bool.true_eq_false, Bool.false_eq_true, Bool.not_true, Bool.not_false, if_true, if_false, and_true, true_and, memE, celE, w64, Nat.zero_add, Nat.add_zero, Nat.mul_one, putL, and_self, ldn, tm, t2, t3, t5, t6, gt_iff_lt, hc2]
      refine ⟨⟨j + 1, _, by omega, rfl, (hX.app nr1).app nr2, oM2.ext n2, oC2.ext n2, by simp only [argG]; rw [if_pos hc2], by simp⟩, by simp [intOf]; omega⟩
    · simp (config := {implicitDefEqProofs := false, maxDischargeDepth := 20}) (disch := first | omega | (simp only [lenE]; done) | (simp only [lenE]; omega) | rfl | (simp only [lenE, markR_len]; done) | (simp only [lenE, markR_len]; omega)) only [runE, mapE, listE, initT_5, initT_6, initT_7, initT_8, resV, oneV, binA, unA, reduceCtorEq, Nat.reduceEqDiff, Nat.reduceAdd, Nat.reduceLT, Nat.reduceLeDiff, Nat.reduceMul, Nat.reduceSub, ↓reduceIte, decide_true, decide_false, Bool.true_eq_false, Bool.false_eq_true, Bool.not_true, Bool.not_false, if_true, if_false, and_true, true_and, memE, celE, w64, Nat.zero_add, Nat.add_zero, Nat.mul_one, putL, and_self, ldn, tm, t2, t3, t5, t6, gt_iff_lt, hc2]
      refine ⟨⟨j + 1, _, by omega, rfl, (hX.app nr1).app nr2, oM2.ext n2, oC2.ext n2, by simp only [argG]; rw [if_neg hc2], by simp⟩, by simp [intOf]; omega⟩
  · have hlt' : ¬ ((j + 1 : Nat) : Int) ≤ 8 := by omega
    obtain rfl : j = 8 := by omega
    simp (config := {implicitDefEqProofs := false, maxDischargeDepth := 20}) (disch := first | omega | (simp only [lenE]; done) | (simp only [lenE]; omega) | rfl | (simp only [lenE, markR_len]; done) | (simp only [lenE, markR_len]; omega)) only [runE, mapE, listE, initT_5, initT_6, initT_7, initT_8, resV, oneV, binA, unA, reduceCtorEq, Nat.reduceEqDiff, Nat.reduceAdd, Nat.reduceLT, Nat.reduceLeDiff, Nat.reduceMul, Nat.reduceSub, ↓reduceIte, decide_true, decide_false, Bool.true_eq_false, Bool.false_eq_true, Bool.not_true, Bool.not_false, if_true, if_false, and_true, true_and, memE, celE, w64, Nat.zero_add, Nat.add_zero, Nat.mul_one, putL, and_self, ldn, tm, t2, t3, t5, t6, hlt']
    exact ext_ansV hX rfl
theorem specJointOrder_rc (m : Mem) (v : Value) (k : Mk) (h : MkA m v k) :
    RC Try.prog 42 [v] m (AnsV (.tuple #[.int .i64 (if k.good then (joiO k : Int) else 0), .bool k.good])) := by
  refine rc_of_run mixed ok_spec_JointOrder (by simp) (go_start _ _ _ ?_)
  obtain ⟨u, rfl, hu⟩ := h.ro
  try simp (config := {implicitDefEqProofs := false, maxDischargeDepth := 20}) (disch := first | omega | (simp only [lenE]; done) | (simp only [lenE]; omega) | rfl | (simp only [lenE, markR_len]; done) | (simp only [lenE, markR_len]; omega)) only [runE, mapE, listE, initT_5, initT_6, initT_7, initT_8, resV, oneV, binA, unA, reduceCtorEq, Nat.reduceEqDiff, Nat.reduceAdd, Nat.reduceLT, Nat.reduceLeDiff, Nat.reduceMul, Nat.reduceSub, ↓reduceIte, decide_true, decide_false, Bool.true_eq_false, Bool.false_eq_true, Bool.not_true, Bool.not_false, if_true, if_false, and_true, true_and, memE, celE, w64, Nat.zero_add, Nat.add_zero, Nat.mul_one, putL, and_self, ldn, c_spec_JointOrder, r_spec_JointOrder]
  obtain ⟨E, hE⟩ : ∃ M', M' = roM m ++ [⟨.own, 27, [u, .int .i64 k.price, .int .i64 k.make, .int .i64 k.left]⟩] := ⟨_, rfl⟩
  rw [← hE]
  have hX : Ext m E := by rw [hE]; exact ((Ext.refl m).one _ _)
  have LE : E.length = m.length + 1 := by rw [hE]; simp [roM_len]
  have oM : OwnB E (m.length) 27 [u, .int .i64 k.price, .int .i64 k.make, .int .i64 k.left] := by rw [hE]; exact (OwnB.here (by simp [roM_len]))
  clear hE
  try simp (config := {implicitDefEqProofs := false, maxDischargeDepth := 20}) (disch := first | omega | (simp only [lenE]; done) | (simp only [lenE]; omega) | rfl | (simp only [lenE, markR_len]; done) | (simp only [lenE, markR_len]; omega)) only [runE, mapE, listE, initT_5, initT_6, initT_7, initT_8, resV, oneV, binA, unA, reduceCtorEq, Nat.reduceEqDiff, Nat.reduceAdd, Nat.reduceLT, Nat.reduceLeDiff, Nat.reduceMul, Nat.reduceSub, ↓reduceIte, decide_true, decide_false, Bool.true_eq_false, Bool.false_eq_true, Bool.not_true, Bool.not_false, if_true, if_false, and_true, true_and, memE, celE, w64, Nat.zero_add, Nat.add_zero, Nat.mul_one, putL, and_self, ldn, oM.mk4]
  first | refine callH_rc (l10Market_rc _ _ k ⟨u, rfl, hX.ints hu⟩) ?_ | refine rcallH_rc (l10Market_rc _ _ k ⟨u, rfl, hX.ints hu⟩) ?_
  rintro r n1 ⟨rfl, nr1⟩
  obtain ⟨E1, hE1⟩ : ∃ M', M' = E ++ n1 := ⟨_, rfl⟩
  rw [← hE1]
  replace hX : Ext m E1 := by rw [hE1]; exact hX.app nr1
  replace oM := oM.ext n1
  rw [← hE1] at oM
  clear hE1
  cases g1 : k.good with
  | false =>
    try simp (config := {implicitDefEqProofs := false, maxDischargeDepth := 20}) (disch := first | omega | (simp only [lenE]; done) | (simp only [lenE]; omega) | rfl | (simp only [lenE, markR_len]; done) | (simp only [lenE, markR_len]; omega)) only [runE, mapE, listE, initT_5, initT_6, initT_7, initT_8, resV, oneV, binA, unA, reduceCtorEq, Nat.reduceEqDiff, Nat.reduceAdd, Nat.reduceLT, Nat.reduceLeDiff, Nat.reduceMul, Nat.reduceSub, ↓reduceIte, decide_true, decide_false, Bool.true_eq_false, Bool.false_eq_true, Bool.not_true, Bool.not_false, if_true, if_false, and_true, true_and, memE, celE, w64, Nat.zero_add, Nat.add_zero, Nat.mul_one, putL, and_self, ldn, oM.mk4]
    exact ext_ansV hX (by simp)
  | true =>
  try simp (config := {implicitDefEqProofs := false, maxDischargeDepth := 20}) (disch := first | omega | (simp only [lenE]; done) | (simp only [lenE]; omega) | rfl | (simp only [lenE, markR_len]; done) | (simp only [lenE, markR_len]; omega)) only [runE, mapE, listE, initT_5, initT_6, initT_7, initT_8, resV, oneV, binA, unA, reduceCtorEq, Nat.reduceEqDiff, Nat.reduceAdd, Nat.reduceLT, Nat.reduceLeDiff, Nat.reduceMul, Nat.reduceSub, ↓reduceIte, decide_true, decide_false, Bool.true_eq_false, Bool.false_eq_true, Bool.not_true, Bool.not_false, if_true, if_false, and_true, true_and, memE, celE, w64, Nat.zero_add, Nat.add_zero, Nat.mul_one, putL, and_self, ldn, oM.mk4]
  have hg := goodM_iff.1 g1
  first | refine callH_rc (l10Best_rc _ _ k ⟨u, rfl, hX.ints hu⟩ hg) ?_ | refine rcallH_rc (l10Best_rc _ _ k ⟨u, rfl, hX.ints hu⟩ hg) ?_
  rintro r n2 ⟨rfl, nr2⟩
  obtain ⟨E2, hE2⟩ : ∃ M', M' = E1 ++ n2 := ⟨_, rfl⟩
  rw [← hE2]
  replace hX : Ext m E2 := by rw [hE2]; exact hX.app nr2
  replace oM := oM.ext n2
  rw [← hE2] at oM
  clear hE2
  try simp (config := {implicitDefEqProofs := false, maxDischargeDepth := 20}) (disch := first | omega | (simp only [lenE]; done) | (simp only [lenE]; omega) | rfl | (simp only [lenE, markR_len]; done) | (simp only [lenE, markR_len]; omega)) only [runE, mapE, listE, initT_5, initT_6, initT_7, initT_8, resV, oneV, binA, unA, reduceCtorEq, Nat.reduceEqDiff, Nat.reduceAdd, Nat.reduceLT, Nat.reduceLeDiff, Nat.reduceMul, Nat.reduceSub, ↓reduceIte, decide_true, decide_false, Bool.true_eq_false, Bool.false_eq_true, Bool.not_true, Bool.not_false, if_true, if_false, and_true, true_and, memE, celE, w64, Nat.zero_add, Nat.add_zero, Nat.mul_one, putL, and_self, ldn, oM.mk4]
  exact ext_ansV hX (by simp)
theorem implJointOrder_rc (m : Mem) (v : Value) (k : Mk) (h : MkA m v k) :
    RC Try.prog 43 [v] m (AnsV (.tuple #[.int .i64 (if k.good then (joiO k : Int) else 0), .bool k.good])) := by
  refine rc_of_run mixed ok_impl_JointOrder (by simp) (go_start _ _ _ ?_)
  obtain ⟨u, rfl, hu⟩ := h.ro
  try simp (config := {implicitDefEqProofs := false, maxDischargeDepth := 20}) (disch := first | omega | (simp only [lenE]; done) | (simp only [lenE]; omega) | rfl | (simp only [lenE, markR_len]; done) | (simp only [lenE, markR_len]; omega)) only [runE, mapE, listE, initT_5, initT_6, initT_7, initT_8, resV, oneV, binA, unA, reduceCtorEq, Nat.reduceEqDiff, Nat.reduceAdd, Nat.reduceLT, Nat.reduceLeDiff, Nat.reduceMul, Nat.reduceSub, ↓reduceIte, decide_true, decide_false, Bool.true_eq_false, Bool.false_eq_true, Bool.not_true, Bool.not_false, if_true, if_false, and_true, true_and, memE, celE, w64, Nat.zero_add, Nat.add_zero, Nat.mul_one, putL, and_self, ldn, c_impl_JointOrder, r_impl_JointOrder]
  obtain ⟨E, hE⟩ : ∃ M', M' = roM m ++ [⟨.own, 27, [u, .int .i64 k.price, .int .i64 k.make, .int .i64 k.left]⟩] := ⟨_, rfl⟩
  rw [← hE]
  have hX : Ext m E := by rw [hE]; exact ((Ext.refl m).one _ _)
  have LE : E.length = m.length + 1 := by rw [hE]; simp [roM_len]
  have oM : OwnB E (m.length) 27 [u, .int .i64 k.price, .int .i64 k.make, .int .i64 k.left] := by rw [hE]; exact (OwnB.here (by simp [roM_len]))
  clear hE
  try simp (config := {implicitDefEqProofs := false, maxDischargeDepth := 20}) (disch := first | omega | (simp only [lenE]; done) | (simp only [lenE]; omega) | rfl | (simp only [lenE, markR_len]; done) | (simp only [lenE, markR_len]; omega)) only [runE, mapE, listE, initT_5, initT_6, initT_7, initT_8, resV, oneV, binA, unA, reduceCtorEq, Nat.reduceEqDiff, Nat.reduceAdd, Nat.reduceLT, Nat.reduceLeDiff, Nat.reduceMul, Nat.reduceSub, ↓reduceIte, decide_true, decide_false, Bool.true_eq_false, Bool.false_eq_true, Bool.not_true, Bool.not_false, if_true, if_false, and_true, true_and, memE, celE, w64, Nat.zero_add, Nat.add_zero, Nat.mul_one, putL, and_self, ldn, oM.mk4]
  first | refine callH_rc (implIsMarket_rc _ _ k ⟨u, rfl, hX.ints hu⟩) ?_ | refine rcallH_rc (implIsMarket_rc _ _ k ⟨u, rfl, hX.ints hu⟩) ?_
  rintro r n1 ⟨rfl, nr1⟩
  obtain ⟨E1, hE1⟩ : ∃ M', M' = E ++ n1 := ⟨_, rfl⟩
  rw [← hE1]
  replace hX : Ext m E1 := by rw [hE1]; exact hX.app nr1
  replace oM := oM.ext n1
  rw [← hE1] at oM
  clear hE1
  cases g1 : k.good with
  | false =>
    try simp (config := {implicitDefEqProofs := false, maxDischargeDepth := 20}) (disch := first | omega | (simp only [lenE]; done) | (simp only [lenE]; omega) | rfl | (simp only [lenE, markR_len]; done) | (simp only [lenE, markR_len]; omega)) only [runE, mapE, listE, initT_5, initT_6, initT_7, initT_8, resV, oneV, binA, unA, reduceCtorEq, Nat.reduceEqDiff, Nat.reduceAdd, Nat.reduceLT, Nat.reduceLeDiff, Nat.reduceMul, Nat.reduceSub, ↓reduceIte, decide_true, decide_false, Bool.true_eq_false, Bool.false_eq_true, Bool.not_true, Bool.not_false, if_true, if_false, and_true, true_and, memE, celE, w64, Nat.zero_add, Nat.add_zero, Nat.mul_one, putL, and_self, ldn, oM.mk4]
    exact ext_ansV hX (by simp)
  | true =>
  try simp (config := {implicitDefEqProofs := false, maxDischargeDepth := 20}) (disch := first | omega | (simp only [lenE]; done) | (simp only [lenE]; omega) | rfl | (simp only [lenE, markR_len]; done) | (simp only [lenE, markR_len]; omega)) only [runE, mapE, listE, initT_5, initT_6, initT_7, initT_8, resV, oneV, binA, unA, reduceCtorEq, Nat.reduceEqDiff, Nat.reduceAdd, Nat.reduceLT, Nat.reduceLeDiff, Nat.reduceMul, Nat.reduceSub, ↓reduceIte, decide_true, decide_false, Bool.true_eq_false, Bool.false_eq_true, Bool.not_true, Bool.not_false, if_true, if_false, and_true, true_and, memE, celE, w64, Nat.zero_add, Nat.add_zero, Nat.mul_one, putL, and_self, ldn, oM.mk4]
  have hg := goodM_iff.1 g1
  first | refine callH_rc (jointProfits_rc _ _ k ⟨u, rfl, hX.ints hu⟩ hg) ?_ | refine rcallH_rc (jointProfits_rc _ _ k ⟨u, rfl, hX.ints hu⟩ hg) ?_
  rintro r n2 ⟨nr2, w, e, hw⟩
  rw [id_eq] at e
  subst e
  have hw := hw.now.in
  obtain ⟨E2, hE2⟩ : ∃ M', M' = E1 ++ n2 := ⟨_, rfl⟩
  rw [← hE2]
  replace hX : Ext m E2 := by rw [hE2]; exact hX.app nr2
  replace oM := oM.ext n2
  rw [← hE2] at oM
  rw [← hE2] at hw
  clear hE2
  try simp (config := {implicitDefEqProofs := false, maxDischargeDepth := 20}) (disch := first | omega | (simp only [lenE]; done) | (simp only [lenE]; omega) | rfl | (simp only [lenE, markR_len]; done) | (simp only [lenE, markR_len]; omega)) only [runE, mapE, listE, initT_5, initT_6, initT_7, initT_8, resV, oneV, binA, unA, reduceCtorEq, Nat.reduceEqDiff, Nat.reduceAdd, Nat.reduceLT, Nat.reduceLeDiff, Nat.reduceMul, Nat.reduceSub, ↓reduceIte, decide_true, decide_false, Bool.true_eq_false, Bool.false_eq_true, Bool.not_true, Bool.not_false, if_true, if_false, and_true, true_and, memE, celE, w64, Nat.zero_add, Nat.add_zero, Nat.mul_one, putL, and_self, ldn, oM.mk4]
  first | refine callH_rc (firstGreatest_rc _ _ _ hw (by rw [fL_len]; omega)) ?_ | refine rcallH_rc (firstGreatest_rc _ _ _ hw (by rw [fL_len]; omega)) ?_
  rintro r n3 ⟨rfl, rfl⟩
  try rw [List.append_nil]
  try simp (config := {implicitDefEqProofs := false, maxDischargeDepth := 20}) (disch := first | omega | (simp only [lenE]; done) | (simp only [lenE]; omega) | rfl | (simp only [lenE, markR_len]; done) | (simp only [lenE, markR_len]; omega)) only [runE, mapE, listE, initT_5, initT_6, initT_7, initT_8, resV, oneV, binA, unA, reduceCtorEq, Nat.reduceEqDiff, Nat.reduceAdd, Nat.reduceLT, Nat.reduceLeDiff, Nat.reduceMul, Nat.reduceSub, ↓reduceIte, decide_true, decide_false, Bool.true_eq_false, Bool.false_eq_true, Bool.not_true, Bool.not_false, if_true, if_false, and_true, true_and, memE, celE, w64, Nat.zero_add, Nat.add_zero, Nat.mul_one, putL, and_self, ldn, ext_2_0, ext_2_1, oM.mk4]
  exact ext_ansV hX (by rw [gL_f]; simp; rfl)
theorem sellerOrder_rc (m : Mem) (v : Value) (k : Mk) (c : Ct) (h : MkA m v k) (hg : GoodM k) (hc : GoodC c) :
    RC Try.prog 92 [v, ctV c] m (AnsV (.int .i64 (selO k c))) := by
  refine rc_of_run mixed ok_impl_sellerOrder (by simp) (go_start _ _ _ ?_)
  obtain ⟨u, rfl, hu⟩ := h.ro
  try simp (config := {implicitDefEqProofs := false, maxDischargeDepth := 20}) (disch := first | omega | (simp only [lenE]; done) | (simp only [lenE]; omega) | rfl | (simp only [lenE, markR_len]; done) | (simp only [lenE, markR_len]; omega)) only [runE, mapE, listE, initT_5, initT_6, initT_7, initT_8, resV, oneV, binA, unA, reduceCtorEq, Nat.reduceEqDiff, Nat.reduceAdd, Nat.reduceLT, Nat.reduceLeDiff, Nat.reduceMul, Nat.reduceSub, ↓reduceIte, decide_true, decide_false, Bool.true_eq_false, Bool.false_eq_true, Bool.not_true, Bool.not_false, if_true, if_false, and_true, true_and, memE, celE, w64, Nat.zero_add, Nat.add_zero, Nat.mul_one, putL, and_self, ldn, c_impl_sellerOrder, r_impl_sellerOrder, ctV, bsl_none]
  obtain ⟨E, hE⟩ : ∃ M', M' = roM m ++ [⟨.own, 27, [u, .int .i64 k.price, .int .i64 k.make, .int .i64 k.left]⟩] ++ [⟨.own, 34, [.int .i64 c.pay, .int .i64 c.back, .int .i64 c.share]⟩] ++ [⟨.own, 3, []⟩] := ⟨_, rfl⟩
  rw [← hE]
  have hX : Ext m E := by rw [hE]; exact ((((Ext.refl m).one _ _).one _ _).one _ _)
  have LE : E.length = m.length + 3 := by rw [hE]; simp [roM_len]
  have oM : OwnB E (m.length) 27 [u, .int .i64 k.price, .int .i64 k.make, .int .i64 k.left] := by rw [hE]; exact (((OwnB.here (by simp [roM_len])).ext _).ext _)
  have oC : OwnB E (m.length + 1) 34 [.int .i64 c.pay, .int .i64 c.back, .int .i64 c.share] := by rw [hE]; exact ((OwnB.here (by simp [roM_len])).ext _)
  have oR : OwnB E (m.length + 1 + 1) 3 [] := by rw [hE]; exact (OwnB.here (by simp [roM_len]))
  clear hE
  refine loop_inv mixed (fun s => ∃ (j : Nat) (M : Mem) (id : Nat), j ≤ 9 ∧ s.m = M ∧ Ext m M ∧ OwnB M m.length 27 [u, .int .i64 k.price, .int .i64 k.make, .int .i64 k.left] ∧ OwnB M (m.length + 1) 34 [.int .i64 c.pay, .int .i64 c.back, .int .i64 c.share] ∧ m.length + 2 ≤ id ∧ OwnR M id (fL (selP k c) j) ∧ s.t 2 = .pointer (some ⟨m.length, 0, none⟩) ∧ s.t 3 = .pointer (some ⟨m.length + 1, 0, none⟩) ∧ s.t 5 = .slice (some ⟨id, 0, none⟩) j 1 ∧ s.t 12 = .int .i64 (j : Int)) (fun s => 14 - (intOf (s.t 12)).toNat)
    ⟨0, _, m.length + 2, by omega, rfl, hX, oM, oC, by omega, oR, rfl, rfl, rfl, rfl⟩ ?_
  rintro s ⟨j, M, id, hj, tm, hX, oM, oC, hid, ho, t2, t3, t5, t12⟩
  by_cases hlt : j < 9
  · have hlt' : (j : Int) < 9 := by omega
    have hj8 : j ≤ 8 := by omega
    simp (config := {implicitDefEqProofs := false, maxDischargeDepth := 20}) (disch := first | omega | (simp only [lenE]; done) | (simp only [lenE]; omega) | rfl | (simp only [lenE, markR_len]; done) | (simp only [lenE, markR_len]; omega)) only [runE, mapE, listE, initT_5, initT_6, initT_7, initT_8, resV, oneV, binA, unA, reduceCtorEq, Nat.reduceEqDiff, Nat.reduceAdd, Nat.reduceLT, Nat.reduceLeDiff, Nat.reduceMul, Nat.reduceSub, ↓reduceIte, decide_true, decide_false, Bool.true_eq_false, Bool.false_eq_true, Bool.not_true, Bool.not_false, if_true, if_false, and_true, true_and, memE, celE, w64, Nat.zero_add, Nat.add_zero, Nat.mul_one, putL, and_self, ldn, tm, t2, t3, t5, t12, oM.mk4, oC.mk3, hlt']
    first | refine callH_rc (profitsOf_rc _ _ k c j ⟨u, rfl, hX.ints hu⟩ hg hc hj8) ?_ | refine rcallH_rc (profitsOf_rc _ _ k c j ⟨u, rfl, hX.ints hu⟩ hg hc hj8) ?_
    rintro r n2 ⟨rfl, nr2⟩
    have ho2 := ho.ext n2
    have oM2 := oM.ext n2
    have oC2 := oC.ext n2
    have hX2 := hX.app nr2
    have happ := app_num (x := (selP k c) j) (id2 := (M ++ n2).length) (n := j) ho2 (by rw [fL_len]; omega) rfl (by rw [fL_len])
    obtain ⟨M2, hM2⟩ : ∃ M', M' = M ++ n2 := ⟨_, rfl⟩
    rw [← hM2] at happ ho2 oM2 oC2 hX2 ⊢
    simp (config := {implicitDefEqProofs := false, maxDischargeDepth := 20}) (disch := first | omega | (simp only [lenE]; done) | (simp only [lenE]; omega) | rfl | (simp only [lenE, markR_len]; done) | (simp only [lenE, markR_len]; omega)) only [runE, mapE, listE, initT_5, initT_6, initT_7, initT_8, resV, oneV, binA, unA, reduceCtorEq, Nat.reduceEqDiff, Nat.reduceAdd, Nat.reduceLT, Nat.reduceLeDiff, Nat.reduceMul, Nat.reduceSub, ↓reduceIte, decide_true, decide_false, Bool.true_eq_false, Bool.false_eq_true, Bool.not_true, Bool.not_false, if_true, if_false, and_true, true_and, memE, celE, w64, Nat.zero_add, Nat.add_zero, Nat.mul_one, putL, and_self, ldn, t2, t3, t5, t12, bsl_one, happ, ext_2_0, ext_2_1]
    have hidl := ho2.lt
    have hl2 := hX2.len
    refine ⟨⟨j + 1, _, M2.length + 1, by omega, rfl, ((hX2.dead (by omega)).one _ _).one _ _, oM2.at_ (same_gen (by omega) hidl), oC2.at_ (same_gen (by omega) hidl), by omega, ?_, rfl, by simp⟩, ?_⟩
    · rw [fL_s]
      exact OwnB.here (by simp)
    · simp [intOf]; omega
  · have hlt' : ¬ (j : Int) < 9 := by omega
    obtain rfl : j = 9 := by omega
    simp (config := {implicitDefEqProofs := false, maxDischargeDepth := 20}) (disch := first | omega | (simp only [lenE]; done) | (simp only [lenE]; omega) | rfl | (simp only [lenE, markR_len]; done) | (simp only [lenE, markR_len]; omega)) only [runE, mapE, listE, initT_5, initT_6, initT_7, initT_8, resV, oneV, binA, unA, reduceCtorEq, Nat.reduceEqDiff, Nat.reduceAdd, Nat.reduceLT, Nat.reduceLeDiff, Nat.reduceMul, Nat.reduceSub, ↓reduceIte, decide_true, decide_false, Bool.true_eq_false, Bool.false_eq_true, Bool.not_true, Bool.not_false, if_true, if_false, and_true, true_and, memE, celE, w64, Nat.zero_add, Nat.add_zero, Nat.mul_one, putL, and_self, ldn, tm, t2, t3, t5, t12, hlt']
    have hw : IntsA M (.slice (some ⟨id, 0, none⟩) (fL (selP k c) 9).length 1) (fL (selP k c) 9) := ho.ints (by rw [fL_len]; omega) 1
    rw [fL_len] at hw
    refine callH_rc (firstGreatest_rc _ _ _ hw (by rw [fL_len]; omega)) ?_
    rintro r n3 ⟨rfl, rfl⟩
    rw [List.append_nil, gL_f]
    simp (config := {implicitDefEqProofs := false, maxDischargeDepth := 20}) (disch := first | omega | (simp only [lenE]; done) | (simp only [lenE]; omega) | rfl | (simp only [lenE, markR_len]; done) | (simp only [lenE, markR_len]; omega)) only [runE, mapE, listE, initT_5, initT_6, initT_7, initT_8, resV, oneV, binA, unA, reduceCtorEq, Nat.reduceEqDiff, Nat.reduceAdd, Nat.reduceLT, Nat.reduceLeDiff, Nat.reduceMul, Nat.reduceSub, ↓reduceIte, decide_true, decide_false, Bool.true_eq_false, Bool.false_eq_true, Bool.not_true, Bool.not_false, if_true, if_false, and_true, true_and, memE, celE, w64, Nat.zero_add, Nat.add_zero, Nat.mul_one, putL, and_self, ldn, ext_2_0, ext_2_1]
    exact ext_ansV hX rfl
theorem specSellerOrder_rc (m : Mem) (v : Value) (k : Mk) (c : Ct) (h : MkA m v k) :
    RC Try.prog 46 [v, ctV c] m (AnsV (.tuple #[.int .i64 (if bothM k c then (selO k c : Int) else 0), .bool (bothM k c)])) := by
  refine rc_of_run mixed ok_spec_SellerOrder (by simp) (go_start _ _ _ ?_)
  obtain ⟨u, rfl, hu⟩ := h.ro
  try simp (config := {implicitDefEqProofs := false, maxDischargeDepth := 20}) (disch := first | omega | (simp only [lenE]; done) | (simp only [lenE]; omega) | rfl | (simp only [lenE, markR_len]; done) | (simp only [lenE, markR_len]; omega)) only [runE, mapE, listE, initT_5, initT_6, initT_7, initT_8, resV, oneV, binA, unA, reduceCtorEq, Nat.reduceEqDiff, Nat.reduceAdd, Nat.reduceLT, Nat.reduceLeDiff, Nat.reduceMul, Nat.reduceSub, ↓reduceIte, decide_true, decide_false, Bool.true_eq_false, Bool.false_eq_true, Bool.not_true, Bool.not_false, if_true, if_false, and_true, true_and, memE, celE, w64, Nat.zero_add, Nat.add_zero, Nat.mul_one, putL, and_self, ldn, c_spec_SellerOrder, r_spec_SellerOrder, ctV]
  obtain ⟨E, hE⟩ : ∃ M', M' = roM m ++ [⟨.own, 27, [u, .int .i64 k.price, .int .i64 k.make, .int .i64 k.left]⟩] ++ [⟨.own, 34, [.int .i64 c.pay, .int .i64 c.back, .int .i64 c.share]⟩] := ⟨_, rfl⟩
  rw [← hE]
  have hX : Ext m E := by rw [hE]; exact (((Ext.refl m).one _ _).one _ _)
  have LE : E.length = m.length + 2 := by rw [hE]; simp [roM_len]
  have oM : OwnB E (m.length) 27 [u, .int .i64 k.price, .int .i64 k.make, .int .i64 k.left] := by rw [hE]; exact ((OwnB.here (by simp [roM_len])).ext _)
  have oC : OwnB E (m.length + 1) 34 [.int .i64 c.pay, .int .i64 c.back, .int .i64 c.share] := by rw [hE]; exact (OwnB.here (by simp [roM_len]))
  clear hE
  try simp (config := {implicitDefEqProofs := false, maxDischargeDepth := 20}) (disch := first | omega | (simp only [lenE]; done) | (simp only [lenE]; omega) | rfl | (simp only [lenE, markR_len]; done) | (simp only [lenE, markR_len]; omega)) only [runE, mapE, listE, initT_5, initT_6, initT_7, initT_8, resV, oneV, binA, unA, reduceCtorEq, Nat.reduceEqDiff, Nat.reduceAdd, Nat.reduceLT, Nat.reduceLeDiff, Nat.reduceMul, Nat.reduceSub, ↓reduceIte, decide_true, decide_false, Bool.true_eq_false, Bool.false_eq_true, Bool.not_true, Bool.not_false, if_true, if_false, and_true, true_and, memE, celE, w64, Nat.zero_add, Nat.add_zero, Nat.mul_one, putL, and_self, ldn, oM.mk4, oC.mk3]
  first | refine callH_rc (l10Both_rc _ _ k c ⟨u, rfl, hX.ints hu⟩) ?_ | refine rcallH_rc (l10Both_rc _ _ k c ⟨u, rfl, hX.ints hu⟩) ?_
  rintro r n1 ⟨rfl, nr1⟩
  obtain ⟨E1, hE1⟩ : ∃ M', M' = E ++ n1 := ⟨_, rfl⟩
  rw [← hE1]
  replace hX : Ext m E1 := by rw [hE1]; exact hX.app nr1
  replace oM := oM.ext n1
  rw [← hE1] at oM
  replace oC := oC.ext n1
  rw [← hE1] at oC
  clear hE1
  cases g1 : bothM k c with
  | false =>
    try simp (config := {implicitDefEqProofs := false, maxDischargeDepth := 20}) (disch := first | omega | (simp only [lenE]; done) | (simp only [lenE]; omega) | rfl | (simp only [lenE, markR_len]; done) | (simp only [lenE, markR_len]; omega)) only [runE, mapE, listE, initT_5, initT_6, initT_7, initT_8, resV, oneV, binA, unA, reduceCtorEq, Nat.reduceEqDiff, Nat.reduceAdd, Nat.reduceLT, Nat.reduceLeDiff, Nat.reduceMul, Nat.reduceSub, ↓reduceIte, decide_true, decide_false, Bool.true_eq_false, Bool.false_eq_true, Bool.not_true, Bool.not_false, if_true, if_false, and_true, true_and, memE, celE, w64, Nat.zero_add, Nat.add_zero, Nat.mul_one, putL, and_self, ldn, oM.mk4, oC.mk3]
    exact ext_ansV hX (by simp)
  | true =>
  try simp (config := {implicitDefEqProofs := false, maxDischargeDepth := 20}) (disch := first | omega | (simp only [lenE]; done) | (simp only [lenE]; omega) | rfl | (simp only [lenE, markR_len]; done) | (simp only [lenE, markR_len]; omega)) only [runE, mapE, listE, initT_5, initT_6, initT_7, initT_8, resV, oneV, binA, unA, reduceCtorEq, Nat.reduceEqDiff, Nat.reduceAdd, Nat.reduceLT, Nat.reduceLeDiff, Nat.reduceMul, Nat.reduceSub, ↓reduceIte, decide_true, decide_false, Bool.true_eq_false, Bool.false_eq_true, Bool.not_true, Bool.not_false, if_true, if_false, and_true, true_and, memE, celE, w64, Nat.zero_add, Nat.add_zero, Nat.mul_one, putL, and_self, ldn, oM.mk4, oC.mk3]
  obtain ⟨hg, hc⟩ := bothM_iff.1 g1
  first | refine callH_rc (l10Sold_rc _ _ k c ⟨u, rfl, hX.ints hu⟩ hg hc) ?_ | refine rcallH_rc (l10Sold_rc _ _ k c ⟨u, rfl, hX.ints hu⟩ hg hc) ?_
  rintro r n2 ⟨rfl, nr2⟩
  obtain ⟨E2, hE2⟩ : ∃ M', M' = E1 ++ n2 := ⟨_, rfl⟩
  rw [← hE2]
  replace hX : Ext m E2 := by rw [hE2]; exact hX.app nr2
  replace oM := oM.ext n2
  rw [← hE2] at oM
  replace oC := oC.ext n2
  rw [← hE2] at oC
  clear hE2
  try simp (config := {implicitDefEqProofs := false, maxDischargeDepth := 20}) (disch := first | omega | (simp only [lenE]; done) | (simp only [lenE]; omega) | rfl | (simp only [lenE, markR_len]; done) | (simp only [lenE, markR_len]; omega)) only [runE, mapE, listE, initT_5, initT_6, initT_7, initT_8, resV, oneV, binA, unA, reduceCtorEq, Nat.reduceEqDiff, Nat.reduceAdd, Nat.reduceLT, Nat.reduceLeDiff, Nat.reduceMul, Nat.reduceSub, ↓reduceIte, decide_true, decide_false, Bool.true_eq_false, Bool.false_eq_true, Bool.not_true, Bool.not_false, if_true, if_false, and_true, true_and, memE, celE, w64, Nat.zero_add, Nat.add_zero, Nat.mul_one, putL, and_self, ldn, oM.mk4, oC.mk3]
  exact ext_ansV hX (by simp)
theorem implSellerOrder_rc (m : Mem) (v : Value) (k : Mk) (c : Ct) (h : MkA m v k) :
    RC Try.prog 47 [v, ctV c] m (AnsV (.tuple #[.int .i64 (if bothM k c then (selO k c : Int) else 0), .bool (bothM k c)])) := by
  refine rc_of_run mixed ok_impl_SellerOrder (by simp) (go_start _ _ _ ?_)
  obtain ⟨u, rfl, hu⟩ := h.ro
  try simp (config := {implicitDefEqProofs := false, maxDischargeDepth := 20}) (disch := first | omega | (simp only [lenE]; done) | (simp only [lenE]; omega) | rfl | (simp only [lenE, markR_len]; done) | (simp only [lenE, markR_len]; omega)) only [runE, mapE, listE, initT_5, initT_6, initT_7, initT_8, resV, oneV, binA, unA, reduceCtorEq, Nat.reduceEqDiff, Nat.reduceAdd, Nat.reduceLT, Nat.reduceLeDiff, Nat.reduceMul, Nat.reduceSub, ↓reduceIte, decide_true, decide_false, Bool.true_eq_false, Bool.false_eq_true, Bool.not_true, Bool.not_false, if_true, if_false, and_true, true_and, memE, celE, w64, Nat.zero_add, Nat.add_zero, Nat.mul_one, putL, and_self, ldn, c_impl_SellerOrder, r_impl_SellerOrder, ctV]
  obtain ⟨E, hE⟩ : ∃ M', M' = roM m ++ [⟨.own, 27, [u, .int .i64 k.price, .int .i64 k.make, .int .i64 k.left]⟩] ++ [⟨.own, 34, [.int .i64 c.pay, .int .i64 c.back, .int .i64 c.share]⟩] := ⟨_, rfl⟩
  rw [← hE]
  have hX : Ext m E := by rw [hE]; exact (((Ext.refl m).one _ _).one _ _)
  have LE : E.length = m.length + 2 := by rw [hE]; simp [roM_len]
  have oM : OwnB E (m.length) 27 [u, .int .i64 k.price, .int .i64 k.make, .int .i64 k.left] := by rw [hE]; exact ((OwnB.here (by simp [roM_len])).ext _)
  have oC : OwnB E (m.length + 1) 34 [.int .i64 c.pay, .int .i64 c.back, .int .i64 c.share] := by rw [hE]; exact (OwnB.here (by simp [roM_len]))
  clear hE
  try simp (config := {implicitDefEqProofs := false, maxDischargeDepth := 20}) (disch := first | omega | (simp only [lenE]; done) | (simp only [lenE]; omega) | rfl | (simp only [lenE, markR_len]; done) | (simp only [lenE, markR_len]; omega)) only [runE, mapE, listE, initT_5, initT_6, initT_7, initT_8, resV, oneV, binA, unA, reduceCtorEq, Nat.reduceEqDiff, Nat.reduceAdd, Nat.reduceLT, Nat.reduceLeDiff, Nat.reduceMul, Nat.reduceSub, ↓reduceIte, decide_true, decide_false, Bool.true_eq_false, Bool.false_eq_true, Bool.not_true, Bool.not_false, if_true, if_false, and_true, true_and, memE, celE, w64, Nat.zero_add, Nat.add_zero, Nat.mul_one, putL, and_self, ldn, oM.mk4, oC.mk3]
  first | refine callH_rc (isAgreed_rc _ _ k c ⟨u, rfl, hX.ints hu⟩) ?_ | refine rcallH_rc (isAgreed_rc _ _ k c ⟨u, rfl, hX.ints hu⟩) ?_
  rintro r n1 ⟨rfl, nr1⟩
  obtain ⟨E1, hE1⟩ : ∃ M', M' = E ++ n1 := ⟨_, rfl⟩
  rw [← hE1]
  replace hX : Ext m E1 := by rw [hE1]; exact hX.app nr1
  replace oM := oM.ext n1
  rw [← hE1] at oM
  replace oC := oC.ext n1
  rw [← hE1] at oC
  clear hE1
  cases g1 : bothM k c with
  | false =>
    try simp (config := {implicitDefEqProofs := false, maxDischargeDepth := 20}) (disch := first | omega | (simp only [lenE]; done) | (simp only [lenE]; omega) | rfl | (simp only [lenE, markR_len]; done) | (simp only [lenE, markR_len]; omega)) only [runE, mapE, listE, initT_5, initT_6, initT_7, initT_8, resV, oneV, binA, unA, reduceCtorEq, Nat.reduceEqDiff, Nat.reduceAdd, Nat.reduceLT, Nat.reduceLeDiff, Nat.reduceMul, Nat.reduceSub, ↓reduceIte, decide_true, decide_false, Bool.true_eq_false, Bool.false_eq_true, Bool.not_true, Bool.not_false, if_true, if_false, and_true, true_and, memE, celE, w64, Nat.zero_add, Nat.add_zero, Nat.mul_one, putL, and_self, ldn, oM.mk4, oC.mk3]
    exact ext_ansV hX (by simp)
  | true =>
  try simp (config := {implicitDefEqProofs := false, maxDischargeDepth := 20}) (disch := first | omega | (simp only [lenE]; done) | (simp only [lenE]; omega) | rfl | (simp only [lenE, markR_len]; done) | (simp only [lenE, markR_len]; omega)) only [runE, mapE, listE, initT_5, initT_6, initT_7, initT_8, resV, oneV, binA, unA, reduceCtorEq, Nat.reduceEqDiff, Nat.reduceAdd, Nat.reduceLT, Nat.reduceLeDiff, Nat.reduceMul, Nat.reduceSub, ↓reduceIte, decide_true, decide_false, Bool.true_eq_false, Bool.false_eq_true, Bool.not_true, Bool.not_false, if_true, if_false, and_true, true_and, memE, celE, w64, Nat.zero_add, Nat.add_zero, Nat.mul_one, putL, and_self, ldn, oM.mk4, oC.mk3]
  obtain ⟨hg, hc⟩ := bothM_iff.1 g1
  first | refine callH_rc (sellerOrder_rc _ _ k c ⟨u, rfl, hX.ints hu⟩ hg hc) ?_ | refine rcallH_rc (sellerOrder_rc _ _ k c ⟨u, rfl, hX.ints hu⟩ hg hc) ?_
  rintro r n2 ⟨rfl, nr2⟩
  obtain ⟨E2, hE2⟩ : ∃ M', M' = E1 ++ n2 := ⟨_, rfl⟩
  rw [← hE2]
  replace hX : Ext m E2 := by rw [hE2]; exact hX.app nr2
  replace oM := oM.ext n2
  rw [← hE2] at oM
  replace oC := oC.ext n2
  rw [← hE2] at oC
  clear hE2
  try simp (config := {implicitDefEqProofs := false, maxDischargeDepth := 20}) (disch := first | omega | (simp only [lenE]; done) | (simp only [lenE]; omega) | rfl | (simp only [lenE, markR_len]; done) | (simp only [lenE, markR_len]; omega)) only [runE, mapE, listE, initT_5, initT_6, initT_7, initT_8, resV, oneV, binA, unA, reduceCtorEq, Nat.reduceEqDiff, Nat.reduceAdd, Nat.reduceLT, Nat.reduceLeDiff, Nat.reduceMul, Nat.reduceSub, ↓reduceIte, decide_true, decide_false, Bool.true_eq_false, Bool.false_eq_true, Bool.not_true, Bool.not_false, if_true, if_false, and_true, true_and, memE, celE, w64, Nat.zero_add, Nat.add_zero, Nat.mul_one, putL, and_self, ldn, oM.mk4, oC.mk3]
  exact ext_ansV hX (by simp)
theorem l10Loss_rc (m : Mem) (v : Value) (k : Mk) (c : Ct) (h : MkA m v k) (hg : GoodM k) (hc : GoodC c) :
    RC Try.prog 93 [v, ctV c] m (AnsV (.int .i64 (lossP k c))) := by
  refine rc_of_run mixed ok_spec_l10Loss (by simp) (go_start _ _ _ ?_)
  obtain ⟨u, rfl, hu⟩ := h.ro
  have hb := loss_bd c hg
  have hj := joi_bd hg (joiO_le k)
  have hs := joi_bd hg (selO_le k c)
  try simp (config := {implicitDefEqProofs := false, maxDischargeDepth := 20}) (disch := first | omega | (simp only [lenE]; done) | (simp only [lenE]; omega) | rfl | (simp only [lenE, markR_len]; done) | (simp only [lenE, markR_len]; omega)) only [runE, mapE, listE, initT_5, initT_6, initT_7, initT_8, resV, oneV, binA, unA, reduceCtorEq, Nat.reduceEqDiff, Nat.reduceAdd, Nat.reduceLT, Nat.reduceLeDiff, Nat.reduceMul, Nat.reduceSub, ↓reduceIte, decide_true, decide_false, Bool.true_eq_false, Bool.false_eq_true, Bool.not_true, Bool.not_false, if_true, if_false, and_true, true_and, memE, celE, w64, Nat.zero_add, Nat.add_zero, Nat.mul_one, putL, and_self, ldn, c_spec_l10Loss, r_spec_l10Loss, ctV]
  obtain ⟨E, hE⟩ : ∃ M', M' = roM m ++ [⟨.own, 27, [u, .int .i64 k.price, .int .i64 k.make, .int .i64 k.left]⟩] ++ [⟨.own, 34, [.int .i64 c.pay, .int .i64 c.back, .int .i64 c.share]⟩] := ⟨_, rfl⟩
  rw [← hE]
  have hX : Ext m E := by rw [hE]; exact (((Ext.refl m).one _ _).one _ _)
  have LE : E.length = m.length + 2 := by rw [hE]; simp [roM_len]
  have oM : OwnB E (m.length) 27 [u, .int .i64 k.price, .int .i64 k.make, .int .i64 k.left] := by rw [hE]; exact ((OwnB.here (by simp [roM_len])).ext _)
  have oC : OwnB E (m.length + 1) 34 [.int .i64 c.pay, .int .i64 c.back, .int .i64 c.share] := by rw [hE]; exact (OwnB.here (by simp [roM_len]))
  clear hE
  try simp (config := {implicitDefEqProofs := false, maxDischargeDepth := 20}) (disch := first | omega | (simp only [lenE]; done) | (simp only [lenE]; omega) | rfl | (simp only [lenE, markR_len]; done) | (simp only [lenE, markR_len]; omega)) only [runE, mapE, listE, initT_5, initT_6, initT_7, initT_8, resV, oneV, binA, unA, reduceCtorEq, Nat.reduceEqDiff, Nat.reduceAdd, Nat.reduceLT, Nat.reduceLeDiff, Nat.reduceMul, Nat.reduceSub, ↓reduceIte, decide_true, decide_false, Bool.true_eq_false, Bool.false_eq_true, Bool.not_true, Bool.not_false, if_true, if_false, and_true, true_and, memE, celE, w64, Nat.zero_add, Nat.add_zero, Nat.mul_one, putL, and_self, ldn, oM.mk4, oC.mk3]
  first | refine callH_rc (l10Best_rc _ _ k ⟨u, rfl, hX.ints hu⟩ hg) ?_ | refine rcallH_rc (l10Best_rc _ _ k ⟨u, rfl, hX.ints hu⟩ hg) ?_
  rintro r n1 ⟨rfl, nr1⟩
  obtain ⟨E1, hE1⟩ : ∃ M', M' = E ++ n1 := ⟨_, rfl⟩
  rw [← hE1]
  replace hX : Ext m E1 := by rw [hE1]; exact hX.app nr1
  replace oM := oM.ext n1
  rw [← hE1] at oM
  replace oC := oC.ext n1
  rw [← hE1] at oC
  clear hE1
  try simp (config := {implicitDefEqProofs := false, maxDischargeDepth := 20}) (disch := first | omega | (simp only [lenE]; done) | (simp only [lenE]; omega) | rfl | (simp only [lenE, markR_len]; done) | (simp only [lenE, markR_len]; omega)) only [runE, mapE, listE, initT_5, initT_6, initT_7, initT_8, resV, oneV, binA, unA, reduceCtorEq, Nat.reduceEqDiff, Nat.reduceAdd, Nat.reduceLT, Nat.reduceLeDiff, Nat.reduceMul, Nat.reduceSub, ↓reduceIte, decide_true, decide_false, Bool.true_eq_false, Bool.false_eq_true, Bool.not_true, Bool.not_false, if_true, if_false, and_true, true_and, memE, celE, w64, Nat.zero_add, Nat.add_zero, Nat.mul_one, putL, and_self, ldn, oM.mk4, oC.mk3]
  first | refine callH_rc (l10Joint_rc _ _ k (joiO k) ⟨u, rfl, hX.ints hu⟩ hg (joiO_le k)) ?_ | refine rcallH_rc (l10Joint_rc _ _ k (joiO k) ⟨u, rfl, hX.ints hu⟩ hg (joiO_le k)) ?_
  rintro r n2 ⟨rfl, nr2⟩
  obtain ⟨E2, hE2⟩ : ∃ M', M' = E1 ++ n2 := ⟨_, rfl⟩
  rw [← hE2]
  replace hX : Ext m E2 := by rw [hE2]; exact hX.app nr2
  replace oM := oM.ext n2
  rw [← hE2] at oM
  replace oC := oC.ext n2
  rw [← hE2] at oC
  clear hE2
  try simp (config := {implicitDefEqProofs := false, maxDischargeDepth := 20}) (disch := first | omega | (simp only [lenE]; done) | (simp only [lenE]; omega) | rfl | (simp only [lenE, markR_len]; done) | (simp only [lenE, markR_len]; omega)) only [runE, mapE, listE, initT_5, initT_6, initT_7, initT_8, resV, oneV, binA, unA, reduceCtorEq, Nat.reduceEqDiff, Nat.reduceAdd, Nat.reduceLT, Nat.reduceLeDiff, Nat.reduceMul, Nat.reduceSub, ↓reduceIte, decide_true, decide_false, Bool.true_eq_false, Bool.false_eq_true, Bool.not_true, Bool.not_false, if_true, if_false, and_true, true_and, memE, celE, w64, Nat.zero_add, Nat.add_zero, Nat.mul_one, putL, and_self, ldn, oM.mk4, oC.mk3]
  first | refine callH_rc (l10Sold_rc _ _ k c ⟨u, rfl, hX.ints hu⟩ hg hc) ?_ | refine rcallH_rc (l10Sold_rc _ _ k c ⟨u, rfl, hX.ints hu⟩ hg hc) ?_
  rintro r n3 ⟨rfl, nr3⟩
  obtain ⟨E3, hE3⟩ : ∃ M', M' = E2 ++ n3 := ⟨_, rfl⟩
  rw [← hE3]
  replace hX : Ext m E3 := by rw [hE3]; exact hX.app nr3
  replace oM := oM.ext n3
  rw [← hE3] at oM
  replace oC := oC.ext n3
  rw [← hE3] at oC
  clear hE3
  try simp (config := {implicitDefEqProofs := false, maxDischargeDepth := 20}) (disch := first | omega | (simp only [lenE]; done) | (simp only [lenE]; omega) | rfl | (simp only [lenE, markR_len]; done) | (simp only [lenE, markR_len]; omega)) only [runE, mapE, listE, initT_5, initT_6, initT_7, initT_8, resV, oneV, binA, unA, reduceCtorEq, Nat.reduceEqDiff, Nat.reduceAdd, Nat.reduceLT, Nat.reduceLeDiff, Nat.reduceMul, Nat.reduceSub, ↓reduceIte, decide_true, decide_false, Bool.true_eq_false, Bool.false_eq_true, Bool.not_true, Bool.not_false, if_true, if_false, and_true, true_and, memE, celE, w64, Nat.zero_add, Nat.add_zero, Nat.mul_one, putL, and_self, ldn, oM.mk4, oC.mk3]
  first | refine callH_rc (l10Joint_rc _ _ k (selO k c) ⟨u, rfl, hX.ints hu⟩ hg (selO_le k c)) ?_ | refine rcallH_rc (l10Joint_rc _ _ k (selO k c) ⟨u, rfl, hX.ints hu⟩ hg (selO_le k c)) ?_
  rintro r n4 ⟨rfl, nr4⟩
  obtain ⟨E4, hE4⟩ : ∃ M', M' = E3 ++ n4 := ⟨_, rfl⟩
  rw [← hE4]
  replace hX : Ext m E4 := by rw [hE4]; exact hX.app nr4
  replace oM := oM.ext n4
  rw [← hE4] at oM
  replace oC := oC.ext n4
  rw [← hE4] at oC
  clear hE4
  try simp (config := {implicitDefEqProofs := false, maxDischargeDepth := 20}) (disch := first | omega | (simp only [lenE]; done) | (simp only [lenE]; omega) | rfl | (simp only [lenE, markR_len]; done) | (simp only [lenE, markR_len]; omega)) only [runE, mapE, listE, initT_5, initT_6, initT_7, initT_8, resV, oneV, binA, unA, reduceCtorEq, Nat.reduceEqDiff, Nat.reduceAdd, Nat.reduceLT, Nat.reduceLeDiff, Nat.reduceMul, Nat.reduceSub, ↓reduceIte, decide_true, decide_false, Bool.true_eq_false, Bool.false_eq_true, Bool.not_true, Bool.not_false, if_true, if_false, and_true, true_and, memE, celE, w64, Nat.zero_add, Nat.add_zero, Nat.mul_one, putL, and_self, ldn, oM.mk4, oC.mk3]
  exact ext_ansV hX rfl
theorem profitLoss_rc (m : Mem) (v : Value) (k : Mk) (c : Ct) (h : MkA m v k) (hg : GoodM k) (hc : GoodC c) :
    RC Try.prog 94 [v, ctV c] m (AnsV (.int .i64 (lossP k c))) := by
  refine rc_of_run mixed ok_impl_profitLoss (by simp) (go_start _ _ _ ?_)
  obtain ⟨u, rfl, hu⟩ := h.ro
  have hb := loss_bd c hg
  have hj := joi_bd hg (joiO_le k)
  have hs := joi_bd hg (selO_le k c)
  try simp (config := {implicitDefEqProofs := false, maxDischargeDepth := 20}) (disch := first | omega | (simp only [lenE]; done) | (simp only [lenE]; omega) | rfl | (simp only [lenE, markR_len]; done) | (simp only [lenE, markR_len]; omega)) only [runE, mapE, listE, initT_5, initT_6, initT_7, initT_8, resV, oneV, binA, unA, reduceCtorEq, Nat.reduceEqDiff, Nat.reduceAdd, Nat.reduceLT, Nat.reduceLeDiff, Nat.reduceMul, Nat.reduceSub, ↓reduceIte, decide_true, decide_false, Bool.true_eq_false, Bool.false_eq_true, Bool.not_true, Bool.not_false, if_true, if_false, and_true, true_and, memE, celE, w64, Nat.zero_add, Nat.add_zero, Nat.mul_one, putL, and_self, ldn, c_impl_profitLoss, r_impl_profitLoss, ctV]
  obtain ⟨E, hE⟩ : ∃ M', M' = roM m ++ [⟨.own, 27, [u, .int .i64 k.price, .int .i64 k.make, .int .i64 k.left]⟩] ++ [⟨.own, 34, [.int .i64 c.pay, .int .i64 c.back, .int .i64 c.share]⟩] := ⟨_, rfl⟩
  rw [← hE]
  have hX : Ext m E := by rw [hE]; exact (((Ext.refl m).one _ _).one _ _)
  have LE : E.length = m.length + 2 := by rw [hE]; simp [roM_len]
  have oM : OwnB E (m.length) 27 [u, .int .i64 k.price, .int .i64 k.make, .int .i64 k.left] := by rw [hE]; exact ((OwnB.here (by simp [roM_len])).ext _)
  have oC : OwnB E (m.length + 1) 34 [.int .i64 c.pay, .int .i64 c.back, .int .i64 c.share] := by rw [hE]; exact (OwnB.here (by simp [roM_len]))
  clear hE
  try simp (config := {implicitDefEqProofs := false, maxDischargeDepth := 20}) (disch := first | omega | (simp only [lenE]; done) | (simp only [lenE]; omega) | rfl | (simp only [lenE, markR_len]; done) | (simp only [lenE, markR_len]; omega)) only [runE, mapE, listE, initT_5, initT_6, initT_7, initT_8, resV, oneV, binA, unA, reduceCtorEq, Nat.reduceEqDiff, Nat.reduceAdd, Nat.reduceLT, Nat.reduceLeDiff, Nat.reduceMul, Nat.reduceSub, ↓reduceIte, decide_true, decide_false, Bool.true_eq_false, Bool.false_eq_true, Bool.not_true, Bool.not_false, if_true, if_false, and_true, true_and, memE, celE, w64, Nat.zero_add, Nat.add_zero, Nat.mul_one, putL, and_self, ldn, oM.mk4, oC.mk3]
  first | refine callH_rc (jointProfits_rc _ _ k ⟨u, rfl, hX.ints hu⟩ hg) ?_ | refine rcallH_rc (jointProfits_rc _ _ k ⟨u, rfl, hX.ints hu⟩ hg) ?_
  rintro r n2 ⟨nr2, w, e, hw⟩
  rw [id_eq] at e
  subst e
  have hw := hw.now.in
  obtain ⟨E2, hE2⟩ : ∃ M', M' = E ++ n2 := ⟨_, rfl⟩
  rw [← hE2]
  replace hX : Ext m E2 := by rw [hE2]; exact hX.app nr2
  replace oM := oM.ext n2
  rw [← hE2] at oM
  replace oC := oC.ext n2
  rw [← hE2] at oC
  rw [← hE2] at hw
  clear hE2
  try simp (config := {implicitDefEqProofs := false, maxDischargeDepth := 20}) (disch := first | omega | (simp only [lenE]; done) | (simp only [lenE]; omega) | rfl | (simp only [lenE, markR_len]; done) | (simp only [lenE, markR_len]; omega)) only [runE, mapE, listE, initT_5, initT_6, initT_7, initT_8, resV, oneV, binA, unA, reduceCtorEq, Nat.reduceEqDiff, Nat.reduceAdd, Nat.reduceLT, Nat.reduceLeDiff, Nat.reduceMul, Nat.reduceSub, ↓reduceIte, decide_true, decide_false, Bool.true_eq_false, Bool.false_eq_true, Bool.not_true, Bool.not_false, if_true, if_false, and_true, true_and, memE, celE, w64, Nat.zero_add, Nat.add_zero, Nat.mul_one, putL, and_self, ldn, oM.mk4, oC.mk3]
  first | refine callH_rc (firstGreatest_rc _ _ _ hw (by rw [fL_len]; omega)) ?_ | refine rcallH_rc (firstGreatest_rc _ _ _ hw (by rw [fL_len]; omega)) ?_
  rintro r n3 ⟨rfl, rfl⟩
  try rw [List.append_nil]
  rw [gL_f, fL_best, show argG (joiP k) 8 = joiO k from rfl]
  try simp (config := {implicitDefEqProofs := false, maxDischargeDepth := 20}) (disch := first | omega | (simp only [lenE]; done) | (simp only [lenE]; omega) | rfl | (simp only [lenE, markR_len]; done) | (simp only [lenE, markR_len]; omega)) only [runE, mapE, listE, initT_5, initT_6, initT_7, initT_8, resV, oneV, binA, unA, reduceCtorEq, Nat.reduceEqDiff, Nat.reduceAdd, Nat.reduceLT, Nat.reduceLeDiff, Nat.reduceMul, Nat.reduceSub, ↓reduceIte, decide_true, decide_false, Bool.true_eq_false, Bool.false_eq_true, Bool.not_true, Bool.not_false, if_true, if_false, and_true, true_and, memE, celE, w64, Nat.zero_add, Nat.add_zero, Nat.mul_one, putL, and_self, ldn, ext_2_0, ext_2_1, oM.mk4, oC.mk3]
  first | refine callH_rc (sellerOrder_rc _ _ k c ⟨u, rfl, hX.ints hu⟩ hg hc) ?_ | refine rcallH_rc (sellerOrder_rc _ _ k c ⟨u, rfl, hX.ints hu⟩ hg hc) ?_
  rintro r n4 ⟨rfl, nr4⟩
  obtain ⟨E4, hE4⟩ : ∃ M', M' = E2 ++ n4 := ⟨_, rfl⟩
  rw [← hE4]
  replace hX : Ext m E4 := by rw [hE4]; exact hX.app nr4
  replace oM := oM.ext n4
  rw [← hE4] at oM
  replace oC := oC.ext n4
  rw [← hE4] at oC
  clear hE4
  try simp (config := {implicitDefEqProofs := false, maxDischargeDepth := 20}) (disch := first | omega | (simp only [lenE]; done) | (simp only [lenE]; omega) | rfl | (simp only [lenE, markR_len]; done) | (simp only [lenE, markR_len]; omega)) only [runE, mapE, listE, initT_5, initT_6, initT_7, initT_8, resV, oneV, binA, unA, reduceCtorEq, Nat.reduceEqDiff, Nat.reduceAdd, Nat.reduceLT, Nat.reduceLeDiff, Nat.reduceMul, Nat.reduceSub, ↓reduceIte, decide_true, decide_false, Bool.true_eq_false, Bool.false_eq_true, Bool.not_true, Bool.not_false, if_true, if_false, and_true, true_and, memE, celE, w64, Nat.zero_add, Nat.add_zero, Nat.mul_one, putL, and_self, ldn, oM.mk4, oC.mk3]
  first | refine callH_rc (jointProfit_rc _ _ k (selO k c) ⟨u, rfl, hX.ints hu⟩ hg (selO_le k c)) ?_ | refine rcallH_rc (jointProfit_rc _ _ k (selO k c) ⟨u, rfl, hX.ints hu⟩ hg (selO_le k c)) ?_
  rintro r n5 ⟨rfl, nr5⟩
  obtain ⟨E5, hE5⟩ : ∃ M', M' = E4 ++ n5 := ⟨_, rfl⟩
  rw [← hE5]
  replace hX : Ext m E5 := by rw [hE5]; exact hX.app nr5
  replace oM := oM.ext n5
  rw [← hE5] at oM
  replace oC := oC.ext n5
  rw [← hE5] at oC
  clear hE5
  try simp (config := {implicitDefEqProofs := false, maxDischargeDepth := 20}) (disch := first | omega | (simp only [lenE]; done) | (simp only [lenE]; omega) | rfl | (simp only [lenE, markR_len]; done) | (simp only [lenE, markR_len]; omega)) only [runE, mapE, listE, initT_5, initT_6, initT_7, initT_8, resV, oneV, binA, unA, reduceCtorEq, Nat.reduceEqDiff, Nat.reduceAdd, Nat.reduceLT, Nat.reduceLeDiff, Nat.reduceMul, Nat.reduceSub, ↓reduceIte, decide_true, decide_false, Bool.true_eq_false, Bool.false_eq_true, Bool.not_true, Bool.not_false, if_true, if_false, and_true, true_and, memE, celE, w64, Nat.zero_add, Nat.add_zero, Nat.mul_one, putL, and_self, ldn, oM.mk4, oC.mk3]
  exact ext_ansV hX rfl
theorem specProfitLoss_rc (m : Mem) (v : Value) (k : Mk) (c : Ct) (h : MkA m v k) :
    RC Try.prog 48 [v, ctV c] m (AnsV (.tuple #[.int .i64 (if bothM k c then lossP k c else 0), .bool (bothM k c)])) := by
  refine rc_of_run mixed ok_spec_ProfitLoss (by simp) (go_start _ _ _ ?_)
  obtain ⟨u, rfl, hu⟩ := h.ro
  try simp (config := {implicitDefEqProofs := false, maxDischargeDepth := 20}) (disch := first | omega | (simp only [lenE]; done) | (simp only [lenE]; omega) | rfl | (simp only [lenE, markR_len]; done) | (simp only [lenE, markR_len]; omega)) only [runE, mapE, listE, initT_5, initT_6, initT_7, initT_8, resV, oneV, binA, unA, reduceCtorEq, Nat.reduceEqDiff, Nat.reduceAdd, Nat.reduceLT, Nat.reduceLeDiff, Nat.reduceMul, Nat.reduceSub, ↓reduceIte, decide_true, decide_false, Bool.true_eq_false, Bool.false_eq_true, Bool.not_true, Bool.not_false, if_true, if_false, and_true, true_and, memE, celE, w64, Nat.zero_add, Nat.add_zero, Nat.mul_one, putL, and_self, ldn, c_spec_ProfitLoss, r_spec_ProfitLoss, ctV]
  obtain ⟨E, hE⟩ : ∃ M', M' = roM m ++ [⟨.own, 27, [u, .int .i64 k.price, .int .i64 k.make, .int .i64 k.left]⟩] ++ [⟨.own, 34, [.int .i64 c.pay, .int .i64 c.back, .int .i64 c.share]⟩] := ⟨_, rfl⟩
  rw [← hE]
  have hX : Ext m E := by rw [hE]; exact (((Ext.refl m).one _ _).one _ _)
  have LE : E.length = m.length + 2 := by rw [hE]; simp [roM_len]
  have oM : OwnB E (m.length) 27 [u, .int .i64 k.price, .int .i64 k.make, .int .i64 k.left] := by rw [hE]; exact ((OwnB.here (by simp [roM_len])).ext _)
  have oC : OwnB E (m.length + 1) 34 [.int .i64 c.pay, .int .i64 c.back, .int .i64 c.share] := by rw [hE]; exact (OwnB.here (by simp [roM_len]))
  clear hE
  try simp (config := {implicitDefEqProofs := false, maxDischargeDepth := 20}) (disch := first | omega | (simp only [lenE]; done) | (simp only [lenE]; omega) | rfl | (simp only [lenE, markR_len]; done) | (simp only [lenE, markR_len]; omega)) only [runE, mapE, listE, initT_5, initT_6, initT_7, initT_8, resV, oneV, binA, unA, reduceCtorEq, Nat.reduceEqDiff, Nat.reduceAdd, Nat.reduceLT, Nat.reduceLeDiff, Nat.reduceMul, Nat.reduceSub, ↓reduceIte, decide_true, decide_false, Bool.true_eq_false, Bool.false_eq_true, Bool.not_true, Bool.not_false, if_true, if_false, and_true, true_and, memE, celE, w64, Nat.zero_add, Nat.add_zero, Nat.mul_one, putL, and_self, ldn, oM.mk4, oC.mk3]
  first | refine callH_rc (l10Both_rc _ _ k c ⟨u, rfl, hX.ints hu⟩) ?_ | refine rcallH_rc (l10Both_rc _ _ k c ⟨u, rfl, hX.ints hu⟩) ?_
  rintro r n1 ⟨rfl, nr1⟩
  obtain ⟨E1, hE1⟩ : ∃ M', M' = E ++ n1 := ⟨_, rfl⟩
  rw [← hE1]
  replace hX : Ext m E1 := by rw [hE1]; exact hX.app nr1
  replace oM := oM.ext n1
  rw [← hE1] at oM
  replace oC := oC.ext n1
  rw [← hE1] at oC
  clear hE1
  cases g1 : bothM k c with
  | false =>
    try simp (config := {implicitDefEqProofs := false, maxDischargeDepth := 20}) (disch := first | omega | (simp only [lenE]; done) | (simp only [lenE]; omega) | rfl | (simp only [lenE, markR_len]; done) | (simp only [lenE, markR_len]; omega)) only [runE, mapE, listE, initT_5, initT_6, initT_7, initT_8, resV, oneV, binA, unA, reduceCtorEq, Nat.reduceEqDiff, Nat.reduceAdd, Nat.reduceLT, Nat.reduceLeDiff, Nat.reduceMul, Nat.reduceSub, ↓reduceIte, decide_true, decide_false, Bool.true_eq_false, Bool.false_eq_true, Bool.not_true, Bool.not_false, if_true, if_false, and_true, true_and, memE, celE, w64, Nat.zero_add, Nat.add_zero, Nat.mul_one, putL, and_self, ldn, oM.mk4, oC.mk3]
    exact ext_ansV hX (by simp)
  | true =>
  try simp (config := {implicitDefEqProofs := false, maxDischargeDepth := 20}) (disch := first | omega | (simp only [lenE]; done) | (simp only [lenE]; omega) | rfl | (simp only [lenE, markR_len]; done) | (simp only [lenE, markR_len]; omega)) only [runE, mapE, listE, initT_5, initT_6, initT_7, initT_8, resV, oneV, binA, unA, reduceCtorEq, Nat.reduceEqDiff, Nat.reduceAdd, Nat.reduceLT, Nat.reduceLeDiff, Nat.reduceMul, Nat.reduceSub, ↓reduceIte, decide_true, decide_false, Bool.true_eq_false, Bool.false_eq_true, Bool.not_true, Bool.not_false, if_true, if_false, and_true, true_and, memE, celE, w64, Nat.zero_add, Nat.add_zero, Nat.mul_one, putL, and_self, ldn, oM.mk4, oC.mk3]
  obtain ⟨hg, hc⟩ := bothM_iff.1 g1
  first | refine callH_rc (l10Loss_rc _ _ k c ⟨u, rfl, hX.ints hu⟩ hg hc) ?_ | refine rcallH_rc (l10Loss_rc _ _ k c ⟨u, rfl, hX.ints hu⟩ hg hc) ?_
  rintro r n2 ⟨rfl, nr2⟩
  obtain ⟨E2, hE2⟩ : ∃ M', M' = E1 ++ n2 := ⟨_, rfl⟩
  rw [← hE2]
  replace hX : Ext m E2 := by rw [hE2]; exact hX.app nr2
  replace oM := oM.ext n2
  rw [← hE2] at oM
  replace oC := oC.ext n2
  rw [← hE2] at oC
  clear hE2
  try simp (config := {implicitDefEqProofs := false, maxDischargeDepth := 20}) (disch := first | omega | (simp only [lenE]; done) | (simp only [lenE]; omega) | rfl | (simp only [lenE, markR_len]; done) | (simp only [lenE, markR_len]; omega)) only [runE, mapE, listE, initT_5, initT_6, initT_7, initT_8, resV, oneV, binA, unA, reduceCtorEq, Nat.reduceEqDiff, Nat.reduceAdd, Nat.reduceLT, Nat.reduceLeDiff, Nat.reduceMul, Nat.reduceSub, ↓reduceIte, decide_true, decide_false, Bool.true_eq_false, Bool.false_eq_true, Bool.not_true, Bool.not_false, if_true, if_false, and_true, true_and, memE, celE, w64, Nat.zero_add, Nat.add_zero, Nat.mul_one, putL, and_self, ldn, oM.mk4, oC.mk3]
  exact ext_ansV hX (by simp)
theorem implProfitLoss_rc (m : Mem) (v : Value) (k : Mk) (c : Ct) (h : MkA m v k) :
    RC Try.prog 49 [v, ctV c] m (AnsV (.tuple #[.int .i64 (if bothM k c then lossP k c else 0), .bool (bothM k c)])) := by
  refine rc_of_run mixed ok_impl_ProfitLoss (by simp) (go_start _ _ _ ?_)
  obtain ⟨u, rfl, hu⟩ := h.ro
  try simp (config := {implicitDefEqProofs := false, maxDischargeDepth := 20}) (disch := first | omega | (simp only [lenE]; done) | (simp only [lenE]; omega) | rfl | (simp only [lenE, markR_len]; done) | (simp only [lenE, markR_len]; omega)) only [runE, mapE, listE, initT_5, initT_6, initT_7, initT_8, resV, oneV, binA, unA, reduceCtorEq, Nat.reduceEqDiff, Nat.reduceAdd, Nat.reduceLT, Nat.reduceLeDiff, Nat.reduceMul, Nat.reduceSub, ↓reduceIte, decide_true, decide_false, Bool.true_eq_false, Bool.false_eq_true, Bool.not_true, Bool.not_false, if_true, if_false, and_true, true_and, memE, celE, w64, Nat.zero_add, Nat.add_zero, Nat.mul_one, putL, and_self, ldn, c_impl_ProfitLoss, r_impl_ProfitLoss, ctV]
  obtain ⟨E, hE⟩ : ∃ M', M' = roM m ++ [⟨.own, 27, [u, .int .i64 k.price, .int .i64 k.make, .int .i64 k.left]⟩] ++ [⟨.own, 34, [.int .i64 c.pay, .int .i64 c.back, .int .i64 c.share]⟩] := ⟨_, rfl⟩
  rw [← hE]
  have hX : Ext m E := by rw [hE]; exact (((Ext.refl m).one _ _).one _ _)
  have LE : E.length = m.length + 2 := by rw [hE]; simp [roM_len]
  have oM : OwnB E (m.length) 27 [u, .int .i64 k.price, .int .i64 k.make, .int .i64 k.left] := by rw [hE]; exact ((OwnB.here (by simp [roM_len])).ext _)
  have oC : OwnB E (m.length + 1) 34 [.int .i64 c.pay, .int .i64 c.back, .int .i64 c.share] := by rw [hE]; exact (OwnB.here (by simp [roM_len]))
  clear hE
  try simp (config := {implicitDefEqProofs := false, maxDischargeDepth := 20}) (disch := first | omega | (simp only [lenE]; done) | (simp only [lenE]; omega) | rfl | (simp only [lenE, markR_len]; done) | (simp only [lenE, markR_len]; omega)) only [runE, mapE, listE, initT_5, initT_6, initT_7, initT_8, resV, oneV, binA, unA, reduceCtorEq, Nat.reduceEqDiff, Nat.reduceAdd, Nat.reduceLT, Nat.reduceLeDiff, Nat.reduceMul, Nat.reduceSub, ↓reduceIte, decide_true, decide_false, Bool.true_eq_false, Bool.false_eq_true, Bool.not_true, Bool.not_false, if_true, if_false, and_true, true_and, memE, celE, w64, Nat.zero_add, Nat.add_zero, Nat.mul_one, putL, and_self, ldn, oM.mk4, oC.mk3]
  first | refine callH_rc (isAgreed_rc _ _ k c ⟨u, rfl, hX.ints hu⟩) ?_ | refine rcallH_rc (isAgreed_rc _ _ k c ⟨u, rfl, hX.ints hu⟩) ?_
  rintro r n1 ⟨rfl, nr1⟩
  obtain ⟨E1, hE1⟩ : ∃ M', M' = E ++ n1 := ⟨_, rfl⟩
  rw [← hE1]
  replace hX : Ext m E1 := by rw [hE1]; exact hX.app nr1
  replace oM := oM.ext n1
  rw [← hE1] at oM
  replace oC := oC.ext n1
  rw [← hE1] at oC
  clear hE1
  cases g1 : bothM k c with
  | false =>
    try simp (config := {implicitDefEqProofs := false, maxDischargeDepth := 20}) (disch := first | omega | (simp only [lenE]; done) | (simp only [lenE]; omega) | rfl | (simp only [lenE, markR_len]; done) | (simp only [lenE, markR_len]; omega)) only [runE, mapE, listE, initT_5, initT_6, initT_7, initT_8, resV, oneV, binA, unA, reduceCtorEq, Nat.reduceEqDiff, Nat.reduceAdd, Nat.reduceLT, Nat.reduceLeDiff, Nat.reduceMul, Nat.reduceSub, ↓reduceIte, decide_true, decide_false, Bool.true_eq_false, Bool.false_eq_true, Bool.not_true, Bool.not_false, if_true, if_false, and_true, true_and, memE, celE, w64, Nat.zero_add, Nat.add_zero, Nat.mul_one, putL, and_self, ldn, oM.mk4, oC.mk3]
    exact ext_ansV hX (by simp)
  | true =>
  try simp (config := {implicitDefEqProofs := false, maxDischargeDepth := 20}) (disch := first | omega | (simp only [lenE]; done) | (simp only [lenE]; omega) | rfl | (simp only [lenE, markR_len]; done) | (simp only [lenE, markR_len]; omega)) only [runE, mapE, listE, initT_5, initT_6, initT_7, initT_8, resV, oneV, binA, unA, reduceCtorEq, Nat.reduceEqDiff, Nat.reduceAdd, Nat.reduceLT, Nat.reduceLeDiff, Nat.reduceMul, Nat.reduceSub, ↓reduceIte, decide_true, decide_false, Bool.true_eq_false, Bool.false_eq_true, Bool.not_true, Bool.not_false, if_true, if_false, and_true, true_and, memE, celE, w64, Nat.zero_add, Nat.add_zero, Nat.mul_one, putL, and_self, ldn, oM.mk4, oC.mk3]
  obtain ⟨hg, hc⟩ := bothM_iff.1 g1
  first | refine callH_rc (profitLoss_rc _ _ k c ⟨u, rfl, hX.ints hu⟩ hg hc) ?_ | refine rcallH_rc (profitLoss_rc _ _ k c ⟨u, rfl, hX.ints hu⟩ hg hc) ?_
  rintro r n2 ⟨rfl, nr2⟩
  obtain ⟨E2, hE2⟩ : ∃ M', M' = E1 ++ n2 := ⟨_, rfl⟩
  rw [← hE2]
  replace hX : Ext m E2 := by rw [hE2]; exact hX.app nr2
  replace oM := oM.ext n2
  rw [← hE2] at oM
  replace oC := oC.ext n2
  rw [← hE2] at oC
  clear hE2
  try simp (config := {implicitDefEqProofs := false, maxDischargeDepth := 20}) (disch := first | omega | (simp only [lenE]; done) | (simp only [lenE]; omega) | rfl | (simp only [lenE, markR_len]; done) | (simp only [lenE, markR_len]; omega)) only [runE, mapE, listE, initT_5, initT_6, initT_7, initT_8, resV, oneV, binA, unA, reduceCtorEq, Nat.reduceEqDiff, Nat.reduceAdd, Nat.reduceLT, Nat.reduceLeDiff, Nat.reduceMul, Nat.reduceSub, ↓reduceIte, decide_true, decide_false, Bool.true_eq_false, Bool.false_eq_true, Bool.not_true, Bool.not_false, if_true, if_false, and_true, true_and, memE, celE, w64, Nat.zero_add, Nat.add_zero, Nat.mul_one, putL, and_self, ldn, oM.mk4, oC.mk3]
  exact ext_ansV hX (by simp)
theorem specIsCoordinated_rc (m : Mem) (v : Value) (k : Mk) (c : Ct) (h : MkA m v k) :
    RC Try.prog 50 [v, ctV c] m (AnsV (.tuple #[.bool (bothM k c && (lossP k c == 0)), .bool (bothM k c)])) := by
  refine rc_of_run mixed ok_spec_IsCoordinated (by simp) (go_start _ _ _ ?_)
  obtain ⟨u, rfl, hu⟩ := h.ro
  try simp (config := {implicitDefEqProofs := false, maxDischargeDepth := 20}) (disch := first | omega | (simp only [lenE]; done) | (simp only [lenE]; omega) | rfl | (simp only [lenE, markR_len]; done) | (simp only [lenE, markR_len]; omega)) only [runE, mapE, listE, initT_5, initT_6, initT_7, initT_8, resV, oneV, binA, unA, reduceCtorEq, Nat.reduceEqDiff, Nat.reduceAdd, Nat.reduceLT, Nat.reduceLeDiff, Nat.reduceMul, Nat.reduceSub, ↓reduceIte, decide_true, decide_false, Bool.true_eq_false, Bool.false_eq_true, Bool.not_true, Bool.not_false, if_true, if_false, and_true, true_and, memE, celE, w64, Nat.zero_add, Nat.add_zero, Nat.mul_one, putL, and_self, ldn, c_spec_IsCoordinated, r_spec_IsCoordinated, ctV]
  obtain ⟨E, hE⟩ : ∃ M', M' = roM m ++ [⟨.own, 27, [u, .int .i64 k.price, .int .i64 k.make, .int .i64 k.left]⟩] ++ [⟨.own, 34, [.int .i64 c.pay, .int .i64 c.back, .int .i64 c.share]⟩] := ⟨_, rfl⟩
  rw [← hE]
  have hX : Ext m E := by rw [hE]; exact (((Ext.refl m).one _ _).one _ _)
  have LE : E.length = m.length + 2 := by rw [hE]; simp [roM_len]
  have oM : OwnB E (m.length) 27 [u, .int .i64 k.price, .int .i64 k.make, .int .i64 k.left] := by rw [hE]; exact ((OwnB.here (by simp [roM_len])).ext _)
  have oC : OwnB E (m.length + 1) 34 [.int .i64 c.pay, .int .i64 c.back, .int .i64 c.share] := by rw [hE]; exact (OwnB.here (by simp [roM_len]))
  clear hE
  try simp (config := {implicitDefEqProofs := false, maxDischargeDepth := 20}) (disch := first | omega | (simp only [lenE]; done) | (simp only [lenE]; omega) | rfl | (simp only [lenE, markR_len]; done) | (simp only [lenE, markR_len]; omega)) only [runE, mapE, listE, initT_5, initT_6, initT_7, initT_8, resV, oneV, binA, unA, reduceCtorEq, Nat.reduceEqDiff, Nat.reduceAdd, Nat.reduceLT, Nat.reduceLeDiff, Nat.reduceMul, Nat.reduceSub, ↓reduceIte, decide_true, decide_false, Bool.true_eq_false, Bool.false_eq_true, Bool.not_true, Bool.not_false, if_true, if_false, and_true, true_and, memE, celE, w64, Nat.zero_add, Nat.add_zero, Nat.mul_one, putL, and_self, ldn, oM.mk4, oC.mk3]
  first | refine callH_rc (l10Both_rc _ _ k c ⟨u, rfl, hX.ints hu⟩) ?_ | refine rcallH_rc (l10Both_rc _ _ k c ⟨u, rfl, hX.ints hu⟩) ?_
  rintro r n1 ⟨rfl, nr1⟩
  obtain ⟨E1, hE1⟩ : ∃ M', M' = E ++ n1 := ⟨_, rfl⟩
  rw [← hE1]
  replace hX : Ext m E1 := by rw [hE1]; exact hX.app nr1
  replace oM := oM.ext n1
  rw [← hE1] at oM
  replace oC := oC.ext n1
  rw [← hE1] at oC
  clear hE1
  cases g1 : bothM k c with
  | false =>
    try simp (config := {implicitDefEqProofs := false, maxDischargeDepth := 20}) (disch := first | omega | (simp only [lenE]; done) | (simp only [lenE]; omega) | rfl | (simp only [lenE, markR_len]; done) | (simp only [lenE, markR_len]; omega)) only [runE, mapE, listE, initT_5, initT_6, initT_7, initT_8, resV, oneV, binA, unA, reduceCtorEq, Nat.reduceEqDiff, Nat.reduceAdd, Nat.reduceLT, Nat.reduceLeDiff, Nat.reduceMul, Nat.reduceSub, ↓reduceIte, decide_true, decide_false, Bool.true_eq_false, Bool.false_eq_true, Bool.not_true, Bool.not_false, if_true, if_false, and_true, true_and, memE, celE, w64, Nat.zero_add, Nat.add_zero, Nat.mul_one, putL, and_self, ldn, oM.mk4, oC.mk3]
    exact ext_ansV hX (by simp)
  | true =>
  try simp (config := {implicitDefEqProofs := false, maxDischargeDepth := 20}) (disch := first | omega | (simp only [lenE]; done) | (simp only [lenE]; omega) | rfl | (simp only [lenE, markR_len]; done) | (simp only [lenE, markR_len]; omega)) only [runE, mapE, listE, initT_5, initT_6, initT_7, initT_8, resV, oneV, binA, unA, reduceCtorEq, Nat.reduceEqDiff, Nat.reduceAdd, Nat.reduceLT, Nat.reduceLeDiff, Nat.reduceMul, Nat.reduceSub, ↓reduceIte, decide_true, decide_false, Bool.true_eq_false, Bool.false_eq_true, Bool.not_true, Bool.not_false, if_true, if_false, and_true, true_and, memE, celE, w64, Nat.zero_add, Nat.add_zero, Nat.mul_one, putL, and_self, ldn, oM.mk4, oC.mk3]
  obtain ⟨hg, hc⟩ := bothM_iff.1 g1
  first | refine callH_rc (l10Loss_rc _ _ k c ⟨u, rfl, hX.ints hu⟩ hg hc) ?_ | refine rcallH_rc (l10Loss_rc _ _ k c ⟨u, rfl, hX.ints hu⟩ hg hc) ?_
  rintro r n2 ⟨rfl, nr2⟩
  obtain ⟨E2, hE2⟩ : ∃ M', M' = E1 ++ n2 := ⟨_, rfl⟩
  rw [← hE2]
  replace hX : Ext m E2 := by rw [hE2]; exact hX.app nr2
  replace oM := oM.ext n2
  rw [← hE2] at oM
  replace oC := oC.ext n2
  rw [← hE2] at oC
  clear hE2
  try simp (config := {implicitDefEqProofs := false, maxDischargeDepth := 20}) (disch := first | omega | (simp only [lenE]; done) | (simp only [lenE]; omega) | rfl | (simp only [lenE, markR_len]; done) | (simp only [lenE, markR_len]; omega)) only [runE, mapE, listE, initT_5, initT_6, initT_7, initT_8, resV, oneV, binA, unA, reduceCtorEq, Nat.reduceEqDiff, Nat.reduceAdd, Nat.reduceLT, Nat.reduceLeDiff, Nat.reduceMul, Nat.reduceSub, ↓reduceIte, decide_true, decide_false, Bool.true_eq_false, Bool.false_eq_true, Bool.not_true, Bool.not_false, if_true, if_false, and_true, true_and, memE, celE, w64, Nat.zero_add, Nat.add_zero, Nat.mul_one, putL, and_self, ldn, oM.mk4, oC.mk3]
  exact ext_ansV hX (by simp)
theorem implIsCoordinated_rc (m : Mem) (v : Value) (k : Mk) (c : Ct) (h : MkA m v k) :
    RC Try.prog 51 [v, ctV c] m (AnsV (.tuple #[.bool (bothM k c && (lossP k c == 0)), .bool (bothM k c)])) := by
  refine rc_of_run mixed ok_impl_IsCoordinated (by simp) (go_start _ _ _ ?_)
  obtain ⟨u, rfl, hu⟩ := h.ro
  try simp (config := {implicitDefEqProofs := false, maxDischargeDepth := 20}) (disch := first | omega | (simp only [lenE]; done) | (simp only [lenE]; omega) | rfl | (simp only [lenE, markR_len]; done) | (simp only [lenE, markR_len]; omega)) only [runE, mapE, listE, initT_5, initT_6, initT_7, initT_8, resV, oneV, binA, unA, reduceCtorEq, Nat.reduceEqDiff, Nat.reduceAdd, Nat.reduceLT, Nat.reduceLeDiff, Nat.reduceMul, Nat.reduceSub, ↓reduceIte, decide_true, decide_false, Bool.true_eq_false, Bool.false_eq_true, Bool.not_true, Bool.not_false, if_true, if_false, and_true, true_and, memE, celE, w64, Nat.zero_add, Nat.add_zero, Nat.mul_one, putL, and_self, ldn, c_impl_IsCoordinated, r_impl_IsCoordinated, ctV]
  obtain ⟨E, hE⟩ : ∃ M', M' = roM m ++ [⟨.own, 27, [u, .int .i64 k.price, .int .i64 k.make, .int .i64 k.left]⟩] ++ [⟨.own, 34, [.int .i64 c.pay, .int .i64 c.back, .int .i64 c.share]⟩] := ⟨_, rfl⟩
  rw [← hE]
  have hX : Ext m E := by rw [hE]; exact (((Ext.refl m).one _ _).one _ _)
  have LE : E.length = m.length + 2 := by rw [hE]; simp [roM_len]
  have oM : OwnB E (m.length) 27 [u, .int .i64 k.price, .int .i64 k.make, .int .i64 k.left] := by rw [hE]; exact ((OwnB.here (by simp [roM_len])).ext _)
  have oC : OwnB E (m.length + 1) 34 [.int .i64 c.pay, .int .i64 c.back, .int .i64 c.share] := by rw [hE]; exact (OwnB.here (by simp [roM_len]))
  clear hE
  try simp (config := {implicitDefEqProofs := false, maxDischargeDepth := 20}) (disch := first | omega | (simp only [lenE]; done) | (simp only [lenE]; omega) | rfl | (simp only [lenE, markR_len]; done) | (simp only [lenE, markR_len]; omega)) only [runE, mapE, listE, initT_5, initT_6, initT_7, initT_8, resV, oneV, binA, unA, reduceCtorEq, Nat.reduceEqDiff, Nat.reduceAdd, Nat.reduceLT, Nat.reduceLeDiff, Nat.reduceMul, Nat.reduceSub, ↓reduceIte, decide_true, decide_false, Bool.true_eq_false, Bool.false_eq_true, Bool.not_true, Bool.not_false, if_true, if_false, and_true, true_and, memE, celE, w64, Nat.zero_add, Nat.add_zero, Nat.mul_one, putL, and_self, ldn, oM.mk4, oC.mk3]
  first | refine callH_rc (isAgreed_rc _ _ k c ⟨u, rfl, hX.ints hu⟩) ?_ | refine rcallH_rc (isAgreed_rc _ _ k c ⟨u, rfl, hX.ints hu⟩) ?_
  rintro r n1 ⟨rfl, nr1⟩
  obtain ⟨E1, hE1⟩ : ∃ M', M' = E ++ n1 := ⟨_, rfl⟩
  rw [← hE1]
  replace hX : Ext m E1 := by rw [hE1]; exact hX.app nr1
  replace oM := oM.ext n1
  rw [← hE1] at oM
  replace oC := oC.ext n1
  rw [← hE1] at oC
  clear hE1
  cases g1 : bothM k c with
  | false =>
    try simp (config := {implicitDefEqProofs := false, maxDischargeDepth := 20}) (disch := first | omega | (simp only [lenE]; done) | (simp only [lenE]; omega) | rfl | (simp only [lenE, markR_len]; done) | (simp only [lenE, markR_len]; omega)) only [runE, mapE, listE, initT_5, initT_6, initT_7, initT_8, resV, oneV, binA, unA, reduceCtorEq, Nat.reduceEqDiff, Nat.reduceAdd, Nat.reduceLT, Nat.reduceLeDiff, Nat.reduceMul, Nat.reduceSub, ↓reduceIte, decide_true, decide_false, Bool.true_eq_false, Bool.false_eq_true, Bool.not_true, Bool.not_false, if_true, if_false, and_true, true_and, memE, celE, w64, Nat.zero_add, Nat.add_zero, Nat.mul_one, putL, and_self, ldn, oM.mk4, oC.mk3]
    exact ext_ansV hX (by simp)
  | true =>
  try simp (config := {implicitDefEqProofs := false, maxDischargeDepth := 20}) (disch := first | omega | (simp only [lenE]; done) | (simp only [lenE]; omega) | rfl | (simp only [lenE, markR_len]; done) | (simp only [lenE, markR_len]; omega)) only [runE, mapE, listE, initT_5, initT_6, initT_7, initT_8, resV, oneV, binA, unA, reduceCtorEq, Nat.reduceEqDiff, Nat.reduceAdd, Nat.reduceLT, Nat.reduceLeDiff, Nat.reduceMul, Nat.reduceSub, ↓reduceIte, decide_true, decide_false, Bool.true_eq_false, Bool.false_eq_true, Bool.not_true, Bool.not_false, if_true, if_false, and_true, true_and, memE, celE, w64, Nat.zero_add, Nat.add_zero, Nat.mul_one, putL, and_self, ldn, oM.mk4, oC.mk3]
  obtain ⟨hg, hc⟩ := bothM_iff.1 g1
  first | refine callH_rc (profitLoss_rc _ _ k c ⟨u, rfl, hX.ints hu⟩ hg hc) ?_ | refine rcallH_rc (profitLoss_rc _ _ k c ⟨u, rfl, hX.ints hu⟩ hg hc) ?_
  rintro r n2 ⟨rfl, nr2⟩
  obtain ⟨E2, hE2⟩ : ∃ M', M' = E1 ++ n2 := ⟨_, rfl⟩
  rw [← hE2]
  replace hX : Ext m E2 := by rw [hE2]; exact hX.app nr2
  replace oM := oM.ext n2
  rw [← hE2] at oM
  replace oC := oC.ext n2
  rw [← hE2] at oC
  clear hE2
  try simp (config := {implicitDefEqProofs := false, maxDischargeDepth := 20}) (disch := first | omega | (simp only [lenE]; done) | (simp only [lenE]; omega) | rfl | (simp only [lenE, markR_len]; done) | (simp only [lenE, markR_len]; omega)) only [runE, mapE, listE, initT_5, initT_6, initT_7, initT_8, resV, oneV, binA, unA, reduceCtorEq, Nat.reduceEqDiff, Nat.reduceAdd, Nat.reduceLT, Nat.reduceLeDiff, Nat.reduceMul, Nat.reduceSub, ↓reduceIte, decide_true, decide_false, Bool.true_eq_false, Bool.false_eq_true, Bool.not_true, Bool.not_false, if_true, if_false, and_true, true_and, memE, celE, w64, Nat.zero_add, Nat.add_zero, Nat.mul_one, putL, and_self, ldn, oM.mk4, oC.mk3]
  exact ext_ansV hX (by simp)
end Go.Proofs.Ytdcheilmjooacaa.Ab
