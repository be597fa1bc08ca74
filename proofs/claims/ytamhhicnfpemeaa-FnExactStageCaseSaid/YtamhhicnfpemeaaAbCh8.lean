/- Chains: the case of a stage, by both programs. -/
import Derived.Test.YtamhhicnfpemeaaAbCh7
namespace Go.Proofs.Ytamhhicnfpemeaa.Ab
open Go Go.RowKit
set_option linter.unusedVariables false
set_option linter.unusedSimpArgs false

def _root_.Go.Proofs.Ytamhhicnfpemeaa.Ch.stage (c : Ch) (s : Nat) : Cs := evenC c.need (c.setup.getD s 0) (c.ech s)
theorem CaseO.agg {k : Cs} {lo hi : Nat} {M : Mem} {v : Value} (h : CaseO k lo hi M v) : ∃ v1 v2 v3 v4, v = .agg #[v1, v2, v3, v4] ∧ onesB [v1, v2, v3, v4] = true := by
  obtain ⟨hs, ⟨rfl, rfl⟩ | ⟨i1, i2, i3, i4, f1, f2, f3, f4, rfl, _⟩⟩ := h
  · exact ⟨_, _, _, _, rfl, rfl⟩
  · exact ⟨_, _, _, _, rfl, rfl⟩
theorem BoxA.rdk7 {m : Mem} {id : Nat} {vs : List Value} (h : BoxA m id vs) (k : Nat) : rdc m id k = vs[k]? := by
  obtain ⟨e, h⟩ := h
  simp [rdc, h]
theorem stP_agg4 (m : Mem) (id off : Nat) (v1 v2 v3 v4 : Value) : stP m 4 (.pointer (some ⟨id, off, none⟩)) (.agg #[v1, v2, v3, v4]) = stA m id off [v1, v2, v3, v4] := rfl
theorem stageCase_rc (m : Mem) (v : Value) (c : Ch) (s : Nat) (z : Int) (hz : z = s) (h : ChA m v c) (hg : GoodCh c) (hs : s < c.setup.length) : RC Try.prog 71 [v, .int .i64 z] m (AnsO m (CaseO (c.stage s)) id) := by
  subst hz
  refine rc_of_run mixed ok_impl_stageCase (by simp) (go_start _ _ _ ?_)
  obtain ⟨a, b, d, rfl, ha, hb, hd⟩ := h.ro
  have lh := hg.lh
  have s3 := hg.s3
  have n6 := hg.n6
  obtain ⟨M0, hM0⟩ : ∃ M0, M0 = roM m ++ [⟨.own, 26, [a, b, d]⟩] ++ [⟨.own, 30, [.slice none 0 0, .slice none 0 0, .slice none 0 0, .slice none 0 0]⟩] := ⟨_, rfl⟩
  have L0 : M0.length = m.length + 2 := by rw [hM0]; simp [roM_len]
  have hX0 : Ext m M0 := by rw [hM0]; exact ((Ext.refl m).one _ _).one _ _
  have b2 : OwnB M0 m.length 26 [a, b, d] := by rw [hM0]; exact (OwnB.here (roM_len m).symm).ext _
  have b4 : OwnB M0 (m.length + 1) 30 [.slice none 0 0, .slice none 0 0, .slice none 0 0, .slice none 0 0] := by rw [hM0]; exact OwnB.here (by simp [roM_len])
  have hb1 := hX0.ints hb
  have lds := hb1.ld s hs
  rw [hM0] at lds
  simp (config := {implicitDefEqProofs := false, maxDischargeDepth := 20}) (disch := first | omega | (simp only [lenE]; done) | (simp only [lenE]; omega) | rfl | (simp only [lenE, markR_len]; done) | (simp only [lenE, markR_len]; omega)) only [runE, mapE, listE, initT_5, initT_6, initT_7, initT_8, resV, oneV, binA, unA, reduceCtorEq, Nat.reduceEqDiff, Nat.reduceAdd, Nat.reduceLT, Nat.reduceLeDiff, Nat.reduceMul, Nat.reduceSub, ↓reduceIte, decide_true, decide_false, Bool.true_eq_false, Bool.false_eq_true, Bool.not_true, Bool.not_false, if_true, if_false, and_true, true_and, memE, celE, w64, Nat.zero_add, Nat.add_zero, Nat.mul_one, putL, and_self, ldn, c_impl_stageCase, r_impl_stageCase, hb.at_ s hs, lds]
  rw [← hM0]
  refine rcallH_rc (echelonHold_rc _ _ c s _ rfl (ChA.mk (hX0.ints ha) (hX0.ints hb) (hX0.ints hd)) hg (by omega)) ?_
  rintro r n1 ⟨rfl, nr1⟩
  simp (config := {implicitDefEqProofs := false, maxDischargeDepth := 20}) (disch := first | omega | (simp only [lenE]; done) | (simp only [lenE]; omega) | rfl | (simp only [lenE, markR_len]; done) | (simp only [lenE, markR_len]; omega)) only [runE, mapE, listE, initT_5, initT_6, initT_7, initT_8, resV, oneV, binA, unA, reduceCtorEq, Nat.reduceEqDiff, Nat.reduceAdd, Nat.reduceLT, Nat.reduceLeDiff, Nat.reduceMul, Nat.reduceSub, ↓reduceIte, decide_true, decide_false, Bool.true_eq_false, Bool.false_eq_true, Bool.not_true, Bool.not_false, if_true, if_false, and_true, true_and, memE, celE, w64, Nat.zero_add, Nat.add_zero, Nat.mul_one, putL, and_self, ldn]
  refine rcallH_rc (steadyCase_rc _ a c.need _ _ ((hX0.ints ha).ext n1) (by omega)) ?_
  rintro r n2 ⟨nr2, w, hwe, hw⟩
  rw [id_eq] at hwe
  subst r
  obtain ⟨v1, v2, v3, v4, rfl, ones⟩ := hw.now.agg
  have b42 := (b4.ext n1).ext n2
  have hX2 := (hX0.app nr1).app nr2
  obtain ⟨M2, hM2⟩ : ∃ M2, M2 = M0 ++ n1 ++ n2 := ⟨_, rfl⟩
  have L2 : M2.length = (M0 ++ n1).length + n2.length := by rw [hM2]; simp; omega
  rw [← hM2] at b42 hX2 hw ⊢
  rw [← L2] at hw
  have st := b42.st (off := 0) (vs := [v1, v2, v3, v4]) (by simp) ones
  have hs' := b42.set_self 30 [v1, v2, v3, v4]
  simp (config := {implicitDefEqProofs := false, maxDischargeDepth := 20}) (disch := first | omega | (simp only [lenE]; done) | (simp only [lenE]; omega) | rfl | (simp only [lenE, markR_len]; done) | (simp only [lenE, markR_len]; omega)) only [runE, mapE, listE, initT_5, initT_6, initT_7, initT_8, resV, oneV, binA, unA, reduceCtorEq, Nat.reduceEqDiff, Nat.reduceAdd, Nat.reduceLT, Nat.reduceLeDiff, Nat.reduceMul, Nat.reduceSub, ↓reduceIte, decide_true, decide_false, Bool.true_eq_false, Bool.false_eq_true, Bool.not_true, Bool.not_false, if_true, if_false, and_true, true_and, memE, celE, w64, Nat.zero_add, Nat.add_zero, Nat.mul_one, putL, and_self, ldn, stP_agg4, st, hs'.rd]
  refine ext_ansO (f := _root_.id) (hX2.put (by omega) _ _) fun M' hM => ?_
  rw [List.length_set]
  refine CaseO.wide _ _ _ _ _ _ _ ?_ (Nat.le_refl _) (hw.2.2 M' fun i h1 h2 => ?_)
  · simp [L0]; omega
  · have h1' : m.length + 2 ≤ i := by have : (M0 ++ n1).length = M0.length + n1.length := by simp
                                      omega
    rw [hM i (by omega) (by rw [List.length_set]; exact h2), List.getElem?_set_ne (by omega)]
/-- A stage of a right chain. -/
def stageOk (c : Ch) (s : Int) : Bool := c.good && inB ((c.setup.length : Int) - 1) s
def stageA (c : Ch) (s : Int) : Cs := if stageOk c s then c.stage s.toNat else ⟨[], [], [], []⟩
theorem implStageCase_rc (m : Mem) (v : Value) (c : Ch) (s : Int) (h : ChA m v c) : RC Try.prog 20 [v, .int .i64 s] m (AnsO m (CaseO (stageA c s)) fun v => .tuple #[v, .bool (stageOk c s)]) := by
  refine rc_of_run mixed ok_impl_StageCase (by simp) (go_start _ _ _ ?_)
  obtain ⟨a, b, d, rfl, ha, hb, hd⟩ := h.ro
  obtain ⟨M0, hM0⟩ : ∃ M0, M0 = roM m ++ [⟨.own, 26, [a, b, d]⟩] ++ [⟨.own, 30, [.slice none 0 0, .slice none 0 0, .slice none 0 0, .slice none 0 0]⟩] := ⟨_, rfl⟩
  have L0 : M0.length = m.length + 2 := by rw [hM0]; simp [roM_len]
  have hX0 : Ext m M0 := by rw [hM0]; exact ((Ext.refl m).one _ _).one _ _
  have b2 : OwnB M0 m.length 26 [a, b, d] := by rw [hM0]; exact (OwnB.here (roM_len m).symm).ext _
  have b4 : OwnB M0 (m.length + 1) 30 [.slice none 0 0, .slice none 0 0, .slice none 0 0, .slice none 0 0] := by rw [hM0]; exact OwnB.here (by simp [roM_len])
  have no : ∀ M, Ext m M → OwnB M (m.length + 1) 30 [.slice none 0 0, .slice none 0 0, .slice none 0 0, .slice none 0 0] → stA M (m.length + 1) 0 [.slice none 0 0, .slice none 0 0, .slice none 0 0, .slice none 0 0] = some (M.set (m.length + 1) ⟨.own, 30, [.slice none 0 0, .slice none 0 0, .slice none 0 0, .slice none 0 0]⟩) ∧ (∀ j, rdc (M.set (m.length + 1) ⟨.own, 30, [.slice none 0 0, .slice none 0 0, .slice none 0 0, .slice none 0 0]⟩) (m.length + 1) j = [.slice none 0 0, .slice none 0 0, .slice none 0 0, .slice none 0 0][j]?) ∧ Ext m (M.set (m.length + 1) ⟨.own, 30, [.slice none 0 0, .slice none 0 0, .slice none 0 0, .slice none 0 0]⟩) := fun M hX hb =>
    ⟨hb.st (off := 0) (vs := [.slice none 0 0, .slice none 0 0, .slice none 0 0, .slice none 0 0]) (by simp) rfl, fun j => (hb.set_self _ _).rd j, hX.put (by omega) _ _⟩
  simp (config := {implicitDefEqProofs := false, maxDischargeDepth := 20}) (disch := first | omega | (simp only [lenE]; done) | (simp only [lenE]; omega) | rfl | (simp only [lenE, markR_len]; done) | (simp only [lenE, markR_len]; omega)) only [runE, mapE, listE, initT_5, initT_6, initT_7, initT_8, resV, oneV, binA, unA, reduceCtorEq, Nat.reduceEqDiff, Nat.reduceAdd, Nat.reduceLT, Nat.reduceLeDiff, Nat.reduceMul, Nat.reduceSub, ↓reduceIte, decide_true, decide_false, Bool.true_eq_false, Bool.false_eq_true, Bool.not_true, Bool.not_false, if_true, if_false, and_true, true_and, memE, celE, w64, Nat.zero_add, Nat.add_zero, Nat.mul_one, putL, and_self, ldn, c_impl_StageCase, r_impl_StageCase]
  rw [← hM0]
  refine callH_rc (implIsChain_rc _ _ c (ChA.mk (hX0.ints ha) (hX0.ints hb) (hX0.ints hd))) ?_
  rintro r n1 ⟨rfl, nr1⟩
  have hX1 := hX0.app nr1
  replace b2 := b2.ext n1
  replace b4 := b4.ext n1
  obtain ⟨M1, hM1⟩ : ∃ M1, M1 = M0 ++ n1 := ⟨_, rfl⟩
  rw [← hM1] at hX1 b2 b4 ⊢
  have hl1 := b4.lt
  cases hg : c.good with
  | false =>
    have e : stageOk c s = false := by unfold stageOk; rw [hg]; rfl
    obtain ⟨s1, s2, s3⟩ := no _ hX1 b4
    simp (config := {implicitDefEqProofs := false, maxDischargeDepth := 20}) (disch := first | omega | (simp only [lenE]; done) | (simp only [lenE]; omega) | rfl | (simp only [lenE, markR_len]; done) | (simp only [lenE, markR_len]; omega)) only [runE, mapE, listE, initT_5, initT_6, initT_7, initT_8, resV, oneV, binA, unA, reduceCtorEq, Nat.reduceEqDiff, Nat.reduceAdd, Nat.reduceLT, Nat.reduceLeDiff, Nat.reduceMul, Nat.reduceSub, ↓reduceIte, decide_true, decide_false, Bool.true_eq_false, Bool.false_eq_true, Bool.not_true, Bool.not_false, if_true, if_false, and_true, true_and, memE, celE, w64, Nat.zero_add, Nat.add_zero, Nat.mul_one, putL, and_self, ldn, bld_none4, stP_agg4, s1, s2]
    unfold stageA
    rw [e]
    exact ext_noCase (f := fun v => .tuple #[v, .bool false]) s3
  | true =>
    have gd := goodCh_iff.1 hg
    have s3 := gd.s3
    simp (config := {implicitDefEqProofs := false, maxDischargeDepth := 20}) (disch := first | omega | (simp only [lenE]; done) | (simp only [lenE]; omega) | rfl | (simp only [lenE, markR_len]; done) | (simp only [lenE, markR_len]; omega)) only [runE, mapE, listE, initT_5, initT_6, initT_7, initT_8, resV, oneV, binA, unA, reduceCtorEq, Nat.reduceEqDiff, Nat.reduceAdd, Nat.reduceLT, Nat.reduceLeDiff, Nat.reduceMul, Nat.reduceSub, ↓reduceIte, decide_true, decide_false, Bool.true_eq_false, Bool.false_eq_true, Bool.not_true, Bool.not_false, if_true, if_false, and_true, true_and, memE, celE, w64, Nat.zero_add, Nat.add_zero, Nat.mul_one, putL, and_self, ldn, b2.rd, hb.len]
    refine callH_rc (isWithin_rc _ _ _) ?_
    rintro r n2 ⟨rfl, rfl⟩
    rw [List.append_nil]
    cases hw : inB ((c.setup.length : Int) - 1) s with
    | false =>
      have e : stageOk c s = false := by unfold stageOk; rw [hw]; simp
      obtain ⟨s1, s2, s3⟩ := no _ hX1 b4
      simp (config := {implicitDefEqProofs := false, maxDischargeDepth := 20}) (disch := first | omega | (simp only [lenE]; done) | (simp only [lenE]; omega) | rfl | (simp only [lenE, markR_len]; done) | (simp only [lenE, markR_len]; omega)) only [runE, mapE, listE, initT_5, initT_6, initT_7, initT_8, resV, oneV, binA, unA, reduceCtorEq, Nat.reduceEqDiff, Nat.reduceAdd, Nat.reduceLT, Nat.reduceLeDiff, Nat.reduceMul, Nat.reduceSub, ↓reduceIte, decide_true, decide_false, Bool.true_eq_false, Bool.false_eq_true, Bool.not_true, Bool.not_false, if_true, if_false, and_true, true_and, memE, celE, w64, Nat.zero_add, Nat.add_zero, Nat.mul_one, putL, and_self, ldn, bld_none4, stP_agg4, s1, s2]
      unfold stageA
      rw [e]
      exact ext_noCase (f := fun v => .tuple #[v, .bool false]) s3
    | true =>
      have e : stageOk c s = true := by unfold stageOk; rw [hw, hg]; rfl
      have hi := inB_iff.1 hw
      simp (config := {implicitDefEqProofs := false, maxDischargeDepth := 20}) (disch := first | omega | (simp only [lenE]; done) | (simp only [lenE]; omega) | rfl | (simp only [lenE, markR_len]; done) | (simp only [lenE, markR_len]; omega)) only [runE, mapE, listE, initT_5, initT_6, initT_7, initT_8, resV, oneV, binA, unA, reduceCtorEq, Nat.reduceEqDiff, Nat.reduceAdd, Nat.reduceLT, Nat.reduceLeDiff, Nat.reduceMul, Nat.reduceSub, ↓reduceIte, decide_true, decide_false, Bool.true_eq_false, Bool.false_eq_true, Bool.not_true, Bool.not_false, if_true, if_false, and_true, true_and, memE, celE, w64, Nat.zero_add, Nat.add_zero, Nat.mul_one, putL, and_self, ldn, b2.rd]
      refine callH_rc (stageCase_rc _ _ c s.toNat s (by omega) (ChA.mk (hX1.ints ha) (hX1.ints hb) (hX1.ints hd)) gd (by omega)) ?_
      rintro r n2 ⟨nr2, w, hwe, hw⟩
      rw [id_eq] at hwe
      subst r
      obtain ⟨v1, v2, v3, v4, rfl, ones⟩ := hw.now.agg
      have b42 := b4.ext n2
      have hX2 := hX1.app nr2
      obtain ⟨M2, hM2⟩ : ∃ M2, M2 = M1 ++ n2 := ⟨_, rfl⟩
      have L2 : M2.length = M1.length + n2.length := by rw [hM2]; simp
      rw [← hM2] at b42 hX2 hw ⊢
      rw [← L2] at hw
      have st := b42.st (off := 0) (vs := [v1, v2, v3, v4]) (by simp) ones
      have hs' := b42.set_self 30 [v1, v2, v3, v4]
      simp (config := {implicitDefEqProofs := false, maxDischargeDepth := 20}) (disch := first | omega | (simp only [lenE]; done) | (simp only [lenE]; omega) | rfl | (simp only [lenE, markR_len]; done) | (simp only [lenE, markR_len]; omega)) only [runE, mapE, listE, initT_5, initT_6, initT_7, initT_8, resV, oneV, binA, unA, reduceCtorEq, Nat.reduceEqDiff, Nat.reduceAdd, Nat.reduceLT, Nat.reduceLeDiff, Nat.reduceMul, Nat.reduceSub, ↓reduceIte, decide_true, decide_false, Bool.true_eq_false, Bool.false_eq_true, Bool.not_true, Bool.not_false, if_true, if_false, and_true, true_and, memE, celE, w64, Nat.zero_add, Nat.add_zero, Nat.mul_one, putL, and_self, ldn, stP_agg4, st, hs'.rd]
      unfold stageA
      rw [e, if_pos rfl]
      refine ext_ansO (f := fun v => .tuple #[v, .bool true]) (hX2.put (by omega) _ _) fun M' hM => ?_
      rw [List.length_set]
      refine CaseO.wide _ _ _ _ _ _ _ (by omega) (Nat.le_refl _) (hw.2.2 M' fun i h1 h2 => ?_)
      rw [hM i (by omega) (by rw [List.length_set]; exact h2), List.getElem?_set_ne (by omega)]
theorem specStageCase_rc (m : Mem) (v : Value) (c : Ch) (s : Int) (h : ChA m v c) : RC Try.prog 21 [v, .int .i64 s] m (AnsO m (CaseO (stageA c s)) fun v => .tuple #[v, .bool (stageOk c s)]) := by
  refine rc_of_run mixed ok_spec_StageCase (by simp) (go_start _ _ _ ?_)
  obtain ⟨a, b, d, rfl, ha, hb, hd⟩ := h.ro
  obtain ⟨M0, hM0⟩ : ∃ M0, M0 = roM m ++ [⟨.own, 26, [a, b, d]⟩] ++ [⟨.own, 30, [.slice none 0 0, .slice none 0 0, .slice none 0 0, .slice none 0 0]⟩] := ⟨_, rfl⟩
  have L0 : M0.length = m.length + 2 := by rw [hM0]; simp [roM_len]
  have hX0 : Ext m M0 := by rw [hM0]; exact ((Ext.refl m).one _ _).one _ _
  have b2 : OwnB M0 m.length 26 [a, b, d] := by rw [hM0]; exact (OwnB.here (roM_len m).symm).ext _
  have b4 : OwnB M0 (m.length + 1) 30 [.slice none 0 0, .slice none 0 0, .slice none 0 0, .slice none 0 0] := by rw [hM0]; exact OwnB.here (by simp [roM_len])
  have no : ∀ M, Ext m M → OwnB M (m.length + 1) 30 [.slice none 0 0, .slice none 0 0, .slice none 0 0, .slice none 0 0] → stA M (m.length + 1) 0 [.slice none 0 0, .slice none 0 0, .slice none 0 0, .slice none 0 0] = some (M.set (m.length + 1) ⟨.own, 30, [.slice none 0 0, .slice none 0 0, .slice none 0 0, .slice none 0 0]⟩) ∧ (∀ j, rdc (M.set (m.length + 1) ⟨.own, 30, [.slice none 0 0, .slice none 0 0, .slice none 0 0, .slice none 0 0]⟩) (m.length + 1) j = [.slice none 0 0, .slice none 0 0, .slice none 0 0, .slice none 0 0][j]?) ∧ Ext m (M.set (m.length + 1) ⟨.own, 30, [.slice none 0 0, .slice none 0 0, .slice none 0 0, .slice none 0 0]⟩) := fun M hX hb =>
    ⟨hb.st (off := 0) (vs := [.slice none 0 0, .slice none 0 0, .slice none 0 0, .slice none 0 0]) (by simp) rfl, fun j => (hb.set_self _ _).rd j, hX.put (by omega) _ _⟩
  simp (config := {implicitDefEqProofs := false, maxDischargeDepth := 20}) (disch := first | omega | (simp only [lenE]; done) | (simp only [lenE]; omega) | rfl | (simp only [lenE, markR_len]; done) | (simp only [lenE, markR_len]; omega)) only [runE, mapE, listE, initT_5, initT_6, initT_7, initT_8, resV, oneV, binA, unA, reduceCtorEq, Nat.reduceEqDiff, Nat.reduceAdd, Nat.reduceLT, Nat.reduceLeDiff, Nat.reduceMul, Nat.reduceSub, ↓reduceIte, decide_true, decide_false, Bool.true_eq_false, Bool.false_eq_true, Bool.not_true, Bool.not_false, if_true, if_false, and_true, true_and, memE, celE, w64, Nat.zero_add, Nat.add_zero, Nat.mul_one, putL, and_self, ldn, c_spec_StageCase, r_spec_StageCase]
  rw [← hM0]
  refine callH_rc (l7Good_rc _ _ c (ChA.mk (hX0.ints ha) (hX0.ints hb) (hX0.ints hd))) ?_
  rintro r n1 ⟨rfl, nr1⟩
  have hX1 := hX0.app nr1
  replace b2 := b2.ext n1
  replace b4 := b4.ext n1
  obtain ⟨M1, hM1⟩ : ∃ M1, M1 = M0 ++ n1 := ⟨_, rfl⟩
  rw [← hM1] at hX1 b2 b4 ⊢
  have hl1 := b4.lt
  cases hg : c.good with
  | false =>
    have e : stageOk c s = false := by unfold stageOk; rw [hg]; rfl
    obtain ⟨s1, s2, s3⟩ := no _ hX1 b4
    simp (config := {implicitDefEqProofs := false, maxDischargeDepth := 20}) (disch := first | omega | (simp only [lenE]; done) | (simp only [lenE]; omega) | rfl | (simp only [lenE, markR_len]; done) | (simp only [lenE, markR_len]; omega)) only [runE, mapE, listE, initT_5, initT_6, initT_7, initT_8, resV, oneV, binA, unA, reduceCtorEq, Nat.reduceEqDiff, Nat.reduceAdd, Nat.reduceLT, Nat.reduceLeDiff, Nat.reduceMul, Nat.reduceSub, ↓reduceIte, decide_true, decide_false, Bool.true_eq_false, Bool.false_eq_true, Bool.not_true, Bool.not_false, if_true, if_false, and_true, true_and, memE, celE, w64, Nat.zero_add, Nat.add_zero, Nat.mul_one, putL, and_self, ldn, bld_none4, stP_agg4, s1, s2]
    unfold stageA
    rw [e]
    exact ext_noCase (f := fun v => .tuple #[v, .bool false]) s3
  | true =>
    have gd := goodCh_iff.1 hg
    have s3 := gd.s3
    have lh := gd.lh
    have n6 := gd.n6
    simp (config := {implicitDefEqProofs := false, maxDischargeDepth := 20}) (disch := first | omega | (simp only [lenE]; done) | (simp only [lenE]; omega) | rfl | (simp only [lenE, markR_len]; done) | (simp only [lenE, markR_len]; omega)) only [runE, mapE, listE, initT_5, initT_6, initT_7, initT_8, resV, oneV, binA, unA, reduceCtorEq, Nat.reduceEqDiff, Nat.reduceAdd, Nat.reduceLT, Nat.reduceLeDiff, Nat.reduceMul, Nat.reduceSub, ↓reduceIte, decide_true, decide_false, Bool.true_eq_false, Bool.false_eq_true, Bool.not_true, Bool.not_false, if_true, if_false, and_true, true_and, memE, celE, w64, Nat.zero_add, Nat.add_zero, Nat.mul_one, putL, and_self, ldn, b2.rd, hb.len]
    refine callH_rc (l1In_rc _ _ _ _) ?_
    rintro r n2 ⟨rfl, rfl⟩
    rw [List.append_nil, show (decide (0 ≤ s) && decide (s ≤ (c.setup.length : Int) - 1)) = inB ((c.setup.length : Int) - 1) s from rfl]
    cases hw : inB ((c.setup.length : Int) - 1) s with
    | false =>
      have e : stageOk c s = false := by unfold stageOk; rw [hw]; simp
      obtain ⟨s1, s2, s3⟩ := no _ hX1 b4
      simp (config := {implicitDefEqProofs := false, maxDischargeDepth := 20}) (disch := first | omega | (simp only [lenE]; done) | (simp only [lenE]; omega) | rfl | (simp only [lenE, markR_len]; done) | (simp only [lenE, markR_len]; omega)) only [runE, mapE, listE, initT_5, initT_6, initT_7, initT_8, resV, oneV, binA, unA, reduceCtorEq, Nat.reduceEqDiff, Nat.reduceAdd, Nat.reduceLT, Nat.reduceLeDiff, Nat.reduceMul, Nat.reduceSub, ↓reduceIte, decide_true, decide_false, Bool.true_eq_false, Bool.false_eq_true, Bool.not_true, Bool.not_false, if_true, if_false, and_true, true_and, memE, celE, w64, Nat.zero_add, Nat.add_zero, Nat.mul_one, putL, and_self, ldn, bld_none4, stP_agg4, s1, s2]
      unfold stageA
      rw [e]
      exact ext_noCase (f := fun v => .tuple #[v, .bool false]) s3
    | true =>
      have e : stageOk c s = true := by unfold stageOk; rw [hw, hg]; rfl
      have hi := inB_iff.1 hw
      obtain ⟨q, hq⟩ : ∃ q : Nat, s = q := ⟨s.toNat, by omega⟩
      subst hq
      have hql : q < c.setup.length := by omega
      have hb1 := hX1.ints hb
      simp (config := {implicitDefEqProofs := false, maxDischargeDepth := 20}) (disch := first | omega | (simp only [lenE]; done) | (simp only [lenE]; omega) | rfl | (simp only [lenE, markR_len]; done) | (simp only [lenE, markR_len]; omega)) only [runE, mapE, listE, initT_5, initT_6, initT_7, initT_8, resV, oneV, binA, unA, reduceCtorEq, Nat.reduceEqDiff, Nat.reduceAdd, Nat.reduceLT, Nat.reduceLeDiff, Nat.reduceMul, Nat.reduceSub, ↓reduceIte, decide_true, decide_false, Bool.true_eq_false, Bool.false_eq_true, Bool.not_true, Bool.not_false, if_true, if_false, and_true, true_and, memE, celE, w64, Nat.zero_add, Nat.add_zero, Nat.mul_one, putL, and_self, ldn, b2.rd, hb1.at_ q hql, hb1.ld q hql]
      refine rcallH_rc (l7Echelon_rc _ _ c q _ rfl (ChA.mk (hX1.ints ha) (hX1.ints hb) (hX1.ints hd)) gd (by omega)) ?_
      rintro r n2 ⟨rfl, nr2⟩
      simp (config := {implicitDefEqProofs := false, maxDischargeDepth := 20}) (disch := first | omega | (simp only [lenE]; done) | (simp only [lenE]; omega) | rfl | (simp only [lenE, markR_len]; done) | (simp only [lenE, markR_len]; omega)) only [runE, mapE, listE, initT_5, initT_6, initT_7, initT_8, resV, oneV, binA, unA, reduceCtorEq, Nat.reduceEqDiff, Nat.reduceAdd, Nat.reduceLT, Nat.reduceLeDiff, Nat.reduceMul, Nat.reduceSub, ↓reduceIte, decide_true, decide_false, Bool.true_eq_false, Bool.false_eq_true, Bool.not_true, Bool.not_false, if_true, if_false, and_true, true_and, memE, celE, w64, Nat.zero_add, Nat.add_zero, Nat.mul_one, putL, and_self, ldn]
      refine rcallH_rc (l7Case_rc _ a c.need _ _ ((hX1.ints ha).ext n2) (by omega)) ?_
      rintro r n3 ⟨nr3, w, hwe, hw⟩
      rw [id_eq] at hwe
      subst r
      obtain ⟨v1, v2, v3, v4, rfl, ones⟩ := hw.now.agg
      have b42 := (b4.ext n2).ext n3
      have hX2 := (hX1.app nr2).app nr3
      obtain ⟨M2, hM2⟩ : ∃ M2, M2 = M1 ++ n2 ++ n3 := ⟨_, rfl⟩
      have L2 : M2.length = (M1 ++ n2).length + n3.length := by rw [hM2]; simp; omega
      have L12 : (M1 ++ n2).length = M1.length + n2.length := by simp
      rw [← hM2] at b42 hX2 hw ⊢
      rw [← L2] at hw
      have st := b42.st (off := 0) (vs := [v1, v2, v3, v4]) (by simp) ones
      have hs' := b42.set_self 30 [v1, v2, v3, v4]
      simp (config := {implicitDefEqProofs := false, maxDischargeDepth := 20}) (disch := first | omega | (simp only [lenE]; done) | (simp only [lenE]; omega) | rfl | (simp only [lenE, markR_len]; done) | (simp only [lenE, markR_len]; omega)) only [runE, mapE, listE, initT_5, initT_6, initT_7, initT_8, resV, oneV, binA, unA, reduceCtorEq, Nat.reduceEqDiff, Nat.reduceAdd, Nat.reduceLT, Nat.reduceLeDiff, Nat.reduceMul, Nat.reduceSub, ↓reduceIte, decide_true, decide_false, Bool.true_eq_false, Bool.false_eq_true, Bool.not_true, Bool.not_false, if_true, if_false, and_true, true_and, memE, celE, w64, Nat.zero_add, Nat.add_zero, Nat.mul_one, putL, and_self, ldn, stP_agg4, st, hs'.rd]
      unfold stageA
      rw [e, if_pos rfl]
      refine ext_ansO (f := fun v => .tuple #[v, .bool true]) (hX2.put (by omega) _ _) fun M' hM => ?_
      rw [List.length_set]
      refine CaseO.wide _ _ _ _ _ _ _ (by omega) (Nat.le_refl _) (hw.2.2 M' fun i h1 h2 => ?_)
      rw [hM i (by omega) (by rw [List.length_set]; exact h2), List.getElem?_set_ne (by omega)]
end Go.Proofs.Ytamhhicnfpemeaa.Ab
