/- Policies: steps and traces, by both programs. -/
import Derived.Test.YtddnedngjijpoaaAbPol9
namespace Go.Proofs.Ytddnedngjijpoaa.Ab
open Go Go.RowKit
set_option linter.unusedVariables false
set_option linter.unusedSimpArgs false

def askB (p : Pr) (d : Int) : Bool := inZ ((p.w.length : Int) - 1) d && decide (0 < p.w.getD d.toNat 0)
def stepB (p : Pr) (L : List (Int × Int)) (t x d : Int) : Bool := turnB p t && p.polB L && levB x && askB p d
theorem stepB_eq (p : Pr) (L : List (Int × Int)) (t x d : Int) : stepB p L t x d = ((p.good && p.polB L) && inZ (p.turns - 1) t && levB x && askB p d) := by
  unfold stepB turnB
  cases p.good <;> cases p.polB L <;> simp
def stepUp (p : Pr) (L : List (Int × Int)) (t x d : Int) : Int := if stepB p L t x d then p.upOf (L.getD t.toNat (0, 0)) x else 0
def stepTo (p : Pr) (L : List (Int × Int)) (t x d : Int) : Int := if stepB p L t x d then p.upOf (L.getD t.toNat (0, 0)) x - d else 0
def stepCost (p : Pr) (L : List (Int × Int)) (t x d : Int) : Int := if stepB p L t x d then p.ord x (p.upOf (L.getD t.toNat (0, 0)) x) + p.kept (p.upOf (L.getD t.toNat (0, 0)) x - d) else 0
theorem isAsked_rc (m : Mem) (v : Value) (p : Pr) (d : Int) (h : ProcA m v p) (hG : GoodP p) : RC Try.prog 111 [v, .int .i64 d] m (AnsV (.bool (askB p d))) := by
  refine rc_of_run mixed ok_impl_isAskedFor (by simp) (go_start _ _ _ ?_)
  obtain ⟨u, rfl, hu⟩ := h.ro
  have hlen := hG.len
  unfold askB
  simp (config := {implicitDefEqProofs := false, maxDischargeDepth := 20}) (disch := first | omega | (simp only [lenE]; done) | (simp only [lenE]; omega) | rfl | (simp only [lenE, markR_len]; done) | (simp only [lenE, markR_len]; omega)) only [runE, mapE, listE, initT_5, initT_6, initT_7, initT_8, resV, oneV, binA, unA, reduceCtorEq, Nat.reduceEqDiff, Nat.reduceAdd, Nat.reduceLT, Nat.reduceLeDiff, Nat.reduceMul, Nat.reduceSub, ↓reduceIte, decide_true, decide_false, Bool.true_eq_false, Bool.false_eq_true, Bool.not_true, Bool.not_false, if_true, if_false, and_true, true_and, memE, celE, w64, Nat.zero_add, Nat.add_zero, Nat.mul_one, putL, and_self, ldn, c_impl_isAskedFor, r_impl_isAskedFor, hu.len]
  refine callH_rc (isWithin_rc _ _ _) ?_
  rintro r new ⟨rfl, rfl⟩
  rw [show inB ((p.w.length : Int) - 1) d = inZ ((p.w.length : Int) - 1) d from rfl]
  cases b : inZ ((p.w.length : Int) - 1) d with
  | false =>
    simp (config := {implicitDefEqProofs := false, maxDischargeDepth := 20}) (disch := first | omega | (simp only [lenE]; done) | (simp only [lenE]; omega) | rfl | (simp only [lenE, markR_len]; done) | (simp only [lenE, markR_len]; omega)) only [runE, mapE, listE, initT_5, initT_6, initT_7, initT_8, resV, oneV, binA, unA, reduceCtorEq, Nat.reduceEqDiff, Nat.reduceAdd, Nat.reduceLT, Nat.reduceLeDiff, Nat.reduceMul, Nat.reduceSub, ↓reduceIte, decide_true, decide_false, Bool.true_eq_false, Bool.false_eq_true, Bool.not_true, Bool.not_false, if_true, if_false, and_true, true_and, memE, celE, w64, Nat.zero_add, Nat.add_zero, Nat.mul_one, putL, and_self, ldn]
    try simp only [List.append_assoc, List.cons_append, List.nil_append, List.append_nil]
    exact ⟨_, rfl, by (repeat (first | exact noRo_nil | assumption | apply noRo_own | apply noRo_dead | apply noRo_app)), by simp, by (repeat (first | exact noRo_nil | assumption | apply noRo_own | apply noRo_dead | apply noRo_app))⟩
  | true =>
    simp only [inZ, Bool.and_eq_true, decide_eq_true_eq] at b
    have a1 := (hu.ext [⟨.own, 26, [.int .i64 p.turns, u, .int .i64 p.setup, .int .i64 p.unit, .int .i64 p.hold, .int .i64 p.back]⟩]).at_ d.toNat (by omega)
    rw [show ((d.toNat : Nat) : Int) = d by omega] at a1
    have a2 := (hu.ext [⟨.own, 26, [.int .i64 p.turns, u, .int .i64 p.setup, .int .i64 p.unit, .int .i64 p.hold, .int .i64 p.back]⟩]).ld d.toNat (by omega)
    simp (config := {implicitDefEqProofs := false, maxDischargeDepth := 20}) (disch := first | omega | (simp only [lenE]; done) | (simp only [lenE]; omega) | rfl | (simp only [lenE, markR_len]; done) | (simp only [lenE, markR_len]; omega)) only [runE, mapE, listE, initT_5, initT_6, initT_7, initT_8, resV, oneV, binA, unA, reduceCtorEq, Nat.reduceEqDiff, Nat.reduceAdd, Nat.reduceLT, Nat.reduceLeDiff, Nat.reduceMul, Nat.reduceSub, ↓reduceIte, decide_true, decide_false, Bool.true_eq_false, Bool.false_eq_true, Bool.not_true, Bool.not_false, if_true, if_false, and_true, true_and, memE, celE, w64, Nat.zero_add, Nat.add_zero, Nat.mul_one, putL, and_self, ldn, a1, a2, gt_iff_lt]
    try simp only [List.append_assoc, List.cons_append, List.nil_append, List.append_nil]
    exact ⟨_, rfl, by (repeat (first | exact noRo_nil | assumption | apply noRo_own | apply noRo_dead | apply noRo_app)), by simp, by (repeat (first | exact noRo_nil | assumption | apply noRo_own | apply noRo_dead | apply noRo_app))⟩
theorem l6Asked_rc (m : Mem) (v : Value) (p : Pr) (d : Int) (h : ProcA m v p) (hG : GoodP p) : RC Try.prog 109 [v, .int .i64 d] m (AnsV (.bool (askB p d))) := by
  refine rc_of_run mixed ok_spec_l6Asked (by simp) (go_start _ _ _ ?_)
  obtain ⟨u, rfl, hu⟩ := h.ro
  have hlen := hG.len
  unfold askB
  simp (config := {implicitDefEqProofs := false, maxDischargeDepth := 20}) (disch := first | omega | (simp only [lenE]; done) | (simp only [lenE]; omega) | rfl | (simp only [lenE, markR_len]; done) | (simp only [lenE, markR_len]; omega)) only [runE, mapE, listE, initT_5, initT_6, initT_7, initT_8, resV, oneV, binA, unA, reduceCtorEq, Nat.reduceEqDiff, Nat.reduceAdd, Nat.reduceLT, Nat.reduceLeDiff, Nat.reduceMul, Nat.reduceSub, ↓reduceIte, decide_true, decide_false, Bool.true_eq_false, Bool.false_eq_true, Bool.not_true, Bool.not_false, if_true, if_false, and_true, true_and, memE, celE, w64, Nat.zero_add, Nat.add_zero, Nat.mul_one, putL, and_self, ldn, c_spec_l6Asked, r_spec_l6Asked, hu.len]
  refine callH_rc (l1In_rc _ _ _ _) ?_
  rintro r new ⟨rfl, rfl⟩
  rw [show (decide (0 ≤ d) && decide (d ≤ (p.w.length : Int) - 1)) = inZ ((p.w.length : Int) - 1) d from rfl]
  cases b : inZ ((p.w.length : Int) - 1) d with
  | false =>
    simp (config := {implicitDefEqProofs := false, maxDischargeDepth := 20}) (disch := first | omega | (simp only [lenE]; done) | (simp only [lenE]; omega) | rfl | (simp only [lenE, markR_len]; done) | (simp only [lenE, markR_len]; omega)) only [runE, mapE, listE, initT_5, initT_6, initT_7, initT_8, resV, oneV, binA, unA, reduceCtorEq, Nat.reduceEqDiff, Nat.reduceAdd, Nat.reduceLT, Nat.reduceLeDiff, Nat.reduceMul, Nat.reduceSub, ↓reduceIte, decide_true, decide_false, Bool.true_eq_false, Bool.false_eq_true, Bool.not_true, Bool.not_false, if_true, if_false, and_true, true_and, memE, celE, w64, Nat.zero_add, Nat.add_zero, Nat.mul_one, putL, and_self, ldn]
    try simp only [List.append_assoc, List.cons_append, List.nil_append, List.append_nil]
    exact ⟨_, rfl, by (repeat (first | exact noRo_nil | assumption | apply noRo_own | apply noRo_dead | apply noRo_app)), by simp, by (repeat (first | exact noRo_nil | assumption | apply noRo_own | apply noRo_dead | apply noRo_app))⟩
  | true =>
    simp only [inZ, Bool.and_eq_true, decide_eq_true_eq] at b
    have a1 := (hu.ext [⟨.own, 26, [.int .i64 p.turns, u, .int .i64 p.setup, .int .i64 p.unit, .int .i64 p.hold, .int .i64 p.back]⟩]).at_ d.toNat (by omega)
    rw [show ((d.toNat : Nat) : Int) = d by omega] at a1
    have a2 := (hu.ext [⟨.own, 26, [.int .i64 p.turns, u, .int .i64 p.setup, .int .i64 p.unit, .int .i64 p.hold, .int .i64 p.back]⟩]).ld d.toNat (by omega)
    simp (config := {implicitDefEqProofs := false, maxDischargeDepth := 20}) (disch := first | omega | (simp only [lenE]; done) | (simp only [lenE]; omega) | rfl | (simp only [lenE, markR_len]; done) | (simp only [lenE, markR_len]; omega)) only [runE, mapE, listE, initT_5, initT_6, initT_7, initT_8, resV, oneV, binA, unA, reduceCtorEq, Nat.reduceEqDiff, Nat.reduceAdd, Nat.reduceLT, Nat.reduceLeDiff, Nat.reduceMul, Nat.reduceSub, ↓reduceIte, decide_true, decide_false, Bool.true_eq_false, Bool.false_eq_true, Bool.not_true, Bool.not_false, if_true, if_false, and_true, true_and, memE, celE, w64, Nat.zero_add, Nat.add_zero, Nat.mul_one, putL, and_self, ldn, a1, a2, gt_iff_lt]
    try simp only [List.append_assoc, List.cons_append, List.nil_append, List.append_nil]
    exact ⟨_, rfl, by (repeat (first | exact noRo_nil | assumption | apply noRo_own | apply noRo_dead | apply noRo_app)), by simp, by (repeat (first | exact noRo_nil | assumption | apply noRo_own | apply noRo_dead | apply noRo_app))⟩
theorem implStep_rc (m : Mem) (v vl : Value) (p : Pr) (L : List (Int × Int)) (t x d : Int) (h : ProcA m v p) (hL : PairsA m vl L) : RC Try.prog 64 [v, vl, .int .i64 t, .int .i64 x, .int .i64 d] m (AnsV (.tuple #[.int .i64 (stepUp p L t x d), .int .i64 (stepTo p L t x d), .int .i64 (stepCost p L t x d), .bool (stepB p L t x d)])) := by
  refine rc_of_run mixed ok_impl_StepLevel (by simp) (go_start _ _ _ ?_)
  obtain ⟨u, rfl, hu⟩ := h.ro
  have hLr := hL.ro
  obtain ⟨hbd, idl, fl, rfl, hc⟩ := hL.ro
  have fin : ∀ (A : Mem), Ext m A → stepB p L t x d = false → newQ m (AnsV (.tuple #[.int .i64 (stepUp p L t x d), .int .i64 (stepTo p L t x d), .int .i64 (stepCost p L t x d), .bool (stepB p L t x d)])) (.tuple #[.int .i64 0, .int .i64 0, .int .i64 0, .bool false]) A := fun A hA e => ext_ansV3 hA (by unfold stepUp stepTo stepCost; rw [e]; rfl)
  simp (config := {implicitDefEqProofs := false, maxDischargeDepth := 20}) (disch := first | omega | (simp only [lenE]; done) | (simp only [lenE]; omega) | rfl | (simp only [lenE, markR_len]; done) | (simp only [lenE, markR_len]; omega)) only [runE, mapE, listE, initT_5, initT_6, initT_7, initT_8, resV, oneV, binA, unA, reduceCtorEq, Nat.reduceEqDiff, Nat.reduceAdd, Nat.reduceLT, Nat.reduceLeDiff, Nat.reduceMul, Nat.reduceSub, ↓reduceIte, decide_true, decide_false, Bool.true_eq_false, Bool.false_eq_true, Bool.not_true, Bool.not_false, if_true, if_false, and_true, true_and, memE, celE, w64, Nat.zero_add, Nat.add_zero, Nat.mul_one, putL, and_self, ldn, c_impl_StepLevel, r_impl_StepLevel]
  refine callH_rc (isPolicy_rc _ _ _ p L (ProcA.mk (hu.ext _)) (hLr.ext _)) ?_
  rintro r n1 ⟨rfl, nr1⟩
  have hX1 := ((Ext.refl m).one 26 [.int .i64 p.turns, u, .int .i64 p.setup, .int .i64 p.unit, .int .i64 p.hold, .int .i64 p.back]).app nr1
  cases b1 : (p.good && p.polB L) with
  | false =>
    simp (config := {implicitDefEqProofs := false, maxDischargeDepth := 20}) (disch := first | omega | (simp only [lenE]; done) | (simp only [lenE]; omega) | rfl | (simp only [lenE, markR_len]; done) | (simp only [lenE, markR_len]; omega)) only [runE, mapE, listE, initT_5, initT_6, initT_7, initT_8, resV, oneV, binA, unA, reduceCtorEq, Nat.reduceEqDiff, Nat.reduceAdd, Nat.reduceLT, Nat.reduceLeDiff, Nat.reduceMul, Nat.reduceSub, ↓reduceIte, decide_true, decide_false, Bool.true_eq_false, Bool.false_eq_true, Bool.not_true, Bool.not_false, if_true, if_false, and_true, true_and, memE, celE, w64, Nat.zero_add, Nat.add_zero, Nat.mul_one, putL, and_self, ldn]
    refine fin _ hX1 ?_
    rw [stepB_eq, b1]; rfl
  | true =>
  rw [Bool.and_eq_true] at b1
  simp (config := {implicitDefEqProofs := false, maxDischargeDepth := 20}) (disch := first | omega | (simp only [lenE]; done) | (simp only [lenE]; omega) | rfl | (simp only [lenE, markR_len]; done) | (simp only [lenE, markR_len]; omega)) only [runE, mapE, listE, initT_5, initT_6, initT_7, initT_8, resV, oneV, binA, unA, reduceCtorEq, Nat.reduceEqDiff, Nat.reduceAdd, Nat.reduceLT, Nat.reduceLeDiff, Nat.reduceMul, Nat.reduceSub, ↓reduceIte, decide_true, decide_false, Bool.true_eq_false, Bool.false_eq_true, Bool.not_true, Bool.not_false, if_true, if_false, and_true, true_and, memE, celE, w64, Nat.zero_add, Nat.add_zero, Nat.mul_one, putL, and_self, ldn]
  refine callH_rc (isTurn_rc _ _ p t (ProcA.mk ((hu.ext _).ext _))) ?_
  rintro r n2 ⟨rfl, nr2⟩
  have hX2 := hX1.app nr2
  cases b2 : turnB p t with
  | false =>
    simp (config := {implicitDefEqProofs := false, maxDischargeDepth := 20}) (disch := first | omega | (simp only [lenE]; done) | (simp only [lenE]; omega) | rfl | (simp only [lenE, markR_len]; done) | (simp only [lenE, markR_len]; omega)) only [runE, mapE, listE, initT_5, initT_6, initT_7, initT_8, resV, oneV, binA, unA, reduceCtorEq, Nat.reduceEqDiff, Nat.reduceAdd, Nat.reduceLT, Nat.reduceLeDiff, Nat.reduceMul, Nat.reduceSub, ↓reduceIte, decide_true, decide_false, Bool.true_eq_false, Bool.false_eq_true, Bool.not_true, Bool.not_false, if_true, if_false, and_true, true_and, memE, celE, w64, Nat.zero_add, Nat.add_zero, Nat.mul_one, putL, and_self, ldn]
    refine fin _ hX2 ?_
    simp [stepB, b2]
  | true =>
  simp (config := {implicitDefEqProofs := false, maxDischargeDepth := 20}) (disch := first | omega | (simp only [lenE]; done) | (simp only [lenE]; omega) | rfl | (simp only [lenE, markR_len]; done) | (simp only [lenE, markR_len]; omega)) only [runE, mapE, listE, initT_5, initT_6, initT_7, initT_8, resV, oneV, binA, unA, reduceCtorEq, Nat.reduceEqDiff, Nat.reduceAdd, Nat.reduceLT, Nat.reduceLeDiff, Nat.reduceMul, Nat.reduceSub, ↓reduceIte, decide_true, decide_false, Bool.true_eq_false, Bool.false_eq_true, Bool.not_true, Bool.not_false, if_true, if_false, and_true, true_and, memE, celE, w64, Nat.zero_add, Nat.add_zero, Nat.mul_one, putL, and_self, ldn]
  refine callH_rc (isLevel_rc _ x) ?_
  rintro r n0 ⟨rfl, rfl⟩
  rw [List.append_nil]
  cases b3 : levB x with
  | false =>
    simp (config := {implicitDefEqProofs := false, maxDischargeDepth := 20}) (disch := first | omega | (simp only [lenE]; done) | (simp only [lenE]; omega) | rfl | (simp only [lenE, markR_len]; done) | (simp only [lenE, markR_len]; omega)) only [runE, mapE, listE, initT_5, initT_6, initT_7, initT_8, resV, oneV, binA, unA, reduceCtorEq, Nat.reduceEqDiff, Nat.reduceAdd, Nat.reduceLT, Nat.reduceLeDiff, Nat.reduceMul, Nat.reduceSub, ↓reduceIte, decide_true, decide_false, Bool.true_eq_false, Bool.false_eq_true, Bool.not_true, Bool.not_false, if_true, if_false, and_true, true_and, memE, celE, w64, Nat.zero_add, Nat.add_zero, Nat.mul_one, putL, and_self, ldn]
    refine fin _ hX2 ?_
    simp [stepB, b3]
  | true =>
  have hG := goodP_iff.1 b1.1
  simp (config := {implicitDefEqProofs := false, maxDischargeDepth := 20}) (disch := first | omega | (simp only [lenE]; done) | (simp only [lenE]; omega) | rfl | (simp only [lenE, markR_len]; done) | (simp only [lenE, markR_len]; omega)) only [runE, mapE, listE, initT_5, initT_6, initT_7, initT_8, resV, oneV, binA, unA, reduceCtorEq, Nat.reduceEqDiff, Nat.reduceAdd, Nat.reduceLT, Nat.reduceLeDiff, Nat.reduceMul, Nat.reduceSub, ↓reduceIte, decide_true, decide_false, Bool.true_eq_false, Bool.false_eq_true, Bool.not_true, Bool.not_false, if_true, if_false, and_true, true_and, memE, celE, w64, Nat.zero_add, Nat.add_zero, Nat.mul_one, putL, and_self, ldn]
  refine callH_rc (isAsked_rc _ _ p d (ProcA.mk (((hu.ext _).ext _).ext _)) hG) ?_
  rintro r n3 ⟨rfl, nr3⟩
  have hX3 := hX2.app nr3
  cases b4 : askB p d with
  | false =>
    simp (config := {implicitDefEqProofs := false, maxDischargeDepth := 20}) (disch := first | omega | (simp only [lenE]; done) | (simp only [lenE]; omega) | rfl | (simp only [lenE, markR_len]; done) | (simp only [lenE, markR_len]; omega)) only [runE, mapE, listE, initT_5, initT_6, initT_7, initT_8, resV, oneV, binA, unA, reduceCtorEq, Nat.reduceEqDiff, Nat.reduceAdd, Nat.reduceLT, Nat.reduceLeDiff, Nat.reduceMul, Nat.reduceSub, ↓reduceIte, decide_true, decide_false, Bool.true_eq_false, Bool.false_eq_true, Bool.not_true, Bool.not_false, if_true, if_false, and_true, true_and, memE, celE, w64, Nat.zero_add, Nat.add_zero, Nat.mul_one, putL, and_self, ldn]
    refine fin _ hX3 ?_
    simp [stepB, b4]
  | true =>
  have hb : stepB p L t x d = true := by simp [stepB, b1.2, b2, b3, b4]
  have hpl := Pr.pol_len b1.2
  have b2' := b2
  simp only [turnB, Bool.and_eq_true, inZ, decide_eq_true_eq] at b2'
  have hxx : -10 ≤ x ∧ x ≤ 10 := by simpa only [levB, Bool.and_eq_true, decide_eq_true_eq] using b3
  have hd : 0 ≤ d ∧ d ≤ (p.w.length : Int) - 1 := by simp only [askB, Bool.and_eq_true, inZ, decide_eq_true_eq] at b4; exact b4.1
  have htl : t.toNat < L.length := by omega
  have htz : t = (t.toNat : Int) := by omega
  have hok := Pr.upOf_may (Pr.pol_at b1.2 htl) hxx
  obtain ⟨r1, r2⟩ := hc t.toNat htl
  have hidl := rdc_blk2 r1
  rw [roM_len] at hidl
  have hmay := hok.1
  have hfl := hG.floor
  have hlen := hG.len
  unfold stepUp stepTo stepCost
  rw [hb]
  simp only [if_true]
  obtain ⟨z, hz⟩ : ∃ z, z = p.upOf (L.getD t.toNat (0, 0)) x := ⟨_, rfl⟩
  have hlv := hmay.lv (d := d.toNat) (by omega)
  rw [show ((d.toNat : Nat) : Int) = d by omega] at hlv
  have hor := hG.ord (x := x) (y := p.upOf (L.getD t.toNat (0, 0)) x) (by omega) hmay.2
  have hke := hG.kept hlv
  have hm1 := hmay.1
  have hm2 := hmay.2
  have hm3 := hok.2
  simp (config := {implicitDefEqProofs := false, maxDischargeDepth := 20}) (disch := first | omega | (simp only [lenE]; done) | (simp only [lenE]; omega) | rfl | (simp only [lenE, markR_len]; done) | (simp only [lenE, markR_len]; omega)) only [runE, mapE, listE, initT_5, initT_6, initT_7, initT_8, resV, oneV, binA, unA, reduceCtorEq, Nat.reduceEqDiff, Nat.reduceAdd, Nat.reduceLT, Nat.reduceLeDiff, Nat.reduceMul, Nat.reduceSub, ↓reduceIte, decide_true, decide_false, Bool.true_eq_false, Bool.false_eq_true, Bool.not_true, Bool.not_false, if_true, if_false, and_true, true_and, memE, celE, w64, Nat.zero_add, Nat.add_zero, Nat.mul_one, putL, and_self, ldn, iadA_at (j := t.toNat) htz htl, r1, r2]
  refine rcallH_rc (policyOrder_rc _ _ p (L.getD t.toNat (0, 0)) x (ProcA.mk ((((hu.ext _).ext _).ext _).ext _)) hG.len.2) ?_
  rintro r n4 ⟨rfl, nr4⟩
  have hX4 := hX3.app nr4
  rw [← hz] at hlv hor hke hm1 hm2 hm3 ⊢
  simp (config := {implicitDefEqProofs := false, maxDischargeDepth := 20}) (disch := first | omega | (simp only [lenE]; done) | (simp only [lenE]; omega) | rfl | (simp only [lenE, markR_len]; done) | (simp only [lenE, markR_len]; omega)) only [runE, mapE, listE, initT_5, initT_6, initT_7, initT_8, resV, oneV, binA, unA, reduceCtorEq, Nat.reduceEqDiff, Nat.reduceAdd, Nat.reduceLT, Nat.reduceLeDiff, Nat.reduceMul, Nat.reduceSub, ↓reduceIte, decide_true, decide_false, Bool.true_eq_false, Bool.false_eq_true, Bool.not_true, Bool.not_false, if_true, if_false, and_true, true_and, memE, celE, w64, Nat.zero_add, Nat.add_zero, Nat.mul_one, putL, and_self, ldn]
  refine rcallH_rc (liftCost_rc _ _ p x _ (ProcA.mk (((((hu.ext _).ext _).ext _).ext _).ext _)) hG hxx (by omega) (by omega)) ?_
  rintro r n5 ⟨rfl, nr5⟩
  have hX5 := hX4.app nr5
  simp (config := {implicitDefEqProofs := false, maxDischargeDepth := 20}) (disch := first | omega | (simp only [lenE]; done) | (simp only [lenE]; omega) | rfl | (simp only [lenE, markR_len]; done) | (simp only [lenE, markR_len]; omega)) only [runE, mapE, listE, initT_5, initT_6, initT_7, initT_8, resV, oneV, binA, unA, reduceCtorEq, Nat.reduceEqDiff, Nat.reduceAdd, Nat.reduceLT, Nat.reduceLeDiff, Nat.reduceMul, Nat.reduceSub, ↓reduceIte, decide_true, decide_false, Bool.true_eq_false, Bool.false_eq_true, Bool.not_true, Bool.not_false, if_true, if_false, and_true, true_and, memE, celE, w64, Nat.zero_add, Nat.add_zero, Nat.mul_one, putL, and_self, ldn]
  refine rcallH_rc (levelCost_rc _ _ p (z - d) (ProcA.mk ((((((hu.ext _).ext _).ext _).ext _).ext _).ext _)) hG hlv) ?_
  rintro r n6 ⟨rfl, nr6⟩
  simp (config := {implicitDefEqProofs := false, maxDischargeDepth := 20}) (disch := first | omega | (simp only [lenE]; done) | (simp only [lenE]; omega) | rfl | (simp only [lenE, markR_len]; done) | (simp only [lenE, markR_len]; omega)) only [runE, mapE, listE, initT_5, initT_6, initT_7, initT_8, resV, oneV, binA, unA, reduceCtorEq, Nat.reduceEqDiff, Nat.reduceAdd, Nat.reduceLT, Nat.reduceLeDiff, Nat.reduceMul, Nat.reduceSub, ↓reduceIte, decide_true, decide_false, Bool.true_eq_false, Bool.false_eq_true, Bool.not_true, Bool.not_false, if_true, if_false, and_true, true_and, memE, celE, w64, Nat.zero_add, Nat.add_zero, Nat.mul_one, putL, and_self, ldn]
  exact ext_ansV2 (hX5.app nr6)
theorem specStep_rc (m : Mem) (v vl : Value) (p : Pr) (L : List (Int × Int)) (t x d : Int) (h : ProcA m v p) (hL : PairsA m vl L) : RC Try.prog 63 [v, vl, .int .i64 t, .int .i64 x, .int .i64 d] m (AnsV (.tuple #[.int .i64 (stepUp p L t x d), .int .i64 (stepTo p L t x d), .int .i64 (stepCost p L t x d), .bool (stepB p L t x d)])) := by
  refine rc_of_run mixed ok_spec_StepLevel (by simp) (go_start _ _ _ ?_)
  obtain ⟨u, rfl, hu⟩ := h.ro
  have hLr := hL.ro
  obtain ⟨hbd, idl, fl, rfl, hc⟩ := hL.ro
  have fin : ∀ (A : Mem), Ext m A → stepB p L t x d = false → newQ m (AnsV (.tuple #[.int .i64 (stepUp p L t x d), .int .i64 (stepTo p L t x d), .int .i64 (stepCost p L t x d), .bool (stepB p L t x d)])) (.tuple #[.int .i64 0, .int .i64 0, .int .i64 0, .bool false]) A := fun A hA e => ext_ansV3 hA (by unfold stepUp stepTo stepCost; rw [e]; rfl)
  simp (config := {implicitDefEqProofs := false, maxDischargeDepth := 20}) (disch := first | omega | (simp only [lenE]; done) | (simp only [lenE]; omega) | rfl | (simp only [lenE, markR_len]; done) | (simp only [lenE, markR_len]; omega)) only [runE, mapE, listE, initT_5, initT_6, initT_7, initT_8, resV, oneV, binA, unA, reduceCtorEq, Nat.reduceEqDiff, Nat.reduceAdd, Nat.reduceLT, Nat.reduceLeDiff, Nat.reduceMul, Nat.reduceSub, ↓reduceIte, decide_true, decide_false, Bool.true_eq_false, Bool.false_eq_true, Bool.not_true, Bool.not_false, if_true, if_false, and_true, true_and, memE, celE, w64, Nat.zero_add, Nat.add_zero, Nat.mul_one, putL, and_self, ldn, c_spec_StepLevel, r_spec_StepLevel]
  refine callH_rc (l6Turn_rc _ _ p t (ProcA.mk (hu.ext _))) ?_
  rintro r n1 ⟨rfl, nr1⟩
  have hX1 := ((Ext.refl m).one 26 [.int .i64 p.turns, u, .int .i64 p.setup, .int .i64 p.unit, .int .i64 p.hold, .int .i64 p.back]).app nr1
  cases b2 : turnB p t with
  | false =>
    simp (config := {implicitDefEqProofs := false, maxDischargeDepth := 20}) (disch := first | omega | (simp only [lenE]; done) | (simp only [lenE]; omega) | rfl | (simp only [lenE, markR_len]; done) | (simp only [lenE, markR_len]; omega)) only [runE, mapE, listE, initT_5, initT_6, initT_7, initT_8, resV, oneV, binA, unA, reduceCtorEq, Nat.reduceEqDiff, Nat.reduceAdd, Nat.reduceLT, Nat.reduceLeDiff, Nat.reduceMul, Nat.reduceSub, ↓reduceIte, decide_true, decide_false, Bool.true_eq_false, Bool.false_eq_true, Bool.not_true, Bool.not_false, if_true, if_false, and_true, true_and, memE, celE, w64, Nat.zero_add, Nat.add_zero, Nat.mul_one, putL, and_self, ldn]
    refine fin _ hX1 ?_
    simp [stepB, b2]
  | true =>
  have hG0 : p.good = true := by simp only [turnB, Bool.and_eq_true] at b2; exact b2.1
  simp (config := {implicitDefEqProofs := false, maxDischargeDepth := 20}) (disch := first | omega | (simp only [lenE]; done) | (simp only [lenE]; omega) | rfl | (simp only [lenE, markR_len]; done) | (simp only [lenE, markR_len]; omega)) only [runE, mapE, listE, initT_5, initT_6, initT_7, initT_8, resV, oneV, binA, unA, reduceCtorEq, Nat.reduceEqDiff, Nat.reduceAdd, Nat.reduceLT, Nat.reduceLeDiff, Nat.reduceMul, Nat.reduceSub, ↓reduceIte, decide_true, decide_false, Bool.true_eq_false, Bool.false_eq_true, Bool.not_true, Bool.not_false, if_true, if_false, and_true, true_and, memE, celE, w64, Nat.zero_add, Nat.add_zero, Nat.mul_one, putL, and_self, ldn]
  refine callH_rc (l6Policy_rc _ _ _ p L (ProcA.mk ((hu.ext _).ext _)) ((hLr.ext _).ext _) (goodP_iff.1 hG0)) ?_
  rintro r n2 ⟨rfl, nr2⟩
  have hX2 := hX1.app nr2
  cases b1' : p.polB L with
  | false =>
    simp (config := {implicitDefEqProofs := false, maxDischargeDepth := 20}) (disch := first | omega | (simp only [lenE]; done) | (simp only [lenE]; omega) | rfl | (simp only [lenE, markR_len]; done) | (simp only [lenE, markR_len]; omega)) only [runE, mapE, listE, initT_5, initT_6, initT_7, initT_8, resV, oneV, binA, unA, reduceCtorEq, Nat.reduceEqDiff, Nat.reduceAdd, Nat.reduceLT, Nat.reduceLeDiff, Nat.reduceMul, Nat.reduceSub, ↓reduceIte, decide_true, decide_false, Bool.true_eq_false, Bool.false_eq_true, Bool.not_true, Bool.not_false, if_true, if_false, and_true, true_and, memE, celE, w64, Nat.zero_add, Nat.add_zero, Nat.mul_one, putL, and_self, ldn]
    refine fin _ hX2 ?_
    simp [stepB, b1']
  | true =>
  have b1 : p.good = true ∧ p.polB L = true := ⟨hG0, b1'⟩
  simp (config := {implicitDefEqProofs := false, maxDischargeDepth := 20}) (disch := first | omega | (simp only [lenE]; done) | (simp only [lenE]; omega) | rfl | (simp only [lenE, markR_len]; done) | (simp only [lenE, markR_len]; omega)) only [runE, mapE, listE, initT_5, initT_6, initT_7, initT_8, resV, oneV, binA, unA, reduceCtorEq, Nat.reduceEqDiff, Nat.reduceAdd, Nat.reduceLT, Nat.reduceLeDiff, Nat.reduceMul, Nat.reduceSub, ↓reduceIte, decide_true, decide_false, Bool.true_eq_false, Bool.false_eq_true, Bool.not_true, Bool.not_false, if_true, if_false, and_true, true_and, memE, celE, w64, Nat.zero_add, Nat.add_zero, Nat.mul_one, putL, and_self, ldn]
  refine callH_rc (l6Level_rc _ x) ?_
  rintro r n0 ⟨rfl, rfl⟩
  rw [List.append_nil]
  cases b3 : levB x with
  | false =>
    simp (config := {implicitDefEqProofs := false, maxDischargeDepth := 20}) (disch := first | omega | (simp only [lenE]; done) | (simp only [lenE]; omega) | rfl | (simp only [lenE, markR_len]; done) | (simp only [lenE, markR_len]; omega)) only [runE, mapE, listE, initT_5, initT_6, initT_7, initT_8, resV, oneV, binA, unA, reduceCtorEq, Nat.reduceEqDiff, Nat.reduceAdd, Nat.reduceLT, Nat.reduceLeDiff, Nat.reduceMul, Nat.reduceSub, ↓reduceIte, decide_true, decide_false, Bool.true_eq_false, Bool.false_eq_true, Bool.not_true, Bool.not_false, if_true, if_false, and_true, true_and, memE, celE, w64, Nat.zero_add, Nat.add_zero, Nat.mul_one, putL, and_self, ldn]
    refine fin _ hX2 ?_
    simp [stepB, b3]
  | true =>
  have hG := goodP_iff.1 b1.1
  simp (config := {implicitDefEqProofs := false, maxDischargeDepth := 20}) (disch := first | omega | (simp only [lenE]; done) | (simp only [lenE]; omega) | rfl | (simp only [lenE, markR_len]; done) | (simp only [lenE, markR_len]; omega)) only [runE, mapE, listE, initT_5, initT_6, initT_7, initT_8, resV, oneV, binA, unA, reduceCtorEq, Nat.reduceEqDiff, Nat.reduceAdd, Nat.reduceLT, Nat.reduceLeDiff, Nat.reduceMul, Nat.reduceSub, ↓reduceIte, decide_true, decide_false, Bool.true_eq_false, Bool.false_eq_true, Bool.not_true, Bool.not_false, if_true, if_false, and_true, true_and, memE, celE, w64, Nat.zero_add, Nat.add_zero, Nat.mul_one, putL, and_self, ldn]
  refine callH_rc (l6Asked_rc _ _ p d (ProcA.mk (((hu.ext _).ext _).ext _)) hG) ?_
  rintro r n3 ⟨rfl, nr3⟩
  have hX3 := hX2.app nr3
  cases b4 : askB p d with
  | false =>
    simp (config := {implicitDefEqProofs := false, maxDischargeDepth := 20}) (disch := first | omega | (simp only [lenE]; done) | (simp only [lenE]; omega) | rfl | (simp only [lenE, markR_len]; done) | (simp only [lenE, markR_len]; omega)) only [runE, mapE, listE, initT_5, initT_6, initT_7, initT_8, resV, oneV, binA, unA, reduceCtorEq, Nat.reduceEqDiff, Nat.reduceAdd, Nat.reduceLT, Nat.reduceLeDiff, Nat.reduceMul, Nat.reduceSub, ↓reduceIte, decide_true, decide_false, Bool.true_eq_false, Bool.false_eq_true, Bool.not_true, Bool.not_false, if_true, if_false, and_true, true_and, memE, celE, w64, Nat.zero_add, Nat.add_zero, Nat.mul_one, putL, and_self, ldn]
    refine fin _ hX3 ?_
    simp [stepB, b4]
  | true =>
  have hb : stepB p L t x d = true := by simp [stepB, b1.2, b2, b3, b4]
  have hpl := Pr.pol_len b1.2
  have b2' := b2
  simp only [turnB, Bool.and_eq_true, inZ, decide_eq_true_eq] at b2'
  have hxx : -10 ≤ x ∧ x ≤ 10 := by simpa only [levB, Bool.and_eq_true, decide_eq_true_eq] using b3
  have hd : 0 ≤ d ∧ d ≤ (p.w.length : Int) - 1 := by simp only [askB, Bool.and_eq_true, inZ, decide_eq_true_eq] at b4; exact b4.1
  have htl : t.toNat < L.length := by omega
  have htz : t = (t.toNat : Int) := by omega
  have hok := Pr.upOf_may (Pr.pol_at b1.2 htl) hxx
  obtain ⟨r1, r2⟩ := hc t.toNat htl
  have hidl := rdc_blk2 r1
  rw [roM_len] at hidl
  have hmay := hok.1
  have hfl := hG.floor
  have hlen := hG.len
  unfold stepUp stepTo stepCost
  rw [hb]
  simp only [if_true]
  obtain ⟨z, hz⟩ : ∃ z, z = p.upOf (L.getD t.toNat (0, 0)) x := ⟨_, rfl⟩
  have hlv := hmay.lv (d := d.toNat) (by omega)
  rw [show ((d.toNat : Nat) : Int) = d by omega] at hlv
  have hor := hG.ord (x := x) (y := p.upOf (L.getD t.toNat (0, 0)) x) (by omega) hmay.2
  have hke := hG.kept hlv
  have hm1 := hmay.1
  have hm2 := hmay.2
  have hm3 := hok.2
  simp (config := {implicitDefEqProofs := false, maxDischargeDepth := 20}) (disch := first | omega | (simp only [lenE]; done) | (simp only [lenE]; omega) | rfl | (simp only [lenE, markR_len]; done) | (simp only [lenE, markR_len]; omega)) only [runE, mapE, listE, initT_5, initT_6, initT_7, initT_8, resV, oneV, binA, unA, reduceCtorEq, Nat.reduceEqDiff, Nat.reduceAdd, Nat.reduceLT, Nat.reduceLeDiff, Nat.reduceMul, Nat.reduceSub, ↓reduceIte, decide_true, decide_false, Bool.true_eq_false, Bool.false_eq_true, Bool.not_true, Bool.not_false, if_true, if_false, and_true, true_and, memE, celE, w64, Nat.zero_add, Nat.add_zero, Nat.mul_one, putL, and_self, ldn, iadA_at (j := t.toNat) htz htl, r1, r2]
  refine rcallH_rc (l6Up_rc _ _ p (L.getD t.toNat (0, 0)) x (ProcA.mk ((((hu.ext _).ext _).ext _).ext _)) hG) ?_
  rintro r n4 ⟨rfl, nr4⟩
  have hX4 := hX3.app nr4
  rw [← hz] at hlv hor hke hm1 hm2 hm3 ⊢
  simp (config := {implicitDefEqProofs := false, maxDischargeDepth := 20}) (disch := first | omega | (simp only [lenE]; done) | (simp only [lenE]; omega) | rfl | (simp only [lenE, markR_len]; done) | (simp only [lenE, markR_len]; omega)) only [runE, mapE, listE, initT_5, initT_6, initT_7, initT_8, resV, oneV, binA, unA, reduceCtorEq, Nat.reduceEqDiff, Nat.reduceAdd, Nat.reduceLT, Nat.reduceLeDiff, Nat.reduceMul, Nat.reduceSub, ↓reduceIte, decide_true, decide_false, Bool.true_eq_false, Bool.false_eq_true, Bool.not_true, Bool.not_false, if_true, if_false, and_true, true_and, memE, celE, w64, Nat.zero_add, Nat.add_zero, Nat.mul_one, putL, and_self, ldn]
  refine rcallH_rc (l6Order_rc _ _ p x _ (ProcA.mk (((((hu.ext _).ext _).ext _).ext _).ext _)) hG hxx (by omega)) ?_
  rintro r n5 ⟨rfl, nr5⟩
  have hX5 := hX4.app nr5
  simp (config := {implicitDefEqProofs := false, maxDischargeDepth := 20}) (disch := first | omega | (simp only [lenE]; done) | (simp only [lenE]; omega) | rfl | (simp only [lenE, markR_len]; done) | (simp only [lenE, markR_len]; omega)) only [runE, mapE, listE, initT_5, initT_6, initT_7, initT_8, resV, oneV, binA, unA, reduceCtorEq, Nat.reduceEqDiff, Nat.reduceAdd, Nat.reduceLT, Nat.reduceLeDiff, Nat.reduceMul, Nat.reduceSub, ↓reduceIte, decide_true, decide_false, Bool.true_eq_false, Bool.false_eq_true, Bool.not_true, Bool.not_false, if_true, if_false, and_true, true_and, memE, celE, w64, Nat.zero_add, Nat.add_zero, Nat.mul_one, putL, and_self, ldn]
  refine rcallH_rc (l6Kept_rc _ _ p (z - d) (ProcA.mk ((((((hu.ext _).ext _).ext _).ext _).ext _).ext _)) hG hlv) ?_
  rintro r n6 ⟨rfl, nr6⟩
  simp (config := {implicitDefEqProofs := false, maxDischargeDepth := 20}) (disch := first | omega | (simp only [lenE]; done) | (simp only [lenE]; omega) | rfl | (simp only [lenE, markR_len]; done) | (simp only [lenE, markR_len]; omega)) only [runE, mapE, listE, initT_5, initT_6, initT_7, initT_8, resV, oneV, binA, unA, reduceCtorEq, Nat.reduceEqDiff, Nat.reduceAdd, Nat.reduceLT, Nat.reduceLeDiff, Nat.reduceMul, Nat.reduceSub, ↓reduceIte, decide_true, decide_false, Bool.true_eq_false, Bool.false_eq_true, Bool.not_true, Bool.not_false, if_true, if_false, and_true, true_and, memE, celE, w64, Nat.zero_add, Nat.add_zero, Nat.mul_one, putL, and_self, ldn]
  exact ext_ansV2 (hX5.app nr6)
end Go.Proofs.Ytddnedngjijpoaa.Ab
