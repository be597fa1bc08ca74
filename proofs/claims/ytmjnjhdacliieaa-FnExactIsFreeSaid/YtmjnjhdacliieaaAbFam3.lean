/- BestFactors and BestBase. -/
import Derived.Test.YtmjnjhdacliieaaAbFam2
namespace Go.Proofs.Ytmjnjhdacliieaa.Ab
open Go Go.RowKit
set_option linter.unusedVariables false
set_option linter.unusedSimpArgs false
set_option maxRecDepth 10000

def facOk (L : List It) (base : Int) : Bool := famB L && inR 1 32 base
def facA (L : List It) (base : Int) : List Int := if facOk L base then chosenL L base else []
theorem int_noInts {m A : Mem} {f : Value → Value} {id : Nat} (hX : Ext m A) (hid : id = A.length) : newQ m (AnsO m (IntsO []) f) (f (.slice (some ⟨id, 0, none⟩) 0 1)) (A ++ [⟨.own, 3, []⟩]) := by
  subst hid
  refine ext_ansO (hX.one _ _) fun M' hM => ⟨by decide, A.length, 1, rfl, hX.len, by simp, ?_⟩
  exact (OwnR.here A [] A.length rfl).at_ (hM _ hX.len (by simp))

theorem specBestFactors_rc (m : Mem) (v : Value) (L : List It) (base : Int) (h : ItemsA m v L) :
    RC Try.prog 36 [v, .int .i64 base] m (AnsO m (IntsO (facA L base)) fun v => .tuple #[v, .bool (facOk L base)]) := by
  refine rc_of_run mixed ok_spec_BestFactors (by simp) (go_start _ _ _ ?_)
  unfold facA facOk
  have hX := Ext.refl m
  simp (config := {implicitDefEqProofs := false, maxDischargeDepth := 20}) (disch := first | omega | (simp only [lenE]; done) | (simp only [lenE]; omega) | rfl | (simp only [lenE, markR_len]; done) | (simp only [lenE, markR_len]; omega)) only [runE, mapE, listE, initT_5, initT_6, initT_7, initT_8, resV, oneV, binA, unA, reduceCtorEq, Nat.reduceEqDiff, Nat.reduceAdd, Nat.reduceLT, Nat.reduceLeDiff, Nat.reduceMul, Nat.reduceSub, ↓reduceIte, decide_true, decide_false, Bool.true_eq_false, Bool.false_eq_true, Bool.not_true, Bool.not_false, if_true, if_false, and_true, true_and, memE, celE, w64, Nat.zero_add, Nat.add_zero, Nat.mul_one, putL, and_self, ldn, c_spec_BestFactors, r_spec_BestFactors]
  refine callH_rc (l8Family_rc _ v L ((Sees.ext hX).items h)) ?_
  rintro r new0 ⟨rfl, nr0⟩
  have hX := hX.app nr0
  cases g1 : famB L with
  | false =>
    simp (config := {implicitDefEqProofs := false, maxDischargeDepth := 20}) (disch := first | omega | (simp only [lenE]; done) | (simp only [lenE]; omega) | rfl | (simp only [lenE, markR_len]; done) | (simp only [lenE, markR_len]; omega)) only [runE, mapE, listE, initT_5, initT_6, initT_7, initT_8, resV, oneV, binA, unA, reduceCtorEq, Nat.reduceEqDiff, Nat.reduceAdd, Nat.reduceLT, Nat.reduceLeDiff, Nat.reduceMul, Nat.reduceSub, ↓reduceIte, decide_true, decide_false, Bool.true_eq_false, Bool.false_eq_true, Bool.not_true, Bool.not_false, if_true, if_false, and_true, true_and, memE, celE, w64, Nat.zero_add, Nat.add_zero, Nat.mul_one, putL, and_self, ldn, bsl_no, Bool.false_and, Bool.true_and, Bool.and_true, Bool.and_false, Bool.and_self]
    exact int_noInts (f := fun v => .tuple #[v, .bool false]) hX (by simp [roM_len])
  | true =>
  have hF := goodF_iff.1 g1
  simp (config := {implicitDefEqProofs := false, maxDischargeDepth := 20}) (disch := first | omega | (simp only [lenE]; done) | (simp only [lenE]; omega) | rfl | (simp only [lenE, markR_len]; done) | (simp only [lenE, markR_len]; omega)) only [runE, mapE, listE, initT_5, initT_6, initT_7, initT_8, resV, oneV, binA, unA, reduceCtorEq, Nat.reduceEqDiff, Nat.reduceAdd, Nat.reduceLT, Nat.reduceLeDiff, Nat.reduceMul, Nat.reduceSub, ↓reduceIte, decide_true, decide_false, Bool.true_eq_false, Bool.false_eq_true, Bool.not_true, Bool.not_false, if_true, if_false, and_true, true_and, memE, celE, w64, Nat.zero_add, Nat.add_zero, Nat.mul_one, putL, and_self, ldn]
  refine callH_rc (l1In_rc _ _ _ _) ?_
  rintro r new1 ⟨rfl, rfl⟩
  rw [List.append_nil]
  rw [show (decide (1 ≤ base) && decide (base ≤ 32)) = inR 1 32 base from rfl]
  cases g2 : inR 1 32 base with
  | false =>
    simp (config := {implicitDefEqProofs := false, maxDischargeDepth := 20}) (disch := first | omega | (simp only [lenE]; done) | (simp only [lenE]; omega) | rfl | (simp only [lenE, markR_len]; done) | (simp only [lenE, markR_len]; omega)) only [runE, mapE, listE, initT_5, initT_6, initT_7, initT_8, resV, oneV, binA, unA, reduceCtorEq, Nat.reduceEqDiff, Nat.reduceAdd, Nat.reduceLT, Nat.reduceLeDiff, Nat.reduceMul, Nat.reduceSub, ↓reduceIte, decide_true, decide_false, Bool.true_eq_false, Bool.false_eq_true, Bool.not_true, Bool.not_false, if_true, if_false, and_true, true_and, memE, celE, w64, Nat.zero_add, Nat.add_zero, Nat.mul_one, putL, and_self, ldn, bsl_no, Bool.false_and, Bool.true_and, Bool.and_true, Bool.and_false, Bool.and_self]
    exact int_noInts (f := fun v => .tuple #[v, .bool false]) hX (by simp [roM_len])
  | true =>
  have hb := inR_iff.1 g2
  simp (config := {implicitDefEqProofs := false, maxDischargeDepth := 20}) (disch := first | omega | (simp only [lenE]; done) | (simp only [lenE]; omega) | rfl | (simp only [lenE, markR_len]; done) | (simp only [lenE, markR_len]; omega)) only [runE, mapE, listE, initT_5, initT_6, initT_7, initT_8, resV, oneV, binA, unA, reduceCtorEq, Nat.reduceEqDiff, Nat.reduceAdd, Nat.reduceLT, Nat.reduceLeDiff, Nat.reduceMul, Nat.reduceSub, ↓reduceIte, decide_true, decide_false, Bool.true_eq_false, Bool.false_eq_true, Bool.not_true, Bool.not_false, if_true, if_false, and_true, true_and, memE, celE, w64, Nat.zero_add, Nat.add_zero, Nat.mul_one, putL, and_self, ldn]
  refine callH_rc (l8Chosen_rc _ v L base ((Sees.ext hX).items h) hF hb) ?_
  rintro r new2 ⟨nr2, w, rfl, hA⟩
  simp (config := {implicitDefEqProofs := false, maxDischargeDepth := 20}) (disch := first | omega | (simp only [lenE]; done) | (simp only [lenE]; omega) | rfl | (simp only [lenE, markR_len]; done) | (simp only [lenE, markR_len]; omega)) only [runE, mapE, listE, initT_5, initT_6, initT_7, initT_8, resV, oneV, binA, unA, reduceCtorEq, Nat.reduceEqDiff, Nat.reduceAdd, Nat.reduceLT, Nat.reduceLeDiff, Nat.reduceMul, Nat.reduceSub, ↓reduceIte, decide_true, decide_false, Bool.true_eq_false, Bool.false_eq_true, Bool.not_true, Bool.not_false, if_true, if_false, and_true, true_and, memE, celE, w64, Nat.zero_add, Nat.add_zero, Nat.mul_one, putL, and_self, ldn, id_eq, Bool.false_and, Bool.true_and, Bool.and_true, Bool.and_false, Bool.and_self]
  exact Ext.pass (f := fun v => .tuple #[v, .bool true]) hX nr2 (IntsO.wide _) hA

theorem implBestFactors_rc (m : Mem) (v : Value) (L : List It) (base : Int) (h : ItemsA m v L) :
    RC Try.prog 37 [v, .int .i64 base] m (AnsO m (IntsO (facA L base)) fun v => .tuple #[v, .bool (facOk L base)]) := by
  refine rc_of_run mixed ok_impl_BestFactors (by simp) (go_start _ _ _ ?_)
  unfold facA facOk
  have hX := Ext.refl m
  simp (config := {implicitDefEqProofs := false, maxDischargeDepth := 20}) (disch := first | omega | (simp only [lenE]; done) | (simp only [lenE]; omega) | rfl | (simp only [lenE, markR_len]; done) | (simp only [lenE, markR_len]; omega)) only [runE, mapE, listE, initT_5, initT_6, initT_7, initT_8, resV, oneV, binA, unA, reduceCtorEq, Nat.reduceEqDiff, Nat.reduceAdd, Nat.reduceLT, Nat.reduceLeDiff, Nat.reduceMul, Nat.reduceSub, ↓reduceIte, decide_true, decide_false, Bool.true_eq_false, Bool.false_eq_true, Bool.not_true, Bool.not_false, if_true, if_false, and_true, true_and, memE, celE, w64, Nat.zero_add, Nat.add_zero, Nat.mul_one, putL, and_self, ldn, c_impl_BestFactors, r_impl_BestFactors]
  refine callH_rc (isFamily_rc _ v L ((Sees.ext hX).items h)) ?_
  rintro r new0 ⟨rfl, nr0⟩
  have hX := hX.app nr0
  cases g1 : famB L with
  | false =>
    simp (config := {implicitDefEqProofs := false, maxDischargeDepth := 20}) (disch := first | omega | (simp only [lenE]; done) | (simp only [lenE]; omega) | rfl | (simp only [lenE, markR_len]; done) | (simp only [lenE, markR_len]; omega)) only [runE, mapE, listE, initT_5, initT_6, initT_7, initT_8, resV, oneV, binA, unA, reduceCtorEq, Nat.reduceEqDiff, Nat.reduceAdd, Nat.reduceLT, Nat.reduceLeDiff, Nat.reduceMul, Nat.reduceSub, ↓reduceIte, decide_true, decide_false, Bool.true_eq_false, Bool.false_eq_true, Bool.not_true, Bool.not_false, if_true, if_false, and_true, true_and, memE, celE, w64, Nat.zero_add, Nat.add_zero, Nat.mul_one, putL, and_self, ldn, bsl_no, Bool.false_and, Bool.true_and, Bool.and_true, Bool.and_false, Bool.and_self]
    exact int_noInts (f := fun v => .tuple #[v, .bool false]) hX (by simp [roM_len])
  | true =>
  have hF := goodF_iff.1 g1
  simp (config := {implicitDefEqProofs := false, maxDischargeDepth := 20}) (disch := first | omega | (simp only [lenE]; done) | (simp only [lenE]; omega) | rfl | (simp only [lenE, markR_len]; done) | (simp only [lenE, markR_len]; omega)) only [runE, mapE, listE, initT_5, initT_6, initT_7, initT_8, resV, oneV, binA, unA, reduceCtorEq, Nat.reduceEqDiff, Nat.reduceAdd, Nat.reduceLT, Nat.reduceLeDiff, Nat.reduceMul, Nat.reduceSub, ↓reduceIte, decide_true, decide_false, Bool.true_eq_false, Bool.false_eq_true, Bool.not_true, Bool.not_false, if_true, if_false, and_true, true_and, memE, celE, w64, Nat.zero_add, Nat.add_zero, Nat.mul_one, putL, and_self, ldn]
  refine callH_rc (isCount_rc _ _ _) ?_
  rintro r new1 ⟨rfl, rfl⟩
  rw [List.append_nil]
  cases g2 : inR 1 32 base with
  | false =>
    simp (config := {implicitDefEqProofs := false, maxDischargeDepth := 20}) (disch := first | omega | (simp only [lenE]; done) | (simp only [lenE]; omega) | rfl | (simp only [lenE, markR_len]; done) | (simp only [lenE, markR_len]; omega)) only [runE, mapE, listE, initT_5, initT_6, initT_7, initT_8, resV, oneV, binA, unA, reduceCtorEq, Nat.reduceEqDiff, Nat.reduceAdd, Nat.reduceLT, Nat.reduceLeDiff, Nat.reduceMul, Nat.reduceSub, ↓reduceIte, decide_true, decide_false, Bool.true_eq_false, Bool.false_eq_true, Bool.not_true, Bool.not_false, if_true, if_false, and_true, true_and, memE, celE, w64, Nat.zero_add, Nat.add_zero, Nat.mul_one, putL, and_self, ldn, bsl_no, Bool.false_and, Bool.true_and, Bool.and_true, Bool.and_false, Bool.and_self]
    exact int_noInts (f := fun v => .tuple #[v, .bool false]) hX (by simp [roM_len])
  | true =>
  have hb := inR_iff.1 g2
  simp (config := {implicitDefEqProofs := false, maxDischargeDepth := 20}) (disch := first | omega | (simp only [lenE]; done) | (simp only [lenE]; omega) | rfl | (simp only [lenE, markR_len]; done) | (simp only [lenE, markR_len]; omega)) only [runE, mapE, listE, initT_5, initT_6, initT_7, initT_8, resV, oneV, binA, unA, reduceCtorEq, Nat.reduceEqDiff, Nat.reduceAdd, Nat.reduceLT, Nat.reduceLeDiff, Nat.reduceMul, Nat.reduceSub, ↓reduceIte, decide_true, decide_false, Bool.true_eq_false, Bool.false_eq_true, Bool.not_true, Bool.not_false, if_true, if_false, and_true, true_and, memE, celE, w64, Nat.zero_add, Nat.add_zero, Nat.mul_one, putL, and_self, ldn]
  refine callH_rc (bestFactors_rc _ v L base ((Sees.ext hX).items h) hF hb) ?_
  rintro r new2 ⟨nr2, w, rfl, hA⟩
  simp (config := {implicitDefEqProofs := false, maxDischargeDepth := 20}) (disch := first | omega | (simp only [lenE]; done) | (simp only [lenE]; omega) | rfl | (simp only [lenE, markR_len]; done) | (simp only [lenE, markR_len]; omega)) only [runE, mapE, listE, initT_5, initT_6, initT_7, initT_8, resV, oneV, binA, unA, reduceCtorEq, Nat.reduceEqDiff, Nat.reduceAdd, Nat.reduceLT, Nat.reduceLeDiff, Nat.reduceMul, Nat.reduceSub, ↓reduceIte, decide_true, decide_false, Bool.true_eq_false, Bool.false_eq_true, Bool.not_true, Bool.not_false, if_true, if_false, and_true, true_and, memE, celE, w64, Nat.zero_add, Nat.add_zero, Nat.mul_one, putL, and_self, ldn, id_eq, Bool.false_and, Bool.true_and, Bool.and_true, Bool.and_false, Bool.and_self]
  exact Ext.pass (f := fun v => .tuple #[v, .bool true]) hX nr2 (IntsO.wide _) hA

/-- The joint cost of a base with its best factors. -/
def baseCost (L : List It) (joint c : Int) : Int × Int := jointF L joint c (chosenL L c)
theorem base_bds {L : List It} (hF : GoodF L) {joint c : Int} (hj : 0 ≤ joint ∧ joint ≤ 99) (hc : 1 ≤ c ∧ c ≤ 32) : 0 ≤ (baseCost L joint c).1 ∧ 0 < (baseCost L joint c).2 ∧ (baseCost L joint c).1 ≤ 15311654400 ∧ (baseCost L joint c).2 ≤ 53760 := by
  have h1 := joint_bd hF hj hc (chosen_good L c) L.length (Nat.le_refl _)
  have hl := hF.len
  have d := h1.den (by omega)
  have le := h1.le
  have := h1.nn
  have := h1.pos
  change 0 ≤ (jointTo L joint c (chosenL L c) L.length).1 ∧ 0 < (jointTo L joint c (chosenL L c) L.length).2 ∧ (jointTo L joint c (chosenL L c) L.length).1 ≤ 15311654400 ∧ (jointTo L joint c (chosenL L c) L.length).2 ≤ 53760
  generalize jointTo L joint c (chosenL L c) L.length = p at *
  have := mul_le2 (a := 99 + 46179 * (L.length : Int)) (x := p.2) (A := 184815) (B := 53760) (by omega) (by omega)
  omega
theorem base_fit {L : List It} (hF : GoodF L) {joint c : Int} (hj : 0 ≤ joint ∧ joint ≤ 99) (hc : 1 ≤ c ∧ c ≤ 32) : Fit (baseCost L joint c) := by
  have := base_bds hF hj hc
  exact ⟨by omega, by omega, by omega, by omega⟩
theorem base_mul {L : List It} (hF : GoodF L) {joint a b : Int} (hj : 0 ≤ joint ∧ joint ≤ 99) (ha : 1 ≤ a ∧ a ≤ 32) (hb : 1 ≤ b ∧ b ≤ 32) : 0 ≤ (baseCost L joint a).1 * (baseCost L joint b).2 ∧ (baseCost L joint a).1 * (baseCost L joint b).2 ≤ 9223372036854775807 := by
  have h1 := base_bds hF hj ha
  have h2 := base_bds hF hj hb
  have := mul_le2 (a := (baseCost L joint a).1) (x := (baseCost L joint b).2) (A := 15311654400) (B := 53760) (by omega) (by omega)
  omega
def baseOk (L : List It) (joint : Int) : Bool := famB L && inR 0 99 joint
def baseN (L : List It) (joint : Int) : Int := if baseOk L joint then bestBase L joint else 0
def baseA (L : List It) (joint : Int) : List Int := if baseOk L joint then chosenL L (bestBase L joint) else []
theorem bestBase_in (L : List It) (joint : Int) : 1 ≤ bestBase L joint ∧ bestBase L joint ≤ 32 := by
  rcases bestIn_mem (baseLt L joint) (upFrom 2 31) 1 with h | h
  · unfold bestBase; rw [h]; decide
  · have := upFrom_mem.1 h; unfold bestBase; omega
theorem specBestBase_rc (m : Mem) (v : Value) (L : List It) (joint : Int) (h : ItemsA m v L) :
    RC Try.prog 41 [v, .int .i64 joint] m (AnsO m (IntsO (baseA L joint)) fun v => .tuple #[.int .i64 (baseN L joint), v, .bool (baseOk L joint)]) := by
  refine rc_of_run mixed ok_spec_BestBase (by simp) (go_start _ _ _ ?_)
  unfold baseA baseN baseOk
  have hX := Ext.refl m
  simp (config := {implicitDefEqProofs := false, maxDischargeDepth := 20}) (disch := first | omega | (simp only [lenE]; done) | (simp only [lenE]; omega) | rfl | (simp only [lenE, markR_len]; done) | (simp only [lenE, markR_len]; omega)) only [runE, mapE, listE, initT_5, initT_6, initT_7, initT_8, resV, oneV, binA, unA, reduceCtorEq, Nat.reduceEqDiff, Nat.reduceAdd, Nat.reduceLT, Nat.reduceLeDiff, Nat.reduceMul, Nat.reduceSub, ↓reduceIte, decide_true, decide_false, Bool.true_eq_false, Bool.false_eq_true, Bool.not_true, Bool.not_false, if_true, if_false, and_true, true_and, memE, celE, w64, Nat.zero_add, Nat.add_zero, Nat.mul_one, putL, and_self, ldn, c_spec_BestBase, r_spec_BestBase]
  refine callH_rc (l8Family_rc _ v L ((Sees.ext hX).items h)) ?_
  rintro r new0 ⟨rfl, nr0⟩
  have hX := hX.app nr0
  cases g1 : famB L with
  | false =>
    simp (config := {implicitDefEqProofs := false, maxDischargeDepth := 20}) (disch := first | omega | (simp only [lenE]; done) | (simp only [lenE]; omega) | rfl | (simp only [lenE, markR_len]; done) | (simp only [lenE, markR_len]; omega)) only [runE, mapE, listE, initT_5, initT_6, initT_7, initT_8, resV, oneV, binA, unA, reduceCtorEq, Nat.reduceEqDiff, Nat.reduceAdd, Nat.reduceLT, Nat.reduceLeDiff, Nat.reduceMul, Nat.reduceSub, ↓reduceIte, decide_true, decide_false, Bool.true_eq_false, Bool.false_eq_true, Bool.not_true, Bool.not_false, if_true, if_false, and_true, true_and, memE, celE, w64, Nat.zero_add, Nat.add_zero, Nat.mul_one, putL, and_self, ldn, bsl_no, Bool.false_and, Bool.true_and, Bool.and_true, Bool.and_false, Bool.and_self]
    exact int_noInts (f := fun v => .tuple #[.int .i64 0, v, .bool false]) hX (by simp [roM_len])
  | true =>
  have hF := goodF_iff.1 g1
  simp (config := {implicitDefEqProofs := false, maxDischargeDepth := 20}) (disch := first | omega | (simp only [lenE]; done) | (simp only [lenE]; omega) | rfl | (simp only [lenE, markR_len]; done) | (simp only [lenE, markR_len]; omega)) only [runE, mapE, listE, initT_5, initT_6, initT_7, initT_8, resV, oneV, binA, unA, reduceCtorEq, Nat.reduceEqDiff, Nat.reduceAdd, Nat.reduceLT, Nat.reduceLeDiff, Nat.reduceMul, Nat.reduceSub, ↓reduceIte, decide_true, decide_false, Bool.true_eq_false, Bool.false_eq_true, Bool.not_true, Bool.not_false, if_true, if_false, and_true, true_and, memE, celE, w64, Nat.zero_add, Nat.add_zero, Nat.mul_one, putL, and_self, ldn]
  refine callH_rc (l1In_rc _ _ _ _) ?_
  rintro r new1 ⟨rfl, rfl⟩
  rw [List.append_nil, show (decide (0 ≤ joint) && decide (joint ≤ 99)) = inR 0 99 joint from rfl]
  cases g2 : inR 0 99 joint with
  | false =>
    simp (config := {implicitDefEqProofs := false, maxDischargeDepth := 20}) (disch := first | omega | (simp only [lenE]; done) | (simp only [lenE]; omega) | rfl | (simp only [lenE, markR_len]; done) | (simp only [lenE, markR_len]; omega)) only [runE, mapE, listE, initT_5, initT_6, initT_7, initT_8, resV, oneV, binA, unA, reduceCtorEq, Nat.reduceEqDiff, Nat.reduceAdd, Nat.reduceLT, Nat.reduceLeDiff, Nat.reduceMul, Nat.reduceSub, ↓reduceIte, decide_true, decide_false, Bool.true_eq_false, Bool.false_eq_true, Bool.not_true, Bool.not_false, if_true, if_false, and_true, true_and, memE, celE, w64, Nat.zero_add, Nat.add_zero, Nat.mul_one, putL, and_self, ldn, bsl_no, Bool.false_and, Bool.true_and, Bool.and_true, Bool.and_false, Bool.and_self]
    exact int_noInts (f := fun v => .tuple #[.int .i64 0, v, .bool false]) hX (by simp [roM_len])
  | true =>
  have hj := inR_iff.1 g2
  have hbi := bestBase_in L joint
  simp (config := {implicitDefEqProofs := false, maxDischargeDepth := 20}) (disch := first | omega | (simp only [lenE]; done) | (simp only [lenE]; omega) | rfl | (simp only [lenE, markR_len]; done) | (simp only [lenE, markR_len]; omega)) only [runE, mapE, listE, initT_5, initT_6, initT_7, initT_8, resV, oneV, binA, unA, reduceCtorEq, Nat.reduceEqDiff, Nat.reduceAdd, Nat.reduceLT, Nat.reduceLeDiff, Nat.reduceMul, Nat.reduceSub, ↓reduceIte, decide_true, decide_false, Bool.true_eq_false, Bool.false_eq_true, Bool.not_true, Bool.not_false, if_true, if_false, and_true, true_and, memE, celE, w64, Nat.zero_add, Nat.add_zero, Nat.mul_one, putL, and_self, ldn, Bool.false_and, Bool.true_and, Bool.and_true, Bool.and_false, Bool.and_self, if_true]
  obtain ⟨want, hw⟩ : ∃ want, want = bestBase L joint := ⟨_, rfl⟩
  rw [← hw] at hbi ⊢
  unfold bestBase at hw
  refine loop_inv mixed (fun s => ∃ (k : Nat) (b : Int) (M : Mem), k ≤ 31 ∧ (1 ≤ b ∧ b ≤ 32) ∧ want = bestIn (baseLt L joint) (upFrom (2 + k) (31 - k)) b ∧ s.m = M ∧ Ext m M ∧ s.t 0 = v ∧ s.t 1 = .int .i64 joint ∧ s.t 7 = .int .i64 b ∧ s.t 8 = .int .i64 (2 + (k : Int))) (fun s => 33 - (intOf (s.t 8)).toNat)
    ⟨0, 1, _, by omega, by omega, hw, rfl, hX, rfl, rfl, rfl, rfl⟩ ?_
  rintro s ⟨k, b, M, hk, hb, hwant, tm, hX, t0, t1, t7, t8⟩
  have hM := (Sees.ext hX).items h
  by_cases hk6 : k < 31
  · have hle : (2 + (k : Int)) ≤ 32 := by omega
    simp (config := {implicitDefEqProofs := false, maxDischargeDepth := 20}) (disch := first | omega | (simp only [lenE]; done) | (simp only [lenE]; omega) | rfl | (simp only [lenE, markR_len]; done) | (simp only [lenE, markR_len]; omega)) only [runE, mapE, listE, initT_5, initT_6, initT_7, initT_8, resV, oneV, binA, unA, reduceCtorEq, Nat.reduceEqDiff, Nat.reduceAdd, Nat.reduceLT, Nat.reduceLeDiff, Nat.reduceMul, Nat.reduceSub, ↓reduceIte, decide_true, decide_false, Bool.true_eq_false, Bool.false_eq_true, Bool.not_true, Bool.not_false, if_true, if_false, and_true, true_and, memE, celE, w64, Nat.zero_add, Nat.add_zero, Nat.mul_one, putL, and_self, ldn, tm, t0, t1, t7, t8, hle]
    refine callH_rc (l8Chosen_rc _ v L (2 + (k : Int)) hM hF (by omega)) ?_
    rintro w1 new1 ⟨nr1, _, rfl, hA1⟩
    have hX1 := hX.app nr1
    simp (config := {implicitDefEqProofs := false, maxDischargeDepth := 20}) (disch := first | omega | (simp only [lenE]; done) | (simp only [lenE]; omega) | rfl | (simp only [lenE, markR_len]; done) | (simp only [lenE, markR_len]; omega)) only [runE, mapE, listE, initT_5, initT_6, initT_7, initT_8, resV, oneV, binA, unA, reduceCtorEq, Nat.reduceEqDiff, Nat.reduceAdd, Nat.reduceLT, Nat.reduceLeDiff, Nat.reduceMul, Nat.reduceSub, ↓reduceIte, decide_true, decide_false, Bool.true_eq_false, Bool.false_eq_true, Bool.not_true, Bool.not_false, if_true, if_false, and_true, true_and, memE, celE, w64, Nat.zero_add, Nat.add_zero, Nat.mul_one, putL, and_self, ldn, tm, t0, t1, t7, t8, id_eq]
    refine callH_rc (specJoint_rc _ v w1 L joint (2 + (k : Int)) (chosenL L (2 + (k : Int))) ((Sees.ext hX1).items h) hA1.now.in hF hj (by omega) (chosen_good L _)) ?_
    rintro r new2 ⟨rfl, nr2⟩
    have hX2 := hX1.app nr2
    simp (config := {implicitDefEqProofs := false, maxDischargeDepth := 20}) (disch := first | omega | (simp only [lenE]; done) | (simp only [lenE]; omega) | rfl | (simp only [lenE, markR_len]; done) | (simp only [lenE, markR_len]; omega)) only [runE, mapE, listE, initT_5, initT_6, initT_7, initT_8, resV, oneV, binA, unA, reduceCtorEq, Nat.reduceEqDiff, Nat.reduceAdd, Nat.reduceLT, Nat.reduceLeDiff, Nat.reduceMul, Nat.reduceSub, ↓reduceIte, decide_true, decide_false, Bool.true_eq_false, Bool.false_eq_true, Bool.not_true, Bool.not_false, if_true, if_false, and_true, true_and, memE, celE, w64, Nat.zero_add, Nat.add_zero, Nat.mul_one, putL, and_self, ldn, tm, t0, t1, t7, t8]
    refine callH_rc (l8Chosen_rc _ v L b ((Sees.ext hX2).items h) hF hb) ?_
    rintro w3 new3 ⟨nr3, _, rfl, hA3⟩
    have hX3 := hX2.app nr3
    simp (config := {implicitDefEqProofs := false, maxDischargeDepth := 20}) (disch := first | omega | (simp only [lenE]; done) | (simp only [lenE]; omega) | rfl | (simp only [lenE, markR_len]; done) | (simp only [lenE, markR_len]; omega)) only [runE, mapE, listE, initT_5, initT_6, initT_7, initT_8, resV, oneV, binA, unA, reduceCtorEq, Nat.reduceEqDiff, Nat.reduceAdd, Nat.reduceLT, Nat.reduceLeDiff, Nat.reduceMul, Nat.reduceSub, ↓reduceIte, decide_true, decide_false, Bool.true_eq_false, Bool.false_eq_true, Bool.not_true, Bool.not_false, if_true, if_false, and_true, true_and, memE, celE, w64, Nat.zero_add, Nat.add_zero, Nat.mul_one, putL, and_self, ldn, tm, t0, t1, t7, t8, id_eq]
    refine callH_rc (specJoint_rc _ v w3 L joint b (chosenL L b) ((Sees.ext hX3).items h) hA3.now.in hF hj hb (chosen_good L _)) ?_
    rintro r new4 ⟨rfl, nr4⟩
    have hX4 := hX3.app nr4
    simp (config := {implicitDefEqProofs := false, maxDischargeDepth := 20}) (disch := first | omega | (simp only [lenE]; done) | (simp only [lenE]; omega) | rfl | (simp only [lenE, markR_len]; done) | (simp only [lenE, markR_len]; omega)) only [runE, mapE, listE, initT_5, initT_6, initT_7, initT_8, resV, oneV, binA, unA, reduceCtorEq, Nat.reduceEqDiff, Nat.reduceAdd, Nat.reduceLT, Nat.reduceLeDiff, Nat.reduceMul, Nat.reduceSub, ↓reduceIte, decide_true, decide_false, Bool.true_eq_false, Bool.false_eq_true, Bool.not_true, Bool.not_false, if_true, if_false, and_true, true_and, memE, celE, w64, Nat.zero_add, Nat.add_zero, Nat.mul_one, putL, and_self, ldn, tm, t0, t1, t7, t8]
    refine callH_rc (specLess_rc _ (baseCost L joint (2 + (k : Int))) (baseCost L joint b) (base_mul hF hj (by omega) hb) (base_mul hF hj hb (by omega))) ?_
    rintro r new5 ⟨rfl, nr5⟩
    have hX5 := hX4.app nr5
    have e0 : (2 + (k : Int)) + 1 = 2 + ((k + 1 : Nat) : Int) := by push_cast; omega
    have e1 : upFrom (2 + (k : Int)) (31 - k) = (2 + (k : Int)) :: upFrom (2 + ((k + 1 : Nat) : Int)) (31 - (k + 1)) := by
      rw [show 31 - k = (31 - (k + 1)) + 1 by omega, upFrom, e0]
    rw [e1] at hwant
    simp only [bestIn] at hwant
    rw [show baseLt L joint (2 + (k : Int)) b = lessF (baseCost L joint (2 + (k : Int))) (baseCost L joint b) from rfl] at hwant
    cases hls : lessF (baseCost L joint (2 + (k : Int))) (baseCost L joint b) with
    | true =>
      rw [hls] at hwant
      simp (config := {implicitDefEqProofs := false, maxDischargeDepth := 20}) (disch := first | omega | (simp only [lenE]; done) | (simp only [lenE]; omega) | rfl | (simp only [lenE, markR_len]; done) | (simp only [lenE, markR_len]; omega)) only [runE, mapE, listE, initT_5, initT_6, initT_7, initT_8, resV, oneV, binA, unA, reduceCtorEq, Nat.reduceEqDiff, Nat.reduceAdd, Nat.reduceLT, Nat.reduceLeDiff, Nat.reduceMul, Nat.reduceSub, ↓reduceIte, decide_true, decide_false, Bool.true_eq_false, Bool.false_eq_true, Bool.not_true, Bool.not_false, if_true, if_false, and_true, true_and, memE, celE, w64, Nat.zero_add, Nat.add_zero, Nat.mul_one, putL, and_self, ldn, tm, t0, t1, t7, t8]
      refine ⟨⟨k + 1, 2 + (k : Int), _, by omega, by omega, by simpa using hwant, rfl, hX5, rfl, by push_cast; congr 1⟩, ?_⟩
      simp [intOf]; omega
    | false =>
      rw [hls] at hwant
      simp (config := {implicitDefEqProofs := false, maxDischargeDepth := 20}) (disch := first | omega | (simp only [lenE]; done) | (simp only [lenE]; omega) | rfl | (simp only [lenE, markR_len]; done) | (simp only [lenE, markR_len]; omega)) only [runE, mapE, listE, initT_5, initT_6, initT_7, initT_8, resV, oneV, binA, unA, reduceCtorEq, Nat.reduceEqDiff, Nat.reduceAdd, Nat.reduceLT, Nat.reduceLeDiff, Nat.reduceMul, Nat.reduceSub, ↓reduceIte, decide_true, decide_false, Bool.true_eq_false, Bool.false_eq_true, Bool.not_true, Bool.not_false, if_true, if_false, and_true, true_and, memE, celE, w64, Nat.zero_add, Nat.add_zero, Nat.mul_one, putL, and_self, ldn, tm, t0, t1, t7, t8]
      refine ⟨⟨k + 1, b, _, by omega, hb, by simpa using hwant, rfl, hX5, rfl, by push_cast; congr 1⟩, ?_⟩
      simp [intOf]; omega
  · have e : k = 31 := by omega
    subst e
    have hle : ¬ ((2 + ((31 : Nat) : Int)) ≤ 32) := by omega
    have hwant : want = b := hwant
    subst hwant
    simp (config := {implicitDefEqProofs := false, maxDischargeDepth := 20}) (disch := first | omega | (simp only [lenE]; done) | (simp only [lenE]; omega) | rfl | (simp only [lenE, markR_len]; done) | (simp only [lenE, markR_len]; omega)) only [runE, mapE, listE, initT_5, initT_6, initT_7, initT_8, resV, oneV, binA, unA, reduceCtorEq, Nat.reduceEqDiff, Nat.reduceAdd, Nat.reduceLT, Nat.reduceLeDiff, Nat.reduceMul, Nat.reduceSub, ↓reduceIte, decide_true, decide_false, Bool.true_eq_false, Bool.false_eq_true, Bool.not_true, Bool.not_false, if_true, if_false, and_true, true_and, memE, celE, w64, Nat.zero_add, Nat.add_zero, Nat.mul_one, putL, and_self, ldn, tm, t0, t1, t7, t8, hle]
    refine callH_rc (l8Chosen_rc _ v L want hM hF hb) ?_
    rintro w1 new1 ⟨nr1, _, rfl, hA1⟩
    simp (config := {implicitDefEqProofs := false, maxDischargeDepth := 20}) (disch := first | omega | (simp only [lenE]; done) | (simp only [lenE]; omega) | rfl | (simp only [lenE, markR_len]; done) | (simp only [lenE, markR_len]; omega)) only [runE, mapE, listE, initT_5, initT_6, initT_7, initT_8, resV, oneV, binA, unA, reduceCtorEq, Nat.reduceEqDiff, Nat.reduceAdd, Nat.reduceLT, Nat.reduceLeDiff, Nat.reduceMul, Nat.reduceSub, ↓reduceIte, decide_true, decide_false, Bool.true_eq_false, Bool.false_eq_true, Bool.not_true, Bool.not_false, if_true, if_false, and_true, true_and, memE, celE, w64, Nat.zero_add, Nat.add_zero, Nat.mul_one, putL, and_self, ldn, tm, t0, t1, t7, t8, id_eq]
    exact Ext.pass (f := fun v => .tuple #[.int .i64 want, v, .bool true]) hX nr1 (IntsO.wide _) hA1
def joinV (v : Value) (joint : Int) : Value := .agg #[v, .int .i64 joint]
theorem joinChoices_rc (m : Mem) (id n fl : Nat) (joint : Int) : RC Try.prog 149 [joinV (.slice (some ⟨id, 0, none⟩) n fl) joint] m (AnsO m (IntsO (upFrom 1 32)) _root_.id) := by
  refine rc_of_run mixed ok_impl_joined__choices (by simp) (go_start _ _ _ ?_)
  simp (config := {implicitDefEqProofs := false, maxDischargeDepth := 20}) (disch := first | omega | (simp only [lenE]; done) | (simp only [lenE]; omega) | rfl | (simp only [lenE, markR_len]; done) | (simp only [lenE, markR_len]; omega)) only [runE, mapE, listE, initT_5, initT_6, initT_7, initT_8, resV, oneV, binA, unA, reduceCtorEq, Nat.reduceEqDiff, Nat.reduceAdd, Nat.reduceLT, Nat.reduceLeDiff, Nat.reduceMul, Nat.reduceSub, ↓reduceIte, decide_true, decide_false, Bool.true_eq_false, Bool.false_eq_true, Bool.not_true, Bool.not_false, if_true, if_false, and_true, true_and, memE, celE, w64, Nat.zero_add, Nat.add_zero, Nat.mul_one, putL, and_self, ldn, c_impl_joined__choices, r_impl_joined__choices, joinV]
  obtain ⟨E, hE⟩ : ∃ M, M = roM m ++ [⟨.own, 83, [.slice (some ⟨id, 0, none⟩) n fl, .int .i64 joint]⟩] := ⟨_, rfl⟩
  rw [← hE]
  have hX : Ext m E := by rw [hE]; exact (Ext.refl m).one _ _
  clear hE
  refine callH_rc (countsUpTo_rc _ 32 (by omega)) ?_
  rintro r new ⟨nrn, lv, rfl, hA⟩
  simp (config := {implicitDefEqProofs := false, maxDischargeDepth := 20}) (disch := first | omega | (simp only [lenE]; done) | (simp only [lenE]; omega) | rfl | (simp only [lenE, markR_len]; done) | (simp only [lenE, markR_len]; omega)) only [runE, mapE, listE, initT_5, initT_6, initT_7, initT_8, resV, oneV, binA, unA, reduceCtorEq, Nat.reduceEqDiff, Nat.reduceAdd, Nat.reduceLT, Nat.reduceLeDiff, Nat.reduceMul, Nat.reduceSub, ↓reduceIte, decide_true, decide_false, Bool.true_eq_false, Bool.false_eq_true, Bool.not_true, Bool.not_false, if_true, if_false, and_true, true_and, memE, celE, w64, Nat.zero_add, Nat.add_zero, Nat.mul_one, putL, and_self, ldn, id_eq]
  exact Ext.pass hX nrn (IntsO.wide _) hA
theorem joinCost_rc (m : Mem) (id n fl : Nat) (L : List It) (joint c : Int) (h : ItemsA m (.slice (some ⟨id, 0, none⟩) n fl) L) (hF : GoodF L) (hj : 0 ≤ joint ∧ joint ≤ 99) (hc : 1 ≤ c ∧ c ≤ 32) :
    RC Try.prog 150 [joinV (.slice (some ⟨id, 0, none⟩) n fl) joint, .int .i64 c] m (AnsV (frV (baseCost L joint c))) := by
  refine rc_of_run mixed ok_impl_joined__costOf (by simp) (go_start _ _ _ ?_)
  simp (config := {implicitDefEqProofs := false, maxDischargeDepth := 20}) (disch := first | omega | (simp only [lenE]; done) | (simp only [lenE]; omega) | rfl | (simp only [lenE, markR_len]; done) | (simp only [lenE, markR_len]; omega)) only [runE, mapE, listE, initT_5, initT_6, initT_7, initT_8, resV, oneV, binA, unA, reduceCtorEq, Nat.reduceEqDiff, Nat.reduceAdd, Nat.reduceLT, Nat.reduceLeDiff, Nat.reduceMul, Nat.reduceSub, ↓reduceIte, decide_true, decide_false, Bool.true_eq_false, Bool.false_eq_true, Bool.not_true, Bool.not_false, if_true, if_false, and_true, true_and, memE, celE, w64, Nat.zero_add, Nat.add_zero, Nat.mul_one, putL, and_self, ldn, c_impl_joined__costOf, r_impl_joined__costOf, joinV]

  obtain ⟨E, hE⟩ : ∃ M, M = roM m ++ [⟨.own, 83, [.slice (some ⟨id, 0, none⟩) n fl, .int .i64 joint]⟩] ++ [⟨.own, 67, [.int .i64 0, .int .i64 0]⟩] := ⟨_, rfl⟩
  rw [← hE]
  have hX : Ext m E := by rw [hE]; exact (((Ext.refl m).one _ _).one _ _)
  have LE : E.length = m.length + 2 := by rw [hE]; simp [roM_len]
  have o0 : OwnB E (m.length) 83 [.slice (some ⟨id, 0, none⟩) n fl, .int .i64 joint] := by rw [hE]; exact (OwnB.here (by simp [roM_len])).ext _
  have o1 : OwnB E (m.length + 1) 67 [.int .i64 0, .int .i64 0] := by rw [hE]; exact OwnB.here (by simp [roM_len])
  clear hE
  refine rcallH_rc (bestFactors_rc _ _ L c ((Sees.ext hX).items h) hF hc) ?_
  rintro w1 new0 ⟨nr0, _, rfl, hA1⟩
  have hX1 := hX.app nr0
  simp (config := {implicitDefEqProofs := false, maxDischargeDepth := 20}) (disch := first | omega | (simp only [lenE]; done) | (simp only [lenE]; omega) | rfl | (simp only [lenE, markR_len]; done) | (simp only [lenE, markR_len]; omega)) only [runE, mapE, listE, initT_5, initT_6, initT_7, initT_8, resV, oneV, binA, unA, reduceCtorEq, Nat.reduceEqDiff, Nat.reduceAdd, Nat.reduceLT, Nat.reduceLeDiff, Nat.reduceMul, Nat.reduceSub, ↓reduceIte, decide_true, decide_false, Bool.true_eq_false, Bool.false_eq_true, Bool.not_true, Bool.not_false, if_true, if_false, and_true, true_and, memE, celE, w64, Nat.zero_add, Nat.add_zero, Nat.mul_one, putL, and_self, ldn, id_eq]
  refine rcallH_rc (implJoint_rc _ _ w1 L joint c (chosenL L c) ((Sees.ext hX1).items h) hA1.now.in hF hj hc (chosen_good L _)) ?_
  rintro r new1 ⟨rfl, nr1⟩
  rw [show jointF L joint c (chosenL L c) = baseCost L joint c from rfl]
  generalize baseCost L joint c = z at *
  have hst := ((o1.ext new0).ext new1).st (off := 0) (vs := [.int .i64 z.1, .int .i64 z.2]) (by simp) rfl
  have hrd := (((o1.ext new0).ext new1).set_self 67 [.int .i64 z.1, .int .i64 z.2]).rd
  simp (config := {implicitDefEqProofs := false, maxDischargeDepth := 20}) (disch := first | omega | (simp only [lenE]; done) | (simp only [lenE]; omega) | rfl | (simp only [lenE, markR_len]; done) | (simp only [lenE, markR_len]; omega)) only [runE, mapE, listE, initT_5, initT_6, initT_7, initT_8, resV, oneV, binA, unA, reduceCtorEq, Nat.reduceEqDiff, Nat.reduceAdd, Nat.reduceLT, Nat.reduceLeDiff, Nat.reduceMul, Nat.reduceSub, ↓reduceIte, decide_true, decide_false, Bool.true_eq_false, Bool.false_eq_true, Bool.not_true, Bool.not_false, if_true, if_false, and_true, true_and, memE, celE, w64, Nat.zero_add, Nat.add_zero, Nat.mul_one, putL, and_self, ldn, hst, hrd, frV, stP_agg2]
  exact ext_ansV (((hX.app nr0).app nr1).put (by omega) _ _) rfl

theorem paceJoin (m : Mem) (id n fl : Nat) (L : List It) (joint : Int) (h : ItemsA m (.slice (some ⟨id, 0, none⟩) n fl) L) (hF : GoodF L) (hj : 0 ≤ joint ∧ joint ≤ 99) :
    Pace m (.iface 83 (joinV (.slice (some ⟨id, 0, none⟩) n fl) joint)) (upFrom 1 32) (baseCost L joint) := by
  refine ⟨⟨_, _, rfl⟩, ⟨149, joinV (.slice (some ⟨id, 0, none⟩) n fl) joint, by kernel_rfl, fun M _ => (joinChoices_rc M id n fl joint).mono fun _ _ => ansO_ints⟩, ⟨150, joinV (.slice (some ⟨id, 0, none⟩) n fl) joint, by kernel_rfl, fun M c hM hc => ?_⟩, fun c hc => ?_⟩
  · have := upFrom_mem.1 hc
    exact joinCost_rc M id n fl L joint c (hM.items h) hF hj (by omega)
  · have := upFrom_mem.1 hc
    exact base_fit hF hj (by omega)
theorem bldJ (A : Option Addr) (n fl : Nat) (k : IntKind) (z : Int) (y : Value) : bldA [.slice none 0 0, y] [(0, 1, .slice A n fl), (1, 1, .int k z)] = some (.agg #[.slice A n fl, .int k z]) := rfl
theorem implBestBase_rc (m : Mem) (v : Value) (L : List It) (joint : Int) (h : ItemsA m v L) :
    RC Try.prog 42 [v, .int .i64 joint] m (AnsO m (IntsO (baseA L joint)) fun v => .tuple #[.int .i64 (baseN L joint), v, .bool (baseOk L joint)]) := by
  refine rc_of_run mixed ok_impl_BestBase (by simp) (go_start _ _ _ ?_)
  unfold baseA baseN baseOk
  have hX := Ext.refl m
  simp (config := {implicitDefEqProofs := false, maxDischargeDepth := 20}) (disch := first | omega | (simp only [lenE]; done) | (simp only [lenE]; omega) | rfl | (simp only [lenE, markR_len]; done) | (simp only [lenE, markR_len]; omega)) only [runE, mapE, listE, initT_5, initT_6, initT_7, initT_8, resV, oneV, binA, unA, reduceCtorEq, Nat.reduceEqDiff, Nat.reduceAdd, Nat.reduceLT, Nat.reduceLeDiff, Nat.reduceMul, Nat.reduceSub, ↓reduceIte, decide_true, decide_false, Bool.true_eq_false, Bool.false_eq_true, Bool.not_true, Bool.not_false, if_true, if_false, and_true, true_and, memE, celE, w64, Nat.zero_add, Nat.add_zero, Nat.mul_one, putL, and_self, ldn, c_impl_BestBase, r_impl_BestBase]
  refine callH_rc (isFamily_rc _ v L ((Sees.ext hX).items h)) ?_
  rintro r new0 ⟨rfl, nr0⟩
  have hX := hX.app nr0
  cases g1 : famB L with
  | false =>
    simp (config := {implicitDefEqProofs := false, maxDischargeDepth := 20}) (disch := first | omega | (simp only [lenE]; done) | (simp only [lenE]; omega) | rfl | (simp only [lenE, markR_len]; done) | (simp only [lenE, markR_len]; omega)) only [runE, mapE, listE, initT_5, initT_6, initT_7, initT_8, resV, oneV, binA, unA, reduceCtorEq, Nat.reduceEqDiff, Nat.reduceAdd, Nat.reduceLT, Nat.reduceLeDiff, Nat.reduceMul, Nat.reduceSub, ↓reduceIte, decide_true, decide_false, Bool.true_eq_false, Bool.false_eq_true, Bool.not_true, Bool.not_false, if_true, if_false, and_true, true_and, memE, celE, w64, Nat.zero_add, Nat.add_zero, Nat.mul_one, putL, and_self, ldn, bsl_no, Bool.false_and, Bool.true_and, Bool.and_true, Bool.and_false, Bool.and_self]
    exact int_noInts (f := fun v => .tuple #[.int .i64 0, v, .bool false]) hX (by simp [roM_len])
  | true =>
  have hF := goodF_iff.1 g1
  simp (config := {implicitDefEqProofs := false, maxDischargeDepth := 20}) (disch := first | omega | (simp only [lenE]; done) | (simp only [lenE]; omega) | rfl | (simp only [lenE, markR_len]; done) | (simp only [lenE, markR_len]; omega)) only [runE, mapE, listE, initT_5, initT_6, initT_7, initT_8, resV, oneV, binA, unA, reduceCtorEq, Nat.reduceEqDiff, Nat.reduceAdd, Nat.reduceLT, Nat.reduceLeDiff, Nat.reduceMul, Nat.reduceSub, ↓reduceIte, decide_true, decide_false, Bool.true_eq_false, Bool.false_eq_true, Bool.not_true, Bool.not_false, if_true, if_false, and_true, true_and, memE, celE, w64, Nat.zero_add, Nat.add_zero, Nat.mul_one, putL, and_self, ldn]
  refine callH_rc (isWithin_rc _ _ _) ?_
  rintro r new1 ⟨rfl, rfl⟩
  rw [List.append_nil, inB_inR]
  cases g2 : inR 0 99 joint with
  | false =>
    simp (config := {implicitDefEqProofs := false, maxDischargeDepth := 20}) (disch := first | omega | (simp only [lenE]; done) | (simp only [lenE]; omega) | rfl | (simp only [lenE, markR_len]; done) | (simp only [lenE, markR_len]; omega)) only [runE, mapE, listE, initT_5, initT_6, initT_7, initT_8, resV, oneV, binA, unA, reduceCtorEq, Nat.reduceEqDiff, Nat.reduceAdd, Nat.reduceLT, Nat.reduceLeDiff, Nat.reduceMul, Nat.reduceSub, ↓reduceIte, decide_true, decide_false, Bool.true_eq_false, Bool.false_eq_true, Bool.not_true, Bool.not_false, if_true, if_false, and_true, true_and, memE, celE, w64, Nat.zero_add, Nat.add_zero, Nat.mul_one, putL, and_self, ldn, bsl_no, Bool.false_and, Bool.true_and, Bool.and_true, Bool.and_false, Bool.and_self]
    exact int_noInts (f := fun v => .tuple #[.int .i64 0, v, .bool false]) hX (by simp [roM_len])
  | true =>
  have hj := inR_iff.1 g2
  have hbi := bestBase_in L joint
  obtain ⟨_, id, fl, hv, _⟩ := id h
  subst hv
  simp (config := {implicitDefEqProofs := false, maxDischargeDepth := 20}) (disch := first | omega | (simp only [lenE]; done) | (simp only [lenE]; omega) | rfl | (simp only [lenE, markR_len]; done) | (simp only [lenE, markR_len]; omega)) only [runE, mapE, listE, initT_5, initT_6, initT_7, initT_8, resV, oneV, binA, unA, reduceCtorEq, Nat.reduceEqDiff, Nat.reduceAdd, Nat.reduceLT, Nat.reduceLeDiff, Nat.reduceMul, Nat.reduceSub, ↓reduceIte, decide_true, decide_false, Bool.true_eq_false, Bool.false_eq_true, Bool.not_true, Bool.not_false, if_true, if_false, and_true, true_and, memE, celE, w64, Nat.zero_add, Nat.add_zero, Nat.mul_one, putL, and_self, ldn, Bool.false_and, Bool.true_and, Bool.and_true, Bool.and_false, Bool.and_self, if_true, bldJ]
  refine callH_rc (bestChoice_rc _ _ _ _ (paceJoin _ id L.length fl L joint ((Sees.ext hX).items h) hF hj)) ?_
  rintro r new1 ⟨rfl, nr1⟩
  have hX1 := hX.app nr1
  rw [show pickOf (baseCost L joint) (upFrom 1 32) = bestBase L joint from rfl, show decide (0 < (upFrom 1 32).length) = true from rfl]
  generalize bestBase L joint = want at *
  simp (config := {implicitDefEqProofs := false, maxDischargeDepth := 20}) (disch := first | omega | (simp only [lenE]; done) | (simp only [lenE]; omega) | rfl | (simp only [lenE, markR_len]; done) | (simp only [lenE, markR_len]; omega)) only [runE, mapE, listE, initT_5, initT_6, initT_7, initT_8, resV, oneV, binA, unA, reduceCtorEq, Nat.reduceEqDiff, Nat.reduceAdd, Nat.reduceLT, Nat.reduceLeDiff, Nat.reduceMul, Nat.reduceSub, ↓reduceIte, decide_true, decide_false, Bool.true_eq_false, Bool.false_eq_true, Bool.not_true, Bool.not_false, if_true, if_false, and_true, true_and, memE, celE, w64, Nat.zero_add, Nat.add_zero, Nat.mul_one, putL, and_self, ldn, ext_2_0, ext_2_1]
  refine callH_rc (bestFactors_rc _ _ L want ((Sees.ext hX1).items h) hF hbi) ?_
  rintro w1 new2 ⟨nr2, _, rfl, hA1⟩
  simp (config := {implicitDefEqProofs := false, maxDischargeDepth := 20}) (disch := first | omega | (simp only [lenE]; done) | (simp only [lenE]; omega) | rfl | (simp only [lenE, markR_len]; done) | (simp only [lenE, markR_len]; omega)) only [runE, mapE, listE, initT_5, initT_6, initT_7, initT_8, resV, oneV, binA, unA, reduceCtorEq, Nat.reduceEqDiff, Nat.reduceAdd, Nat.reduceLT, Nat.reduceLeDiff, Nat.reduceMul, Nat.reduceSub, ↓reduceIte, decide_true, decide_false, Bool.true_eq_false, Bool.false_eq_true, Bool.not_true, Bool.not_false, if_true, if_false, and_true, true_and, memE, celE, w64, Nat.zero_add, Nat.add_zero, Nat.mul_one, putL, and_self, ldn, id_eq]
  exact Ext.pass (f := fun v => .tuple #[.int .i64 want, v, .bool true]) hX1 nr2 (IntsO.wide _) hA1
end Go.Proofs.Ytmjnjhdacliieaa.Ab
