/- Chains in memory: the laws' helpers szChain, toChain, eqChain, markChain. -/
import Derived.Test.YtamhhicnfpemeaaAbPairs
import Derived.Test.YtamhhicnfpemeaaChainMath
namespace Go.Proofs.Ytamhhicnfpemeaa.Ab
open Go Go.RowKit
set_option linter.unusedVariables false
set_option linter.unusedSimpArgs false

abbrev chV (a b d : Value) : Value := .agg #[a, b, d]
def ChA (m : Mem) (v : Value) (c : Ch) : Prop := ∃ a b d, v = chV a b d ∧ IntsA m a c.need ∧ IntsA m b c.setup ∧ IntsA m d c.hold
theorem ChA.mk {m : Mem} {a b d : Value} {c : Ch} (h1 : IntsA m a c.need) (h2 : IntsA m b c.setup) (h3 : IntsA m d c.hold) : ChA m (chV a b d) c := ⟨a, b, d, rfl, h1, h2, h3⟩
theorem ChA.ext {m : Mem} {v : Value} {c : Ch} (h : ChA m v c) (new : Mem) : ChA (m ++ new) v c := by
  obtain ⟨a, b, d, rfl, h1, h2, h3⟩ := h
  exact ⟨a, b, d, rfl, h1.ext new, h2.ext new, h3.ext new⟩
theorem ChA.ro {m : Mem} {v : Value} {c : Ch} (h : ChA m v c) : ChA (roM m) v c := by
  obtain ⟨a, b, d, rfl, h1, h2, h3⟩ := h
  exact ⟨a, b, d, rfl, h1.ro, h2.ro, h3.ro⟩
def ChO (c : Ch) (lo hi : Nat) (M : Mem) (v : Value) : Prop := ∃ a b d p q, v = chV a b d ∧ lo ≤ p ∧ p ≤ q ∧ q ≤ hi ∧ IntsO c.need lo p M a ∧ IntsO c.setup p q M b ∧ IntsO c.hold q hi M d
theorem ChO.in {c : Ch} {lo hi : Nat} {M : Mem} {v : Value} (h : ChO c lo hi M v) : ChA M v c := by
  obtain ⟨a, b, d, p, q, rfl, _, _, _, h1, h2, h3⟩ := h
  exact ⟨a, b, d, rfl, h1.in, h2.in, h3.in⟩
theorem szChain_rc (m : Mem) (v : Value) (c : Ch) (left : Int) (h : ChA m v c) (h0 : 0 ≤ left) (h1 : left ≤ 1048576) :
    RC Try.prog 29 [v, .int .i64 left] m fun r new => NoRo new ∧ ((r = .int .i64 (-1)) ∨ ∃ z : Int, 0 ≤ z ∧ z ≤ left ∧ r = .int .i64 z ∧ c.need.length ≤ 1048576 ∧ c.setup.length ≤ 1048576 ∧ c.hold.length ≤ 1048576) := by
  refine rc_of_run mixed ok_laws_szChain (by simp) (go_start _ _ _ ?_)
  obtain ⟨a, b, d, rfl, ha, hb, hd⟩ := h.ro
  simp (config := {implicitDefEqProofs := false, maxDischargeDepth := 20}) (disch := first | omega | (simp only [lenE]; done) | (simp only [lenE]; omega) | rfl | (simp only [lenE, markR_len]; done) | (simp only [lenE, markR_len]; omega)) only [runE, mapE, listE, initT_5, initT_6, initT_7, initT_8, resV, oneV, binA, unA, reduceCtorEq, Nat.reduceEqDiff, Nat.reduceAdd, Nat.reduceLT, Nat.reduceLeDiff, Nat.reduceMul, Nat.reduceSub, ↓reduceIte, decide_true, decide_false, Bool.true_eq_false, Bool.false_eq_true, Bool.not_true, Bool.not_false, if_true, if_false, and_true, true_and, memE, celE, w64, Nat.zero_add, Nat.add_zero, Nat.mul_one, putL, and_self, ldn, c_laws_szChain, r_laws_szChain]
  refine callH_rc (szIntsO_rc _ a c.need left (ha.ext _) h0 h1) ?_
  rintro r n1 ⟨nr1, rfl | ⟨z, z0, z1, rfl, l1⟩⟩
  · simp (config := {implicitDefEqProofs := false, maxDischargeDepth := 20}) (disch := first | omega | (simp only [lenE]; done) | (simp only [lenE]; omega) | rfl | (simp only [lenE, markR_len]; done) | (simp only [lenE, markR_len]; omega)) only [runE, mapE, listE, initT_5, initT_6, initT_7, initT_8, resV, oneV, binA, unA, reduceCtorEq, Nat.reduceEqDiff, Nat.reduceAdd, Nat.reduceLT, Nat.reduceLeDiff, Nat.reduceMul, Nat.reduceSub, ↓reduceIte, decide_true, decide_false, Bool.true_eq_false, Bool.false_eq_true, Bool.not_true, Bool.not_false, if_true, if_false, and_true, true_and, memE, celE, w64, Nat.zero_add, Nat.add_zero, Nat.mul_one, putL, and_self, ldn, show ((-1 : Int) < 0) = True by simp]
    try simp only [List.append_assoc, List.cons_append, List.nil_append, List.append_nil]
    exact ⟨_, rfl, by (repeat (first | exact noRo_nil | assumption | apply noRo_own | apply noRo_dead | apply noRo_app)), by (repeat (first | exact noRo_nil | assumption | apply noRo_own | apply noRo_dead | apply noRo_app)), .inl rfl⟩
  · have hz : ¬ (z < 0) := by omega
    simp (config := {implicitDefEqProofs := false, maxDischargeDepth := 20}) (disch := first | omega | (simp only [lenE]; done) | (simp only [lenE]; omega) | rfl | (simp only [lenE, markR_len]; done) | (simp only [lenE, markR_len]; omega)) only [runE, mapE, listE, initT_5, initT_6, initT_7, initT_8, resV, oneV, binA, unA, reduceCtorEq, Nat.reduceEqDiff, Nat.reduceAdd, Nat.reduceLT, Nat.reduceLeDiff, Nat.reduceMul, Nat.reduceSub, ↓reduceIte, decide_true, decide_false, Bool.true_eq_false, Bool.false_eq_true, Bool.not_true, Bool.not_false, if_true, if_false, and_true, true_and, memE, celE, w64, Nat.zero_add, Nat.add_zero, Nat.mul_one, putL, and_self, ldn, hz]
    refine callH_rc (szIntsO_rc _ b c.setup z ((hb.ext _).ext _) z0 (by omega)) ?_
    rintro r n2 ⟨nr2, rfl | ⟨y, y0, y1, rfl, l2⟩⟩
    · simp (config := {implicitDefEqProofs := false, maxDischargeDepth := 20}) (disch := first | omega | (simp only [lenE]; done) | (simp only [lenE]; omega) | rfl | (simp only [lenE, markR_len]; done) | (simp only [lenE, markR_len]; omega)) only [runE, mapE, listE, initT_5, initT_6, initT_7, initT_8, resV, oneV, binA, unA, reduceCtorEq, Nat.reduceEqDiff, Nat.reduceAdd, Nat.reduceLT, Nat.reduceLeDiff, Nat.reduceMul, Nat.reduceSub, ↓reduceIte, decide_true, decide_false, Bool.true_eq_false, Bool.false_eq_true, Bool.not_true, Bool.not_false, if_true, if_false, and_true, true_and, memE, celE, w64, Nat.zero_add, Nat.add_zero, Nat.mul_one, putL, and_self, ldn, show ((-1 : Int) < 0) = True by simp]
      try simp only [List.append_assoc, List.cons_append, List.nil_append, List.append_nil]
      exact ⟨_, rfl, by (repeat (first | exact noRo_nil | assumption | apply noRo_own | apply noRo_dead | apply noRo_app)), by (repeat (first | exact noRo_nil | assumption | apply noRo_own | apply noRo_dead | apply noRo_app)), .inl rfl⟩
    · have hy : ¬ (y < 0) := by omega
      simp (config := {implicitDefEqProofs := false, maxDischargeDepth := 20}) (disch := first | omega | (simp only [lenE]; done) | (simp only [lenE]; omega) | rfl | (simp only [lenE, markR_len]; done) | (simp only [lenE, markR_len]; omega)) only [runE, mapE, listE, initT_5, initT_6, initT_7, initT_8, resV, oneV, binA, unA, reduceCtorEq, Nat.reduceEqDiff, Nat.reduceAdd, Nat.reduceLT, Nat.reduceLeDiff, Nat.reduceMul, Nat.reduceSub, ↓reduceIte, decide_true, decide_false, Bool.true_eq_false, Bool.false_eq_true, Bool.not_true, Bool.not_false, if_true, if_false, and_true, true_and, memE, celE, w64, Nat.zero_add, Nat.add_zero, Nat.mul_one, putL, and_self, ldn, hy]
      refine callH_rc (szIntsO_rc _ d c.hold y (((hd.ext _).ext _).ext _) y0 (by omega)) ?_
      rintro r n3 ⟨nr3, rfl | ⟨x, x0, x1, rfl, l3⟩⟩
      · simp (config := {implicitDefEqProofs := false, maxDischargeDepth := 20}) (disch := first | omega | (simp only [lenE]; done) | (simp only [lenE]; omega) | rfl | (simp only [lenE, markR_len]; done) | (simp only [lenE, markR_len]; omega)) only [runE, mapE, listE, initT_5, initT_6, initT_7, initT_8, resV, oneV, binA, unA, reduceCtorEq, Nat.reduceEqDiff, Nat.reduceAdd, Nat.reduceLT, Nat.reduceLeDiff, Nat.reduceMul, Nat.reduceSub, ↓reduceIte, decide_true, decide_false, Bool.true_eq_false, Bool.false_eq_true, Bool.not_true, Bool.not_false, if_true, if_false, and_true, true_and, memE, celE, w64, Nat.zero_add, Nat.add_zero, Nat.mul_one, putL, and_self, ldn, show ((-1 : Int) < 0) = True by simp]
        try simp only [List.append_assoc, List.cons_append, List.nil_append, List.append_nil]
        exact ⟨_, rfl, by (repeat (first | exact noRo_nil | assumption | apply noRo_own | apply noRo_dead | apply noRo_app)), by (repeat (first | exact noRo_nil | assumption | apply noRo_own | apply noRo_dead | apply noRo_app)), .inl rfl⟩
      · have hx : ¬ (x < 0) := by omega
        simp (config := {implicitDefEqProofs := false, maxDischargeDepth := 20}) (disch := first | omega | (simp only [lenE]; done) | (simp only [lenE]; omega) | rfl | (simp only [lenE, markR_len]; done) | (simp only [lenE, markR_len]; omega)) only [runE, mapE, listE, initT_5, initT_6, initT_7, initT_8, resV, oneV, binA, unA, reduceCtorEq, Nat.reduceEqDiff, Nat.reduceAdd, Nat.reduceLT, Nat.reduceLeDiff, Nat.reduceMul, Nat.reduceSub, ↓reduceIte, decide_true, decide_false, Bool.true_eq_false, Bool.false_eq_true, Bool.not_true, Bool.not_false, if_true, if_false, and_true, true_and, memE, celE, w64, Nat.zero_add, Nat.add_zero, Nat.mul_one, putL, and_self, ldn, hx]
        try simp only [List.append_assoc, List.cons_append, List.nil_append, List.append_nil]
        exact ⟨_, rfl, by (repeat (first | exact noRo_nil | assumption | apply noRo_own | apply noRo_dead | apply noRo_app)), by (repeat (first | exact noRo_nil | assumption | apply noRo_own | apply noRo_dead | apply noRo_app)), .inr ⟨x, x0, by omega, rfl, l1, l2, l3⟩⟩
theorem eqChain_rc (m : Mem) (v u : Value) (c : Ch) (h : ChA m v c) (h' : ChA m u c) : RC Try.prog 33 [v, u] m (AnsV (.bool true)) := by
  refine rc_of_run mixed ok_laws_eqChain (by simp) (go_start _ _ _ ?_)
  obtain ⟨a, b, d, rfl, ha, hb, hd⟩ := h.ro
  obtain ⟨a', b', d', rfl, ha', hb', hd'⟩ := h'.ro
  simp (config := {implicitDefEqProofs := false, maxDischargeDepth := 20}) (disch := first | omega | (simp only [lenE]; done) | (simp only [lenE]; omega) | rfl | (simp only [lenE, markR_len]; done) | (simp only [lenE, markR_len]; omega)) only [runE, mapE, listE, initT_5, initT_6, initT_7, initT_8, resV, oneV, binA, unA, reduceCtorEq, Nat.reduceEqDiff, Nat.reduceAdd, Nat.reduceLT, Nat.reduceLeDiff, Nat.reduceMul, Nat.reduceSub, ↓reduceIte, decide_true, decide_false, Bool.true_eq_false, Bool.false_eq_true, Bool.not_true, Bool.not_false, if_true, if_false, and_true, true_and, memE, celE, w64, Nat.zero_add, Nat.add_zero, Nat.mul_one, putL, and_self, ldn, c_laws_eqChain, r_laws_eqChain, bne_self_eq_false]
  refine callH_rc (eqIntS_rc _ a a' c.need ((ha.ext _).ext _) ((ha'.ext _).ext _)) ?_
  rintro r new ⟨rfl, rfl⟩
  simp (config := {implicitDefEqProofs := false, maxDischargeDepth := 20}) (disch := first | omega | (simp only [lenE]; done) | (simp only [lenE]; omega) | rfl | (simp only [lenE, markR_len]; done) | (simp only [lenE, markR_len]; omega)) only [runE, mapE, listE, initT_5, initT_6, initT_7, initT_8, resV, oneV, binA, unA, reduceCtorEq, Nat.reduceEqDiff, Nat.reduceAdd, Nat.reduceLT, Nat.reduceLeDiff, Nat.reduceMul, Nat.reduceSub, ↓reduceIte, decide_true, decide_false, Bool.true_eq_false, Bool.false_eq_true, Bool.not_true, Bool.not_false, if_true, if_false, and_true, true_and, memE, celE, w64, Nat.zero_add, Nat.add_zero, Nat.mul_one, putL, and_self, ldn, bne_self_eq_false]
  refine callH_rc (eqIntS_rc _ b b' c.setup ((hb.ext _).ext _) ((hb'.ext _).ext _)) ?_
  rintro r new ⟨rfl, rfl⟩
  simp (config := {implicitDefEqProofs := false, maxDischargeDepth := 20}) (disch := first | omega | (simp only [lenE]; done) | (simp only [lenE]; omega) | rfl | (simp only [lenE, markR_len]; done) | (simp only [lenE, markR_len]; omega)) only [runE, mapE, listE, initT_5, initT_6, initT_7, initT_8, resV, oneV, binA, unA, reduceCtorEq, Nat.reduceEqDiff, Nat.reduceAdd, Nat.reduceLT, Nat.reduceLeDiff, Nat.reduceMul, Nat.reduceSub, ↓reduceIte, decide_true, decide_false, Bool.true_eq_false, Bool.false_eq_true, Bool.not_true, Bool.not_false, if_true, if_false, and_true, true_and, memE, celE, w64, Nat.zero_add, Nat.add_zero, Nat.mul_one, putL, and_self, ldn, bne_self_eq_false]
  refine callH_rc (eqIntS_rc _ d d' c.hold ((hd.ext _).ext _) ((hd'.ext _).ext _)) ?_
  rintro r new ⟨rfl, rfl⟩
  simp (config := {implicitDefEqProofs := false, maxDischargeDepth := 20}) (disch := first | omega | (simp only [lenE]; done) | (simp only [lenE]; omega) | rfl | (simp only [lenE, markR_len]; done) | (simp only [lenE, markR_len]; omega)) only [runE, mapE, listE, initT_5, initT_6, initT_7, initT_8, resV, oneV, binA, unA, reduceCtorEq, Nat.reduceEqDiff, Nat.reduceAdd, Nat.reduceLT, Nat.reduceLeDiff, Nat.reduceMul, Nat.reduceSub, ↓reduceIte, decide_true, decide_false, Bool.true_eq_false, Bool.false_eq_true, Bool.not_true, Bool.not_false, if_true, if_false, and_true, true_and, memE, celE, w64, Nat.zero_add, Nat.add_zero, Nat.mul_one, putL, and_self, ldn, bne_self_eq_false]
  try simp only [List.append_assoc, List.cons_append, List.nil_append, List.append_nil]
  exact ⟨_, rfl, by (repeat (first | exact noRo_nil | assumption | apply noRo_own | apply noRo_dead | apply noRo_app)), rfl, by (repeat (first | exact noRo_nil | assumption | apply noRo_own | apply noRo_dead | apply noRo_app))⟩
theorem toChain_rc (m : Mem) (v : Value) (c : Ch) (h : ChA m v c) (l1 : c.need.length ≤ 1048576) (l2 : c.setup.length ≤ 1048576) (l3 : c.hold.length ≤ 1048576) :
    RC Try.prog 31 [v] m (AnsO m (ChO c) id) := by
  refine rc_of_run mixed ok_laws_toChain (by simp) (go_start _ _ _ ?_)
  obtain ⟨a, b, d, rfl, ha, hb, hd⟩ := h.ro
  simp (config := {implicitDefEqProofs := false, maxDischargeDepth := 20}) (disch := first | omega | (simp only [lenE]; done) | (simp only [lenE]; omega) | rfl | (simp only [lenE, markR_len]; done) | (simp only [lenE, markR_len]; omega)) only [runE, mapE, listE, initT_5, initT_6, initT_7, initT_8, resV, oneV, binA, unA, reduceCtorEq, Nat.reduceEqDiff, Nat.reduceAdd, Nat.reduceLT, Nat.reduceLeDiff, Nat.reduceMul, Nat.reduceSub, ↓reduceIte, decide_true, decide_false, Bool.true_eq_false, Bool.false_eq_true, Bool.not_true, Bool.not_false, if_true, if_false, and_true, true_and, memE, celE, w64, Nat.zero_add, Nat.add_zero, Nat.mul_one, putL, and_self, ldn, c_laws_toChain, r_laws_toChain]
  refine callH_rc (toIntS_rc _ a c.need (((ha.ext _).ext _).ext _) l1) ?_
  rintro r new ⟨rfl, rfl⟩
  simp (config := {implicitDefEqProofs := false, maxDischargeDepth := 20}) (disch := first | omega | (simp only [lenE]; done) | (simp only [lenE]; omega) | rfl | (simp only [lenE, markR_len]; done) | (simp only [lenE, markR_len]; omega)) only [runE, mapE, listE, initT_5, initT_6, initT_7, initT_8, resV, oneV, binA, unA, reduceCtorEq, Nat.reduceEqDiff, Nat.reduceAdd, Nat.reduceLT, Nat.reduceLeDiff, Nat.reduceMul, Nat.reduceSub, ↓reduceIte, decide_true, decide_false, Bool.true_eq_false, Bool.false_eq_true, Bool.not_true, Bool.not_false, if_true, if_false, and_true, true_and, memE, celE, w64, Nat.zero_add, Nat.add_zero, Nat.mul_one, putL, and_self, ldn]
  refine callH_rc (toIntS_rc _ b c.setup ((((hb.ext _).ext _).ext _).ext _) l2) ?_
  rintro r new ⟨rfl, rfl⟩
  simp (config := {implicitDefEqProofs := false, maxDischargeDepth := 20}) (disch := first | omega | (simp only [lenE]; done) | (simp only [lenE]; omega) | rfl | (simp only [lenE, markR_len]; done) | (simp only [lenE, markR_len]; omega)) only [runE, mapE, listE, initT_5, initT_6, initT_7, initT_8, resV, oneV, binA, unA, reduceCtorEq, Nat.reduceEqDiff, Nat.reduceAdd, Nat.reduceLT, Nat.reduceLeDiff, Nat.reduceMul, Nat.reduceSub, ↓reduceIte, decide_true, decide_false, Bool.true_eq_false, Bool.false_eq_true, Bool.not_true, Bool.not_false, if_true, if_false, and_true, true_and, memE, celE, w64, Nat.zero_add, Nat.add_zero, Nat.mul_one, putL, and_self, ldn]
  refine callH_rc (toIntS_rc _ d c.hold (((((hd.ext _).ext _).ext _).ext _).ext _) l3) ?_
  rintro r new ⟨rfl, rfl⟩
  simp (config := {implicitDefEqProofs := false, maxDischargeDepth := 20}) (disch := first | omega | (simp only [lenE]; done) | (simp only [lenE]; omega) | rfl | (simp only [lenE, markR_len]; done) | (simp only [lenE, markR_len]; omega)) only [runE, mapE, listE, initT_5, initT_6, initT_7, initT_8, resV, oneV, binA, unA, reduceCtorEq, Nat.reduceEqDiff, Nat.reduceAdd, Nat.reduceLT, Nat.reduceLeDiff, Nat.reduceMul, Nat.reduceSub, ↓reduceIte, decide_true, decide_false, Bool.true_eq_false, Bool.false_eq_true, Bool.not_true, Bool.not_false, if_true, if_false, and_true, true_and, memE, celE, w64, Nat.zero_add, Nat.add_zero, Nat.mul_one, putL, and_self, ldn]
  obtain ⟨N, hN⟩ : ∃ N, N = roM m ++ [⟨.own, 41, [a, b, d]⟩] ++ [⟨.own, 26, [.slice (some ⟨m.length + 1 + 1 + 1, 0, none⟩) c.need.length 1, .slice (some ⟨m.length + 1 + 1 + 1 + 1, 0, none⟩) c.setup.length 1, .slice (some ⟨m.length + 1 + 1 + 1 + 1 + 1, 0, none⟩) c.hold.length 1]⟩] ++ [⟨.own, 26, [.slice (some ⟨m.length + 1 + 1 + 1, 0, none⟩) c.need.length 1, .slice (some ⟨m.length + 1 + 1 + 1 + 1, 0, none⟩) c.setup.length 1, .slice (some ⟨m.length + 1 + 1 + 1 + 1 + 1, 0, none⟩) c.hold.length 1]⟩] := ⟨_, rfl⟩
  rw [← hN]
  have hX : Ext m N := by rw [hN]; exact (((Ext.refl m).one _ _).one _ _).one _ _
  have hL : N.length = m.length + 1 + 1 + 1 := by rw [hN]; simp [roM_len]
  rw [← hL]
  refine ext_ansO (f := _root_.id) ((((hX).one _ _).one _ _).one _ _) fun M' hM => ⟨_, _, _, N.length + 1, N.length + 2, rfl, by omega, by omega, by simp, ?_, ?_, ?_⟩
  · exact IntsA.ownO (OwnR.at_ ((((OwnR.here N c.need _ rfl)).ext _).ext _) (hM _ (by omega) (by simp))) l1 (by omega) (by omega)
  · exact IntsA.ownO (OwnR.at_ ((OwnR.here _ c.setup _ (by simp)).ext _) (hM _ (by omega) (by simp))) l2 (by omega) (by omega)
  · exact IntsA.ownO (OwnR.at_ (OwnR.here _ c.hold _ (by simp)) (hM _ (by omega) (by simp))) l3 (by omega) (by simp)
theorem OwnB.but {M M' : Mem} {id lo hi : Nat} {e : TypeId} {cs : List Value} (h : OwnB M id e cs) (hb : But lo hi M M') (hd : id < lo ∨ hi ≤ id) : OwnB M' id e cs := h.at_ (hb.2 id h.lt hd)
theorem markChain_ac (m : Mem) (lo hi : Nat) (v : Value) (c : Ch) (k0 : Int) (h : Lv lo hi m fun M => ChO c lo hi M v) (h0 : 0 ≤ k0) (h1 : k0 ≤ 68000000000) :
    AC Try.prog 39 [v, .int .i64 k0] m fun r m' => r = .int .i64 (k0 + ((c.need.length : Int) + c.setup.length + c.hold.length)) ∧ But lo hi m m' := by
  refine ac_of_run mixed ok_laws_markChain (by simp) (go_start _ _ _ ?_)
  obtain ⟨a, b, d, p, q, rfl, e1, e2, e3, ha, hb, hd⟩ := h.now
  have s1 := ha.1
  have s2 := hb.1
  have s3 := hd.1
  have hm := h.2.1
  have hb0 : OwnB (m ++ [⟨.own, 26, [a, b, d]⟩]) m.length 26 [a, b, d] := OwnB.here rfl
  have La := (ha.lv (by omega)).ext [⟨.own, 26, [a, b, d]⟩]
  have Lb := (hb.lv (by omega)).ext [⟨.own, 26, [a, b, d]⟩]
  have Ld := (hd.lv (by omega)).ext [⟨.own, 26, [a, b, d]⟩]
  simp (config := {implicitDefEqProofs := false, maxDischargeDepth := 20}) (disch := first | omega | (simp only [lenE]; done) | (simp only [lenE]; omega) | rfl | (simp only [lenE, markR_len]; done) | (simp only [lenE, markR_len]; omega)) only [runE, mapE, listE, initT_5, initT_6, initT_7, initT_8, resV, oneV, binA, unA, reduceCtorEq, Nat.reduceEqDiff, Nat.reduceAdd, Nat.reduceLT, Nat.reduceLeDiff, Nat.reduceMul, Nat.reduceSub, ↓reduceIte, decide_true, decide_false, Bool.true_eq_false, Bool.false_eq_true, Bool.not_true, Bool.not_false, if_true, if_false, and_true, true_and, memE, celE, w64, Nat.zero_add, Nat.add_zero, Nat.mul_one, putL, and_self, ldn, c_laws_markChain, r_laws_markChain]
  refine callH_ac (markIntsO_ac _ lo p a c.need k0 La h0 (by omega)) ?_
  rintro r m1 ⟨rfl, B1, -⟩
  replace hb0 := hb0.but B1 (by omega)
  replace Lb := Lb.but B1 (by omega)
  replace Ld := Ld.but B1 (by omega)
  simp (config := {implicitDefEqProofs := false, maxDischargeDepth := 20}) (disch := first | omega | (simp only [lenE]; done) | (simp only [lenE]; omega) | rfl | (simp only [lenE, markR_len]; done) | (simp only [lenE, markR_len]; omega)) only [runE, mapE, listE, initT_5, initT_6, initT_7, initT_8, resV, oneV, binA, unA, reduceCtorEq, Nat.reduceEqDiff, Nat.reduceAdd, Nat.reduceLT, Nat.reduceLeDiff, Nat.reduceMul, Nat.reduceSub, ↓reduceIte, decide_true, decide_false, Bool.true_eq_false, Bool.false_eq_true, Bool.not_true, Bool.not_false, if_true, if_false, and_true, true_and, memE, celE, w64, Nat.zero_add, Nat.add_zero, Nat.mul_one, putL, and_self, ldn, hb0.rd]
  refine callH_ac (markIntsO_ac _ p q b c.setup _ Lb (by omega) (by omega)) ?_
  rintro r m2 ⟨rfl, B2, -⟩
  replace hb0 := hb0.but B2 (by omega)
  replace Ld := Ld.but B2 (by omega)
  simp (config := {implicitDefEqProofs := false, maxDischargeDepth := 20}) (disch := first | omega | (simp only [lenE]; done) | (simp only [lenE]; omega) | rfl | (simp only [lenE, markR_len]; done) | (simp only [lenE, markR_len]; omega)) only [runE, mapE, listE, initT_5, initT_6, initT_7, initT_8, resV, oneV, binA, unA, reduceCtorEq, Nat.reduceEqDiff, Nat.reduceAdd, Nat.reduceLT, Nat.reduceLeDiff, Nat.reduceMul, Nat.reduceSub, ↓reduceIte, decide_true, decide_false, Bool.true_eq_false, Bool.false_eq_true, Bool.not_true, Bool.not_false, if_true, if_false, and_true, true_and, memE, celE, w64, Nat.zero_add, Nat.add_zero, Nat.mul_one, putL, and_self, ldn, hb0.rd]
  refine callH_ac (markIntsO_ac _ q hi d c.hold _ Ld (by omega) (by omega)) ?_
  rintro r m3 ⟨rfl, B3, -⟩
  simp (config := {implicitDefEqProofs := false, maxDischargeDepth := 20}) (disch := first | omega | (simp only [lenE]; done) | (simp only [lenE]; omega) | rfl | (simp only [lenE, markR_len]; done) | (simp only [lenE, markR_len]; omega)) only [runE, mapE, listE, initT_5, initT_6, initT_7, initT_8, resV, oneV, binA, unA, reduceCtorEq, Nat.reduceEqDiff, Nat.reduceAdd, Nat.reduceLT, Nat.reduceLeDiff, Nat.reduceMul, Nat.reduceSub, ↓reduceIte, decide_true, decide_false, Bool.true_eq_false, Bool.false_eq_true, Bool.not_true, Bool.not_false, if_true, if_false, and_true, true_and, memE, celE, w64, Nat.zero_add, Nat.add_zero, Nat.mul_one, putL, and_self, ldn]
  refine ⟨by congr 1; omega, ?_⟩
  exact (((B1.wider (Nat.le_refl _) (by omega)).trans (B2.wider (by omega) (by omega))).trans (B3.wider (by omega) (Nat.le_refl _))).base
end Go.Proofs.Ytamhhicnfpemeaa.Ab
