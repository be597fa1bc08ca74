/- What the law needs of the texts that it rests on. -/
import Derived.Test.YtamhhicnfpemeaaShNestedPlan0
section
namespace Go.Proofs.Ytamhhicnfpemeaa.Ab
open Go Go.RowKit
set_option linter.unusedVariables false
set_option linter.unusedSimpArgs false
abbrev chV (a b d : Value) : Value := .agg #[a, b, d]
def ChA (m : Mem) (v : Value) (c : Ch) : Prop := ∃ a b d, v = chV a b d ∧ IntsA m a c.need ∧ IntsA m b c.setup ∧ IntsA m d c.hold
theorem ChA.mk {m : Mem} {a b d : Value} {c : Ch} (h1 : IntsA m a c.need) (h2 : IntsA m b c.setup) (h3 : IntsA m d c.hold) : ChA m (chV a b d) c := ⟨a, b, d, rfl, h1, h2, h3⟩
theorem ChA.ext {m : Mem} {v : Value} {c : Ch} (h : ChA m v c) (new : Mem) : ChA (m ++ new) v c := by
  obtain ⟨a, b, d, rfl, h1, h2, h3⟩ := h
  exact ⟨a, b, d, rfl, h1.ext new, h2.ext new, h3.ext new⟩
theorem ChA.ro {m : Mem} {v : Value} {c : Ch} (h : ChA m v c) : ChA (roM m) v c := by
  obtain ⟨a, b, d, rfl, h1, h2, h3⟩ := h
  exact ⟨a, b, d, rfl, h1.ro, h2.ro, h3.ro⟩
def ChO (c : Ch) (lo hi : Nat) (M : Mem) (v : Value) : Prop := ∃ a b d p q, v = chV a b d ∧ lo ≤ p ∧ p ≤ q ∧ q ≤ hi ∧ IntsO c.need lo p M a ∧ IntsO c.setup p q M b ∧ IntsO c.hold q hi M d
theorem ChO.in {c : Ch} {lo hi : Nat} {M : Mem} {v : Value} (h : ChO c lo hi M v) : ChA M v c := by
  obtain ⟨a, b, d, p, q, rfl, _, _, _, h1, h2, h3⟩ := h
  exact ⟨a, b, d, rfl, h1.in, h2.in, h3.in⟩
theorem szChain_rc (m : Mem) (v : Value) (c : Ch) (left : Int) (h : ChA m v c) (h0 : 0 ≤ left) (h1 : left ≤ 1048576) :
    RC Try.prog 29 [v, .int .i64 left] m fun r new => NoRo new ∧ ((r = .int .i64 (-1)) ∨ ∃ z : Int, 0 ≤ z ∧ z ≤ left ∧ r = .int .i64 z ∧ c.need.length ≤ 1048576 ∧ c.setup.length ≤ 1048576 ∧ c.hold.length ≤ 1048576) := by
  refine rc_of_run mixed ok_laws_szChain (by simp) (go_start _ _ _ ?_)
  obtain ⟨a, b, d, rfl, ha, hb, hd⟩ := h.ro
  simp (config := {implicitDefEqProofs := false, maxDischargeDepth := 20}) (disch := first | omega | (simp only [lenE]; done) | (simp only [lenE]; omega) | rfl | (simp only [lenE, markR_len]; done) | (simp only [lenE, markR_len]; omega)) only [runE, mapE, listE, initT_5, initT_6, initT_7, initT_8, resV, oneV, binA, unA, reduceCtorEq, Nat.reduceEqDiff, Nat.reduceAdd, Nat.reduceLT, Nat.reduceLeDiff, Nat.reduceMul, Nat.reduceSub, ↓reduceIte, decide_true, decide_false, Bool.true_eq_false, Bool.false_eq_true, Bool.not_true, Bool.not_false, if_true, if_false, and_true, true_and, memE, celE, w64, Nat.zero_add, Nat.add_zero, Nat.mul_one, putL, and_self, ldn, c_laws_szChain, r_laws_szChain]
  refine callH_rc (szIntsO_rc _ a c.need left (ha.ext _) h0 h1) ?_
  rintro r n1 ⟨nr1, rfl | ⟨z, z0, z1, rfl, l1⟩⟩
  · simp (config := {implicitDefEqProofs := false, maxDischargeDepth := 20}) (disch := first | omega | (simp only [lenE]; done) | (simp only [lenE]; omega) | rfl | (simp only [lenE, markR_len]; done) | (simp only [lenE, markR_len]; omega)) only [runE, mapE, listE, initT_5, initT_6, initT_7, initT_8, resV, oneV, binA, unA, reduceCtorEq, Nat.reduceEqDiff, Nat.reduceAdd, Nat.reduceLT, Nat.reduceLeDiff, Nat.reduceMul, Nat.reduceSub, ↓reduceIte, decide_true, decide_false, Bool.true_eq_false, Bool.false_eq_true, Bool.not_true, Bool.not_false, if_true, if_false, and_true, true_and, memE, celE, w64, Nat.zero_add, Nat.add_zero, Nat.mul_one, putL, and_self, ldn, show ((-1 : Int) < 0) = True by simp]
    try simp only [List.append_assoc, List.cons_append, List.nil_append, List.append_nil]
    exact ⟨_, rfl, by (repeat (first | exact noRo_nil | assumption | apply noRo_own | apply noRo_dead | apply noRo_app)), by (repeat (first | exact noRo_nil | assumption | apply noRo_own | apply noRo_dead | apply noRo_app)), .inl rfl⟩
  · have hz : ¬ (z < 0) := by omega
    simp (config := {implicitDefEqProofs := false, maxDischargeDepth := 20}) (disch := first | omega | (simp only [lenE]; done) | (simp only [lenE]; omega) | rfl | (simp only [lenE, markR_len]; done) | (simp only [lenE, markR_len]; omega)) only [runE, mapE, listE, initT_5, initT_6, initT_7, initT_8, resV, oneV, binA, unA, reduceCtorEq, Nat.reduceEqDiff, Nat.reduceAdd, Nat.reduceLT, Nat.reduceLeDiff, Nat.reduceMul, Nat.reduceSub, ↓reduceIte, decide_true, decide_false, Bool.true_eq_false, Bool.false_eq_true, Bool.not_true, Bool.not_false, if_true, if_false, and_true, true_and, memE, celE, w64, Nat.zero_add, Nat.add_zero, Nat.mul_one, putL, and_self, ldn, hz]
    refine callH_rc (szIntsO_rc _ b c.setup z ((hb.ext _).ext _) z0 (by omega)) ?_
    rintro r n2 ⟨nr2, rfl | ⟨y, y0, y1, rfl, l2⟩⟩
    · simp (config := {implicitDefEqProofs := false, maxDischargeDepth := 20}) (disch := first | omega | (simp only [lenE]; done) | (simp only [lenE]; omega) | rfl | (simp only [lenE, markR_len]; done) | (simp only [lenE, markR_len]; omega)) only [runE, mapE, listE, initT_5, initT_6, initT_7, initT_8, resV, oneV, binA, unA, reduceCtorEq, Nat.reduceEqDiff, Nat.reduceAdd, Nat.reduceLT, Nat.reduceLeDiff, Nat.reduceMul, Nat.reduceSub, ↓reduceIte, decide_true, decide_false, Bool.true_eq_false, Bool.false_eq_true, Bool.not_true, Bool.not_false, if_true, if_false, and_true, true_and, memE, celE, w64, Nat.zero_add, Nat.add_zero, Nat.mul_one, putL, and_self, ldn, show ((-1 : Int) < 0) = True by simp]
      try simp only [List.append_assoc, List.cons_append, List.nil_append, List.append_nil]
      exact ⟨_, rfl, by (repeat (first | exact noRo_nil | assumption | apply noRo_own | apply noRo_dead | apply noRo_app)), by (repeat (first | exact noRo_nil | assumption | apply noRo_own | apply noRo_dead | apply noRo_app)), .inl rfl⟩
    · have hy : ¬ (y < 0) := by omega
      simp (config := {implicitDefEqProofs := false, maxDischargeDepth := 20}) (disch := first | omega | (simp only [lenE]; done) | (simp only [lenE]; omega) | rfl | (simp only [lenE, markR_len]; done) | (simp only [lenE, markR_len]; omega)) only [runE, mapE, listE, initT_5, initT_6, initT_7, initT_8, resV, oneV, binA, unA, reduceCtorEq, Nat.reduceEqDiff, Nat.reduceAdd, Nat.reduceLT, Nat.reduceLeDiff, Nat.reduceMul, Nat.reduceSub, ↓reduceIte, decide_true, decide_false, Bool.true_eq_false, Bool.false_eq_true, Bool.not_true, Bool.not_false, if_true, if_false, and_true, true_and, memE, celE, w64, Nat.zero_add, Nat.add_zero, Nat.mul_one, putL, and_self, ldn, hy]
      refine callH_rc (szIntsO_rc _ d c.hold y (((hd.ext _).ext _).ext _) y0 (by omega)) ?_
      rintro r n3 ⟨nr3, rfl | ⟨x, x0, x1, rfl, l3⟩⟩
      · simp (config := {implicitDefEqProofs := false, maxDischargeDepth := 20}) (disch := first | omega | (simp only [lenE]; done) | (simp only [lenE]; omega) | rfl | (simp only [lenE, markR_len]; done) | (simp only [lenE, markR_len]; omega)) only [runE, mapE, listE, initT_5, initT_6, initT_7, initT_8, resV, oneV, binA, unA, reduceCtorEq, Nat.reduceEqDiff, Nat.reduceAdd, Nat.reduceLT, Nat.reduceLeDiff, Nat.reduceMul, Nat.reduceSub, ↓reduceIte, decide_true, decide_false, Bool.true_eq_false, Bool.false_eq_true, Bool.not_true, Bool.not_false, if_true, if_false, and_true, true_and, memE, celE, w64, Nat.zero_add, Nat.add_zero, Nat.mul_one, putL, and_self, ldn, show ((-1 : Int) < 0) = True by simp]
        try simp only [List.append_assoc, List.cons_append, List.nil_append, List.append_nil]
        exact ⟨_, rfl, by (repeat (first | exact noRo_nil | assumption | apply noRo_own | apply noRo_dead | apply noRo_app)), by (repeat (first | exact noRo_nil | assumption | apply noRo_own | apply noRo_dead | apply noRo_app)), .inl rfl⟩
      · have hx : ¬ (x < 0) := by omega
        simp (config := {implicitDefEqProofs := false, maxDischargeDepth := 20}) (disch := first | omega | (simp only [lenE]; done) | (simp only [lenE]; omega) | rfl | (simp only [lenE, markR_len]; done) | (simp only [lenE, markR_len]; omega)) only [runE, mapE, listE, initT_5, initT_6, initT_7, initT_8, resV, oneV, binA, unA, reduceCtorEq, Nat.reduceEqDiff, Nat.reduceAdd, Nat.reduceLT, Nat.reduceLeDiff, Nat.reduceMul, Nat.reduceSub, ↓reduceIte, decide_true, decide_false, Bool.true_eq_false, Bool.false_eq_true, Bool.not_true, Bool.not_false, if_true, if_false, and_true, true_and, memE, celE, w64, Nat.zero_add, Nat.add_zero, Nat.mul_one, putL, and_self, ldn, hx]
        try simp only [List.append_assoc, List.cons_append, List.nil_append, List.append_nil]
        exact ⟨_, rfl, by (repeat (first | exact noRo_nil | assumption | apply noRo_own | apply noRo_dead | apply noRo_app)), by (repeat (first | exact noRo_nil | assumption | apply noRo_own | apply noRo_dead | apply noRo_app)), .inr ⟨x, x0, by omega, rfl, l1, l2, l3⟩⟩
theorem eqChain_rc (m : Mem) (v u : Value) (c : Ch) (h : ChA m v c) (h' : ChA m u c) : RC Try.prog 33 [v, u] m (AnsV (.bool true)) := by
  refine rc_of_run mixed ok_laws_eqChain (by simp) (go_start _ _ _ ?_)
  obtain ⟨a, b, d, rfl, ha, hb, hd⟩ := h.ro
  obtain ⟨a', b', d', rfl, ha', hb', hd'⟩ := h'.ro
  simp (config := {implicitDefEqProofs := false, maxDischargeDepth := 20}) (disch := first | omega | (simp only [lenE]; done) | (simp only [lenE]; omega) | rfl | (simp only [lenE, markR_len]; done) | (simp only [lenE, markR_len]; omega)) only [runE, mapE, listE, initT_5, initT_6, initT_7, initT_8, resV, oneV, binA, unA, reduceCtorEq, Nat.reduceEqDiff, Nat.reduceAdd, Nat.reduceLT, Nat.reduceLeDiff, Nat.reduceMul, Nat.reduceSub, ↓reduceIte, decide_true, decide_false, Bool.true_eq_false, Bool.false_eq_true, Bool.not_true, Bool.not_false, if_true, if_false, and_true, true_and, memE, celE, w64, Nat.zero_add, Nat.add_zero, Nat.mul_one, putL, and_self, ldn, c_laws_eqChain, r_laws_eqChain, bne_self_eq_false]
  refine callH_rc (eqIntS_rc _ a a' c.need ((ha.ext _).ext _) ((ha'.ext _).ext _)) ?_
  rintro r new ⟨rfl, rfl⟩
  simp (config := {implicitDefEqProofs := false, maxDischargeDepth := 20}) (disch := first | omega | (simp only [lenE]; done) | (simp only [lenE]; omega) | rfl | (simp only [lenE, markR_len]; done) | (simp only [lenE, markR_len]; omega)) only [runE, mapE, listE, initT_5, initT_6, initT_7, initT_8, resV, oneV, binA, unA, reduceCtorEq, Nat.reduceEqDiff, Nat.reduceAdd, Nat.reduceLT, Nat.reduceLeDiff, Nat.reduceMul, Nat.reduceSub, ↓reduceIte, decide_true, decide_false, Bool.true_eq_false, Bool.false_eq_true, Bool.not_true, Bool.not_false, if_true, if_false, and_true, true_and, memE, celE, w64, Nat.zero_add, Nat.add_zero, Nat.mul_one, putL, and_self, ldn, bne_self_eq_false]
  refine callH_rc (eqIntS_rc _ b b' c.setup ((hb.ext _).ext _) ((hb'.ext _).ext _)) ?_
  rintro r new ⟨rfl, rfl⟩
  simp (config := {implicitDefEqProofs := false, maxDischargeDepth := 20}) (disch := first | omega | (simp only [lenE]; done) | (simp only [lenE]; omega) | rfl | (simp only [lenE, markR_len]; done) | (simp only [lenE, markR_len]; omega)) only [runE, mapE, listE, initT_5, initT_6, initT_7, initT_8, resV, oneV, binA, unA, reduceCtorEq, Nat.reduceEqDiff, Nat.reduceAdd, Nat.reduceLT, Nat.reduceLeDiff, Nat.reduceMul, Nat.reduceSub, ↓reduceIte, decide_true, decide_false, Bool.true_eq_false, Bool.false_eq_true, Bool.not_true, Bool.not_false, if_true, if_false, and_true, true_and, memE, celE, w64, Nat.zero_add, Nat.add_zero, Nat.mul_one, putL, and_self, ldn, bne_self_eq_false]
  refine callH_rc (eqIntS_rc _ d d' c.hold ((hd.ext _).ext _) ((hd'.ext _).ext _)) ?_
  rintro r new ⟨rfl, rfl⟩
  simp (config := {implicitDefEqProofs := false, maxDischargeDepth := 20}) (disch := first | omega | (simp only [lenE]; done) | (simp only [lenE]; omega) | rfl | (simp only [lenE, markR_len]; done) | (simp only [lenE, markR_len]; omega)) only [runE, mapE, listE, initT_5, initT_6, initT_7, initT_8, resV, oneV, binA, unA, reduceCtorEq, Nat.reduceEqDiff, Nat.reduceAdd, Nat.reduceLT, Nat.reduceLeDiff, Nat.reduceMul, Nat.reduceSub, ↓reduceIte, decide_true, decide_false, Bool.true_eq_false, Bool.false_eq_true, Bool.not_true, Bool.not_false, if_true, if_false, and_true, true_and, memE, celE, w64, Nat.zero_add, Nat.add_zero, Nat.mul_one, putL, and_self, ldn, bne_self_eq_false]
  try simp only [List.append_assoc, List.cons_append, List.nil_append, List.append_nil]
  exact ⟨_, rfl, by (repeat (first | exact noRo_nil | assumption | apply noRo_own | apply noRo_dead | apply noRo_app)), rfl, by (repeat (first | exact noRo_nil | assumption | apply noRo_own | apply noRo_dead | apply noRo_app))⟩
theorem toChain_rc (m : Mem) (v : Value) (c : Ch) (h : ChA m v c) (l1 : c.need.length ≤ 1048576) (l2 : c.setup.length ≤ 1048576) (l3 : c.hold.length ≤ 1048576) :
    RC Try.prog 31 [v] m (AnsO m (ChO c) id) := by
  refine rc_of_run mixed ok_laws_toChain (by simp) (go_start _ _ _ ?_)
  obtain ⟨a, b, d, rfl, ha, hb, hd⟩ := h.ro
  simp (config := {implicitDefEqProofs := false, maxDischargeDepth := 20}) (disch := first | omega | (simp only [lenE]; done) | (simp only [lenE]; omega) | rfl | (simp only [lenE, markR_len]; done) | (simp only [lenE, markR_len]; omega)) only [runE, mapE, listE, initT_5, initT_6, initT_7, initT_8, resV, oneV, binA, unA, reduceCtorEq, Nat.reduceEqDiff, Nat.reduceAdd, Nat.reduceLT, Nat.reduceLeDiff, Nat.reduceMul, Nat.reduceSub, ↓reduceIte, decide_true, decide_false, Bool.true_eq_false, Bool.false_eq_true, Bool.not_true, Bool.not_false, if_true, if_false, and_true, true_and, memE, celE, w64, Nat.zero_add, Nat.add_zero, Nat.mul_one, putL, and_self, ldn, c_laws_toChain, r_laws_toChain]
  refine callH_rc (toIntS_rc _ a c.need (((ha.ext _).ext _).ext _) l1) ?_
  rintro r new ⟨rfl, rfl⟩
  simp (config := {implicitDefEqProofs := false, maxDischargeDepth := 20}) (disch := first | omega | (simp only [lenE]; done) | (simp only [lenE]; omega) | rfl | (simp only [lenE, markR_len]; done) | (simp only [lenE, markR_len]; omega)) only [runE, mapE, listE, initT_5, initT_6, initT_7, initT_8, resV, oneV, binA, unA, reduceCtorEq, Nat.reduceEqDiff, Nat.reduceAdd, Nat.reduceLT, Nat.reduceLeDiff, Nat.reduceMul, Nat.reduceSub, ↓reduceIte, decide_true, decide_false, Bool.true_eq_false, Bool.false_eq_true, Bool.not_true, Bool.not_false, if_true, if_false, and_true, true_and, memE, celE, w64, Nat.zero_add, Nat.add_zero, Nat.mul_one, putL, and_self, ldn]
  refine callH_rc (toIntS_rc _ b c.setup ((((hb.ext _).ext _).ext _).ext _) l2) ?_
  rintro r new ⟨rfl, rfl⟩
  simp (config := {implicitDefEqProofs := false, maxDischargeDepth := 20}) (disch := first | omega | (simp only [lenE]; done) | (simp only [lenE]; omega) | rfl | (simp only [lenE, markR_len]; done) | (simp only [lenE, markR_len]; omega)) only [runE, mapE, listE, initT_5, initT_6, initT_7, initT_8, resV, oneV, binA, unA, reduceCtorEq, Nat.reduceEqDiff, Nat.reduceAdd, Nat.reduceLT, Nat.reduceLeDiff, Nat.reduceMul, Nat.reduceSub, ↓reduceIte, decide_true, decide_false, Bool.true_eq_false, Bool.false_eq_true, Bool.not_true, Bool.not_false, if_true, if_false, and_true, true_and, memE, celE, w64, Nat.zero_add, Nat.add_zero, Nat.mul_one, putL, and_self, ldn]
  refine callH_rc (toIntS_rc _ d c.hold (((((hd.ext _).ext _).ext _).ext _).ext _) l3) ?_
  rintro r new ⟨rfl, rfl⟩
  simp (config := {implicitDefEqProofs := false, maxDischargeDepth := 20}) (disch := first | omega | (simp only [lenE]; done) | (simp only [lenE]; omega) | rfl | (simp only [lenE, markR_len]; done) | (simp only [lenE, markR_len]; omega)) only [runE, mapE, listE, initT_5, initT_6, initT_7, initT_8, resV, oneV, binA, unA, reduceCtorEq, Nat.reduceEqDiff, Nat.reduceAdd, Nat.reduceLT, Nat.reduceLeDiff, Nat.reduceMul, Nat.reduceSub, ↓reduceIte, decide_true, decide_false, Bool.true_eq_false, Bool.false_eq_true, Bool.not_true, Bool.not_false, if_true, if_false, and_true, true_and, memE, celE, w64, Nat.zero_add, Nat.add_zero, Nat.mul_one, putL, and_self, ldn]
  obtain ⟨N, hN⟩ : ∃ N, N = roM m ++ [⟨.own, 41, [a, b, d]⟩] ++ [⟨.own, 26, [.slice (some ⟨m.length + 1 + 1 + 1, 0, none⟩) c.need.length 1, .slice (some ⟨m.length + 1 + 1 + 1 + 1, 0, none⟩) c.setup.length 1, .slice (some ⟨m.length + 1 + 1 + 1 + 1 + 1, 0, none⟩) c.hold.length 1]⟩] ++ [⟨.own, 26, [.slice (some ⟨m.length + 1 + 1 + 1, 0, none⟩) c.need.length 1, .slice (some ⟨m.length + 1 + 1 + 1 + 1, 0, none⟩) c.setup.length 1, .slice (some ⟨m.length + 1 + 1 + 1 + 1 + 1, 0, none⟩) c.hold.length 1]⟩] := ⟨_, rfl⟩
  rw [← hN]
  have hX : Ext m N := by rw [hN]; exact (((Ext.refl m).one _ _).one _ _).one _ _
  have hL : N.length = m.length + 1 + 1 + 1 := by rw [hN]; simp [roM_len]
  rw [← hL]
  refine ext_ansO (f := _root_.id) ((((hX).one _ _).one _ _).one _ _) fun M' hM => ⟨_, _, _, N.length + 1, N.length + 2, rfl, by omega, by omega, by simp, ?_, ?_, ?_⟩
  · exact IntsA.ownO (OwnR.at_ ((((OwnR.here N c.need _ rfl)).ext _).ext _) (hM _ (by omega) (by simp))) l1 (by omega) (by omega)
  · exact IntsA.ownO (OwnR.at_ ((OwnR.here _ c.setup _ (by simp)).ext _) (hM _ (by omega) (by simp))) l2 (by omega) (by omega)
  · exact IntsA.ownO (OwnR.at_ (OwnR.here _ c.hold _ (by simp)) (hM _ (by omega) (by simp))) l3 (by omega) (by simp)
theorem OwnB.but {M M' : Mem} {id lo hi : Nat} {e : TypeId} {cs : List Value} (h : OwnB M id e cs) (hb : But lo hi M M') (hd : id < lo ∨ hi ≤ id) : OwnB M' id e cs := h.at_ (hb.2 id h.lt hd)
theorem markChain_ac (m : Mem) (lo hi : Nat) (v : Value) (c : Ch) (k0 : Int) (h : Lv lo hi m fun M => ChO c lo hi M v) (h0 : 0 ≤ k0) (h1 : k0 ≤ 68000000000) :
    AC Try.prog 39 [v, .int .i64 k0] m fun r m' => r = .int .i64 (k0 + ((c.need.length : Int) + c.setup.length + c.hold.length)) ∧ But lo hi m m' := by
  refine ac_of_run mixed ok_laws_markChain (by simp) (go_start _ _ _ ?_)
  obtain ⟨a, b, d, p, q, rfl, e1, e2, e3, ha, hb, hd⟩ := h.now
  have s1 := ha.1
  have s2 := hb.1
  have s3 := hd.1
  have hm := h.2.1
  have hb0 : OwnB (m ++ [⟨.own, 26, [a, b, d]⟩]) m.length 26 [a, b, d] := OwnB.here rfl
  have La := (ha.lv (by omega)).ext [⟨.own, 26, [a, b, d]⟩]
  have Lb := (hb.lv (by omega)).ext [⟨.own, 26, [a, b, d]⟩]
  have Ld := (hd.lv (by omega)).ext [⟨.own, 26, [a, b, d]⟩]
  simp (config := {implicitDefEqProofs := false, maxDischargeDepth := 20}) (disch := first | omega | (simp only [lenE]; done) | (simp only [lenE]; omega) | rfl | (simp only [lenE, markR_len]; done) | (simp only [lenE, markR_len]; omega)) only [runE, mapE, listE, initT_5, initT_6, initT_7, initT_8, resV, oneV, binA, unA, reduceCtorEq, Nat.reduceEqDiff, Nat.reduceAdd, Nat.reduceLT, Nat.reduceLeDiff, Nat.reduceMul, Nat.reduceSub, ↓reduceIte, decide_true, decide_false, Bool.true_eq_false, Bool.false_eq_true, Bool.not_true, Bool.not_false, if_true, if_false, and_true, true_and, memE, celE, w64, Nat.zero_add, Nat.add_zero, Nat.mul_one, putL, and_self, ldn, c_laws_markChain, r_laws_markChain]
  refine callH_ac (markIntsO_ac _ lo p a c.need k0 La h0 (by omega)) ?_
  rintro r m1 ⟨rfl, B1, -⟩
  replace hb0 := hb0.but B1 (by omega)
  replace Lb := Lb.but B1 (by omega)
  replace Ld := Ld.but B1 (by omega)
  simp (config := {implicitDefEqProofs := false, maxDischargeDepth := 20}) (disch := first | omega | (simp only [lenE]; done) | (simp only [lenE]; omega) | rfl | (simp only [lenE, markR_len]; done) | (simp only [lenE, markR_len]; omega)) only [runE, mapE, listE, initT_5, initT_6, initT_7, initT_8, resV, oneV, binA, unA, reduceCtorEq, Nat.reduceEqDiff, Nat.reduceAdd, Nat.reduceLT, Nat.reduceLeDiff, Nat.reduceMul, Nat.reduceSub, ↓reduceIte, decide_true, decide_false, Bool.true_eq_false, Bool.false_eq_true, Bool.not_true, Bool.not_false, if_true, if_false, and_true, true_and, memE, celE, w64, Nat.zero_add, Nat.add_zero, Nat.mul_one, putL, and_self, ldn, hb0.rd]
  refine callH_ac (markIntsO_ac _ p q b c.setup _ Lb (by omega) (by omega)) ?_
  rintro r m2 ⟨rfl, B2, -⟩
  replace hb0 := hb0.but B2 (by omega)
  replace Ld := Ld.but B2 (by omega)
  simp (config := {implicitDefEqProofs := false, maxDischargeDepth := 20}) (disch := first | omega | (simp only [lenE]; done) | (simp only [lenE]; omega) | rfl | (simp only [lenE, markR_len]; done) | (simp only [lenE, markR_len]; omega)) only [runE, mapE, listE, initT_5, initT_6, initT_7, initT_8, resV, oneV, binA, unA, reduceCtorEq, Nat.reduceEqDiff, Nat.reduceAdd, Nat.reduceLT, Nat.reduceLeDiff, Nat.reduceMul, Nat.reduceSub, ↓reduceIte, decide_true, decide_false, Bool.true_eq_false, Bool.false_eq_true, Bool.not_true, Bool.not_false, if_true, if_false, and_true, true_and, memE, celE, w64, Nat.zero_add, Nat.add_zero, Nat.mul_one, putL, and_self, ldn, hb0.rd]
  refine callH_ac (markIntsO_ac _ q hi d c.hold _ Ld (by omega) (by omega)) ?_
  rintro r m3 ⟨rfl, B3, -⟩
  simp (config := {implicitDefEqProofs := false, maxDischargeDepth := 20}) (disch := first | omega | (simp only [lenE]; done) | (simp only [lenE]; omega) | rfl | (simp only [lenE, markR_len]; done) | (simp only [lenE, markR_len]; omega)) only [runE, mapE, listE, initT_5, initT_6, initT_7, initT_8, resV, oneV, binA, unA, reduceCtorEq, Nat.reduceEqDiff, Nat.reduceAdd, Nat.reduceLT, Nat.reduceLeDiff, Nat.reduceMul, Nat.reduceSub, ↓reduceIte, decide_true, decide_false, Bool.true_eq_false, Bool.false_eq_true, Bool.not_true, Bool.not_false, if_true, if_false, and_true, true_and, memE, celE, w64, Nat.zero_add, Nat.add_zero, Nat.mul_one, putL, and_self, ldn]
  refine ⟨by congr 1; omega, ?_⟩
  exact (((B1.wider (Nat.le_refl _) (by omega)).trans (B2.wider (by omega) (by omega))).trans (B3.wider (by omega) (Nat.le_refl _))).base
end Go.Proofs.Ytamhhicnfpemeaa.Ab
end
section
namespace Go.Proofs.Ytamhhicnfpemeaa.Ab
open Go Go.RowKit
set_option linter.unusedVariables false
set_option linter.unusedSimpArgs false
def sortFrom (l : List Int) (k : Nat) : Prop := ∀ i, k ≤ i + 1 → i + 1 < l.length → l.getD i 0 ≤ l.getD (i + 1) 0
def sortTo (l : List Int) (k : Nat) : Prop := ∀ i, i + 1 < k → l.getD i 0 ≤ l.getD (i + 1) 0
theorem isNaN7_rc (m : Mem) (x : Int) : RC Try.prog 157 [.int .i64 x] m fun r new => r = .bool false ∧ new = [] := by
  refine rc_of_run mixed ok_cmp_isNaN (by simp) (go_start _ _ _ ?_)
  simp (config := {implicitDefEqProofs := false, maxDischargeDepth := 20}) (disch := first | omega | (simp only [lenE]; done) | (simp only [lenE]; omega) | rfl | (simp only [lenE, markR_len]; done) | (simp only [lenE, markR_len]; omega)) only [runE, mapE, listE, initT_5, initT_6, initT_7, initT_8, resV, oneV, binA, unA, reduceCtorEq, Nat.reduceEqDiff, Nat.reduceAdd, Nat.reduceLT, Nat.reduceLeDiff, Nat.reduceMul, Nat.reduceSub, ↓reduceIte, decide_true, decide_false, Bool.true_eq_false, Bool.false_eq_true, Bool.not_true, Bool.not_false, if_true, if_false, and_true, true_and, memE, celE, w64, Nat.zero_add, Nat.add_zero, Nat.mul_one, putL, and_self, ldn, c_cmp_isNaN, r_cmp_isNaN, bne_self_eq_false]
  exact newQ_nil ⟨rfl, rfl⟩
theorem cmpLess_rc (m : Mem) (x y : Int) : RC Try.prog 128 [.int .i64 x, .int .i64 y] m fun r new => r = .bool (decide (x < y)) ∧ new = [] := by
  refine rc_of_run mixed ok_cmp_Less (by simp) (go_start _ _ _ ?_)
  simp (config := {implicitDefEqProofs := false, maxDischargeDepth := 20}) (disch := first | omega | (simp only [lenE]; done) | (simp only [lenE]; omega) | rfl | (simp only [lenE, markR_len]; done) | (simp only [lenE, markR_len]; omega)) only [runE, mapE, listE, initT_5, initT_6, initT_7, initT_8, resV, oneV, binA, unA, reduceCtorEq, Nat.reduceEqDiff, Nat.reduceAdd, Nat.reduceLT, Nat.reduceLeDiff, Nat.reduceMul, Nat.reduceSub, ↓reduceIte, decide_true, decide_false, Bool.true_eq_false, Bool.false_eq_true, Bool.not_true, Bool.not_false, if_true, if_false, and_true, true_and, memE, celE, w64, Nat.zero_add, Nat.add_zero, Nat.mul_one, putL, and_self, ldn, c_cmp_Less, r_cmp_Less]
  refine callH_rc (isNaN7_rc _ x) ?_
  rintro r new ⟨rfl, rfl⟩
  simp (config := {implicitDefEqProofs := false, maxDischargeDepth := 20}) (disch := first | omega | (simp only [lenE]; done) | (simp only [lenE]; omega) | rfl | (simp only [lenE, markR_len]; done) | (simp only [lenE, markR_len]; omega)) only [runE, mapE, listE, initT_5, initT_6, initT_7, initT_8, resV, oneV, binA, unA, reduceCtorEq, Nat.reduceEqDiff, Nat.reduceAdd, Nat.reduceLT, Nat.reduceLeDiff, Nat.reduceMul, Nat.reduceSub, ↓reduceIte, decide_true, decide_false, Bool.true_eq_false, Bool.false_eq_true, Bool.not_true, Bool.not_false, if_true, if_false, and_true, true_and, memE, celE, w64, Nat.zero_add, Nat.add_zero, Nat.mul_one, putL, and_self, ldn, List.append_nil]
  exact newQ_nil ⟨rfl, rfl⟩
theorem isSorted_rc (m : Mem) (v : Value) (l : List Int) (h : IntsA m v l) : RC Try.prog 96 [v] m fun r new => r = .bool (sortB l) ∧ new = [] := by
  refine rc_of_run mixed ok_slices_IsSorted (by simp) (go_start _ _ _ ?_)
  have hr := h.ro
  have hb := hr.bd
  simp (config := {implicitDefEqProofs := false, maxDischargeDepth := 20}) (disch := first | omega | (simp only [lenE]; done) | (simp only [lenE]; omega) | rfl | (simp only [lenE, markR_len]; done) | (simp only [lenE, markR_len]; omega)) only [runE, mapE, listE, initT_5, initT_6, initT_7, initT_8, resV, oneV, binA, unA, reduceCtorEq, Nat.reduceEqDiff, Nat.reduceAdd, Nat.reduceLT, Nat.reduceLeDiff, Nat.reduceMul, Nat.reduceSub, ↓reduceIte, decide_true, decide_false, Bool.true_eq_false, Bool.false_eq_true, Bool.not_true, Bool.not_false, if_true, if_false, and_true, true_and, memE, celE, w64, Nat.zero_add, Nat.add_zero, Nat.mul_one, putL, and_self, ldn, c_slices_IsSorted, r_slices_IsSorted, hr.len]
  refine loop_inv mixed (fun s => ∃ k : Nat, k ≤ l.length ∧ s.m = roM m ∧ s.t 0 = v ∧ s.t 3 = .int .i64 ((k : Int) - 1) ∧ sortFrom l k) (fun s => (intOf (s.t 3)).toNat)
    ⟨l.length, by omega, rfl, rfl, rfl, fun i h1 h2 => absurd h2 (by omega)⟩ ?_
  rintro s ⟨k, hk, tm, t0, t3, hall⟩
  by_cases hp : 0 < (k : Int) - 1
  · obtain ⟨j, hj⟩ : ∃ j : Nat, k = j + 2 := ⟨k - 2, by omega⟩
    subst hj
    have e1 : ((j + 2 : Nat) : Int) - 1 = ((j + 1 : Nat) : Int) := by omega
    have e2 : ((j + 1 : Nat) : Int) - 1 = ((j : Nat) : Int) := by omega
    rw [e1] at t3 hp
    simp (config := {implicitDefEqProofs := false, maxDischargeDepth := 20}) (disch := first | omega | (simp only [lenE]; done) | (simp only [lenE]; omega) | rfl | (simp only [lenE, markR_len]; done) | (simp only [lenE, markR_len]; omega)) only [runE, mapE, listE, initT_5, initT_6, initT_7, initT_8, resV, oneV, binA, unA, reduceCtorEq, Nat.reduceEqDiff, Nat.reduceAdd, Nat.reduceLT, Nat.reduceLeDiff, Nat.reduceMul, Nat.reduceSub, ↓reduceIte, decide_true, decide_false, Bool.true_eq_false, Bool.false_eq_true, Bool.not_true, Bool.not_false, if_true, if_false, and_true, true_and, memE, celE, w64, Nat.zero_add, Nat.add_zero, Nat.mul_one, putL, and_self, ldn, tm, t0, t3, gt_iff_lt, hp, hr.at_ (j + 1) (by omega), hr.ld (j + 1) (by omega), e2, hr.at_ j (by omega), hr.ld j (by omega)]
    refine rcallH_rc (cmpLess_rc _ _ _) ?_
    rintro r new ⟨rfl, rfl⟩
    rw [List.append_nil]
    by_cases hlt : l.getD (j + 1) 0 < l.getD j 0
    · simp (config := {implicitDefEqProofs := false, maxDischargeDepth := 20}) (disch := first | omega | (simp only [lenE]; done) | (simp only [lenE]; omega) | rfl | (simp only [lenE, markR_len]; done) | (simp only [lenE, markR_len]; omega)) only [runE, mapE, listE, initT_5, initT_6, initT_7, initT_8, resV, oneV, binA, unA, reduceCtorEq, Nat.reduceEqDiff, Nat.reduceAdd, Nat.reduceLT, Nat.reduceLeDiff, Nat.reduceMul, Nat.reduceSub, ↓reduceIte, decide_true, decide_false, Bool.true_eq_false, Bool.false_eq_true, Bool.not_true, Bool.not_false, if_true, if_false, and_true, true_and, memE, celE, w64, Nat.zero_add, Nat.add_zero, Nat.mul_one, putL, and_self, ldn, tm, t0, t3, hlt]
      refine newQ_nil ⟨?_, rfl⟩
      cases hs : sortB l with
      | false => rfl
      | true => have := sortB_iff.1 hs j (by omega); omega
    · simp (config := {implicitDefEqProofs := false, maxDischargeDepth := 20}) (disch := first | omega | (simp only [lenE]; done) | (simp only [lenE]; omega) | rfl | (simp only [lenE, markR_len]; done) | (simp only [lenE, markR_len]; omega)) only [runE, mapE, listE, initT_5, initT_6, initT_7, initT_8, resV, oneV, binA, unA, reduceCtorEq, Nat.reduceEqDiff, Nat.reduceAdd, Nat.reduceLT, Nat.reduceLeDiff, Nat.reduceMul, Nat.reduceSub, ↓reduceIte, decide_true, decide_false, Bool.true_eq_false, Bool.false_eq_true, Bool.not_true, Bool.not_false, if_true, if_false, and_true, true_and, memE, celE, w64, Nat.zero_add, Nat.add_zero, Nat.mul_one, putL, and_self, ldn, tm, t0, t3, hlt]
      refine ⟨⟨j + 1, by omega, by congr 1 <;> omega, fun i h1 h2 => ?_⟩, ?_⟩
      · by_cases e : i = j
        · subst e; omega
        · exact hall i (by omega) h2
      · simp [intOf]
  · simp (config := {implicitDefEqProofs := false, maxDischargeDepth := 20}) (disch := first | omega | (simp only [lenE]; done) | (simp only [lenE]; omega) | rfl | (simp only [lenE, markR_len]; done) | (simp only [lenE, markR_len]; omega)) only [runE, mapE, listE, initT_5, initT_6, initT_7, initT_8, resV, oneV, binA, unA, reduceCtorEq, Nat.reduceEqDiff, Nat.reduceAdd, Nat.reduceLT, Nat.reduceLeDiff, Nat.reduceMul, Nat.reduceSub, ↓reduceIte, decide_true, decide_false, Bool.true_eq_false, Bool.false_eq_true, Bool.not_true, Bool.not_false, if_true, if_false, and_true, true_and, memE, celE, w64, Nat.zero_add, Nat.add_zero, Nat.mul_one, putL, and_self, ldn, tm, t0, t3, gt_iff_lt, hp]
    refine newQ_nil ⟨?_, rfl⟩
    have : sortB l = true := sortB_iff.2 fun i hi => hall i (by omega) hi
    rw [this]
theorem l7Good_rc (m : Mem) (v : Value) (c : Ch) (h : ChA m v c) : RC Try.prog 72 [v] m (AnsV (.bool c.good)) := by
  refine rc_of_run mixed ok_spec_l7Good (by simp) (go_start _ _ _ ?_)
  obtain ⟨a, b, d, rfl, ha, hb, hd⟩ := h.ro
  unfold Ch.good
  by_cases g0 : c.need.length ≤ 6
  · have g0' : ¬ (6 < (c.need.length : Int)) := by omega
    simp (config := {implicitDefEqProofs := false, maxDischargeDepth := 20}) (disch := first | omega | (simp only [lenE]; done) | (simp only [lenE]; omega) | rfl | (simp only [lenE, markR_len]; done) | (simp only [lenE, markR_len]; omega)) only [runE, mapE, listE, initT_5, initT_6, initT_7, initT_8, resV, oneV, binA, unA, reduceCtorEq, Nat.reduceEqDiff, Nat.reduceAdd, Nat.reduceLT, Nat.reduceLeDiff, Nat.reduceMul, Nat.reduceSub, ↓reduceIte, decide_true, decide_false, Bool.true_eq_false, Bool.false_eq_true, Bool.not_true, Bool.not_false, if_true, if_false, and_true, true_and, memE, celE, w64, Nat.zero_add, Nat.add_zero, Nat.mul_one, putL, and_self, ldn, c_spec_l7Good, r_spec_l7Good, ha.len, gt_iff_lt, g0']
    refine callH_rc (l2Row_rc _ a c.need c.need.length 20 (ha.ext _)) ?_
    rintro r new ⟨rfl, rfl⟩
    cases b1 : Go.Proofs.Ytamhhicnfpemeaa.rowB c.need c.need.length 20 with
    | false =>
      simp (config := {implicitDefEqProofs := false, maxDischargeDepth := 20}) (disch := first | omega | (simp only [lenE]; done) | (simp only [lenE]; omega) | rfl | (simp only [lenE, markR_len]; done) | (simp only [lenE, markR_len]; omega)) only [runE, mapE, listE, initT_5, initT_6, initT_7, initT_8, resV, oneV, binA, unA, reduceCtorEq, Nat.reduceEqDiff, Nat.reduceAdd, Nat.reduceLT, Nat.reduceLeDiff, Nat.reduceMul, Nat.reduceSub, ↓reduceIte, decide_true, decide_false, Bool.true_eq_false, Bool.false_eq_true, Bool.not_true, Bool.not_false, if_true, if_false, and_true, true_and, memE, celE, w64, Nat.zero_add, Nat.add_zero, Nat.mul_one, putL, and_self, ldn]
      try simp only [List.append_assoc, List.cons_append, List.nil_append, List.append_nil]
      exact ⟨_, rfl, by (repeat (first | exact noRo_nil | assumption | apply noRo_own | apply noRo_dead | apply noRo_app)), by simp, by (repeat (first | exact noRo_nil | assumption | apply noRo_own | apply noRo_dead | apply noRo_app))⟩
    | true =>
    simp (config := {implicitDefEqProofs := false, maxDischargeDepth := 20}) (disch := first | omega | (simp only [lenE]; done) | (simp only [lenE]; omega) | rfl | (simp only [lenE, markR_len]; done) | (simp only [lenE, markR_len]; omega)) only [runE, mapE, listE, initT_5, initT_6, initT_7, initT_8, resV, oneV, binA, unA, reduceCtorEq, Nat.reduceEqDiff, Nat.reduceAdd, Nat.reduceLT, Nat.reduceLeDiff, Nat.reduceMul, Nat.reduceSub, ↓reduceIte, decide_true, decide_false, Bool.true_eq_false, Bool.false_eq_true, Bool.not_true, Bool.not_false, if_true, if_false, and_true, true_and, memE, celE, w64, Nat.zero_add, Nat.add_zero, Nat.mul_one, putL, and_self, ldn, hb.len]
    refine callH_rc (l1In_rc _ _ _ _) ?_
    rintro r new ⟨rfl, rfl⟩
    cases b2 : (decide ((1 : Int) ≤ (c.setup.length : Int)) && decide ((c.setup.length : Int) ≤ 3)) with
    | false =>
      simp (config := {implicitDefEqProofs := false, maxDischargeDepth := 20}) (disch := first | omega | (simp only [lenE]; done) | (simp only [lenE]; omega) | rfl | (simp only [lenE, markR_len]; done) | (simp only [lenE, markR_len]; omega)) only [runE, mapE, listE, initT_5, initT_6, initT_7, initT_8, resV, oneV, binA, unA, reduceCtorEq, Nat.reduceEqDiff, Nat.reduceAdd, Nat.reduceLT, Nat.reduceLeDiff, Nat.reduceMul, Nat.reduceSub, ↓reduceIte, decide_true, decide_false, Bool.true_eq_false, Bool.false_eq_true, Bool.not_true, Bool.not_false, if_true, if_false, and_true, true_and, memE, celE, w64, Nat.zero_add, Nat.add_zero, Nat.mul_one, putL, and_self, ldn]
      try simp only [List.append_assoc, List.cons_append, List.nil_append, List.append_nil]
      have : (decide (1 ≤ c.setup.length) && decide (c.setup.length ≤ 3)) = false := by simp at b2 ⊢; omega
      exact ⟨_, rfl, by (repeat (first | exact noRo_nil | assumption | apply noRo_own | apply noRo_dead | apply noRo_app)), by rw [this]; simp, by (repeat (first | exact noRo_nil | assumption | apply noRo_own | apply noRo_dead | apply noRo_app))⟩
    | true =>
    have b2' : (decide (1 ≤ c.setup.length) && decide (c.setup.length ≤ 3)) = true := by simp at b2 ⊢; omega
    simp (config := {implicitDefEqProofs := false, maxDischargeDepth := 20}) (disch := first | omega | (simp only [lenE]; done) | (simp only [lenE]; omega) | rfl | (simp only [lenE, markR_len]; done) | (simp only [lenE, markR_len]; omega)) only [runE, mapE, listE, initT_5, initT_6, initT_7, initT_8, resV, oneV, binA, unA, reduceCtorEq, Nat.reduceEqDiff, Nat.reduceAdd, Nat.reduceLT, Nat.reduceLeDiff, Nat.reduceMul, Nat.reduceSub, ↓reduceIte, decide_true, decide_false, Bool.true_eq_false, Bool.false_eq_true, Bool.not_true, Bool.not_false, if_true, if_false, and_true, true_and, memE, celE, w64, Nat.zero_add, Nat.add_zero, Nat.mul_one, putL, and_self, ldn, hb.len]
    refine callH_rc (l2Row_rc _ b c.setup c.setup.length 99 (hb.ext _)) ?_
    rintro r new ⟨rfl, rfl⟩
    cases b3 : Go.Proofs.Ytamhhicnfpemeaa.rowB c.setup c.setup.length 99 with
    | false =>
      simp (config := {implicitDefEqProofs := false, maxDischargeDepth := 20}) (disch := first | omega | (simp only [lenE]; done) | (simp only [lenE]; omega) | rfl | (simp only [lenE, markR_len]; done) | (simp only [lenE, markR_len]; omega)) only [runE, mapE, listE, initT_5, initT_6, initT_7, initT_8, resV, oneV, binA, unA, reduceCtorEq, Nat.reduceEqDiff, Nat.reduceAdd, Nat.reduceLT, Nat.reduceLeDiff, Nat.reduceMul, Nat.reduceSub, ↓reduceIte, decide_true, decide_false, Bool.true_eq_false, Bool.false_eq_true, Bool.not_true, Bool.not_false, if_true, if_false, and_true, true_and, memE, celE, w64, Nat.zero_add, Nat.add_zero, Nat.mul_one, putL, and_self, ldn]
      try simp only [List.append_assoc, List.cons_append, List.nil_append, List.append_nil]
      exact ⟨_, rfl, by (repeat (first | exact noRo_nil | assumption | apply noRo_own | apply noRo_dead | apply noRo_app)), by simp, by (repeat (first | exact noRo_nil | assumption | apply noRo_own | apply noRo_dead | apply noRo_app))⟩
    | true =>
    simp (config := {implicitDefEqProofs := false, maxDischargeDepth := 20}) (disch := first | omega | (simp only [lenE]; done) | (simp only [lenE]; omega) | rfl | (simp only [lenE, markR_len]; done) | (simp only [lenE, markR_len]; omega)) only [runE, mapE, listE, initT_5, initT_6, initT_7, initT_8, resV, oneV, binA, unA, reduceCtorEq, Nat.reduceEqDiff, Nat.reduceAdd, Nat.reduceLT, Nat.reduceLeDiff, Nat.reduceMul, Nat.reduceSub, ↓reduceIte, decide_true, decide_false, Bool.true_eq_false, Bool.false_eq_true, Bool.not_true, Bool.not_false, if_true, if_false, and_true, true_and, memE, celE, w64, Nat.zero_add, Nat.add_zero, Nat.mul_one, putL, and_self, ldn, hb.len]
    refine callH_rc (l2Row_rc _ d c.hold c.setup.length 9 (hd.ext _)) ?_
    rintro r new ⟨rfl, rfl⟩
    cases b4 : Go.Proofs.Ytamhhicnfpemeaa.rowB c.hold c.setup.length 9 with
    | false =>
      simp (config := {implicitDefEqProofs := false, maxDischargeDepth := 20}) (disch := first | omega | (simp only [lenE]; done) | (simp only [lenE]; omega) | rfl | (simp only [lenE, markR_len]; done) | (simp only [lenE, markR_len]; omega)) only [runE, mapE, listE, initT_5, initT_6, initT_7, initT_8, resV, oneV, binA, unA, reduceCtorEq, Nat.reduceEqDiff, Nat.reduceAdd, Nat.reduceLT, Nat.reduceLeDiff, Nat.reduceMul, Nat.reduceSub, ↓reduceIte, decide_true, decide_false, Bool.true_eq_false, Bool.false_eq_true, Bool.not_true, Bool.not_false, if_true, if_false, and_true, true_and, memE, celE, w64, Nat.zero_add, Nat.add_zero, Nat.mul_one, putL, and_self, ldn]
      try simp only [List.append_assoc, List.cons_append, List.nil_append, List.append_nil]
      exact ⟨_, rfl, by (repeat (first | exact noRo_nil | assumption | apply noRo_own | apply noRo_dead | apply noRo_app)), by simp, by (repeat (first | exact noRo_nil | assumption | apply noRo_own | apply noRo_dead | apply noRo_app))⟩
    | true =>
    have hl := (rowB_iff.1 b4).2
    have l3 : c.hold.length ≤ 3 := by simp at b2'; omega
    have hX := (Ext.refl m).one 26 [a, b, d]
    simp (config := {implicitDefEqProofs := false, maxDischargeDepth := 20}) (disch := first | omega | (simp only [lenE]; done) | (simp only [lenE]; omega) | rfl | (simp only [lenE, markR_len]; done) | (simp only [lenE, markR_len]; omega)) only [runE, mapE, listE, initT_5, initT_6, initT_7, initT_8, resV, oneV, binA, unA, reduceCtorEq, Nat.reduceEqDiff, Nat.reduceAdd, Nat.reduceLT, Nat.reduceLeDiff, Nat.reduceMul, Nat.reduceSub, ↓reduceIte, decide_true, decide_false, Bool.true_eq_false, Bool.false_eq_true, Bool.not_true, Bool.not_false, if_true, if_false, and_true, true_and, memE, celE, w64, Nat.zero_add, Nat.add_zero, Nat.mul_one, putL, and_self, ldn]
    refine loop_inv mixed (fun s => ∃ k : Nat, 1 ≤ k ∧ s.m = roM m ++ [⟨.own, 26, [a, b, d]⟩] ∧ s.t 1 = .pointer (some ⟨m.length, 0, none⟩) ∧ s.t 3 = .int .i64 (k : Int) ∧ (k ≤ c.hold.length ∨ k = 1) ∧ sortTo c.hold k) (fun s => (c.hold.length - intOf (s.t 3)).toNat)
      ⟨1, by omega, rfl, rfl, rfl, .inr rfl, fun i hi => absurd hi (by omega)⟩ ?_
    rintro s ⟨k, h1, tm, t1, t3, hk, hall⟩
    by_cases hp : (k : Int) < c.hold.length
    · obtain ⟨j, hj⟩ : ∃ j : Nat, k = j + 1 := ⟨k - 1, by omega⟩
      subst hj
      have e2 : ((j + 1 : Nat) : Int) - 1 = ((j : Nat) : Int) := by omega
      have hd1 := hd.ext [⟨.own, 26, [a, b, d]⟩]
      by_cases hlt : c.hold.getD (j + 1) 0 < c.hold.getD j 0
      · simp (config := {implicitDefEqProofs := false, maxDischargeDepth := 20}) (disch := first | omega | (simp only [lenE]; done) | (simp only [lenE]; omega) | rfl | (simp only [lenE, markR_len]; done) | (simp only [lenE, markR_len]; omega)) only [runE, mapE, listE, initT_5, initT_6, initT_7, initT_8, resV, oneV, binA, unA, reduceCtorEq, Nat.reduceEqDiff, Nat.reduceAdd, Nat.reduceLT, Nat.reduceLeDiff, Nat.reduceMul, Nat.reduceSub, ↓reduceIte, decide_true, decide_false, Bool.true_eq_false, Bool.false_eq_true, Bool.not_true, Bool.not_false, if_true, if_false, and_true, true_and, memE, celE, w64, Nat.zero_add, Nat.add_zero, Nat.mul_one, putL, and_self, ldn, tm, t1, t3, hp, hd.len, hd.at_ (j + 1) (by omega), hd1.ld (j + 1) (by omega), e2, hd.at_ j (by omega), hd1.ld j (by omega), hlt]
        refine ext_ansV hX ?_
        cases hs : sortB c.hold with
        | false => simp
        | true => have := sortB_iff.1 hs j (by omega); omega
      · simp (config := {implicitDefEqProofs := false, maxDischargeDepth := 20}) (disch := first | omega | (simp only [lenE]; done) | (simp only [lenE]; omega) | rfl | (simp only [lenE, markR_len]; done) | (simp only [lenE, markR_len]; omega)) only [runE, mapE, listE, initT_5, initT_6, initT_7, initT_8, resV, oneV, binA, unA, reduceCtorEq, Nat.reduceEqDiff, Nat.reduceAdd, Nat.reduceLT, Nat.reduceLeDiff, Nat.reduceMul, Nat.reduceSub, ↓reduceIte, decide_true, decide_false, Bool.true_eq_false, Bool.false_eq_true, Bool.not_true, Bool.not_false, if_true, if_false, and_true, true_and, memE, celE, w64, Nat.zero_add, Nat.add_zero, Nat.mul_one, putL, and_self, ldn, tm, t1, t3, hp, hd.len, hd.at_ (j + 1) (by omega), hd1.ld (j + 1) (by omega), e2, hd.at_ j (by omega), hd1.ld j (by omega), hlt]
        refine ⟨⟨j + 2, by omega, by simp; omega, by omega, fun i h2 => ?_⟩, ?_⟩
        · by_cases e : i = j
          · subst e; omega
          · exact hall i (by omega)
        · simp [intOf]; omega
    · simp (config := {implicitDefEqProofs := false, maxDischargeDepth := 20}) (disch := first | omega | (simp only [lenE]; done) | (simp only [lenE]; omega) | rfl | (simp only [lenE, markR_len]; done) | (simp only [lenE, markR_len]; omega)) only [runE, mapE, listE, initT_5, initT_6, initT_7, initT_8, resV, oneV, binA, unA, reduceCtorEq, Nat.reduceEqDiff, Nat.reduceAdd, Nat.reduceLT, Nat.reduceLeDiff, Nat.reduceMul, Nat.reduceSub, ↓reduceIte, decide_true, decide_false, Bool.true_eq_false, Bool.false_eq_true, Bool.not_true, Bool.not_false, if_true, if_false, and_true, true_and, memE, celE, w64, Nat.zero_add, Nat.add_zero, Nat.mul_one, putL, and_self, ldn, tm, t1, t3, hp, hd.len]
      refine ext_ansV hX ?_
      have : sortB c.hold = true := sortB_iff.2 fun i hi => hall i (by omega)
      rw [this, b2']
      simp [g0]
  · have g0' : 6 < (c.need.length : Int) := by omega
    simp (config := {implicitDefEqProofs := false, maxDischargeDepth := 20}) (disch := first | omega | (simp only [lenE]; done) | (simp only [lenE]; omega) | rfl | (simp only [lenE, markR_len]; done) | (simp only [lenE, markR_len]; omega)) only [runE, mapE, listE, initT_5, initT_6, initT_7, initT_8, resV, oneV, binA, unA, reduceCtorEq, Nat.reduceEqDiff, Nat.reduceAdd, Nat.reduceLT, Nat.reduceLeDiff, Nat.reduceMul, Nat.reduceSub, ↓reduceIte, decide_true, decide_false, Bool.true_eq_false, Bool.false_eq_true, Bool.not_true, Bool.not_false, if_true, if_false, and_true, true_and, memE, celE, w64, Nat.zero_add, Nat.add_zero, Nat.mul_one, putL, and_self, ldn, c_spec_l7Good, r_spec_l7Good, ha.len, gt_iff_lt, g0']
    try simp only [List.append_assoc, List.cons_append, List.nil_append, List.append_nil]
    exact ⟨_, rfl, by (repeat (first | exact noRo_nil | assumption | apply noRo_own | apply noRo_dead | apply noRo_app)), by simp [g0], by (repeat (first | exact noRo_nil | assumption | apply noRo_own | apply noRo_dead | apply noRo_app))⟩
theorem areStages_rc (m : Mem) (a b d : Value) (c : Ch) (ha : IntsA m a c.need) (hb : IntsA m b c.setup) (hd : IntsA m d c.hold) :
    RC Try.prog 79 [a, b, d] m (AnsV (.bool (decide (c.need.length ≤ 6) && Go.Proofs.Ytamhhicnfpemeaa.rowB c.need c.need.length 20 && (decide (1 ≤ c.setup.length) && decide (c.setup.length ≤ 3)) && Go.Proofs.Ytamhhicnfpemeaa.rowB c.setup c.setup.length 99 && Go.Proofs.Ytamhhicnfpemeaa.rowB c.hold c.setup.length 9))) := by
  refine rc_of_run mixed ok_impl_areStages (by simp) (go_start _ _ _ ?_)
  have ha' := ha.ro
  have hb' := hb.ro
  have hd' := hd.ro
  by_cases g0 : 0 < (c.setup.length : Int)
  · by_cases g1 : (c.setup.length : Int) ≤ 3
    · simp (config := {implicitDefEqProofs := false, maxDischargeDepth := 20}) (disch := first | omega | (simp only [lenE]; done) | (simp only [lenE]; omega) | rfl | (simp only [lenE, markR_len]; done) | (simp only [lenE, markR_len]; omega)) only [runE, mapE, listE, initT_5, initT_6, initT_7, initT_8, resV, oneV, binA, unA, reduceCtorEq, Nat.reduceEqDiff, Nat.reduceAdd, Nat.reduceLT, Nat.reduceLeDiff, Nat.reduceMul, Nat.reduceSub, ↓reduceIte, decide_true, decide_false, Bool.true_eq_false, Bool.false_eq_true, Bool.not_true, Bool.not_false, if_true, if_false, and_true, true_and, memE, celE, w64, Nat.zero_add, Nat.add_zero, Nat.mul_one, putL, and_self, ldn, c_impl_areStages, r_impl_areStages, hb'.len, gt_iff_lt, g0, g1]
      refine callH_rc (isRow_rc _ b c.setup c.setup.length 99 hb') ?_
      rintro r n1 ⟨rfl, nr1⟩
      cases b3 : Go.Proofs.Ytamhhicnfpemeaa.rowB c.setup c.setup.length 99 with
      | false =>
        simp (config := {implicitDefEqProofs := false, maxDischargeDepth := 20}) (disch := first | omega | (simp only [lenE]; done) | (simp only [lenE]; omega) | rfl | (simp only [lenE, markR_len]; done) | (simp only [lenE, markR_len]; omega)) only [runE, mapE, listE, initT_5, initT_6, initT_7, initT_8, resV, oneV, binA, unA, reduceCtorEq, Nat.reduceEqDiff, Nat.reduceAdd, Nat.reduceLT, Nat.reduceLeDiff, Nat.reduceMul, Nat.reduceSub, ↓reduceIte, decide_true, decide_false, Bool.true_eq_false, Bool.false_eq_true, Bool.not_true, Bool.not_false, if_true, if_false, and_true, true_and, memE, celE, w64, Nat.zero_add, Nat.add_zero, Nat.mul_one, putL, and_self, ldn]
        try simp only [List.append_assoc, List.cons_append, List.nil_append, List.append_nil]
        exact ⟨_, rfl, by (repeat (first | exact noRo_nil | assumption | apply noRo_own | apply noRo_dead | apply noRo_app)), by simp, by (repeat (first | exact noRo_nil | assumption | apply noRo_own | apply noRo_dead | apply noRo_app))⟩
      | true =>
      simp (config := {implicitDefEqProofs := false, maxDischargeDepth := 20}) (disch := first | omega | (simp only [lenE]; done) | (simp only [lenE]; omega) | rfl | (simp only [lenE, markR_len]; done) | (simp only [lenE, markR_len]; omega)) only [runE, mapE, listE, initT_5, initT_6, initT_7, initT_8, resV, oneV, binA, unA, reduceCtorEq, Nat.reduceEqDiff, Nat.reduceAdd, Nat.reduceLT, Nat.reduceLeDiff, Nat.reduceMul, Nat.reduceSub, ↓reduceIte, decide_true, decide_false, Bool.true_eq_false, Bool.false_eq_true, Bool.not_true, Bool.not_false, if_true, if_false, and_true, true_and, memE, celE, w64, Nat.zero_add, Nat.add_zero, Nat.mul_one, putL, and_self, ldn]
      refine callH_rc (isRow_rc _ d c.hold c.setup.length 9 (hd'.ext _)) ?_
      rintro r n2 ⟨rfl, nr2⟩
      cases b4 : Go.Proofs.Ytamhhicnfpemeaa.rowB c.hold c.setup.length 9 with
      | false =>
        simp (config := {implicitDefEqProofs := false, maxDischargeDepth := 20}) (disch := first | omega | (simp only [lenE]; done) | (simp only [lenE]; omega) | rfl | (simp only [lenE, markR_len]; done) | (simp only [lenE, markR_len]; omega)) only [runE, mapE, listE, initT_5, initT_6, initT_7, initT_8, resV, oneV, binA, unA, reduceCtorEq, Nat.reduceEqDiff, Nat.reduceAdd, Nat.reduceLT, Nat.reduceLeDiff, Nat.reduceMul, Nat.reduceSub, ↓reduceIte, decide_true, decide_false, Bool.true_eq_false, Bool.false_eq_true, Bool.not_true, Bool.not_false, if_true, if_false, and_true, true_and, memE, celE, w64, Nat.zero_add, Nat.add_zero, Nat.mul_one, putL, and_self, ldn]
        try simp only [List.append_assoc, List.cons_append, List.nil_append, List.append_nil]
        exact ⟨_, rfl, by (repeat (first | exact noRo_nil | assumption | apply noRo_own | apply noRo_dead | apply noRo_app)), by simp, by (repeat (first | exact noRo_nil | assumption | apply noRo_own | apply noRo_dead | apply noRo_app))⟩
      | true =>
      by_cases g2 : (c.need.length : Int) ≤ 6
      · simp (config := {implicitDefEqProofs := false, maxDischargeDepth := 20}) (disch := first | omega | (simp only [lenE]; done) | (simp only [lenE]; omega) | rfl | (simp only [lenE, markR_len]; done) | (simp only [lenE, markR_len]; omega)) only [runE, mapE, listE, initT_5, initT_6, initT_7, initT_8, resV, oneV, binA, unA, reduceCtorEq, Nat.reduceEqDiff, Nat.reduceAdd, Nat.reduceLT, Nat.reduceLeDiff, Nat.reduceMul, Nat.reduceSub, ↓reduceIte, decide_true, decide_false, Bool.true_eq_false, Bool.false_eq_true, Bool.not_true, Bool.not_false, if_true, if_false, and_true, true_and, memE, celE, w64, Nat.zero_add, Nat.add_zero, Nat.mul_one, putL, and_self, ldn, ha'.len, g2]
        refine callH_rc (isRow_rc _ a c.need c.need.length 20 ((ha'.ext _).ext _)) ?_
        rintro r n3 ⟨rfl, nr3⟩
        simp (config := {implicitDefEqProofs := false, maxDischargeDepth := 20}) (disch := first | omega | (simp only [lenE]; done) | (simp only [lenE]; omega) | rfl | (simp only [lenE, markR_len]; done) | (simp only [lenE, markR_len]; omega)) only [runE, mapE, listE, initT_5, initT_6, initT_7, initT_8, resV, oneV, binA, unA, reduceCtorEq, Nat.reduceEqDiff, Nat.reduceAdd, Nat.reduceLT, Nat.reduceLeDiff, Nat.reduceMul, Nat.reduceSub, ↓reduceIte, decide_true, decide_false, Bool.true_eq_false, Bool.false_eq_true, Bool.not_true, Bool.not_false, if_true, if_false, and_true, true_and, memE, celE, w64, Nat.zero_add, Nat.add_zero, Nat.mul_one, putL, and_self, ldn]
        try simp only [List.append_assoc, List.cons_append, List.nil_append, List.append_nil]
        have h1 : c.need.length ≤ 6 := by omega
        have h2 : 1 ≤ c.setup.length := by omega
        have h3 : c.setup.length ≤ 3 := by omega
        exact ⟨_, rfl, by (repeat (first | exact noRo_nil | assumption | apply noRo_own | apply noRo_dead | apply noRo_app)), by simp [h1, h2, h3], by (repeat (first | exact noRo_nil | assumption | apply noRo_own | apply noRo_dead | apply noRo_app))⟩
      · simp (config := {implicitDefEqProofs := false, maxDischargeDepth := 20}) (disch := first | omega | (simp only [lenE]; done) | (simp only [lenE]; omega) | rfl | (simp only [lenE, markR_len]; done) | (simp only [lenE, markR_len]; omega)) only [runE, mapE, listE, initT_5, initT_6, initT_7, initT_8, resV, oneV, binA, unA, reduceCtorEq, Nat.reduceEqDiff, Nat.reduceAdd, Nat.reduceLT, Nat.reduceLeDiff, Nat.reduceMul, Nat.reduceSub, ↓reduceIte, decide_true, decide_false, Bool.true_eq_false, Bool.false_eq_true, Bool.not_true, Bool.not_false, if_true, if_false, and_true, true_and, memE, celE, w64, Nat.zero_add, Nat.add_zero, Nat.mul_one, putL, and_self, ldn, ha'.len, g2]
        try simp only [List.append_assoc, List.cons_append, List.nil_append, List.append_nil]
        have h1 : ¬ (c.need.length ≤ 6) := by omega
        exact ⟨_, rfl, by (repeat (first | exact noRo_nil | assumption | apply noRo_own | apply noRo_dead | apply noRo_app)), by simp [h1], by (repeat (first | exact noRo_nil | assumption | apply noRo_own | apply noRo_dead | apply noRo_app))⟩
    · simp (config := {implicitDefEqProofs := false, maxDischargeDepth := 20}) (disch := first | omega | (simp only [lenE]; done) | (simp only [lenE]; omega) | rfl | (simp only [lenE, markR_len]; done) | (simp only [lenE, markR_len]; omega)) only [runE, mapE, listE, initT_5, initT_6, initT_7, initT_8, resV, oneV, binA, unA, reduceCtorEq, Nat.reduceEqDiff, Nat.reduceAdd, Nat.reduceLT, Nat.reduceLeDiff, Nat.reduceMul, Nat.reduceSub, ↓reduceIte, decide_true, decide_false, Bool.true_eq_false, Bool.false_eq_true, Bool.not_true, Bool.not_false, if_true, if_false, and_true, true_and, memE, celE, w64, Nat.zero_add, Nat.add_zero, Nat.mul_one, putL, and_self, ldn, c_impl_areStages, r_impl_areStages, hb'.len, gt_iff_lt, g0, g1]
      have h1 : ¬ (c.setup.length ≤ 3) := by omega
      exact newQ_nil ⟨by simp [h1], noRo_nil⟩
  · simp (config := {implicitDefEqProofs := false, maxDischargeDepth := 20}) (disch := first | omega | (simp only [lenE]; done) | (simp only [lenE]; omega) | rfl | (simp only [lenE, markR_len]; done) | (simp only [lenE, markR_len]; omega)) only [runE, mapE, listE, initT_5, initT_6, initT_7, initT_8, resV, oneV, binA, unA, reduceCtorEq, Nat.reduceEqDiff, Nat.reduceAdd, Nat.reduceLT, Nat.reduceLeDiff, Nat.reduceMul, Nat.reduceSub, ↓reduceIte, decide_true, decide_false, Bool.true_eq_false, Bool.false_eq_true, Bool.not_true, Bool.not_false, if_true, if_false, and_true, true_and, memE, celE, w64, Nat.zero_add, Nat.add_zero, Nat.mul_one, putL, and_self, ldn, c_impl_areStages, r_impl_areStages, hb'.len, gt_iff_lt, g0]
    have h1 : ¬ (1 ≤ c.setup.length) := by omega
    exact newQ_nil ⟨by simp [h1], noRo_nil⟩
theorem implIsChain_rc (m : Mem) (v : Value) (c : Ch) (h : ChA m v c) : RC Try.prog 32 [v] m (AnsV (.bool c.good)) := by
  refine rc_of_run mixed ok_impl_IsChain (by simp) (go_start _ _ _ ?_)
  obtain ⟨a, b, d, rfl, ha, hb, hd⟩ := h.ro
  simp (config := {implicitDefEqProofs := false, maxDischargeDepth := 20}) (disch := first | omega | (simp only [lenE]; done) | (simp only [lenE]; omega) | rfl | (simp only [lenE, markR_len]; done) | (simp only [lenE, markR_len]; omega)) only [runE, mapE, listE, initT_5, initT_6, initT_7, initT_8, resV, oneV, binA, unA, reduceCtorEq, Nat.reduceEqDiff, Nat.reduceAdd, Nat.reduceLT, Nat.reduceLeDiff, Nat.reduceMul, Nat.reduceSub, ↓reduceIte, decide_true, decide_false, Bool.true_eq_false, Bool.false_eq_true, Bool.not_true, Bool.not_false, if_true, if_false, and_true, true_and, memE, celE, w64, Nat.zero_add, Nat.add_zero, Nat.mul_one, putL, and_self, ldn, c_impl_IsChain, r_impl_IsChain]
  refine callH_rc (areStages_rc _ a b d c (ha.ext _) (hb.ext _) (hd.ext _)) ?_
  rintro r n1 ⟨rfl, nr1⟩
  unfold Ch.good
  obtain ⟨x, hx⟩ : ∃ x, x = (decide (c.need.length ≤ 6) && Go.Proofs.Ytamhhicnfpemeaa.rowB c.need c.need.length 20 && (decide (1 ≤ c.setup.length) && decide (c.setup.length ≤ 3)) && Go.Proofs.Ytamhhicnfpemeaa.rowB c.setup c.setup.length 99 && Go.Proofs.Ytamhhicnfpemeaa.rowB c.hold c.setup.length 9) := ⟨_, rfl⟩
  rw [← hx]
  cases x with
  | false =>
    simp (config := {implicitDefEqProofs := false, maxDischargeDepth := 20}) (disch := first | omega | (simp only [lenE]; done) | (simp only [lenE]; omega) | rfl | (simp only [lenE, markR_len]; done) | (simp only [lenE, markR_len]; omega)) only [runE, mapE, listE, initT_5, initT_6, initT_7, initT_8, resV, oneV, binA, unA, reduceCtorEq, Nat.reduceEqDiff, Nat.reduceAdd, Nat.reduceLT, Nat.reduceLeDiff, Nat.reduceMul, Nat.reduceSub, ↓reduceIte, decide_true, decide_false, Bool.true_eq_false, Bool.false_eq_true, Bool.not_true, Bool.not_false, if_true, if_false, and_true, true_and, memE, celE, w64, Nat.zero_add, Nat.add_zero, Nat.mul_one, putL, and_self, ldn]
    try simp only [List.append_assoc, List.cons_append, List.nil_append, List.append_nil]
    exact ⟨_, rfl, by (repeat (first | exact noRo_nil | assumption | apply noRo_own | apply noRo_dead | apply noRo_app)), rfl, by (repeat (first | exact noRo_nil | assumption | apply noRo_own | apply noRo_dead | apply noRo_app))⟩
  | true =>
    simp (config := {implicitDefEqProofs := false, maxDischargeDepth := 20}) (disch := first | omega | (simp only [lenE]; done) | (simp only [lenE]; omega) | rfl | (simp only [lenE, markR_len]; done) | (simp only [lenE, markR_len]; omega)) only [runE, mapE, listE, initT_5, initT_6, initT_7, initT_8, resV, oneV, binA, unA, reduceCtorEq, Nat.reduceEqDiff, Nat.reduceAdd, Nat.reduceLT, Nat.reduceLeDiff, Nat.reduceMul, Nat.reduceSub, ↓reduceIte, decide_true, decide_false, Bool.true_eq_false, Bool.false_eq_true, Bool.not_true, Bool.not_false, if_true, if_false, and_true, true_and, memE, celE, w64, Nat.zero_add, Nat.add_zero, Nat.mul_one, putL, and_self, ldn]
    refine callH_rc (isSorted_rc _ d c.hold ((hd.ext _).ext _)) ?_
    rintro r n2 ⟨rfl, rfl⟩
    simp (config := {implicitDefEqProofs := false, maxDischargeDepth := 20}) (disch := first | omega | (simp only [lenE]; done) | (simp only [lenE]; omega) | rfl | (simp only [lenE, markR_len]; done) | (simp only [lenE, markR_len]; omega)) only [runE, mapE, listE, initT_5, initT_6, initT_7, initT_8, resV, oneV, binA, unA, reduceCtorEq, Nat.reduceEqDiff, Nat.reduceAdd, Nat.reduceLT, Nat.reduceLeDiff, Nat.reduceMul, Nat.reduceSub, ↓reduceIte, decide_true, decide_false, Bool.true_eq_false, Bool.false_eq_true, Bool.not_true, Bool.not_false, if_true, if_false, and_true, true_and, memE, celE, w64, Nat.zero_add, Nat.add_zero, Nat.mul_one, putL, and_self, ldn]
    try simp only [List.append_assoc, List.cons_append, List.nil_append, List.append_nil]
    exact ⟨_, rfl, by (repeat (first | exact noRo_nil | assumption | apply noRo_own | apply noRo_dead | apply noRo_app)), rfl, by (repeat (first | exact noRo_nil | assumption | apply noRo_own | apply noRo_dead | apply noRo_app))⟩
theorem echelonHold_rc (m : Mem) (v : Value) (c : Ch) (s : Nat) (z : Int) (hz : z = s) (h : ChA m v c) (hg : GoodCh c) (hs : s < c.hold.length) : RC Try.prog 103 [v, .int .i64 z] m (AnsV (.int .i64 (c.ech s))) := by
  subst hz
  refine rc_of_run mixed ok_impl_echelonHold (by simp) (go_start _ _ _ ?_)
  obtain ⟨a, b, d, rfl, ha, hb, hd⟩ := h.ro
  have hd1 := hd.ext [⟨.own, 26, [a, b, d]⟩]
  have bd := fun k => getD_bound (m := 9) (by omega) hg.hold k
  have lh := hg.lh
  have l3 := hg.s3
  have hX := (Ext.refl m).one 26 [a, b, d]
  unfold Ch.ech
  by_cases e : s = 0
  · subst e
    have e1 : (((0 : Nat) : Int) == 0) = true := by decide
    have z0 : ((0 : Nat) : Int) = 0 := rfl
    have a0 := hd.at_ 0 hs
    rw [z0] at a0
    simp (config := {implicitDefEqProofs := false, maxDischargeDepth := 20}) (disch := first | omega | (simp only [lenE]; done) | (simp only [lenE]; omega) | rfl | (simp only [lenE, markR_len]; done) | (simp only [lenE, markR_len]; omega)) only [runE, mapE, listE, initT_5, initT_6, initT_7, initT_8, resV, oneV, binA, unA, reduceCtorEq, Nat.reduceEqDiff, Nat.reduceAdd, Nat.reduceLT, Nat.reduceLeDiff, Nat.reduceMul, Nat.reduceSub, ↓reduceIte, decide_true, decide_false, Bool.true_eq_false, Bool.false_eq_true, Bool.not_true, Bool.not_false, if_true, if_false, and_true, true_and, memE, celE, w64, Nat.zero_add, Nat.add_zero, Nat.mul_one, putL, and_self, ldn, c_impl_echelonHold, r_impl_echelonHold, e1, a0, hd1.ld 0 hs]
    exact ext_ansV hX rfl
  · have e1 : ((s : Int) == 0) = false := by rw [beq_eq_false_iff_ne]; omega
    obtain ⟨j, hj⟩ : ∃ j : Nat, s = j + 1 := ⟨s - 1, by omega⟩
    subst hj
    have e2 : ((j + 1 : Nat) : Int) - 1 = ((j : Nat) : Int) := by omega
    have b1 := bd (j + 1)
    have b2 := bd j
    simp (config := {implicitDefEqProofs := false, maxDischargeDepth := 20}) (disch := first | omega | (simp only [lenE]; done) | (simp only [lenE]; omega) | rfl | (simp only [lenE, markR_len]; done) | (simp only [lenE, markR_len]; omega)) only [runE, mapE, listE, initT_5, initT_6, initT_7, initT_8, resV, oneV, binA, unA, reduceCtorEq, Nat.reduceEqDiff, Nat.reduceAdd, Nat.reduceLT, Nat.reduceLeDiff, Nat.reduceMul, Nat.reduceSub, ↓reduceIte, decide_true, decide_false, Bool.true_eq_false, Bool.false_eq_true, Bool.not_true, Bool.not_false, if_true, if_false, and_true, true_and, memE, celE, w64, Nat.zero_add, Nat.add_zero, Nat.mul_one, putL, and_self, ldn, c_impl_echelonHold, r_impl_echelonHold, e1, hd.at_ (j + 1) hs, hd1.ld (j + 1) hs, e2, hd.at_ j (by omega), hd1.ld j (by omega)]
    refine ext_ansV hX ?_
    rfl
end Go.Proofs.Ytamhhicnfpemeaa.Ab
end
section
namespace Go.Proofs.Ytamhhicnfpemeaa.Ab
open Go Go.RowKit
set_option linter.unusedVariables false
set_option linter.unusedSimpArgs false
theorem Ext.of {m M : Mem} (h1 : m.length ≤ M.length) (h2 : ∀ i, i < m.length → M[i]? = (roM m)[i]?) (h3 : ∀ (i : Nat) (k : Blk), m.length ≤ i → M[i]? = some k → k.kd ≠ .ro) : Ext m M := by
  refine ⟨M.drop m.length, ?_, ?_⟩
  · apply List.ext_getElem?
    intro i
    by_cases hi : i < m.length
    · rw [h2 i hi, List.getElem?_append_left (by rw [roM_len]; exact hi)]
    · rw [List.getElem?_append_right (by rw [roM_len]; omega), List.getElem?_drop, roM_len]; congr 1; omega
  · intro b hb
    obtain ⟨i, hi⟩ := List.mem_iff_getElem?.1 hb
    rw [List.getElem?_drop] at hi
    exact h3 _ b (by omega) hi
theorem Ext.ids {m M : Mem} (h : Ext m M) : m.length ≤ M.length ∧ (∀ i, i < m.length → M[i]? = (roM m)[i]?) ∧ ∀ (i : Nat) (k : Blk), m.length ≤ i → M[i]? = some k → k.kd ≠ .ro := by
  have hl := h.len
  obtain ⟨n0, rfl, h0⟩ := h
  refine ⟨hl, fun i hi => by rw [List.getElem?_append_left (by rw [roM_len]; exact hi)], fun i k hi hk => ?_⟩
  rw [List.getElem?_append_right (by rw [roM_len]; exact hi)] at hk
  exact h0 k (List.mem_of_getElem? hk)
theorem KC.step {m M : Mem} {b lo : Nat} {vs : Nat → Value} {ls : Nat → List Int} {rs : Nat → Nat} (h : KC M b lo vs ls rs) (hX : Ext m M) (hml : m.length ≤ lo) {o : Nat} (ho : o < 4) (hl : (ls o).length ≤ 1000) (x : Int) : ∃ M1 M2 vs' ls' rs',
    appP (M ++ [⟨.own, 3, [.int .i64 x]⟩]) 3 1 8 (vs o) (.slice (some ⟨M.length, 0, none⟩) 1 1) = some (.slice (some ⟨M.length + 1, 0, none⟩) ((ls o).length + 1) 1, M1) ∧
    stA M1 b o [.slice (some ⟨M.length + 1, 0, none⟩) ((ls o).length + 1) 1] = some M2 ∧
    KC M2 b lo vs' ls' rs' ∧ Ext m M2 ∧ (∀ i, i ≠ o → vs' i = vs i ∧ ls' i = ls i) ∧ ls' o = ls o ++ [x] ∧ (∀ i, i < lo → M2[i]? = M[i]?) := by
  obtain ⟨M1, M2, a1, a2, a3, a4, a5, a6⟩ := h.app ho hl x
  obtain ⟨e1, e2, e3⟩ := hX.ids
  have hb := (List.getElem?_eq_some_iff.1 h.box).1
  have hlo := h.lob
  refine ⟨M1, M2, _, _, _, a1, a2, a3, ?_, fun i hi => ⟨by simp [up4, hi], by simp [up4, hi]⟩, by simp [up4], a5⟩
  refine Ext.of (by omega) (fun i hi => by rw [a5 i (by omega)]; exact e2 i hi) fun i k hi hk => ?_
  by_cases hil : i < lo
  · rw [a5 i hil] at hk; exact e3 i k hi hk
  · exact a6 (fun i k hi hk => e3 i k (by omega) hk) i k (by omega) hk
theorem KC.rd {M : Mem} {b lo : Nat} {vs : Nat → Value} {ls : Nat → List Int} {rs : Nat → Nat} (h : KC M b lo vs ls rs) (k : Nat) : rdc M b k = [vs 0, vs 1, vs 2, vs 3][k]? := by
  have := h.box
  simp [rdc, this]
theorem KC.ones {M : Mem} {b lo : Nat} {vs : Nat → Value} {ls : Nat → List Int} {rs : Nat → Nat} (h : KC M b lo vs ls rs) : onesB [vs 0, vs 1, vs 2, vs 3] = true := by
  have hv : ∀ i, i < 4 → ∃ a n c, vs i = .slice a n c := fun i hi => by
    rcases h.row i hi with ⟨h1, _⟩ | ⟨h1, _⟩ <;> exact ⟨_, _, _, h1⟩
  obtain ⟨a0, n0, c0, e0⟩ := hv 0 (by omega)
  obtain ⟨a1, n1, c1, e1⟩ := hv 1 (by omega)
  obtain ⟨a2, n2, c2, e2⟩ := hv 2 (by omega)
  obtain ⟨a3, n3, c3, e3⟩ := hv 3 (by omega)
  rw [e0, e1, e2, e3]
  rfl
theorem KC.obj {M M' : Mem} {b lo lo' hi : Nat} {vs : Nat → Value} {ls : Nat → List Int} {rs : Nat → Nat} {k : Cs} {n : Nat} (h : KC M b lo vs ls rs) (h0 : ls 0 = k.need) (h1 : ls 1 = k.setup) (h2 : ls 2 = k.unit) (h3 : ls 3 = k.hold) (hn : k.need.length = n ∧ k.setup.length = n ∧ k.unit.length = n ∧ k.hold.length = n) (hn2 : n ≤ 1000) (hlo : lo' ≤ lo) (hhi : M.length ≤ hi) (hs : ∀ i, lo ≤ i → i < M.length → i ≠ b → M'[i]? = M[i]?) :
    CaseO k lo' hi M' (.agg #[vs 0, vs 1, vs 2, vs 3]) := by
  obtain ⟨n1, n2, n3, n4⟩ := hn
  have sm : k.small := ⟨by omega, by omega, by omega, by omega⟩
  by_cases hz : n = 0
  · subst hz
    have e : ∀ i, i < 4 → ls i = [] → vs i = .slice none 0 0 := fun i hi he => by
      rcases h.row i hi with ⟨h1, _⟩ | ⟨_, h2, _⟩
      · exact h1
      · exact absurd he h2
    have z0 := List.eq_nil_of_length_eq_zero n1
    have z1 := List.eq_nil_of_length_eq_zero n2
    have z2 := List.eq_nil_of_length_eq_zero n3
    have z3 := List.eq_nil_of_length_eq_zero n4
    refine ⟨sm, .inl ⟨?_, ?_⟩⟩
    · obtain ⟨a, b, c, d⟩ := k
      simp only at z0 z1 z2 z3
      rw [z0, z1, z2, z3]
    · rw [e 0 (by omega) (by rw [h0, z0]), e 1 (by omega) (by rw [h1, z1]), e 2 (by omega) (by rw [h2, z2]), e 3 (by omega) (by rw [h3, z3])]
  · have ne : ∀ i, i < 4 → (ls i).length = n → ls i ≠ [] := fun i hi he h => by rw [h] at he; simp at he; omega
    have l0 : (ls 0).length = n := by rw [h0]; exact n1
    have l1 : (ls 1).length = n := by rw [h1]; exact n2
    have l2 : (ls 2).length = n := by rw [h2]; exact n3
    have l3 : (ls 3).length = n := by rw [h3]; exact n4
    have row : ∀ i, i < 4 → (ls i).length = n → vs i = .slice (some ⟨rs i, 0, none⟩) (ls i).length 1 ∧ lo ≤ rs i ∧ rs i < M.length ∧ OwnR M' (rs i) (ls i) := fun i hi he => by
      have hne := ne i hi he
      rcases h.row i hi with ⟨_, h2⟩ | ⟨a, _, c⟩
      · exact absurd h2 hne
      · have g := h.ge i hi hne
        exact ⟨a, g.1, c.lt, c.at_ (hs _ g.1 c.lt g.2)⟩
    obtain ⟨a0, b0, c0, d0⟩ := row 0 (by omega) l0
    obtain ⟨a1, b1, c1, d1⟩ := row 1 (by omega) l1
    obtain ⟨a2, b2, c2, d2⟩ := row 2 (by omega) l2
    obtain ⟨a3, b3, c3, d3⟩ := row 3 (by omega) l3
    have nn := fun i j hi hj hij (ei : (ls i).length = n) (ej : (ls j).length = n) => h.ne i j hi hj hij (ne i hi ei) (ne j hj ej)
    rw [h0] at a0 d0
    rw [h1] at a1 d1
    rw [h2] at a2 d2
    rw [h3] at a3 d3
    refine ⟨sm, .inr ⟨rs 0, rs 1, rs 2, rs 3, 1, 1, 1, 1, by rw [a0, a1, a2, a3], by omega, by omega, by omega, by omega, ⟨nn 0 1 (by omega) (by omega) (by omega) l0 l1, nn 0 2 (by omega) (by omega) (by omega) l0 l2, nn 0 3 (by omega) (by omega) (by omega) l0 l3, nn 1 2 (by omega) (by omega) (by omega) l1 l2, nn 1 3 (by omega) (by omega) (by omega) l1 l3, nn 2 3 (by omega) (by omega) (by omega) l2 l3⟩, d0, d1, d2, d3⟩⟩
theorem steady1_rc (m : Mem) (x : Int) (id : Nat) (v : Value) (need : List Int) (hb : rdc m id 0 = some v) (h : IntsA m v need) (hl : need.length ≤ 8) : RC Try.prog 120 [.int .i64 x, .pointer (some ⟨id, 0, none⟩)] m (AnsR m (List.replicate need.length x)) := by
  refine rc_of_run mixed ok_impl_steadyCase_1 (by simp) (go_start _ _ _ ?_)
  have hr := h.ro
  have hb' : rdc (roM m) id 0 = some v := by rw [rdc_roM]; exact hb
  have hid := rdc_blk2 hb'
  simp (config := {implicitDefEqProofs := false, maxDischargeDepth := 20}) (disch := first | omega | (simp only [lenE]; done) | (simp only [lenE]; omega) | rfl | (simp only [lenE, markR_len]; done) | (simp only [lenE, markR_len]; omega)) only [runE, mapE, listE, initT_5, initT_6, initT_7, initT_8, resV, oneV, binA, unA, reduceCtorEq, Nat.reduceEqDiff, Nat.reduceAdd, Nat.reduceLT, Nat.reduceLeDiff, Nat.reduceMul, Nat.reduceSub, ↓reduceIte, decide_true, decide_false, Bool.true_eq_false, Bool.false_eq_true, Bool.not_true, Bool.not_false, if_true, if_false, and_true, true_and, memE, celE, w64, Nat.zero_add, Nat.add_zero, Nat.mul_one, putL, and_self, ldn, c_impl_steadyCase_1, r_impl_steadyCase_1, bsl_one, hb', hr.len]
  have ho := OwnR.end' (m := roM m) (l := [x]) (id := m.length) (roM_len m).symm
  have hi := ho.ints (by simp) 1
  refine callH_rc (repeat_rc _ _ x need.length hi hl) ?_
  intro r new hA
  obtain ⟨rid, fl, rfl, hge, hown, hle, nr⟩ := hA.row
  simp (config := {implicitDefEqProofs := false, maxDischargeDepth := 20}) (disch := first | omega | (simp only [lenE]; done) | (simp only [lenE]; omega) | rfl | (simp only [lenE, markR_len]; done) | (simp only [lenE, markR_len]; omega)) only [runE, mapE, listE, initT_5, initT_6, initT_7, initT_8, resV, oneV, binA, unA, reduceCtorEq, Nat.reduceEqDiff, Nat.reduceAdd, Nat.reduceLT, Nat.reduceLeDiff, Nat.reduceMul, Nat.reduceSub, ↓reduceIte, decide_true, decide_false, Bool.true_eq_false, Bool.false_eq_true, Bool.not_true, Bool.not_false, if_true, if_false, and_true, true_and, memE, celE, w64, Nat.zero_add, Nat.add_zero, Nat.mul_one, putL, and_self, ldn]
  rw [List.length_append, roM_len] at hge
  exact ext_ansR (((Ext.refl m).one _ _).app nr) hown (by omega) rfl hle
theorem IntsA.cellsOne {m : Mem} {u : Value} {l : List Int} (h : IntsA m u l) : u.cells = #[u] := by
  rcases h.form with ⟨rfl, _⟩ | ⟨i, o, fl, rfl⟩ <;> rfl
theorem bld_four (i1 i2 i3 i4 : Option Addr) (n1 n2 n3 n4 c1 c2 c3 c4 : Nat) :
    bldA [.slice none 0 0, .slice none 0 0, .slice none 0 0, .slice none 0 0] [(0, 1, .slice i1 n1 c1), (1, 1, .slice i2 n2 c2), (2, 1, .slice i3 n3 c3), (3, 1, .slice i4 n4 c4)] = some (.agg #[.slice i1 n1 c1, .slice i2 n2 c2, .slice i3 n3 c3, .slice i4 n4 c4]) := rfl
theorem steadyCase_rc (m : Mem) (v : Value) (need : List Int) (set hold : Int) (h : IntsA m v need) (hl : need.length ≤ 8) : RC Try.prog 82 [v, .int .i64 set, .int .i64 hold] m (AnsO m (CaseO (evenC need set hold)) id) := by
  refine rc_of_run mixed ok_impl_steadyCase (by simp) (go_start _ _ _ ?_)
  have hr := h.ro
  have hcl : v.cells.toList = [v] := by rw [hr.cellsOne]
  obtain ⟨M0, hM0⟩ : ∃ M0, M0 = roM m ++ [⟨.own, 24, [v]⟩] ++ [⟨.own, 30, [.slice none 0 0, .slice none 0 0, .slice none 0 0, .slice none 0 0]⟩] := ⟨_, rfl⟩
  have L0 : M0.length = m.length + 2 := by rw [hM0]; simp [roM_len]
  have hX0 : Ext m M0 := by rw [hM0]; exact ((Ext.refl m).one _ _).one _ _
  have b3 : OwnB M0 m.length 24 [v] := by rw [hM0]; exact (OwnB.here (roM_len m).symm).ext _
  have b6 : OwnB M0 (m.length + 1) 30 [.slice none 0 0, .slice none 0 0, .slice none 0 0, .slice none 0 0] := by rw [hM0]; exact OwnB.here (by simp [roM_len])
  have hap := app_own (M := M0) (hX0.ints hr) (by omega)
  rw [L0] at hap
  simp (config := {implicitDefEqProofs := false, maxDischargeDepth := 20}) (disch := first | omega | (simp only [lenE]; done) | (simp only [lenE]; omega) | rfl | (simp only [lenE, markR_len]; done) | (simp only [lenE, markR_len]; omega)) only [runE, mapE, listE, initT_5, initT_6, initT_7, initT_8, resV, oneV, binA, unA, reduceCtorEq, Nat.reduceEqDiff, Nat.reduceAdd, Nat.reduceLT, Nat.reduceLeDiff, Nat.reduceMul, Nat.reduceSub, ↓reduceIte, decide_true, decide_false, Bool.true_eq_false, Bool.false_eq_true, Bool.not_true, Bool.not_false, if_true, if_false, and_true, true_and, memE, celE, w64, Nat.zero_add, Nat.add_zero, Nat.mul_one, putL, and_self, ldn, c_impl_steadyCase, r_impl_steadyCase, hcl, bsl_none']
  rw [← hM0]
  have o1 : OwnR (M0 ++ [deadB] ++ [⟨.own, 3, need.map (Value.int .i64)⟩]) (m.length + 2 + 1) need := OwnR.end' (by simp [L0])
  have hX1 : Ext m (M0 ++ [deadB] ++ [⟨.own, 3, need.map (Value.int .i64)⟩]) := (hX0.app (noRo_dead noRo_nil)).one _ _
  replace b3 := (b3.ext [deadB]).ext [⟨.own, 3, need.map (Value.int .i64)⟩]
  replace b6 := (b6.ext [deadB]).ext [⟨.own, 3, need.map (Value.int .i64)⟩]
  obtain ⟨M1, hM1⟩ : ∃ M1, M1 = M0 ++ [deadB] ++ [⟨.own, 3, need.map (Value.int .i64)⟩] := ⟨_, rfl⟩
  have L1 : M1.length = m.length + 4 := by rw [hM1]; simp [L0]
  rw [← hM1] at hap o1 hX1 b3 b6
  simp (config := {implicitDefEqProofs := false, maxDischargeDepth := 20}) (disch := first | omega | (simp only [lenE]; done) | (simp only [lenE]; omega) | rfl | (simp only [lenE, markR_len]; done) | (simp only [lenE, markR_len]; omega)) only [runE, mapE, listE, initT_5, initT_6, initT_7, initT_8, resV, oneV, binA, unA, reduceCtorEq, Nat.reduceEqDiff, Nat.reduceAdd, Nat.reduceLT, Nat.reduceLeDiff, Nat.reduceMul, Nat.reduceSub, ↓reduceIte, decide_true, decide_false, Bool.true_eq_false, Bool.false_eq_true, Bool.not_true, Bool.not_false, if_true, if_false, and_true, true_and, memE, celE, w64, Nat.zero_add, Nat.add_zero, Nat.mul_one, putL, and_self, ldn, hap]
  refine callH_rc (steady1_rc _ set m.length v need (by rw [b3.rd]; rfl) (hX1.ints hr) hl) ?_
  intro r n1 hA
  obtain ⟨r1, f1, rfl, g1, w1, k1, nr1⟩ := hA.row
  have hX2 := hX1.app nr1
  replace b3 := b3.ext n1
  replace b6 := b6.ext n1
  replace o1 := o1.ext n1
  obtain ⟨M2, hM2⟩ : ∃ M2, M2 = M1 ++ n1 := ⟨_, rfl⟩
  have L2 : M2.length = M1.length + n1.length := by rw [hM2]; simp
  rw [← hM2] at hX2 b3 b6 o1 w1 ⊢
  simp (config := {implicitDefEqProofs := false, maxDischargeDepth := 20}) (disch := first | omega | (simp only [lenE]; done) | (simp only [lenE]; omega) | rfl | (simp only [lenE, markR_len]; done) | (simp only [lenE, markR_len]; omega)) only [runE, mapE, listE, initT_5, initT_6, initT_7, initT_8, resV, oneV, binA, unA, reduceCtorEq, Nat.reduceEqDiff, Nat.reduceAdd, Nat.reduceLT, Nat.reduceLeDiff, Nat.reduceMul, Nat.reduceSub, ↓reduceIte, decide_true, decide_false, Bool.true_eq_false, Bool.false_eq_true, Bool.not_true, Bool.not_false, if_true, if_false, and_true, true_and, memE, celE, w64, Nat.zero_add, Nat.add_zero, Nat.mul_one, putL, and_self, ldn]
  refine callH_rc (steady1_rc _ 0 m.length v need (by rw [b3.rd]; rfl) (hX2.ints hr) hl) ?_
  intro r n2 hA
  obtain ⟨r2, f2, rfl, g2, w2, k2, nr2⟩ := hA.row
  have hX3 := hX2.app nr2
  replace b3 := b3.ext n2
  replace b6 := b6.ext n2
  replace o1 := o1.ext n2
  have l1 := w1.lt
  replace w1 := w1.ext n2
  obtain ⟨M3, hM3⟩ : ∃ M3, M3 = M2 ++ n2 := ⟨_, rfl⟩
  have L3 : M3.length = M2.length + n2.length := by rw [hM3]; simp
  rw [← hM3] at hX3 b3 b6 o1 w1 w2 ⊢
  simp (config := {implicitDefEqProofs := false, maxDischargeDepth := 20}) (disch := first | omega | (simp only [lenE]; done) | (simp only [lenE]; omega) | rfl | (simp only [lenE, markR_len]; done) | (simp only [lenE, markR_len]; omega)) only [runE, mapE, listE, initT_5, initT_6, initT_7, initT_8, resV, oneV, binA, unA, reduceCtorEq, Nat.reduceEqDiff, Nat.reduceAdd, Nat.reduceLT, Nat.reduceLeDiff, Nat.reduceMul, Nat.reduceSub, ↓reduceIte, decide_true, decide_false, Bool.true_eq_false, Bool.false_eq_true, Bool.not_true, Bool.not_false, if_true, if_false, and_true, true_and, memE, celE, w64, Nat.zero_add, Nat.add_zero, Nat.mul_one, putL, and_self, ldn]
  refine callH_rc (steady1_rc _ hold m.length v need (by rw [b3.rd]; rfl) (hX3.ints hr) hl) ?_
  intro r n3 hA
  obtain ⟨r3, f3, rfl, g3, w3, k3, nr3⟩ := hA.row
  have hX4 := hX3.app nr3
  have l2 := w2.lt
  replace b6 := b6.ext n3
  replace o1 := o1.ext n3
  replace w1 := w1.ext n3
  replace w2 := w2.ext n3
  obtain ⟨M4, hM4⟩ : ∃ M4, M4 = M3 ++ n3 := ⟨_, rfl⟩
  rw [← hM4] at hX4 b6 o1 w1 w2 w3 ⊢
  have l3 := w3.lt
  have st := b6.st (off := 0) (vs := [.slice (some ⟨m.length + 2 + 1, 0, none⟩) need.length 1, .slice (some ⟨r1, 0, none⟩) (List.replicate need.length set).length f1, .slice (some ⟨r2, 0, none⟩) (List.replicate need.length (0 : Int)).length f2, .slice (some ⟨r3, 0, none⟩) (List.replicate need.length hold).length f3]) (by simp) rfl
  have hs := b6.set_self 30 [.slice (some ⟨m.length + 2 + 1, 0, none⟩) need.length 1, .slice (some ⟨r1, 0, none⟩) (List.replicate need.length set).length f1, .slice (some ⟨r2, 0, none⟩) (List.replicate need.length (0 : Int)).length f2, .slice (some ⟨r3, 0, none⟩) (List.replicate need.length hold).length f3]
  simp (config := {implicitDefEqProofs := false, maxDischargeDepth := 20}) (disch := first | omega | (simp only [lenE]; done) | (simp only [lenE]; omega) | rfl | (simp only [lenE, markR_len]; done) | (simp only [lenE, markR_len]; omega)) only [runE, mapE, listE, initT_5, initT_6, initT_7, initT_8, resV, oneV, binA, unA, reduceCtorEq, Nat.reduceEqDiff, Nat.reduceAdd, Nat.reduceLT, Nat.reduceLeDiff, Nat.reduceMul, Nat.reduceSub, ↓reduceIte, decide_true, decide_false, Bool.true_eq_false, Bool.false_eq_true, Bool.not_true, Bool.not_false, if_true, if_false, and_true, true_and, memE, celE, w64, Nat.zero_add, Nat.add_zero, Nat.mul_one, putL, and_self, ldn, bld_four, st, hs.rd]
  refine ext_ansO (f := _root_.id) (hX4.put (by omega) _ _) fun M' hM => ⟨?_, .inr ⟨m.length + 2 + 1, r1, r2, r3, 1, f1, f2, f3, by rfl, ?_, ?_, ?_, ?_, ?_, ?_, ?_, ?_, ?_⟩⟩
  · simp only [evenC, Cs.small, List.length_replicate]; omega
  · rw [List.length_set]; omega
  · rw [List.length_set]; omega
  · rw [List.length_set]; omega
  · rw [List.length_set]; omega
  · omega
  · exact (o1.set_ne (by omega)).at_ (hM _ (by omega) (by rw [List.length_set]; omega))
  · exact (w1.set_ne (by omega)).at_ (hM _ (by omega) (by rw [List.length_set]; omega))
  · exact (w2.set_ne (by omega)).at_ (hM _ (by omega) (by rw [List.length_set]; omega))
  · exact (w3.set_ne (by omega)).at_ (hM _ (by omega) (by rw [List.length_set]; omega))
end Go.Proofs.Ytamhhicnfpemeaa.Ab
end
section
namespace Go.Proofs.Ytamhhicnfpemeaa.Ab
open Go Go.RowKit
set_option linter.unusedVariables false
set_option linter.unusedSimpArgs false
def _root_.Go.Proofs.Ytamhhicnfpemeaa.Ch.stage (c : Ch) (s : Nat) : Cs := evenC c.need (c.setup.getD s 0) (c.ech s)
theorem CaseO.agg {k : Cs} {lo hi : Nat} {M : Mem} {v : Value} (h : CaseO k lo hi M v) : ∃ v1 v2 v3 v4, v = .agg #[v1, v2, v3, v4] ∧ onesB [v1, v2, v3, v4] = true := by
  obtain ⟨hs, ⟨rfl, rfl⟩ | ⟨i1, i2, i3, i4, f1, f2, f3, f4, rfl, _⟩⟩ := h
  · exact ⟨_, _, _, _, rfl, rfl⟩
  · exact ⟨_, _, _, _, rfl, rfl⟩
theorem stP_agg4 (m : Mem) (id off : Nat) (v1 v2 v3 v4 : Value) : stP m 4 (.pointer (some ⟨id, off, none⟩)) (.agg #[v1, v2, v3, v4]) = stA m id off [v1, v2, v3, v4] := rfl
theorem stageCase_rc (m : Mem) (v : Value) (c : Ch) (s : Nat) (z : Int) (hz : z = s) (h : ChA m v c) (hg : GoodCh c) (hs : s < c.setup.length) : RC Try.prog 71 [v, .int .i64 z] m (AnsO m (CaseO (c.stage s)) id) := by
  subst hz
  refine rc_of_run mixed ok_impl_stageCase (by simp) (go_start _ _ _ ?_)
  obtain ⟨a, b, d, rfl, ha, hb, hd⟩ := h.ro
  have lh := hg.lh
  have s3 := hg.s3
  have n6 := hg.n6
  obtain ⟨M0, hM0⟩ : ∃ M0, M0 = roM m ++ [⟨.own, 26, [a, b, d]⟩] ++ [⟨.own, 30, [.slice none 0 0, .slice none 0 0, .slice none 0 0, .slice none 0 0]⟩] := ⟨_, rfl⟩
  have L0 : M0.length = m.length + 2 := by rw [hM0]; simp [roM_len]
  have hX0 : Ext m M0 := by rw [hM0]; exact ((Ext.refl m).one _ _).one _ _
  have b2 : OwnB M0 m.length 26 [a, b, d] := by rw [hM0]; exact (OwnB.here (roM_len m).symm).ext _
  have b4 : OwnB M0 (m.length + 1) 30 [.slice none 0 0, .slice none 0 0, .slice none 0 0, .slice none 0 0] := by rw [hM0]; exact OwnB.here (by simp [roM_len])
  have hb1 := hX0.ints hb
  have lds := hb1.ld s hs
  rw [hM0] at lds
  simp (config := {implicitDefEqProofs := false, maxDischargeDepth := 20}) (disch := first | omega | (simp only [lenE]; done) | (simp only [lenE]; omega) | rfl | (simp only [lenE, markR_len]; done) | (simp only [lenE, markR_len]; omega)) only [runE, mapE, listE, initT_5, initT_6, initT_7, initT_8, resV, oneV, binA, unA, reduceCtorEq, Nat.reduceEqDiff, Nat.reduceAdd, Nat.reduceLT, Nat.reduceLeDiff, Nat.reduceMul, Nat.reduceSub, ↓reduceIte, decide_true, decide_false, Bool.true_eq_false, Bool.false_eq_true, Bool.not_true, Bool.not_false, if_true, if_false, and_true, true_and, memE, celE, w64, Nat.zero_add, Nat.add_zero, Nat.mul_one, putL, and_self, ldn, c_impl_stageCase, r_impl_stageCase, hb.at_ s hs, lds]
  rw [← hM0]
  refine rcallH_rc (echelonHold_rc _ _ c s _ rfl (ChA.mk (hX0.ints ha) (hX0.ints hb) (hX0.ints hd)) hg (by omega)) ?_
  rintro r n1 ⟨rfl, nr1⟩
  simp (config := {implicitDefEqProofs := false, maxDischargeDepth := 20}) (disch := first | omega | (simp only [lenE]; done) | (simp only [lenE]; omega) | rfl | (simp only [lenE, markR_len]; done) | (simp only [lenE, markR_len]; omega)) only [runE, mapE, listE, initT_5, initT_6, initT_7, initT_8, resV, oneV, binA, unA, reduceCtorEq, Nat.reduceEqDiff, Nat.reduceAdd, Nat.reduceLT, Nat.reduceLeDiff, Nat.reduceMul, Nat.reduceSub, ↓reduceIte, decide_true, decide_false, Bool.true_eq_false, Bool.false_eq_true, Bool.not_true, Bool.not_false, if_true, if_false, and_true, true_and, memE, celE, w64, Nat.zero_add, Nat.add_zero, Nat.mul_one, putL, and_self, ldn]
  refine rcallH_rc (steadyCase_rc _ a c.need _ _ ((hX0.ints ha).ext n1) (by omega)) ?_
  rintro r n2 ⟨nr2, w, hwe, hw⟩
  rw [id_eq] at hwe
  subst r
  obtain ⟨v1, v2, v3, v4, rfl, ones⟩ := hw.now.agg
  have b42 := (b4.ext n1).ext n2
  have hX2 := (hX0.app nr1).app nr2
  obtain ⟨M2, hM2⟩ : ∃ M2, M2 = M0 ++ n1 ++ n2 := ⟨_, rfl⟩
  have L2 : M2.length = (M0 ++ n1).length + n2.length := by rw [hM2]; simp; omega
  rw [← hM2] at b42 hX2 hw ⊢
  rw [← L2] at hw
  have st := b42.st (off := 0) (vs := [v1, v2, v3, v4]) (by simp) ones
  have hs' := b42.set_self 30 [v1, v2, v3, v4]
  simp (config := {implicitDefEqProofs := false, maxDischargeDepth := 20}) (disch := first | omega | (simp only [lenE]; done) | (simp only [lenE]; omega) | rfl | (simp only [lenE, markR_len]; done) | (simp only [lenE, markR_len]; omega)) only [runE, mapE, listE, initT_5, initT_6, initT_7, initT_8, resV, oneV, binA, unA, reduceCtorEq, Nat.reduceEqDiff, Nat.reduceAdd, Nat.reduceLT, Nat.reduceLeDiff, Nat.reduceMul, Nat.reduceSub, ↓reduceIte, decide_true, decide_false, Bool.true_eq_false, Bool.false_eq_true, Bool.not_true, Bool.not_false, if_true, if_false, and_true, true_and, memE, celE, w64, Nat.zero_add, Nat.add_zero, Nat.mul_one, putL, and_self, ldn, stP_agg4, st, hs'.rd]
  refine ext_ansO (f := _root_.id) (hX2.put (by omega) _ _) fun M' hM => ?_
  rw [List.length_set]
  refine CaseO.wide _ _ _ _ _ _ _ ?_ (Nat.le_refl _) (hw.2.2 M' fun i h1 h2 => ?_)
  · simp [L0]; omega
  · have h1' : m.length + 2 ≤ i := by have : (M0 ++ n1).length = M0.length + n1.length := by simp
                                      omega
    rw [hM i (by omega) (by rw [List.length_set]; exact h2), List.getElem?_set_ne (by omega)]
end Go.Proofs.Ytamhhicnfpemeaa.Ab
end
section
namespace Go.Proofs.Ytamhhicnfpemeaa.Ab
open Go Go.RowKit
set_option linter.unusedVariables false
set_option linter.unusedSimpArgs false
theorem rowsC_snoc {T : List (List Int)} {r : List Int} {R F : Nat → Nat} {rid f : Nat} :
    rowsC (T ++ [r]) (fun j => if j < T.length then R j else rid) (fun j => if j < T.length then F j else f) = rowsC T R F ++ [.slice (some ⟨rid, 0, none⟩) r.length f] := by
  unfold rowsC
  rw [List.length_append, List.length_singleton, List.range_succ, List.map_append]
  congr 1
  · apply List.map_congr_left
    intro j hj
    have hj' := List.mem_range.1 hj
    simp [hj', List.getD_eq_getElem?_getD, List.getElem?_append_left hj']
  · simp [List.getD_eq_getElem?_getD]
theorem TabX.snoc {T : List (List Int)} {r : List Int} {lo hi hi' : Nat} {M M' : Mem} {id id' rid f : Nat} {R F : Nat → Nat} (h : TabX T lo hi M id R F) (hs : ∀ i, lo ≤ i → i < hi → i ≠ id → M'[i]? = M[i]?)
    (h1 : lo ≤ id') (h2 : id' < hi') (h3 : OwnB M' id' 24 (rowsC T R F ++ [.slice (some ⟨rid, 0, none⟩) r.length f])) (h4 : hi ≤ rid) (h5 : rid < hi') (h6 : OwnR M' rid r) (h7 : hi ≤ hi') :
    TabX (T ++ [r]) lo hi' M' id' (fun j => if j < T.length then R j else rid) (fun j => if j < T.length then F j else f) := by
  refine ⟨h1, h2, by rw [rowsC_snoc]; exact h3, fun j hj => ?_, fun i j hi hj he => ?_⟩
  · by_cases e : j < T.length
    · obtain ⟨a, b, c⟩ := h.2.2.2.1 j e
      have hne : R j ≠ id := fun e2 => by
        have c' : M[R j]? = some (Ab.rowB (T.getD j [])) := c
        have d : M[id]? = some ⟨.own, 24, rowsC T R F⟩ := h.2.2.1
        rw [e2, d] at c'
        cases c'
      simp only [e, if_true]
      refine ⟨a, by omega, ?_⟩
      have e3 : (T ++ [r]).getD j [] = T.getD j [] := by simp [List.getD_eq_getElem?_getD, List.getElem?_append_left e]
      rw [e3]
      exact c.at_ (hs _ a b hne)
    · have e4 : j = T.length := by simp at hj; omega
      simp only [e, if_false]
      refine ⟨by have := h.1; have := h.2.1; omega, h5, ?_⟩
      have e3 : (T ++ [r]).getD j [] = r := by subst e4; simp [List.getD_eq_getElem?_getD]
      rw [e3]; exact h6
  · simp at hi hj he
    by_cases e1 : i < T.length <;> by_cases e2 : j < T.length
    · rw [if_pos e1, if_pos e2] at he
      exact h.2.2.2.2 i j e1 e2 he
    · rw [if_pos e1, if_neg e2] at he
      have := (h.2.2.2.1 i e1).2.1
      omega
    · rw [if_neg e1, if_pos e2] at he
      have := (h.2.2.2.1 j e2).2.1
      omega
    · omega
theorem TabX.nil {lo : Nat} {M : Mem} {id : Nat} (h : OwnB M id 24 []) (h1 : lo ≤ id) : TabX [] lo (id + 1) M id (fun _ => 0) (fun _ => 0) :=
  ⟨h1, by omega, h, fun j hj => absurd hj (by simp), fun i j hi => absurd hi (by simp)⟩
theorem tsz_bd {T : List (List Int)} {n : Nat} (h : ∀ j, j < T.length → (T.getD j []).length ≤ n) (k : Nat) (hk : k ≤ T.length) : tsz T k ≤ (k : Int) * n := by
  induction k with
  | zero => simp [tsz]
  | succ k ih =>
    have := ih (by omega)
    have h2 := h k (by omega)
    simp only [tsz]
    rw [Int.natCast_add, Int.add_mul]
    omega
end Go.Proofs.Ytamhhicnfpemeaa.Ab
end
section
namespace Go.Proofs.Ytamhhicnfpemeaa.Ab
open Go Go.RowKit
set_option linter.unusedVariables false
set_option linter.unusedSimpArgs false
theorem ld3 {m : Mem} {id : Nat} {a b c : Value} {e : TypeId} (h : m[id]? = some ⟨.own, e, [a, b, c]⟩) : ldA m (some 3) (.pointer (some ⟨id, 0, none⟩)) = some (.agg #[a, b, c]) := by
  simp [ldA, rdn, rdc, h]
end Go.Proofs.Ytamhhicnfpemeaa.Ab
end
section
namespace Go.Proofs.Ytamhhicnfpemeaa
set_option linter.unusedVariables false
set_option linter.unusedSimpArgs false
theorem sumTo_g (l : List Int) (k : Nat) : sumTo l (k + 1) = sumTo l k + l.getD k 0 := by
  by_cases h : k < l.length
  · rw [sumTo_succ (List.getElem?_eq_getElem h), List.getD_eq_getElem?_getD, List.getElem?_eq_getElem h]; rfl
  · rw [sumTo_all (by omega), sumTo_all (by omega), List.getD_eq_getElem?_getD, List.getElem?_eq_none (by omega)]; simp
def sumR (l : List Int) (i j : Nat) : Int := sumTo l j - sumTo l i
theorem sumR_self (l : List Int) (i : Nat) : sumR l i i = 0 := by unfold sumR; omega
theorem sumR_s (l : List Int) (i j : Nat) : sumR l i (j + 1) = sumR l i j + l.getD j 0 := by unfold sumR; rw [sumTo_g]; omega
theorem sumR_h (l : List Int) (i j : Nat) : sumR l i j = l.getD i 0 + sumR l (i + 1) j := by unfold sumR; rw [sumTo_g]; omega
theorem sumR_add (l : List Int) (i j h : Nat) : sumR l i j + sumR l j h = sumR l i h := by unfold sumR; omega
theorem sumR_in {l : List Int} {m : Int} (hm : 0 ≤ m) (h : ∀ x ∈ l, 0 ≤ x ∧ x ≤ m) (i d : Nat) : 0 ≤ sumR l i (i + d) ∧ sumR l i (i + d) ≤ m * d := by
  induction d with
  | zero => rw [Nat.add_zero, sumR_self]; simp
  | succ d ih =>
    have := getD_bound hm h (i + d)
    rw [← Nat.add_assoc, sumR_s]
    have : m * ((d + 1 : Nat) : Int) = m * d + m := by rw [Int.natCast_add, Int.mul_add]; simp
    omega
theorem sumR_nn {l : List Int} {m : Int} (hm : 0 ≤ m) (h : ∀ x ∈ l, 0 ≤ x ∧ x ≤ m) {i j : Nat} (hij : i ≤ j) : 0 ≤ sumR l i j := by
  have := (sumR_in hm h i (j - i)).1
  rwa [Nat.add_sub_cancel' hij] at this
end Go.Proofs.Ytamhhicnfpemeaa
end
section
namespace Go.Proofs.Ytamhhicnfpemeaa.Ab
open Go Go.RowKit
set_option linter.unusedVariables false
set_option linter.unusedSimpArgs false
theorem sumTo_cut {l : List Int} {lo hi : Nat} (h1 : lo ≤ hi) (h2 : hi ≤ l.length) (k : Nat) (hk : k ≤ hi - lo) : sumTo (cutL l lo hi) k = sumR l lo (lo + k) := by
  induction k with
  | zero => rw [Nat.add_zero, sumR_self]; rfl
  | succ k ih => rw [sumTo_g, ih (by omega), ← Nat.add_assoc, sumR_s, cutL_at (by omega)]
theorem sumTo_cut' {l : List Int} {lo hi : Nat} (h1 : lo ≤ hi) (h2 : hi ≤ l.length) : sumTo (cutL l lo hi) (cutL l lo hi).length = sumR l lo hi := by
  rw [cutL_len h2, sumTo_cut h1 h2 _ (Nat.le_refl _), Nat.add_sub_cancel' h1]
theorem sumOf_cut_rc (m : Mem) (v' : Value) (l : List Int) {lo hi : Nat} {b : Int} (h : IntsA m v' (cutL l lo hi)) (h1 : lo ≤ hi) (h2 : hi ≤ l.length) (hb0 : 0 ≤ b) (hb1 : b ≤ 1000000) (hb : ∀ x ∈ l, 0 ≤ x ∧ x ≤ b) (h8 : l.length ≤ 1000) :
    RC Try.prog 80 [v'] m fun r new => r = .int .i64 (sumR l lo hi) ∧ new = [] := by
  have hc := cutL_len h2 (lo := lo)
  have := sumOf_rc m v' (cutL l lo hi) h fun k hk => by
    rw [hc] at hk
    rw [sumTo_cut h1 h2 k hk]
    have := sumR_in hb0 hb lo k
    have h3 : b * (k : Int) ≤ 1000000 * (k : Int) := Int.mul_le_mul_of_nonneg_right hb1 (by omega)
    omega
  rw [sumTo_cut' h1 h2] at this
  exact this
theorem Grow.box4 {m M : Mem} {e : TypeId} {v1 v2 v3 v4 : Value} (h : Grow (roM m ++ [⟨.own, e, [v1, v2, v3, v4]⟩]) M) :
    rdc M m.length 0 = some v1 ∧ rdc M m.length 1 = some v2 ∧ rdc M m.length 2 = some v3 ∧ rdc M m.length 3 = some v4 ∧ m.length < M.length := by
  have hl := h.len
  simp only [List.length_append, List.length_cons, List.length_nil, roM_len] at hl
  refine ⟨h.rd ?_, h.rd ?_, h.rd ?_, h.rd ?_, by omega⟩ <;> (rw [rdc_box (roM_len m).symm]; rfl)
theorem Grow.ext {m M : Mem} {e : TypeId} {cs : List Value} (h : Grow (roM m ++ [⟨.own, e, cs⟩]) M) : Ext m M := ((Ext.refl m).one _ _).grow h
theorem Grow.intsV {m M : Mem} {e : TypeId} {cs : List Value} {v : Value} {l : List Int} (h : Grow (roM m ++ [⟨.own, e, cs⟩]) M) (hk : IntsA (roM m) v l) : IntsA M v l := h.ints (hk.ext _)
end Go.Proofs.Ytamhhicnfpemeaa.Ab
end
section
namespace Go.Proofs.Ytamhhicnfpemeaa
set_option linter.unusedVariables false
set_option linter.unusedSimpArgs false
structure Rising (ps : List Int) (n : Nat) : Prop where
  bd : ∀ i, i < ps.length → 0 ≤ ps.getD i 0 ∧ ps.getD i 0 < n
  up : ∀ i, i + 1 < ps.length → ps.getD i 0 < ps.getD (i + 1) 0
def nxtP (n : Nat) (ps : List Int) (i : Nat) : Nat := if i + 1 < ps.length then (ps.getD (i + 1) 0).toNat else n
theorem nxtP_in {n : Nat} {ps : List Int} (h : Rising ps n) {i : Nat} (hi : i < ps.length) : (ps.getD i 0).toNat ≤ nxtP n ps i ∧ nxtP n ps i ≤ n := by
  have h1 := h.bd i hi
  unfold nxtP
  by_cases h2 : i + 1 < ps.length
  · rw [if_pos h2]
    have := h.bd (i + 1) h2
    have := h.up i h2
    omega
  · rw [if_neg h2]; omega
def fromI (need ps : List Int) : Nat → List Int
  | 0 => List.replicate need.length 0
  | i + 1 => (fromI need ps i).set (ps.getD i 0).toNat (sumR need (ps.getD i 0).toNat (nxtP need.length ps i))
def fromL (need ps : List Int) : List Int := fromI need ps ps.length
theorem fromI_len (need ps : List Int) (i : Nat) : (fromI need ps i).length = need.length := by
  induction i with
  | zero => simp [fromI]
  | succ i ih => rw [fromI, List.length_set, ih]
theorem fromL_len (need ps : List Int) : (fromL need ps).length = need.length := fromI_len _ _ _
def covers (need ps : List Int) : Bool := decide (∀ t, t < need.length → (t : Int) < ps.headD need.length → need.getD t 0 ≤ 0)
theorem covers_yes {need ps : List Int} {t : Nat} (ht : t ≤ need.length) (h : ∀ j, j < t → need.getD j 0 ≤ 0) (he : t = need.length ∨ (0 < ps.length ∧ ps.getD 0 0 ≤ t)) : covers need ps = true := by
  refine decide_eq_true fun j hj hl => ?_
  rcases he with he | ⟨h1, h2⟩
  · exact h j (by omega)
  · refine h j ?_
    cases ps with
    | nil => simp at h1
    | cons p ps =>
      have a : p ≤ t := h2
      have b : (j : Int) < p := hl
      omega
theorem covers_no {need ps : List Int} {t : Nat} (ht : t < need.length) (hn : 0 < need.getD t 0) (hf : ¬ (0 < ps.length ∧ ps.getD 0 0 ≤ t)) : covers need ps = false := by
  refine decide_eq_false fun h => ?_
  have := h t ht ?_
  · omega
  · cases ps with
    | nil => show (t : Int) < need.length; omega
    | cons p ps => exact Int.not_le.1 fun hh => hf ⟨by simp, hh⟩
def lexB : List Int → List Int → Bool
  | x :: xs, y :: ys => if x = y then lexB xs ys else decide (x < y)
  | _, _ => false
def beforeB (a b : List Int) : Bool := if a.length = b.length then lexB a b else decide (a.length < b.length)
def beg (n : Nat) (ps : List Int) (i : Nat) : Nat := if i < ps.length then (ps.getD i 0).toNat else n
theorem nxt_beg (n : Nat) (ps : List Int) (i : Nat) : nxtP n ps i = beg n ps (i + 1) := rfl
theorem Rising.lt {ps : List Int} {n : Nat} (h : Rising ps n) {i j : Nat} (hij : i < j) (hj : j < ps.length) : ps.getD i 0 < ps.getD j 0 := by
  induction j with
  | zero => omega
  | succ j ih =>
    have := h.up j hj
    by_cases e : i = j
    · subst e; exact this
    · have := ih (by omega) (by omega); omega
theorem Rising.nil (n : Nat) : Rising [] n := ⟨fun i hi => absurd hi (by simp), fun i hi => absurd hi (by simp)⟩
theorem beg_le {n : Nat} {ps : List Int} (h : Rising ps n) (i : Nat) : beg n ps i ≤ n := by
  unfold beg
  split
  · have := h.bd i ‹_›; omega
  · omega
theorem beg_nil (n i : Nat) : beg n [] i = n := by simp [beg]
theorem beg_cons0 (n : Nat) (p : Int) (r : List Int) : beg n (p :: r) 0 = p.toNat := by simp [beg]
theorem Rising.tail {p : Int} {r : List Int} {n : Nat} (h : Rising (p :: r) n) : Rising r n ∧ 0 ≤ p ∧ p.toNat < beg n r 0 := by
  have h0 := h.bd 0 (by simp)
  simp only [List.getD_cons_zero] at h0
  refine ⟨⟨fun i hi => ?_, fun i hi => ?_⟩, h0.1, ?_⟩
  · have := h.bd (i + 1) (by simpa using hi); simpa using this
  · have := h.up (i + 1) (by simpa using hi); simpa using this
  · unfold beg
    split
    · rename_i hl
      have := h.up 0 (by simpa using hl)
      simp only [List.getD_cons_zero, Nat.zero_add, List.getD_cons_succ] at this
      omega
    · omega
theorem Rising.cons {p : Int} {r : List Int} {n : Nat} (h : Rising r n) (h0 : 0 ≤ p) (hp : p.toNat < beg n r 0) : Rising (p :: r) n := by
  have hb := beg_le h 0
  refine ⟨fun i hi => ?_, fun i hi => ?_⟩
  · cases i with
    | zero => simp only [List.getD_cons_zero]; omega
    | succ i => have := h.bd i (by simpa using hi); simpa using this
  · cases i with
    | zero =>
      simp only [List.getD_cons_zero, Nat.zero_add, List.getD_cons_succ]
      have hl : 0 < r.length := by simpa using hi
      unfold beg at hp
      rw [if_pos hl] at hp
      omega
    | succ i => have := h.up i (by simpa using hi); simpa using this

theorem Rising.len {n : Nat} : ∀ {ps : List Int}, Rising ps n → ps.length + beg n ps 0 ≤ n := by
  intro ps
  induction ps with
  | nil => intro h; rw [beg_nil]; simp
  | cons p r ih =>
    intro h
    obtain ⟨h1, h2, h3⟩ := h.tail
    have := ih h1
    rw [beg_cons0, List.length_cons]
    omega
theorem fromI_no {need ps : List Int} (h : Rising ps need.length) {t : Nat} : ∀ i, i ≤ ps.length → (∀ j, j < i → ps.getD j 0 ≠ t) → (fromI need ps i).getD t 0 = 0 := by
  intro i
  induction i with
  | zero => intro _ _; rw [fromI, List.getD_eq_getElem?_getD, List.getElem?_replicate]; split <;> rfl
  | succ i ih =>
    intro hi hne
    have h1 := h.bd i (by omega)
    have h2 := hne i (by omega)
    rw [fromI, List.getD_eq_getElem?_getD, List.getElem?_set_ne (by omega), ← List.getD_eq_getElem?_getD]
    exact ih (by omega) fun j hj => hne j (by omega)
theorem fromI_at {need ps : List Int} (h : Rising ps need.length) {j : Nat} : ∀ i, i ≤ ps.length → j < i → (fromI need ps i).getD (beg need.length ps j) 0 = sumR need (beg need.length ps j) (beg need.length ps (j + 1)) := by
  intro i
  induction i with
  | zero => intro _ hj; omega
  | succ i ih =>
    intro hi hj
    have h1 := h.bd i (by omega)
    have hbi : beg need.length ps i = (ps.getD i 0).toNat := by unfold beg; rw [if_pos (by omega)]
    have hbj : beg need.length ps j = (ps.getD j 0).toNat := by unfold beg; rw [if_pos (by omega)]
    rw [fromI]
    by_cases e : j = i
    · subst e
      rw [nxt_beg, ← hbi, List.getD_eq_getElem?_getD, List.getElem?_set_self (by rw [fromI_len, hbi]; omega)]
      rfl
    · have h2 := h.lt (i := j) (j := i) (by omega) (by omega)
      have h3 := h.bd j (by omega)
      rw [List.getD_eq_getElem?_getD, List.getElem?_set_ne (by omega), ← List.getD_eq_getElem?_getD]
      exact ih (by omega) (by omega)
def bef (a b : Int × List Int) : Bool := if a.1 = b.1 then beforeB a.2 b.2 else decide (a.1 < b.1)
def IsMin (S : List Int → Prop) (f : List Int → Int) (b : List Int) : Prop := S b ∧ ∀ y, S y → y = b ∨ bef (f b, b) (f y, y) = true
theorem IsMin.congr {S T : List Int → Prop} {f : List Int → Int} {a : List Int} (ha : IsMin S f a) (h : ∀ y, T y ↔ S y) : IsMin T f a :=
  ⟨(h a).2 ha.1, fun y hy => ha.2 y ((h y).1 hy)⟩
end Go.Proofs.Ytamhhicnfpemeaa
end
section
namespace Go.Proofs.Ytamhhicnfpemeaa.Ab
open Go Go.RowKit
set_option linter.unusedVariables false
set_option linter.unusedSimpArgs false
def risB (ps : List Int) (n : Nat) : Bool := decide (∀ i, i < ps.length → (0 ≤ ps.getD i 0 ∧ ps.getD i 0 ≤ (n : Int) - 1) ∧ (0 < i → ps.getD (i - 1) 0 < ps.getD i 0))
theorem risB_iff {ps : List Int} {n : Nat} : risB ps n = true ↔ Rising ps n := by
  unfold risB
  rw [decide_eq_true_iff]
  constructor
  · intro h
    refine ⟨fun i hi => by have := (h i hi).1; omega, fun i hi => ?_⟩
    have := (h (i + 1) hi).2 (by omega)
    simpa using this
  · intro h i hi
    refine ⟨by have := h.bd i hi; omega, fun h0 => ?_⟩
    have := h.up (i - 1) (by omega)
    rwa [show i - 1 + 1 = i by omega] at this
theorem risB_no {ps : List Int} {n i : Nat} (hi : i < ps.length) (h : ¬ ((0 ≤ ps.getD i 0 ∧ ps.getD i 0 ≤ (n : Int) - 1) ∧ (0 < i → ps.getD (i - 1) 0 < ps.getD i 0))) : risB ps n = false :=
  decide_eq_false fun hh => h (hh i hi)

theorem l1Rising_rc (m : Mem) (u : Value) (ps : List Int) (n : Nat) (h' : IntsA m u ps) (hn : n ≤ 1048576) :
    RC Try.prog 134 [u, .int .i64 0, .int .i64 ((n : Int) - 1)] m (AnsV (.bool (risB ps n))) := by
  refine rc_of_run mixed ok_spec_l1Rising (by simp) (go_start _ _ _ ?_)
  have hu := h'.ro
  have hbd := hu.bd
  simp (config := {implicitDefEqProofs := false, maxDischargeDepth := 20}) (disch := first | omega | (simp only [lenE]; done) | (simp only [lenE]; omega) | rfl | (simp only [lenE, markR_len]; done) | (simp only [lenE, markR_len]; omega)) only [runE, mapE, listE, initT_5, initT_6, initT_7, initT_8, resV, oneV, binA, unA, reduceCtorEq, Nat.reduceEqDiff, Nat.reduceAdd, Nat.reduceLT, Nat.reduceLeDiff, Nat.reduceMul, Nat.reduceSub, ↓reduceIte, decide_true, decide_false, Bool.true_eq_false, Bool.false_eq_true, Bool.not_true, Bool.not_false, if_true, if_false, and_true, true_and, memE, celE, w64, Nat.zero_add, Nat.add_zero, Nat.mul_one, putL, and_self, ldn, c_spec_l1Rising, r_spec_l1Rising]
  refine loop_inv mixed (fun s => ∃ i : Nat, i ≤ ps.length ∧ (∀ j, j < i → (0 ≤ ps.getD j 0 ∧ ps.getD j 0 ≤ (n : Int) - 1) ∧ (0 < j → ps.getD (j - 1) 0 < ps.getD j 0)) ∧ s.t 0 = u ∧ s.t 1 = .int .i64 0 ∧ s.t 2 = .int .i64 ((n : Int) - 1) ∧ s.t 7 = .int .i64 i ∧ s.m = roM m) (fun s => ps.length - (intOf (s.t 7)).toNat)
    ⟨0, by omega, fun j hj => absurd hj (by omega), rfl, rfl, rfl, rfl, rfl⟩ ?_
  rintro s ⟨i, hk, hall, t0, t1, t2, t7, tm⟩
  have nx : ((0 ≤ ps.getD i 0 ∧ ps.getD i 0 ≤ (n : Int) - 1) ∧ (0 < i → ps.getD (i - 1) 0 < ps.getD i 0)) → ∀ j, j < i + 1 → (0 ≤ ps.getD j 0 ∧ ps.getD j 0 ≤ (n : Int) - 1) ∧ (0 < j → ps.getD (j - 1) 0 < ps.getD j 0) := fun hh j hj => by
    by_cases e : j < i
    · exact hall j e
    · have : j = i := by omega
      rw [this]; exact hh
  by_cases hlt : i < ps.length
  · have hlt' : (i : Int) < ps.length := by omega
    have ai := hu.at_ i hlt
    have li := hu.ld i hlt
    cases hin : (decide (0 ≤ ps.getD i 0) && decide (ps.getD i 0 ≤ (n : Int) - 1)) with
    | false =>
      have hno : ¬ (0 ≤ ps.getD i 0 ∧ ps.getD i 0 ≤ (n : Int) - 1) := by simpa using hin
      simp (config := {implicitDefEqProofs := false, maxDischargeDepth := 20}) (disch := first | omega | (simp only [lenE]; done) | (simp only [lenE]; omega) | rfl | (simp only [lenE, markR_len]; done) | (simp only [lenE, markR_len]; omega)) only [runE, mapE, listE, initT_5, initT_6, initT_7, initT_8, resV, oneV, binA, unA, reduceCtorEq, Nat.reduceEqDiff, Nat.reduceAdd, Nat.reduceLT, Nat.reduceLeDiff, Nat.reduceMul, Nat.reduceSub, ↓reduceIte, decide_true, decide_false, Bool.true_eq_false, Bool.false_eq_true, Bool.not_true, Bool.not_false, if_true, if_false, and_true, true_and, memE, celE, w64, Nat.zero_add, Nat.add_zero, Nat.mul_one, putL, and_self, ldn, t0, t1, t2, t7, tm, hu.len, hlt', ai, li]
      refine rcallH_rc (l1In_rc _ (ps.getD i 0) 0 ((n : Int) - 1)) ?_
      rintro r new ⟨rfl, rfl⟩
      rw [hin]
      simp (config := {implicitDefEqProofs := false, maxDischargeDepth := 20}) (disch := first | omega | (simp only [lenE]; done) | (simp only [lenE]; omega) | rfl | (simp only [lenE, markR_len]; done) | (simp only [lenE, markR_len]; omega)) only [runE, mapE, listE, initT_5, initT_6, initT_7, initT_8, resV, oneV, binA, unA, reduceCtorEq, Nat.reduceEqDiff, Nat.reduceAdd, Nat.reduceLT, Nat.reduceLeDiff, Nat.reduceMul, Nat.reduceSub, ↓reduceIte, decide_true, decide_false, Bool.true_eq_false, Bool.false_eq_true, Bool.not_true, Bool.not_false, if_true, if_false, and_true, true_and, memE, celE, w64, Nat.zero_add, Nat.add_zero, Nat.mul_one, putL, and_self, ldn, goG_undef, t0, t1, t2, t7, tm]
      rw [risB_no hlt (fun hh => hno hh.1)]
      exact ext_ansV (Ext.refl m) rfl
    | true =>
      have hyes : 0 ≤ ps.getD i 0 ∧ ps.getD i 0 ≤ (n : Int) - 1 := by simpa using hin
      simp (config := {implicitDefEqProofs := false, maxDischargeDepth := 20}) (disch := first | omega | (simp only [lenE]; done) | (simp only [lenE]; omega) | rfl | (simp only [lenE, markR_len]; done) | (simp only [lenE, markR_len]; omega)) only [runE, mapE, listE, initT_5, initT_6, initT_7, initT_8, resV, oneV, binA, unA, reduceCtorEq, Nat.reduceEqDiff, Nat.reduceAdd, Nat.reduceLT, Nat.reduceLeDiff, Nat.reduceMul, Nat.reduceSub, ↓reduceIte, decide_true, decide_false, Bool.true_eq_false, Bool.false_eq_true, Bool.not_true, Bool.not_false, if_true, if_false, and_true, true_and, memE, celE, w64, Nat.zero_add, Nat.add_zero, Nat.mul_one, putL, and_self, ldn, t0, t1, t2, t7, tm, hu.len, hlt', ai, li]
      refine rcallH_rc (l1In_rc _ (ps.getD i 0) 0 ((n : Int) - 1)) ?_
      rintro r new ⟨rfl, rfl⟩
      rw [hin]
      by_cases h0 : 0 < i
      · have h0' : (0 : Int) < i := by omega
        have e1 : (i : Int) - 1 = ((i - 1 : Nat) : Int) := by omega
        have aj := hu.at_ (i - 1) (by omega)
        have lj := hu.ld (i - 1) (by omega)
        by_cases hq : ps.getD i 0 ≤ ps.getD (i - 1) 0
        · simp (config := {implicitDefEqProofs := false, maxDischargeDepth := 20}) (disch := first | omega | (simp only [lenE]; done) | (simp only [lenE]; omega) | rfl | (simp only [lenE, markR_len]; done) | (simp only [lenE, markR_len]; omega)) only [runE, mapE, listE, initT_5, initT_6, initT_7, initT_8, resV, oneV, binA, unA, reduceCtorEq, Nat.reduceEqDiff, Nat.reduceAdd, Nat.reduceLT, Nat.reduceLeDiff, Nat.reduceMul, Nat.reduceSub, ↓reduceIte, decide_true, decide_false, Bool.true_eq_false, Bool.false_eq_true, Bool.not_true, Bool.not_false, if_true, if_false, and_true, true_and, memE, celE, w64, Nat.zero_add, Nat.add_zero, Nat.mul_one, putL, and_self, ldn, t0, t1, t2, t7, tm, gt_iff_lt, ge_iff_le, h0', e1, aj, lj, ai, li, hq]
          rw [risB_no hlt (fun hh => absurd (hh.2 h0) (by omega))]
          exact ext_ansV (Ext.refl m) rfl
        · simp (config := {implicitDefEqProofs := false, maxDischargeDepth := 20}) (disch := first | omega | (simp only [lenE]; done) | (simp only [lenE]; omega) | rfl | (simp only [lenE, markR_len]; done) | (simp only [lenE, markR_len]; omega)) only [runE, mapE, listE, initT_5, initT_6, initT_7, initT_8, resV, oneV, binA, unA, reduceCtorEq, Nat.reduceEqDiff, Nat.reduceAdd, Nat.reduceLT, Nat.reduceLeDiff, Nat.reduceMul, Nat.reduceSub, ↓reduceIte, decide_true, decide_false, Bool.true_eq_false, Bool.false_eq_true, Bool.not_true, Bool.not_false, if_true, if_false, and_true, true_and, memE, celE, w64, Nat.zero_add, Nat.add_zero, Nat.mul_one, putL, and_self, ldn, t0, t1, t2, t7, tm, gt_iff_lt, ge_iff_le, h0', e1, aj, lj, ai, li, hq]
          exact ⟨⟨i + 1, by omega, nx ⟨hyes, fun _ => by omega⟩, by simp⟩, by simp [intOf]; omega⟩
      · have h0' : ¬ ((0 : Int) < i) := by omega
        simp (config := {implicitDefEqProofs := false, maxDischargeDepth := 20}) (disch := first | omega | (simp only [lenE]; done) | (simp only [lenE]; omega) | rfl | (simp only [lenE, markR_len]; done) | (simp only [lenE, markR_len]; omega)) only [runE, mapE, listE, initT_5, initT_6, initT_7, initT_8, resV, oneV, binA, unA, reduceCtorEq, Nat.reduceEqDiff, Nat.reduceAdd, Nat.reduceLT, Nat.reduceLeDiff, Nat.reduceMul, Nat.reduceSub, ↓reduceIte, decide_true, decide_false, Bool.true_eq_false, Bool.false_eq_true, Bool.not_true, Bool.not_false, if_true, if_false, and_true, true_and, memE, celE, w64, Nat.zero_add, Nat.add_zero, Nat.mul_one, putL, and_self, ldn, t0, t1, t2, t7, tm, gt_iff_lt, ge_iff_le, h0']
        exact ⟨⟨i + 1, by omega, nx ⟨hyes, fun hh => absurd hh h0⟩, by simp⟩, by simp [intOf]; omega⟩
  · have hlt' : ¬ ((i : Int) < ps.length) := by omega
    have e : i = ps.length := by omega
    simp (config := {implicitDefEqProofs := false, maxDischargeDepth := 20}) (disch := first | omega | (simp only [lenE]; done) | (simp only [lenE]; omega) | rfl | (simp only [lenE, markR_len]; done) | (simp only [lenE, markR_len]; omega)) only [runE, mapE, listE, initT_5, initT_6, initT_7, initT_8, resV, oneV, binA, unA, reduceCtorEq, Nat.reduceEqDiff, Nat.reduceAdd, Nat.reduceLT, Nat.reduceLeDiff, Nat.reduceMul, Nat.reduceSub, ↓reduceIte, decide_true, decide_false, Bool.true_eq_false, Bool.false_eq_true, Bool.not_true, Bool.not_false, if_true, if_false, and_true, true_and, memE, celE, w64, Nat.zero_add, Nat.add_zero, Nat.mul_one, putL, and_self, ldn, t0, t1, t2, t7, tm, hu.len, hlt']
    have : risB ps n = true := decide_eq_true fun j hj => hall j (by omega)
    rw [this]
    exact ext_ansV (Ext.refl m) rfl

def fromOk (k : Cs) (ps : List Int) : Bool := k.good && risB ps k.need.length && covers k.need ps
def fromA (k : Cs) (ps : List Int) : List Int := if fromOk k ps then fromL k.need ps else []
theorem fromA_no {k : Cs} {ps : List Int} (h : fromOk k ps = false) : fromA k ps = [] := by unfold fromA; rw [h]; rfl
theorem fromA_yes {k : Cs} {ps : List Int} (h : fromOk k ps = true) : fromA k ps = fromL k.need ps := by unfold fromA; rw [h]; rfl

end Go.Proofs.Ytamhhicnfpemeaa.Ab
end
section
namespace Go.Proofs.Ytamhhicnfpemeaa.Ab
open Go Go.RowKit Go.Shelf Go.Proofs
attribute [local go_sem] Oper.semAt_some
set_option maxRecDepth 100000 in
set_option maxHeartbeats 2000000 in
theorem backward_pos (l Bs bo len : Nat) (zs : List Int) (hpos : 0 < len) (hreach : len * 8 ≤ 140737488355328) (J : Nat → World → Prop)
    (hc : ∀ k W, J k W → ∃ b off cap, W.cell? ⟨Bs, bo, none⟩ = some (.slice (some ⟨b, off, none⟩) len cap) ∧ ∀ j, j < len → W.cell? ⟨b, off + j, none⟩ = some (.int .i64 (zs[j]?.getD 0)))
    (hY : ∀ k W, k < len → J k W → ∃ (fn : FuncId) (T : Array Value) (X Y : Code), (Instr.yield l #[.int .i64 ((len : Int) - 1 - k), .int .i64 (zs[len - 1 - k]?.getD 0)]).run Try.prog W = .ok (.round l fn T X Y) W ∧
      RoundIn Fence.wide 0 Try.prog l fn T X Y W fun e W' => e = .returned (.bool true) ∧ J (k + 1) W')
    (W : World) (h0 : J 0 W) :
    CallsIn Fence.wide 0 Try.prog 160 #[.func (.yield l) #[] #[], .pointer (some ⟨Bs, bo, none⟩)] W fun e W' => (∃ v, e = .returned v) ∧ J len W' := by
  refine callsIn_of_wp Try.func160 rfl trivial ?_ rfl
  simp only [Try.ntmps160, List.size_toArray, List.length_cons, List.length_nil, Nat.reduceAdd, Nat.reduceSub, Array.replicate_succ, Array.replicate_zero, List.push_toArray, List.append_toArray, List.nil_append, List.cons_append]
  obtain ⟨_, _, _, hB, _⟩ := hc 0 W h0
  gi_wp2
  gi_loopw [3] (fun i wr => ∃ k : Nat, k ≤ len ∧ i = .int .i64 ((len : Int) - 1 - k) ∧ J k wr) (fun i _ => (intOf i + 1).toNat)
  case atStart => exact ⟨0, Nat.zero_le _, by simp, h0⟩
  case round =>
    obtain ⟨k, hk, rfl, hJs⟩ := hrel
    obtain ⟨b, off, cap, hbx, hcs⟩ := hc k wr hJs
    by_cases hlt : k < len
    · obtain ⟨fn, tmps, assign, body, hy, hR⟩ := hY k wr hlt hJs
      have hcx := hcs (len - 1 - k) (by omega)
      gi_wp2
      refine ⟨rfl, hR.mono ?_⟩
      rintro e W3 ⟨rfl, hJ3⟩
      gi_wp2
      go_roundw
      case rel => exact ⟨k + 1, by omega, by simp; omega, hJ3⟩
      case measure => simp [intOf]; omega
    · obtain rfl : k = len := by omega
      gi_wp2
      go_end0
      exact ⟨⟨_, rfl⟩, hJs⟩
set_option maxRecDepth 100000 in
set_option maxHeartbeats 2000000 in
theorem backward_nil (l Bs bo cap : Nat) (A : Option Addr) (J : Nat → World → Prop) (W : World) (hc : W.cell? ⟨Bs, bo, none⟩ = some (.slice A 0 cap)) (h0 : J 0 W) :
    CallsIn Fence.wide 0 Try.prog 160 #[.func (.yield l) #[] #[], .pointer (some ⟨Bs, bo, none⟩)] W fun e W' => (∃ v, e = .returned v) ∧ J 0 W' := by
  refine callsIn_of_wp Try.func160 rfl trivial ?_ rfl
  simp only [Try.ntmps160, List.size_toArray, List.length_cons, List.length_nil, Nat.reduceAdd, Nat.reduceSub, Array.replicate_succ, Array.replicate_zero, List.push_toArray, List.append_toArray, List.nil_append, List.cons_append]
  gi_wp2
  gi_loopw [3] (fun i wr => i = .int .i64 (-1) ∧ J 0 wr) (fun _ _ => 0)
  case atStart => exact ⟨by simp, h0⟩
  case round =>
    obtain ⟨rfl, hJs⟩ := hrel
    gi_wp2
    go_end0
    exact ⟨⟨_, rfl⟩, hJs⟩
theorem iter_backward {bi ri off fl len : Nat} {zs : List Int} {J : Nat → Mem → Prop} (hr : len * 8 ≤ 140737488355328)
    (hJ : ∀ k m, J k m → rdc m bi 0 = some (.slice (some ⟨ri, off, none⟩) len fl) ∧ ∀ j, j < len → rdc m ri (off + j) = some (.int .i64 (zs[j]?.getD 0))) :
    Iter Try.prog 160 [.pointer (some ⟨bi, 0, none⟩)] len (fun k => [.int .i64 ((len : Int) - 1 - k), .int .i64 (zs[len - 1 - k]?.getD 0)]) J := by
  refine ⟨⟨_, Try.func160, rfl, rfl⟩, fun base ρ lb hvl l J' hcalm hback hY W h0 => ?_⟩
  have hlen : lb.length = 1 := hvl.1.symm
  obtain ⟨y, rfl⟩ : ∃ y, lb = [y] := by
    match lb, hlen with
    | [y], _ => exact ⟨y, rfl⟩
  have hy := hvl.2 0 _ y rfl rfl
  cases hy with
  | @ptr _ _ b o tot hp =>
    have key : ∀ k W, J' k W → ∃ A c, W.cell? ⟨b, o + 0, none⟩ = some (.slice A len c) ∧ (0 < len → ∃ b2 o2, A = some ⟨b2, o2, none⟩ ∧ ∀ j, j < len → W.cell? ⟨b2, o2 + j, none⟩ = some (.int .i64 (zs[j]?.getD 0))) := by
      intro k W hk
      obtain ⟨W0, ρ', m', hj, hpre, hm⟩ := hback k W hk
      obtain ⟨h1, h2⟩ := hJ k m' hj
      obtain ⟨y, hy, hv⟩ := hm.load h1 (pre_at hpre hp)
      cases hv with
      | @sl _ _ _ _ b2 o2 t2 c A hp2 hc1 hc2 hc3 hc4 =>
        refine ⟨A, c, hy, fun hpos => ?_⟩
        have hcell : ∀ j, j < len → W.cell? ⟨b2, o2 + (off + j), none⟩ = some (.int .i64 (zs[j]?.getD 0)) := fun j hj => by
          obtain ⟨z, hz, hvz⟩ := hm.load (h2 j hj) hp2
          cases hvz
          exact hz
        have hA : A = some ⟨b2, o2 + off, none⟩ := by
          by_cases hf : fl = 0
          · exact hc3 hf hpos
          · obtain ⟨h5, h6⟩ := hc4 (by omega)
            refine h6 ?_
            have : 0 < c * fl := Nat.mul_pos (by omega) (by omega)
            omega
        exact ⟨b2, o2 + off, hA, fun j hj => by rw [Nat.add_assoc]; exact hcell j hj⟩
    rcases Nat.eq_zero_or_pos len with hz | hpos
    · subst hz
      obtain ⟨A, c, h1, _⟩ := key 0 W h0
      exact backward_nil l b (o + 0) c A J' W h1 h0
    · refine backward_pos l b (o + 0) len zs hpos hr J' (fun k W hk => ?_) (fun k W hk hj => ?_) W h0
      · obtain ⟨A, c, h1, h2⟩ := key k W hk
        obtain ⟨b2, o2, rfl, h3⟩ := h2 hpos
        exact ⟨b2, o2, c, h1, h3⟩
      · exact hY k W hk hj [.int .i64 ((len : Int) - 1 - k), .int .i64 (zs[len - 1 - k]?.getD 0)] ⟨rfl, fun i x y hx hy => by
          rw [hx] at hy
          cases hy
          match i with
          | 0 => simp at hx; subst hx; exact .int _ _
          | 1 => simp at hx; subst hx; exact .int _ _
          | i + 2 => simp at hx⟩
end Go.Proofs.Ytamhhicnfpemeaa.Ab
end
section
namespace Go.Proofs.Ytamhhicnfpemeaa.Ab
open Go
def backI (need ps : List Int) : Nat → List Int
  | 0 => List.replicate need.length 0
  | k + 1 => (backI need ps k).set (ps.getD (ps.length - 1 - k) 0).toNat (sumR need (ps.getD (ps.length - 1 - k) 0).toNat (nxtP need.length ps (ps.length - 1 - k)))
theorem backI_len (need ps : List Int) (k : Nat) : (backI need ps k).length = need.length := by
  induction k with
  | zero => simp [backI]
  | succ k ih => rw [backI, List.length_set, ih]
def endB (n : Nat) (ps : List Int) (k : Nat) : Nat := if k = 0 then n else (ps.getD (ps.length - k) 0).toNat
theorem endB_nxt (n : Nat) (ps : List Int) {k : Nat} (h : k < ps.length) : endB n ps k = nxtP n ps (ps.length - 1 - k) := by
  unfold endB nxtP
  by_cases h0 : k = 0
  · rw [if_pos h0, if_neg (by omega)]
  · rw [if_neg h0, if_pos (by omega), show ps.length - 1 - k + 1 = ps.length - k by omega]
theorem endB_s (n : Nat) (ps : List Int) (k : Nat) : endB n ps (k + 1) = (ps.getD (ps.length - 1 - k) 0).toNat := by
  unfold endB
  rw [if_neg (by omega), show ps.length - (k + 1) = ps.length - 1 - k by omega]
theorem endB_in {n : Nat} {ps : List Int} (h : Rising ps n) {k : Nat} (hk : k ≤ ps.length) : endB n ps k ≤ n := by
  unfold endB
  split
  · omega
  · have := h.bd (ps.length - k) (by omega); omega
theorem backI_no {need ps : List Int} (h : Rising ps need.length) {t : Nat} : ∀ k, k ≤ ps.length → (∀ j, ps.length - k ≤ j → j < ps.length → ps.getD j 0 ≠ t) → (backI need ps k).getD t 0 = 0 := by
  intro k
  induction k with
  | zero => intro _ _; rw [backI, List.getD_eq_getElem?_getD, List.getElem?_replicate]; split <;> rfl
  | succ k ih =>
    intro hk hne
    have h1 := h.bd (ps.length - 1 - k) (by omega)
    have h2 := hne (ps.length - 1 - k) (by omega) (by omega)
    rw [backI, List.getD_eq_getElem?_getD, List.getElem?_set_ne (by omega), ← List.getD_eq_getElem?_getD]
    exact ih (by omega) fun j hj hj2 => hne j (by omega) hj2
theorem backI_at {need ps : List Int} (h : Rising ps need.length) {j : Nat} (hj : j < ps.length) : ∀ k, k ≤ ps.length → ps.length - k ≤ j → (backI need ps k).getD (ps.getD j 0).toNat 0 = sumR need (ps.getD j 0).toNat (nxtP need.length ps j) := by
  intro k
  induction k with
  | zero => intro _ hk; omega
  | succ k ih =>
    intro hk hkj
    have h1 := h.bd (ps.length - 1 - k) (by omega)
    rw [backI]
    by_cases e : j = ps.length - 1 - k
    · subst e
      rw [List.getD_eq_getElem?_getD, List.getElem?_set_self (by rw [backI_len]; omega)]
      rfl
    · have h2 := h.lt (i := ps.length - 1 - k) (j := j) (by omega) (by omega)
      have h3 := h.bd j (by omega)
      rw [List.getD_eq_getElem?_getD, List.getElem?_set_ne (by omega), ← List.getD_eq_getElem?_getD]
      exact ih (by omega) (by omega)
theorem back_from {need ps : List Int} (h : Rising ps need.length) : backI need ps ps.length = fromL need ps := by
  have key : ∀ t, t < need.length → (backI need ps ps.length).getD t 0 = (fromL need ps).getD t 0 := by
    intro t ht
    by_cases hex : ∃ j, j < ps.length ∧ ps.getD j 0 = (t : Int)
    · obtain ⟨j, hj, hjt⟩ := hex
      have hb : beg need.length ps j = t := by unfold beg; rw [if_pos hj]; omega
      have h1 := backI_at h hj ps.length (Nat.le_refl _) (by omega)
      have h2 := fromI_at h (j := j) ps.length (Nat.le_refl _) hj
      rw [hb] at h2
      rw [show (ps.getD j 0).toNat = t by omega] at h1
      rw [h1]
      unfold fromL
      rw [h2, nxt_beg]
    · have hno : ∀ j, j < ps.length → ps.getD j 0 ≠ (t : Int) := fun j hj e => hex ⟨j, hj, e⟩
      rw [backI_no h ps.length (Nat.le_refl _) fun j _ hj => hno j hj]
      exact (fromI_no h ps.length (Nat.le_refl _) hno).symm
  refine List.ext_getElem (by rw [backI_len, fromL_len]) fun i h1 h2 => ?_
  have := key i (by rw [backI_len] at h1; exact h1)
  rw [List.getD_eq_getElem?_getD, List.getD_eq_getElem?_getD, List.getElem?_eq_getElem h1, List.getElem?_eq_getElem h2] at this
  exact this
theorem covers_end {need ps : List Int} {b : Int} (hb : 0 ≤ b) (hn : ∀ x ∈ need, 0 ≤ x ∧ x ≤ b) (h : Rising ps need.length) : (0 < sumR need 0 (endB need.length ps ps.length)) ↔ covers need ps = false := by
  have he := endB_in h (Nat.le_refl ps.length)
  obtain ⟨e, hee⟩ : ∃ e, e = endB need.length ps ps.length := ⟨_, rfl⟩
  have hhd : ∀ t : Nat, t < need.length → ((t : Int) < ps.headD need.length ↔ t < e) := by
    intro t ht
    rw [hee]
    unfold endB
    cases ps with
    | nil => simp
    | cons p ps =>
      have := h.bd 0 (by simp)
      simp at this
      simp
  rw [← hee]
  constructor
  · intro hs
    rw [← Bool.not_eq_true]
    intro hc
    have hc := of_decide_eq_true hc
    have hz : ∀ j, j ≤ e → sumR need 0 j = 0 := by
      intro j
      induction j with
      | zero => intro _; exact sumR_self _ _
      | succ j ih =>
        intro hj
        rw [sumR_s, ih (by omega)]
        have h1 := hc j (by omega) ((hhd j (by omega)).2 (by omega))
        have h2 := (hn (need.getD j 0) (by rw [List.getD_eq_getElem?_getD, List.getElem?_eq_getElem (by omega)]; exact List.getElem_mem _)).1
        omega
    have := hz e (Nat.le_refl _)
    omega
  · intro hc
    have hc := of_decide_eq_false hc
    have : ∃ t, t < need.length ∧ (t : Int) < ps.headD need.length ∧ ¬ need.getD t 0 ≤ 0 := by
      apply Classical.byContradiction
      intro hno
      exact hc fun t h1 h2 => Classical.byContradiction fun h3 => hno ⟨t, h1, h2, h3⟩
    obtain ⟨t, h1, h2, h3⟩ := this
    have ht := (hhd t h1).1 h2
    have e1 := sumR_add need 0 t e
    have e2 := sumR_h need t e
    have e3 := sumR_nn hb hn (i := 0) (j := t) (by omega)
    have e4 := sumR_nn hb hn (i := t + 1) (j := e) (by omega)
    omega
end Go.Proofs.Ytamhhicnfpemeaa.Ab
end
section
namespace Go.Proofs.Ytamhhicnfpemeaa.Ab
open Go Go.RowKit
set_option linter.unusedVariables false
set_option linter.unusedSimpArgs false
theorem IntsA.preB {m : Mem} {v : Value} {l : List Int} (h : IntsA m v l) {hi : Nat} (h2 : hi ≤ l.length) :
    ∃ v', slcA 1 v none (some (.int .i64 hi)) = some v' ∧ IntsA m v' (cutL l 0 hi) := by
  obtain ⟨x, e, hx⟩ := h.cut (lo := 0) (Nat.zero_le hi) h2
  rcases h.form with ⟨rfl, rfl⟩ | ⟨id, off, fl, rfl⟩
  · have e1 : hi = 0 := by simpa using h2
    subst e1
    exact ⟨.slice none 0 0, rfl, IntsA.nil m⟩
  · have hs : slcA 1 (.slice (some ⟨id, off, none⟩) l.length fl) none (some (.int .i64 hi)) = some (.slice (some ⟨id, off, none⟩) hi fl) := by
      simp [slcA, boundA, h2]
    have hs2 : slcA 1 (.slice (some ⟨id, off, none⟩) l.length fl) (some (.int .i64 0)) (some (.int .i64 hi)) = some (.slice (some ⟨id, off, none⟩) hi 0) := by
      simp [slcA, boundA, h2]
    have e0 : (((0 : Nat) : Int)) = 0 := rfl
    rw [e0, hs2] at e
    cases e
    have hc : (cutL l 0 hi).length = hi := by rw [cutL_len h2, Nat.sub_zero]
    refine ⟨_, hs, ?_⟩
    have a := hx
    refine ⟨a.len, a.bd, fun k hk => ?_, fun k hk => ?_, ?_⟩
    · have := a.at_ k hk
      simp only [iadA, pAt] at this ⊢
      exact this
    · exact a.ld k hk
    · exact a.src
theorem rd_ownB {M : Mem} {id k : Nat} {t : TypeId} {cs : List Value} (h : M[id]? = some ⟨.own, t, cs⟩) : rdc M id k = cs[k]? := by
  unfold rdc; rw [h]; rfl
theorem iter_ints {bi : Nat} {u : Value} {ps : List Int} {J : Nat → Mem → Prop} {m0 : Mem} (h : IntsA m0 u ps) (hr : ps.length ≤ 1048576) (hJ : ∀ k m, J k m → rdc m bi 0 = some u ∧ IntsA m u ps) :
    Iter Try.prog 160 [.pointer (some ⟨bi, 0, none⟩)] ps.length (fun k => [.int .i64 ((ps.length : Int) - 1 - k), .int .i64 (ps.getD (ps.length - 1 - k) 0)]) J := by
  rcases h.form with ⟨rfl, rfl⟩ | ⟨id, off, fl, rfl⟩
  · refine ⟨⟨_, Try.func160, rfl, rfl⟩, fun base ρ lb hvl l J' hcalm hback hY W h0 => ?_⟩
    have hlen : lb.length = 1 := hvl.1.symm
    obtain ⟨y, rfl⟩ : ∃ y, lb = [y] := by
      match lb, hlen with
      | [y], _ => exact ⟨y, rfl⟩
    have hy := hvl.2 0 _ y rfl rfl
    cases hy with
    | @ptr _ _ b o tot hp =>
      obtain ⟨W0, ρ', m', hj, hpre, hm⟩ := hback 0 W h0
      obtain ⟨z, hz, hv⟩ := hm.load (hJ 0 m' hj).1 (pre_at hpre hp)
      cases hv
      exact backward_nil l b (o + 0) 0 none J' W hz h0
  · have := iter_backward (bi := bi) (ri := id) (off := off) (fl := fl) (len := ps.length) (zs := ps) (J := J) (by omega) fun k m' hj => ⟨(hJ k m' hj).1, fun j hlt => ?_⟩
    · simpa only [List.getD_eq_getElem?_getD] using this
    · have := (hJ k m' hj).2.ld j hlt
      simp only [pAt, ld1] at this
      rw [← List.getD_eq_getElem?_getD]
      exact this
theorem backward_rc (m : Mem) (u : Value) (ps : List Int) (h : IntsA m u ps) :
    RC Try.prog 137 [u] m fun r new => r = .func (.func 160) #[] #[.pointer (some ⟨m.length, 0, none⟩)] ∧ new = [⟨.own, 24, [u]⟩] := by
  refine rc_of_run mixed ok_slices_Backward (by simp) (go_start _ _ _ ?_)
  have hu : u.cells = #[u] := by rcases h.form with ⟨rfl, rfl⟩ | ⟨id, off, fl, rfl⟩ <;> rfl
  simp (config := {implicitDefEqProofs := false, maxDischargeDepth := 20}) (disch := first | omega | (simp only [lenE]; done) | (simp only [lenE]; omega) | rfl | (simp only [lenE, markR_len]; done) | (simp only [lenE, markR_len]; omega)) only [runE, mapE, listE, initT_5, initT_6, initT_7, initT_8, resV, oneV, binA, unA, reduceCtorEq, Nat.reduceEqDiff, Nat.reduceAdd, Nat.reduceLT, Nat.reduceLeDiff, Nat.reduceMul, Nat.reduceSub, ↓reduceIte, decide_true, decide_false, Bool.true_eq_false, Bool.false_eq_true, Bool.not_true, Bool.not_false, if_true, if_false, and_true, true_and, memE, celE, w64, Nat.zero_add, Nat.add_zero, Nat.mul_one, putL, and_self, ldn, c_slices_Backward, r_slices_Backward, hu]
  exact ⟨[⟨.own, 24, [u]⟩], rfl, noRo_own noRo_nil, rfl, rfl⟩
theorem implAsc_rc (m : Mem) (u : Value) (ps : List Int) (n : Nat) (h' : IntsA m u ps) (hn : n ≤ 1048576) :
    RC Try.prog 136 [u, .int .i64 (n : Int)] m (AnsV (.bool (risB ps n))) := by
  refine rc_of_run mixed ok_impl_isAscending (by simp) (go_start _ _ _ ?_)
  have hu := h'.ro
  have hbd := hu.bd
  simp (config := {implicitDefEqProofs := false, maxDischargeDepth := 20}) (disch := first | omega | (simp only [lenE]; done) | (simp only [lenE]; omega) | rfl | (simp only [lenE, markR_len]; done) | (simp only [lenE, markR_len]; omega)) only [runE, mapE, listE, initT_5, initT_6, initT_7, initT_8, resV, oneV, binA, unA, reduceCtorEq, Nat.reduceEqDiff, Nat.reduceAdd, Nat.reduceLT, Nat.reduceLeDiff, Nat.reduceMul, Nat.reduceSub, ↓reduceIte, decide_true, decide_false, Bool.true_eq_false, Bool.false_eq_true, Bool.not_true, Bool.not_false, if_true, if_false, and_true, true_and, memE, celE, w64, Nat.zero_add, Nat.add_zero, Nat.mul_one, putL, and_self, ldn, c_impl_isAscending, r_impl_isAscending, hu.len]
  refine loop_inv mixed (fun s => ∃ i : Nat, i ≤ ps.length ∧ (∀ j, j < i → (0 ≤ ps.getD j 0 ∧ ps.getD j 0 ≤ (n : Int) - 1) ∧ (0 < j → ps.getD (j - 1) 0 < ps.getD j 0)) ∧ s.t 1 = .int .i64 (n : Int) ∧ s.t 5 = .int .i64 (if i = 0 then 0 else ps.getD (i - 1) 0 + 1) ∧ s.t 8 = u ∧ s.t 9 = .int .i64 (ps.length : Int) ∧ s.t 10 = .int .i64 (i : Int) ∧ s.m = roM m) (fun s => ps.length - (intOf (s.t 10)).toNat)
    ⟨0, by omega, fun j hj => absurd hj (by omega), rfl, rfl, rfl, rfl, rfl, rfl⟩ ?_
  rintro s ⟨i, hk, hall, t1, t5, t8, t9, t10, tm⟩
  obtain ⟨x, hx⟩ : ∃ x : Int, x = if i = 0 then 0 else ps.getD (i - 1) 0 + 1 := ⟨_, rfl⟩
  rw [← hx] at t5
  have nx : ((0 ≤ ps.getD i 0 ∧ ps.getD i 0 ≤ (n : Int) - 1) ∧ (0 < i → ps.getD (i - 1) 0 < ps.getD i 0)) → ∀ j, j < i + 1 → (0 ≤ ps.getD j 0 ∧ ps.getD j 0 ≤ (n : Int) - 1) ∧ (0 < j → ps.getD (j - 1) 0 < ps.getD j 0) := fun hh j hj => by
    by_cases e : j < i
    · exact hall j e
    · have : j = i := by omega
      rw [this]; exact hh
  by_cases hlt : i < ps.length
  · have hlt' : (i : Int) < ps.length := by omega
    have ai := hu.at_ i hlt
    have li := hu.ld i hlt
    have hx1 : (ps.getD i 0 < x) ↔ ¬ (0 ≤ ps.getD i 0 ∧ (0 < i → ps.getD (i - 1) 0 < ps.getD i 0)) := by
      rw [hx]
      split
      · rename_i h0; subst h0; constructor
        · intro h1 h2; omega
        · intro h1; apply Int.not_le.1; intro h2; exact h1 ⟨h2, fun h => by omega⟩
      · rename_i h0
        have := (hall (i - 1) (by omega)).1
        constructor
        · intro h1 h2; have := h2.2 (by omega); omega
        · intro h1; apply Int.not_le.1; intro h2; exact h1 ⟨by omega, fun _ => by omega⟩
    by_cases hlo : ps.getD i 0 < x
    · simp (config := {implicitDefEqProofs := false, maxDischargeDepth := 20}) (disch := first | omega | (simp only [lenE]; done) | (simp only [lenE]; omega) | rfl | (simp only [lenE, markR_len]; done) | (simp only [lenE, markR_len]; omega)) only [runE, mapE, listE, initT_5, initT_6, initT_7, initT_8, resV, oneV, binA, unA, reduceCtorEq, Nat.reduceEqDiff, Nat.reduceAdd, Nat.reduceLT, Nat.reduceLeDiff, Nat.reduceMul, Nat.reduceSub, ↓reduceIte, decide_true, decide_false, Bool.true_eq_false, Bool.false_eq_true, Bool.not_true, Bool.not_false, if_true, if_false, and_true, true_and, memE, celE, w64, Nat.zero_add, Nat.add_zero, Nat.mul_one, putL, and_self, ldn, t1, t5, t8, t9, t10, tm, hlt', ai, li, hlo, goG_undef]
      rw [risB_no hlt fun hh => (hx1.1 hlo) ⟨hh.1.1, hh.2⟩]
      exact ext_ansV (Ext.refl m) rfl
    · have hge : (0 ≤ ps.getD i 0 ∧ (0 < i → ps.getD (i - 1) 0 < ps.getD i 0)) := Classical.byContradiction fun hh => hlo (hx1.2 hh)
      by_cases hhi : (n : Int) ≤ ps.getD i 0
      · simp (config := {implicitDefEqProofs := false, maxDischargeDepth := 20}) (disch := first | omega | (simp only [lenE]; done) | (simp only [lenE]; omega) | rfl | (simp only [lenE, markR_len]; done) | (simp only [lenE, markR_len]; omega)) only [runE, mapE, listE, initT_5, initT_6, initT_7, initT_8, resV, oneV, binA, unA, reduceCtorEq, Nat.reduceEqDiff, Nat.reduceAdd, Nat.reduceLT, Nat.reduceLeDiff, Nat.reduceMul, Nat.reduceSub, ↓reduceIte, decide_true, decide_false, Bool.true_eq_false, Bool.false_eq_true, Bool.not_true, Bool.not_false, if_true, if_false, and_true, true_and, memE, celE, w64, Nat.zero_add, Nat.add_zero, Nat.mul_one, putL, and_self, ldn, t1, t5, t8, t9, t10, tm, hlt', ai, li, hlo, hhi, ge_iff_le, goG_undef]
        rw [risB_no hlt fun hh => by omega]
        exact ext_ansV (Ext.refl m) rfl
      · simp (config := {implicitDefEqProofs := false, maxDischargeDepth := 20}) (disch := first | omega | (simp only [lenE]; done) | (simp only [lenE]; omega) | rfl | (simp only [lenE, markR_len]; done) | (simp only [lenE, markR_len]; omega)) only [runE, mapE, listE, initT_5, initT_6, initT_7, initT_8, resV, oneV, binA, unA, reduceCtorEq, Nat.reduceEqDiff, Nat.reduceAdd, Nat.reduceLT, Nat.reduceLeDiff, Nat.reduceMul, Nat.reduceSub, ↓reduceIte, decide_true, decide_false, Bool.true_eq_false, Bool.false_eq_true, Bool.not_true, Bool.not_false, if_true, if_false, and_true, true_and, memE, celE, w64, Nat.zero_add, Nat.add_zero, Nat.mul_one, putL, and_self, ldn, t1, t5, t8, t9, t10, tm, hlt', ai, li, hlo, hhi, ge_iff_le, goG_undef]
        refine ⟨⟨i + 1, by omega, nx ⟨⟨hge.1, by omega⟩, hge.2⟩, ?_⟩, ?_⟩
        · exact ⟨by rw [if_neg (by omega), Nat.add_sub_cancel], by simp⟩
        · simp [intOf]; omega
  · have e : i = ps.length := by omega
    subst e
    have hirr : ¬ ((ps.length : Int) < ps.length) := by omega
    simp (config := {implicitDefEqProofs := false, maxDischargeDepth := 20}) (disch := first | omega | (simp only [lenE]; done) | (simp only [lenE]; omega) | rfl | (simp only [lenE, markR_len]; done) | (simp only [lenE, markR_len]; omega)) only [runE, mapE, listE, initT_5, initT_6, initT_7, initT_8, resV, oneV, binA, unA, reduceCtorEq, Nat.reduceEqDiff, Nat.reduceAdd, Nat.reduceLT, Nat.reduceLeDiff, Nat.reduceMul, Nat.reduceSub, ↓reduceIte, decide_true, decide_false, Bool.true_eq_false, Bool.false_eq_true, Bool.not_true, Bool.not_false, if_true, if_false, and_true, true_and, memE, celE, w64, Nat.zero_add, Nat.add_zero, Nat.mul_one, putL, and_self, ldn, t1, t5, t8, t9, t10, tm, hirr]
    have hr : risB ps n = true := decide_eq_true hall
    rw [hr]
    exact ext_ansV (Ext.refl m) rfl
theorem setT_2 (t : Nat → Value) (i j : Nat) (x y : Value) (k : Nat) : setT t [i, j] [x, y] k = if k = j then y else if k = i then x else t k := rfl
theorem at4 (M : Mem) (x y z w : Blk) : (M ++ [x] ++ [y] ++ [z] ++ [w])[M.length + 1 + 1]? = some z ∧ (M ++ [x] ++ [y] ++ [z] ++ [w])[M.length + 1 + 1 + 1]? = some w := by
  have e : M ++ [x] ++ [y] ++ [z] ++ [w] = M ++ [x, y, z, w] := by simp
  rw [e]
  constructor
  · rw [List.getElem?_append_right (by omega), show M.length + 1 + 1 - M.length = 2 by omega]; rfl
  · rw [List.getElem?_append_right (by omega), show M.length + 1 + 1 + 1 - M.length = 3 by omega]; rfl
theorem range_gen {P : Program} {n : Nat} {v : Value} {g : Operand} {qs : List Nat} {c d : ACode} {k : Kont} {s : St} (I : St → Prop) (h0 : I s) (h : ∀ s, I s → rangeH P n v g qs c d k s) : rangeH P n v g qs c d k s := h s h0
structure FI (M0 : Mem) (a b c d n : Nat) (need ps : List Int) (u : Value) (k : Nat) (M : Mem) : Prop where
  g : Grow M0 M
  row : OwnR M a (backI need ps k)
  pb : M[b]? = some ⟨.own, 24, [.slice (some ⟨a, 0, none⟩) n 1]⟩
  pc : OwnR M c [(endB n ps k : Int)]
  pd : M[d]? = some ⟨.own, 24, [u]⟩
theorem implPlanFrom_rc (m : Mem) (v u : Value) (k : Cs) (ps : List Int) (h : CaseA m v k) (h' : IntsA m u ps) (hl : ps.length ≤ 1048576) :
    RC Try.prog 105 [v, u] m (AnsL m (fromA k ps) (fromOk k ps)) := by
  refine rc_of_run mixed ok_impl_PlanFrom (by simp) (go_start _ _ _ ?_)
  obtain ⟨v1, v2, v3, v4, rfl, h1, h2, h3, h4⟩ := h.ro.ok
  have hc : CaseA (roM m) (.agg #[v1, v2, v3, v4]) k := ⟨_, _, _, _, rfl, h1, h2, h3, h4⟩
  have hu := h'.ro
  simp (config := {implicitDefEqProofs := false, maxDischargeDepth := 20}) (disch := first | omega | (simp only [lenE]; done) | (simp only [lenE]; omega) | rfl | (simp only [lenE, markR_len]; done) | (simp only [lenE, markR_len]; omega)) only [runE, mapE, listE, initT_5, initT_6, initT_7, initT_8, resV, oneV, binA, unA, reduceCtorEq, Nat.reduceEqDiff, Nat.reduceAdd, Nat.reduceLT, Nat.reduceLeDiff, Nat.reduceMul, Nat.reduceSub, ↓reduceIte, decide_true, decide_false, Bool.true_eq_false, Bool.false_eq_true, Bool.not_true, Bool.not_false, if_true, if_false, and_true, true_and, memE, celE, w64, Nat.zero_add, Nat.add_zero, Nat.mul_one, putL, and_self, ldn, c_impl_PlanFrom, r_impl_PlanFrom]
  refine callH_rc (implIsCase_rc _ _ k (hc.ext _)) ?_
  rintro r new ⟨rfl, nr1⟩
  have hx : Grow (roM m ++ [⟨.own, 30, [v1, v2, v3, v4]⟩]) (roM m ++ [⟨.own, 30, [v1, v2, v3, v4]⟩] ++ new) := (Grow.refl _).app nr1
  cases hg : k.good with
  | false =>
    have e : fromOk k ps = false := by unfold fromOk; rw [hg]; rfl
    simp (config := {implicitDefEqProofs := false, maxDischargeDepth := 20}) (disch := first | omega | (simp only [lenE]; done) | (simp only [lenE]; omega) | rfl | (simp only [lenE, markR_len]; done) | (simp only [lenE, markR_len]; omega)) only [runE, mapE, listE, initT_5, initT_6, initT_7, initT_8, resV, oneV, binA, unA, reduceCtorEq, Nat.reduceEqDiff, Nat.reduceAdd, Nat.reduceLT, Nat.reduceLeDiff, Nat.reduceMul, Nat.reduceSub, ↓reduceIte, decide_true, decide_false, Bool.true_eq_false, Bool.false_eq_true, Bool.not_true, Bool.not_false, if_true, if_false, and_true, true_and, memE, celE, w64, Nat.zero_add, Nat.add_zero, Nat.mul_one, putL, and_self, ldn, bsl_none, goG_undef]
    rw [e, fromA_no e]
    refine ext_ansL (hx.ext.one _ _) (OwnR.end' (l := []) ?_) (by omega) rfl (by simp)
    simp only [List.length_append, List.length_cons, List.length_nil, roM_len]
  | true =>
    have gd := good_iff.1 hg
    have h8 := gd.n8
    obtain ⟨n, hn⟩ : ∃ n, n = k.need.length := ⟨_, rfl⟩
    obtain ⟨M1, hM1⟩ : ∃ M1, M1 = roM m ++ [⟨.own, 30, [v1, v2, v3, v4]⟩] ++ new := ⟨_, rfl⟩
    rw [← hM1] at hx ⊢
    obtain ⟨q0, q1, q2, q3, hlM⟩ := hx.box4
    have l1 := h1.len
    rw [← hn] at l1 h8
    simp (config := {implicitDefEqProofs := false, maxDischargeDepth := 20}) (disch := first | omega | (simp only [lenE]; done) | (simp only [lenE]; omega) | rfl | (simp only [lenE, markR_len]; done) | (simp only [lenE, markR_len]; omega)) only [runE, mapE, listE, initT_5, initT_6, initT_7, initT_8, resV, oneV, binA, unA, reduceCtorEq, Nat.reduceEqDiff, Nat.reduceAdd, Nat.reduceLT, Nat.reduceLeDiff, Nat.reduceMul, Nat.reduceSub, ↓reduceIte, decide_true, decide_false, Bool.true_eq_false, Bool.false_eq_true, Bool.not_true, Bool.not_false, if_true, if_false, and_true, true_and, memE, celE, w64, Nat.zero_add, Nat.add_zero, Nat.mul_one, putL, and_self, ldn, q0, q1, q2, q3, l1]
    refine callH_rc (implAsc_rc _ u ps n (hx.intsV hu) (by omega)) ?_
    rintro r new2 ⟨rfl, nr2⟩
    have hx2 := hx.app nr2
    obtain ⟨M2, hM2⟩ : ∃ M2, M2 = M1 ++ new2 := ⟨_, rfl⟩
    rw [← hM2] at hx2 ⊢
    obtain ⟨q0, q1, q2, q3, hlM2⟩ := hx2.box4
    cases hr : risB ps n with
    | false =>
      have e : fromOk k ps = false := by unfold fromOk; rw [← hn, hr]; simp
      simp (config := {implicitDefEqProofs := false, maxDischargeDepth := 20}) (disch := first | omega | (simp only [lenE]; done) | (simp only [lenE]; omega) | rfl | (simp only [lenE, markR_len]; done) | (simp only [lenE, markR_len]; omega)) only [runE, mapE, listE, initT_5, initT_6, initT_7, initT_8, resV, oneV, binA, unA, reduceCtorEq, Nat.reduceEqDiff, Nat.reduceAdd, Nat.reduceLT, Nat.reduceLeDiff, Nat.reduceMul, Nat.reduceSub, ↓reduceIte, decide_true, decide_false, Bool.true_eq_false, Bool.false_eq_true, Bool.not_true, Bool.not_false, if_true, if_false, and_true, true_and, memE, celE, w64, Nat.zero_add, Nat.add_zero, Nat.mul_one, putL, and_self, ldn, bsl_none, goG_undef]
      rw [e, fromA_no e]
      refine ext_ansL (hx2.ext.one _ _) (OwnR.end' (l := []) rfl) (by omega) rfl (by simp)
    | true =>
      have mk : ∀ M : Mem, mksA M 3 8 [.int .i64 0] (.int .i64 (n : Int)) (.int .i64 (n : Int)) = some (.slice (some ⟨M.length, 0, none⟩) n 1, M ++ [⟨.own, 3, List.replicate n (.int .i64 0)⟩]) := fun M => mksA_eq rfl (by omega)
      have l2 := (hx2.intsV h1).len
      rw [← hn] at l2
      simp (config := {implicitDefEqProofs := false, maxDischargeDepth := 20}) (disch := first | omega | (simp only [lenE]; done) | (simp only [lenE]; omega) | rfl | (simp only [lenE, markR_len]; done) | (simp only [lenE, markR_len]; omega)) only [runE, mapE, listE, initT_5, initT_6, initT_7, initT_8, resV, oneV, binA, unA, reduceCtorEq, Nat.reduceEqDiff, Nat.reduceAdd, Nat.reduceLT, Nat.reduceLeDiff, Nat.reduceMul, Nat.reduceSub, ↓reduceIte, decide_true, decide_false, Bool.true_eq_false, Bool.false_eq_true, Bool.not_true, Bool.not_false, if_true, if_false, and_true, true_and, memE, celE, w64, Nat.zero_add, Nat.add_zero, Nat.mul_one, putL, and_self, ldn, q0, q1, q2, q3, l2, mk]
      have hu2 := hx2.intsV hu
      refine callH_rc (backward_rc _ u ps (((hu2.ext _).ext _).ext _)) ?_
      rintro r new3 ⟨rfl, rfl⟩
      simp (config := {implicitDefEqProofs := false, maxDischargeDepth := 20}) (disch := first | omega | (simp only [lenE]; done) | (simp only [lenE]; omega) | rfl | (simp only [lenE, markR_len]; done) | (simp only [lenE, markR_len]; omega)) only [runE, mapE, listE, initT_5, initT_6, initT_7, initT_8, resV, oneV, binA, unA, reduceCtorEq, Nat.reduceEqDiff, Nat.reduceAdd, Nat.reduceLT, Nat.reduceLeDiff, Nat.reduceMul, Nat.reduceSub, ↓reduceIte, decide_true, decide_false, Bool.true_eq_false, Bool.false_eq_true, Bool.not_true, Bool.not_false, if_true, if_false, and_true, true_and, memE, celE, w64, Nat.zero_add, Nat.add_zero, Nat.mul_one, putL, and_self, ldn]
      have rr : Rising ps n := risB_iff.1 hr
      have rn : Rising ps k.need.length := by rw [← hn]; exact rr
      obtain ⟨M3, hM3⟩ : ∃ M3, M3 = M2 ++ [⟨.own, 3, List.replicate n (.int .i64 0)⟩] ++ [⟨.own, 24, [.slice (some ⟨M2.length, 0, none⟩) n 1]⟩] ++ [⟨.own, 3, [.int .i64 (n : Int)]⟩] ++ [⟨.own, 24, [u]⟩] := ⟨_, rfl⟩
      have f0 : FI (roM m ++ [⟨.own, 30, [v1, v2, v3, v4]⟩]) M2.length (M2.length + 1) (M2.length + 1 + 1) (M2.length + 1 + 1 + 1) n k.need ps u 0 M3 := by
        rw [hM3]
        refine ⟨(((hx2.one _ _).one _ _).one _ _).one _ _, ?_, by simp, (at4 _ _ _ _ _).1, (at4 _ _ _ _ _).2⟩
        have := (((OwnR.zeros (m := M2) (n := n) rfl).ext [⟨.own, 24, [.slice (some ⟨M2.length, 0, none⟩) n 1]⟩]).ext [⟨.own, 3, [.int .i64 (n : Int)]⟩]).ext [⟨.own, 24, [u]⟩]
        rw [backI, ← hn]
        exact this
      refine range_gen (fun s => s.t 2 = .pointer (some ⟨m.length, 0, none⟩) ∧ s.t 6 = .pointer (some ⟨M2.length + 1, 0, none⟩) ∧ s.t 7 = .pointer (some ⟨M2.length + 1 + 1, 0, none⟩) ∧
        s.t 29 = .func (.func 160) #[] #[.pointer (some ⟨M2.length + 1 + 1 + 1, 0, none⟩)] ∧ s.m = M3) ⟨rfl, rfl, rfl, rfl, hM3.symm⟩ ?_
      rintro s ⟨t2, t6, t7, t29, tm⟩
      refine range_run mixed (gf := 160) (caps := #[.pointer (some ⟨M2.length + 1 + 1 + 1, 0, none⟩)]) (by rw [ev_tmp]; exact t29) ps.length _
        (FI (roM m ++ [⟨.own, 30, [v1, v2, v3, v4]⟩]) M2.length (M2.length + 1) (M2.length + 1 + 1) (M2.length + 1 + 1 + 1) n k.need ps u)
        (iter_ints hu2 hl fun i M hM => ⟨by rw [rd_ownB hM.pd]; rfl, hM.g.intsV hu⟩) (fun _ => rfl) (by rw [tm]; exact f0) ?_ ?_
      · intro i M hi hM
        have hb := rr.bd (ps.length - 1 - i) (by omega)
        obtain ⟨p, hp⟩ : ∃ p : Nat, ps.getD (ps.length - 1 - i) 0 = (p : Int) := ⟨(ps.getD (ps.length - 1 - i) 0).toNat, by omega⟩
        have hpn : (ps.getD (ps.length - 1 - i) 0).toNat = p := by omega
        have nx := nxtP_in rr (i := ps.length - 1 - i) (by omega)
        have eb := endB_nxt n ps hi
        obtain ⟨w, hw⟩ : ∃ w, w = endB n ps i := ⟨_, rfl⟩
        rw [hpn, ← eb, ← hw] at nx
        obtain ⟨q0, q1, q2, q3, hlM3⟩ := hM.g.box4
        obtain ⟨c1, e1, d1⟩ := (hM.g.intsV h1).cut nx.1 (by omega)
        have rb : rdc M (M2.length + 1) 0 = some (.slice (some ⟨M2.length, 0, none⟩) n 1) := by rw [rd_ownB hM.pb]; rfl
        have rc : rdc M (M2.length + 1 + 1) 0 = some (.int .i64 (w : Int)) := by rw [rd_ownB hM.pc, hw]; rfl
        simp (config := {implicitDefEqProofs := false, maxDischargeDepth := 20}) (disch := first | omega | (simp only [lenE]; done) | (simp only [lenE]; omega) | rfl | (simp only [lenE, markR_len]; done) | (simp only [lenE, markR_len]; omega)) only [runE, mapE, listE, initT_5, initT_6, initT_7, initT_8, resV, oneV, binA, unA, reduceCtorEq, Nat.reduceEqDiff, Nat.reduceAdd, Nat.reduceLT, Nat.reduceLeDiff, Nat.reduceMul, Nat.reduceSub, ↓reduceIte, decide_true, decide_false, Bool.true_eq_false, Bool.false_eq_true, Bool.not_true, Bool.not_false, if_true, if_false, and_true, true_and, memE, celE, w64, Nat.zero_add, Nat.add_zero, Nat.mul_one, putL, and_self, ldn, t2, t6, t7, q0, rb, rc, e1, hp, setT_2]
        refine rcallH_rc (sumOf_cut_rc _ _ k.need d1 nx.1 (by omega) (b := 20) (by omega) (by omega) gd.need (by omega)) ?_
        rintro r new ⟨rfl, rfl⟩
        have m0 := hx2.len
        simp only [List.length_append, List.length_cons, List.length_nil, roM_len] at m0
        have st1 := hM.row.st (off := p) (x := sumR k.need p w) (by rw [backI_len]; omega)
        obtain ⟨M4, hM4⟩ : ∃ M4, M4 = M.set M2.length (rowB ((backI k.need ps i).set p (sumR k.need p w))) := ⟨_, rfl⟩
        rw [← hM4] at st1
        have oc : OwnR M4 (M2.length + 1 + 1) [(w : Int)] := by rw [hM4, hw]; exact hM.pc.set_ne (by omega)
        have st2 := oc.st (off := 0) (x := (p : Int)) (by simp)
        have ia : iadA 1 (.slice (some ⟨M2.length, 0, none⟩) n 1) (.int .i64 (p : Int)) = some (.pointer (some ⟨M2.length, p, none⟩)) := by
          have := iadA_in (id := M2.length) (off := 0) (n := n) (fl := 1) (sz := 1) (k := .i64) (j := p) (by omega)
          simpa using this
        simp (config := {implicitDefEqProofs := false, maxDischargeDepth := 20}) (disch := first | omega | (simp only [lenE]; done) | (simp only [lenE]; omega) | rfl | (simp only [lenE, markR_len]; done) | (simp only [lenE, markR_len]; omega)) only [runE, mapE, listE, initT_5, initT_6, initT_7, initT_8, resV, oneV, binA, unA, reduceCtorEq, Nat.reduceEqDiff, Nat.reduceAdd, Nat.reduceLT, Nat.reduceLeDiff, Nat.reduceMul, Nat.reduceSub, ↓reduceIte, decide_true, decide_false, Bool.true_eq_false, Bool.false_eq_true, Bool.not_true, Bool.not_false, if_true, if_false, and_true, true_and, memE, celE, w64, Nat.zero_add, Nat.add_zero, Nat.mul_one, putL, and_self, ldn, t7, ia, st1, st2, setT_2]
        rw [hM4]
        refine ⟨(hM.g.put (by simp [roM_len]; omega) _ _).put (by simp [roM_len]; omega) _ _, ?_, ?_, ?_, ?_⟩
        · rw [backI, hpn, ← hn, ← eb, ← hw]
          exact (OwnR.set_self hM.row).set_ne (by omega)
        · rw [List.getElem?_set_ne (by omega), List.getElem?_set_ne (by omega)]; exact hM.pb
        · rw [endB_s, hpn]
          exact OwnR.set_self (hM.pc.set_ne (by omega))
        · rw [List.getElem?_set_ne (by omega), List.getElem?_set_ne (by omega)]; exact hM.pd
      · intro M hM
        obtain ⟨w, hw⟩ : ∃ w, w = endB n ps ps.length := ⟨_, rfl⟩
        have hwn : w ≤ n := by rw [hw]; exact endB_in rr (Nat.le_refl _)
        obtain ⟨q0, q1, q2, q3, hlM3⟩ := hM.g.box4
        have rb : rdc M (M2.length + 1) 0 = some (.slice (some ⟨M2.length, 0, none⟩) n 1) := by rw [rd_ownB hM.pb]; rfl
        have rc : rdc M (M2.length + 1 + 1) 0 = some (.int .i64 (w : Int)) := by rw [rd_ownB hM.pc, hw]; rfl
        obtain ⟨c1, e1, d1⟩ := (hM.g.intsV h1).preB (hi := w) (by omega)
        simp (config := {implicitDefEqProofs := false, maxDischargeDepth := 20}) (disch := first | omega | (simp only [lenE]; done) | (simp only [lenE]; omega) | rfl | (simp only [lenE, markR_len]; done) | (simp only [lenE, markR_len]; omega)) only [runE, mapE, listE, initT_5, initT_6, initT_7, initT_8, resV, oneV, binA, unA, reduceCtorEq, Nat.reduceEqDiff, Nat.reduceAdd, Nat.reduceLT, Nat.reduceLeDiff, Nat.reduceMul, Nat.reduceSub, ↓reduceIte, decide_true, decide_false, Bool.true_eq_false, Bool.false_eq_true, Bool.not_true, Bool.not_false, if_true, if_false, and_true, true_and, memE, celE, w64, Nat.zero_add, Nat.add_zero, Nat.mul_one, putL, and_self, ldn, t2, t6, t7, q0, rb, rc, e1, Option.map_none]
        refine callH_rc (sumOf_cut_rc _ _ k.need d1 (Nat.zero_le _) (by omega) (b := 20) (by omega) (by omega) gd.need (by omega)) ?_
        rintro r new ⟨rfl, rfl⟩
        have ce := covers_end (b := 20) (by omega) gd.need rn
        rw [← hn, ← hw] at ce
        cases hcv : covers k.need ps with
        | false =>
          have e : fromOk k ps = false := by unfold fromOk; rw [hcv]; simp
          have pos := ce.2 hcv
          simp (config := {implicitDefEqProofs := false, maxDischargeDepth := 20}) (disch := first | omega | (simp only [lenE]; done) | (simp only [lenE]; omega) | rfl | (simp only [lenE, markR_len]; done) | (simp only [lenE, markR_len]; omega)) only [runE, mapE, listE, initT_5, initT_6, initT_7, initT_8, resV, oneV, binA, unA, reduceCtorEq, Nat.reduceEqDiff, Nat.reduceAdd, Nat.reduceLT, Nat.reduceLeDiff, Nat.reduceMul, Nat.reduceSub, ↓reduceIte, decide_true, decide_false, Bool.true_eq_false, Bool.false_eq_true, Bool.not_true, Bool.not_false, if_true, if_false, and_true, true_and, memE, celE, w64, Nat.zero_add, Nat.add_zero, Nat.mul_one, putL, and_self, ldn, bsl_none, gt_iff_lt, pos]
          rw [e, fromA_no e]
          exact ext_ansL (hM.g.ext.one _ _) (OwnR.end' (l := []) rfl) (by omega) rfl (by simp)
        | true =>
          have e : fromOk k ps = true := by unfold fromOk; rw [hg, hcv, ← hn, hr]; rfl
          have pos : ¬ (0 < sumR k.need 0 w) := fun hp => by have := ce.1 hp; rw [hcv] at this; cases this
          simp (config := {implicitDefEqProofs := false, maxDischargeDepth := 20}) (disch := first | omega | (simp only [lenE]; done) | (simp only [lenE]; omega) | rfl | (simp only [lenE, markR_len]; done) | (simp only [lenE, markR_len]; omega)) only [runE, mapE, listE, initT_5, initT_6, initT_7, initT_8, resV, oneV, binA, unA, reduceCtorEq, Nat.reduceEqDiff, Nat.reduceAdd, Nat.reduceLT, Nat.reduceLeDiff, Nat.reduceMul, Nat.reduceSub, ↓reduceIte, decide_true, decide_false, Bool.true_eq_false, Bool.false_eq_true, Bool.not_true, Bool.not_false, if_true, if_false, and_true, true_and, memE, celE, w64, Nat.zero_add, Nat.add_zero, Nat.mul_one, putL, and_self, ldn, gt_iff_lt, pos, t6, rb]
          rw [e, fromA_yes e]
          exact ext_ansL hM.g.ext (by rw [← back_from rn]; exact hM.row) (by omega) (by rw [fromL_len, hn]) (by rw [fromL_len]; omega)
end Go.Proofs.Ytamhhicnfpemeaa.Ab
end
section
namespace Go.Proofs.Ytamhhicnfpemeaa.Ab
open Go Go.RowKit
set_option linter.unusedVariables false
set_option linter.unusedSimpArgs false
def hasX (l : List Int) (x : Int) (a : Nat) : Nat → Bool
  | 0 => false
  | d + 1 => hasX l x a d || (x == l.getD (a + d) 0)
theorem hasX_mono {l : List Int} {x : Int} {a d : Nat} (h : hasX l x a d = true) : ∀ e, d ≤ e → hasX l x a e = true := by
  intro e he
  induction e with
  | zero => rw [show d = 0 by omega] at h; exact h
  | succ e ih =>
    by_cases hd : d = e + 1
    · rw [← hd]; exact h
    · rw [hasX, ih (by omega)]; rfl
theorem index_rc (m : Mem) (v : Value) (l : List Int) (x : Int) (h : IntsA m v l) (h8 : l.length ≤ 1048576) :
    RC Try.prog 161 [v, .int .i64 x] m fun r new => (∃ z : Int, r = .int .i64 z ∧ decide (0 ≤ z) = hasX l x 0 l.length) ∧ new = [] := by
  refine rc_of_run mixed ok_slices_Index (by simp) (go_start _ _ _ ?_)
  have i := h.ro
  simp (config := {implicitDefEqProofs := false, maxDischargeDepth := 20}) (disch := first | omega | (simp only [lenE]; done) | (simp only [lenE]; omega) | rfl | (simp only [lenE, markR_len]; done) | (simp only [lenE, markR_len]; omega)) only [runE, mapE, listE, initT_5, initT_6, initT_7, initT_8, resV, oneV, binA, unA, reduceCtorEq, Nat.reduceEqDiff, Nat.reduceAdd, Nat.reduceLT, Nat.reduceLeDiff, Nat.reduceMul, Nat.reduceSub, ↓reduceIte, decide_true, decide_false, Bool.true_eq_false, Bool.false_eq_true, Bool.not_true, Bool.not_false, if_true, if_false, and_true, true_and, memE, celE, w64, Nat.zero_add, Nat.add_zero, Nat.mul_one, putL, and_self, ldn, c_slices_Index, r_slices_Index, i.len]
  refine loop_inv mixed (fun s => ∃ j : Nat, j ≤ l.length ∧ hasX l x 0 j = false ∧ s.t 0 = v ∧ s.t 1 = .int .i64 x ∧ s.t 7 = .int .i64 l.length ∧ s.t 8 = .int .i64 j ∧ s.m = roM m) (fun s => l.length - (intOf (s.t 8)).toNat)
    ⟨0, by omega, rfl, rfl, rfl, rfl, rfl, rfl⟩ ?_
  rintro s ⟨j, hj, hno, t0, t1, t7, t8, tm⟩
  by_cases hlt : j < l.length
  · have hlt' : (j : Int) < l.length := by omega
    cases hb : (x == l.getD j 0) with
    | true =>
      have e : hasX l x 0 (j + 1) = true := by rw [hasX, Nat.zero_add, hb, hno]; rfl
      simp (config := {implicitDefEqProofs := false, maxDischargeDepth := 20}) (disch := first | omega | (simp only [lenE]; done) | (simp only [lenE]; omega) | rfl | (simp only [lenE, markR_len]; done) | (simp only [lenE, markR_len]; omega)) only [runE, mapE, listE, initT_5, initT_6, initT_7, initT_8, resV, oneV, binA, unA, reduceCtorEq, Nat.reduceEqDiff, Nat.reduceAdd, Nat.reduceLT, Nat.reduceLeDiff, Nat.reduceMul, Nat.reduceSub, ↓reduceIte, decide_true, decide_false, Bool.true_eq_false, Bool.false_eq_true, Bool.not_true, Bool.not_false, if_true, if_false, and_true, true_and, memE, celE, w64, Nat.zero_add, Nat.add_zero, Nat.mul_one, putL, and_self, ldn, tm, t0, t1, t7, t8, hlt', i.at_ j hlt, i.ld j hlt, hb]
      exact newQ_nil ⟨⟨_, rfl, by rw [hasX_mono e _ (by omega)]; simp⟩, rfl⟩
    | false =>
      simp (config := {implicitDefEqProofs := false, maxDischargeDepth := 20}) (disch := first | omega | (simp only [lenE]; done) | (simp only [lenE]; omega) | rfl | (simp only [lenE, markR_len]; done) | (simp only [lenE, markR_len]; omega)) only [runE, mapE, listE, initT_5, initT_6, initT_7, initT_8, resV, oneV, binA, unA, reduceCtorEq, Nat.reduceEqDiff, Nat.reduceAdd, Nat.reduceLT, Nat.reduceLeDiff, Nat.reduceMul, Nat.reduceSub, ↓reduceIte, decide_true, decide_false, Bool.true_eq_false, Bool.false_eq_true, Bool.not_true, Bool.not_false, if_true, if_false, and_true, true_and, memE, celE, w64, Nat.zero_add, Nat.add_zero, Nat.mul_one, putL, and_self, ldn, tm, t0, t1, t7, t8, hlt', i.at_ j hlt, i.ld j hlt, hb]
      exact ⟨⟨j + 1, by omega, by rw [hasX, Nat.zero_add, hb, hno]; rfl, by simp⟩, by simp [intOf]; omega⟩
  · have hlt' : ¬ ((j : Int) < l.length) := by omega
    have e : j = l.length := by omega
    subst e
    simp (config := {implicitDefEqProofs := false, maxDischargeDepth := 20}) (disch := first | omega | (simp only [lenE]; done) | (simp only [lenE]; omega) | rfl | (simp only [lenE, markR_len]; done) | (simp only [lenE, markR_len]; omega)) only [runE, mapE, listE, initT_5, initT_6, initT_7, initT_8, resV, oneV, binA, unA, reduceCtorEq, Nat.reduceEqDiff, Nat.reduceAdd, Nat.reduceLT, Nat.reduceLeDiff, Nat.reduceMul, Nat.reduceSub, ↓reduceIte, decide_true, decide_false, Bool.true_eq_false, Bool.false_eq_true, Bool.not_true, Bool.not_false, if_true, if_false, and_true, true_and, memE, celE, w64, Nat.zero_add, Nat.add_zero, Nat.mul_one, putL, and_self, ldn, tm, t0, t1, t7, t8, hlt']
    exact newQ_nil ⟨⟨_, rfl, by rw [hno]; decide⟩, rfl⟩
theorem contains_rc (m : Mem) (v : Value) (l : List Int) (x : Int) (h : IntsA m v l) (h8 : l.length ≤ 1048576) :
    RC Try.prog 139 [v, .int .i64 x] m fun r new => r = .bool (hasX l x 0 l.length) ∧ new = [] := by
  refine rc_of_run mixed ok_slices_Contains (by simp) (go_start _ _ _ ?_)
  have i := h.ro
  simp (config := {implicitDefEqProofs := false, maxDischargeDepth := 20}) (disch := first | omega | (simp only [lenE]; done) | (simp only [lenE]; omega) | rfl | (simp only [lenE, markR_len]; done) | (simp only [lenE, markR_len]; omega)) only [runE, mapE, listE, initT_5, initT_6, initT_7, initT_8, resV, oneV, binA, unA, reduceCtorEq, Nat.reduceEqDiff, Nat.reduceAdd, Nat.reduceLT, Nat.reduceLeDiff, Nat.reduceMul, Nat.reduceSub, ↓reduceIte, decide_true, decide_false, Bool.true_eq_false, Bool.false_eq_true, Bool.not_true, Bool.not_false, if_true, if_false, and_true, true_and, memE, celE, w64, Nat.zero_add, Nat.add_zero, Nat.mul_one, putL, and_self, ldn, c_slices_Contains, r_slices_Contains]
  refine callH_rc (index_rc _ v l x i h8) ?_
  rintro r new ⟨⟨z, rfl, hz⟩, rfl⟩
  rw [List.append_nil]
  simp (config := {implicitDefEqProofs := false, maxDischargeDepth := 20}) (disch := first | omega | (simp only [lenE]; done) | (simp only [lenE]; omega) | rfl | (simp only [lenE, markR_len]; done) | (simp only [lenE, markR_len]; omega)) only [runE, mapE, listE, initT_5, initT_6, initT_7, initT_8, resV, oneV, binA, unA, reduceCtorEq, Nat.reduceEqDiff, Nat.reduceAdd, Nat.reduceLT, Nat.reduceLeDiff, Nat.reduceMul, Nat.reduceSub, ↓reduceIte, decide_true, decide_false, Bool.true_eq_false, Bool.false_eq_true, Bool.not_true, Bool.not_false, if_true, if_false, and_true, true_and, memE, celE, w64, Nat.zero_add, Nat.add_zero, Nat.mul_one, putL, and_self, ldn, ge_iff_le]
  exact newQ_nil ⟨by rw [hz], rfl⟩
end Go.Proofs.Ytamhhicnfpemeaa.Ab
end
section
namespace Go.Proofs.Ytamhhicnfpemeaa.Ab
open Go Go.RowKit
set_option linter.unusedVariables false
set_option linter.unusedSimpArgs false
theorem l1Has_rc (m : Mem) (v : Value) (l : List Int) (x : Int) (h : IntsA m v l) : RC Try.prog 159 [v, .int .i64 x] m fun r new => r = .bool (hasX l x 0 l.length) ∧ new = [] := by
  refine rc_of_run mixed ok_spec_l1Has (by simp) (go_start _ _ _ ?_)
  have i := h.ro
  have hb := i.bd
  simp (config := {implicitDefEqProofs := false, maxDischargeDepth := 20}) (disch := first | omega | (simp only [lenE]; done) | (simp only [lenE]; omega) | rfl | (simp only [lenE, markR_len]; done) | (simp only [lenE, markR_len]; omega)) only [runE, mapE, listE, initT_5, initT_6, initT_7, initT_8, resV, oneV, binA, unA, reduceCtorEq, Nat.reduceEqDiff, Nat.reduceAdd, Nat.reduceLT, Nat.reduceLeDiff, Nat.reduceMul, Nat.reduceSub, ↓reduceIte, decide_true, decide_false, Bool.true_eq_false, Bool.false_eq_true, Bool.not_true, Bool.not_false, if_true, if_false, and_true, true_and, memE, celE, w64, Nat.zero_add, Nat.add_zero, Nat.mul_one, putL, and_self, ldn, c_spec_l1Has, r_spec_l1Has]
  refine loop_inv mixed (fun s => ∃ j : Nat, j ≤ l.length ∧ hasX l x 0 j = false ∧ s.t 0 = v ∧ s.t 1 = .int .i64 x ∧ s.t 5 = .int .i64 j ∧ s.m = roM m) (fun s => l.length - (intOf (s.t 5)).toNat)
    ⟨0, by omega, rfl, rfl, rfl, rfl, rfl⟩ ?_
  rintro s ⟨j, hj, hno, t0, t1, t5, tm⟩
  by_cases hlt : j < l.length
  · have hlt' : (j : Int) < l.length := by omega
    cases hb2 : (l.getD j 0 == x) with
    | true =>
      have hb3 : (x == l.getD j 0) = true := by rw [beq_iff_eq] at hb2 ⊢; exact hb2.symm
      have e : hasX l x 0 (j + 1) = true := by rw [hasX, Nat.zero_add, hb3, hno]; rfl
      simp (config := {implicitDefEqProofs := false, maxDischargeDepth := 20}) (disch := first | omega | (simp only [lenE]; done) | (simp only [lenE]; omega) | rfl | (simp only [lenE, markR_len]; done) | (simp only [lenE, markR_len]; omega)) only [runE, mapE, listE, initT_5, initT_6, initT_7, initT_8, resV, oneV, binA, unA, reduceCtorEq, Nat.reduceEqDiff, Nat.reduceAdd, Nat.reduceLT, Nat.reduceLeDiff, Nat.reduceMul, Nat.reduceSub, ↓reduceIte, decide_true, decide_false, Bool.true_eq_false, Bool.false_eq_true, Bool.not_true, Bool.not_false, if_true, if_false, and_true, true_and, memE, celE, w64, Nat.zero_add, Nat.add_zero, Nat.mul_one, putL, and_self, ldn, tm, t0, t1, t5, hlt', i.len, i.at_ j hlt, i.ld j hlt, hb2]
      exact newQ_nil ⟨by rw [hasX_mono e _ (by omega)], rfl⟩
    | false =>
      have hb3 : (x == l.getD j 0) = false := by rw [beq_eq_false_iff_ne] at hb2 ⊢; exact fun e => hb2 e.symm
      simp (config := {implicitDefEqProofs := false, maxDischargeDepth := 20}) (disch := first | omega | (simp only [lenE]; done) | (simp only [lenE]; omega) | rfl | (simp only [lenE, markR_len]; done) | (simp only [lenE, markR_len]; omega)) only [runE, mapE, listE, initT_5, initT_6, initT_7, initT_8, resV, oneV, binA, unA, reduceCtorEq, Nat.reduceEqDiff, Nat.reduceAdd, Nat.reduceLT, Nat.reduceLeDiff, Nat.reduceMul, Nat.reduceSub, ↓reduceIte, decide_true, decide_false, Bool.true_eq_false, Bool.false_eq_true, Bool.not_true, Bool.not_false, if_true, if_false, and_true, true_and, memE, celE, w64, Nat.zero_add, Nat.add_zero, Nat.mul_one, putL, and_self, ldn, tm, t0, t1, t5, hlt', i.len, i.at_ j hlt, i.ld j hlt, hb2]
      exact ⟨⟨j + 1, by omega, by rw [hasX, Nat.zero_add, hb3, hno]; rfl, by simp⟩, by simp [intOf]; omega⟩
  · have hlt' : ¬ ((j : Int) < l.length) := by omega
    have e : j = l.length := by omega
    subst e
    simp (config := {implicitDefEqProofs := false, maxDischargeDepth := 20}) (disch := first | omega | (simp only [lenE]; done) | (simp only [lenE]; omega) | rfl | (simp only [lenE, markR_len]; done) | (simp only [lenE, markR_len]; omega)) only [runE, mapE, listE, initT_5, initT_6, initT_7, initT_8, resV, oneV, binA, unA, reduceCtorEq, Nat.reduceEqDiff, Nat.reduceAdd, Nat.reduceLT, Nat.reduceLeDiff, Nat.reduceMul, Nat.reduceSub, ↓reduceIte, decide_true, decide_false, Bool.true_eq_false, Bool.false_eq_true, Bool.not_true, Bool.not_false, if_true, if_false, and_true, true_and, memE, celE, w64, Nat.zero_add, Nat.add_zero, Nat.mul_one, putL, and_self, ldn, tm, t0, t1, t5, hlt', i.len]
    exact newQ_nil ⟨by rw [hno], rfl⟩
def withinB (a b : List Int) : Bool := a.all fun x => hasX b x 0 b.length
theorem l7Within_rc (m : Mem) (v u : Value) (a b : List Int) (h : IntsA m v a) (h' : IntsA m u b) : RC Try.prog 135 [v, u] m fun r new => r = .bool (withinB a b) ∧ new = [] := by
  refine rc_of_run mixed ok_spec_l7Within (by simp) (go_start _ _ _ ?_)
  have i := h.ro
  have hbd := i.bd
  unfold withinB
  simp (config := {implicitDefEqProofs := false, maxDischargeDepth := 20}) (disch := first | omega | (simp only [lenE]; done) | (simp only [lenE]; omega) | rfl | (simp only [lenE, markR_len]; done) | (simp only [lenE, markR_len]; omega)) only [runE, mapE, listE, initT_5, initT_6, initT_7, initT_8, resV, oneV, binA, unA, reduceCtorEq, Nat.reduceEqDiff, Nat.reduceAdd, Nat.reduceLT, Nat.reduceLeDiff, Nat.reduceMul, Nat.reduceSub, ↓reduceIte, decide_true, decide_false, Bool.true_eq_false, Bool.false_eq_true, Bool.not_true, Bool.not_false, if_true, if_false, and_true, true_and, memE, celE, w64, Nat.zero_add, Nat.add_zero, Nat.mul_one, putL, and_self, ldn, c_spec_l7Within, r_spec_l7Within]
  refine loop_inv mixed (fun s => ∃ j : Nat, j ≤ a.length ∧ allTo (fun x => hasX b x 0 b.length) a j ∧ s.t 0 = v ∧ s.t 1 = u ∧ s.t 5 = .int .i64 j ∧ s.m = roM m) (fun s => a.length - (intOf (s.t 5)).toNat)
    ⟨0, by omega, fun j hj => absurd hj (by omega), rfl, rfl, rfl, rfl⟩ ?_
  rintro s ⟨j, hj, hall, t0, t1, t5, tm⟩
  by_cases hlt : j < a.length
  · have hlt' : (j : Int) < a.length := by omega
    simp (config := {implicitDefEqProofs := false, maxDischargeDepth := 20}) (disch := first | omega | (simp only [lenE]; done) | (simp only [lenE]; omega) | rfl | (simp only [lenE, markR_len]; done) | (simp only [lenE, markR_len]; omega)) only [runE, mapE, listE, initT_5, initT_6, initT_7, initT_8, resV, oneV, binA, unA, reduceCtorEq, Nat.reduceEqDiff, Nat.reduceAdd, Nat.reduceLT, Nat.reduceLeDiff, Nat.reduceMul, Nat.reduceSub, ↓reduceIte, decide_true, decide_false, Bool.true_eq_false, Bool.false_eq_true, Bool.not_true, Bool.not_false, if_true, if_false, and_true, true_and, memE, celE, w64, Nat.zero_add, Nat.add_zero, Nat.mul_one, putL, and_self, ldn, tm, t0, t1, t5, hlt', i.len, i.at_ j hlt, i.ld j hlt]
    refine callH_rc (l1Has_rc _ u b (a.getD j 0) h'.ro) ?_
    rintro r new ⟨rfl, rfl⟩
    rw [List.append_nil]
    cases hb : hasX b (a.getD j 0) 0 b.length with
    | true =>
      simp (config := {implicitDefEqProofs := false, maxDischargeDepth := 20}) (disch := first | omega | (simp only [lenE]; done) | (simp only [lenE]; omega) | rfl | (simp only [lenE, markR_len]; done) | (simp only [lenE, markR_len]; omega)) only [runE, mapE, listE, initT_5, initT_6, initT_7, initT_8, resV, oneV, binA, unA, reduceCtorEq, Nat.reduceEqDiff, Nat.reduceAdd, Nat.reduceLT, Nat.reduceLeDiff, Nat.reduceMul, Nat.reduceSub, ↓reduceIte, decide_true, decide_false, Bool.true_eq_false, Bool.false_eq_true, Bool.not_true, Bool.not_false, if_true, if_false, and_true, true_and, memE, celE, w64, Nat.zero_add, Nat.add_zero, Nat.mul_one, putL, and_self, ldn, tm, t0, t1, t5]
      exact ⟨⟨j + 1, by omega, allTo_s hall hb, by simp⟩, by simp [intOf]; omega⟩
    | false =>
      simp (config := {implicitDefEqProofs := false, maxDischargeDepth := 20}) (disch := first | omega | (simp only [lenE]; done) | (simp only [lenE]; omega) | rfl | (simp only [lenE, markR_len]; done) | (simp only [lenE, markR_len]; omega)) only [runE, mapE, listE, initT_5, initT_6, initT_7, initT_8, resV, oneV, binA, unA, reduceCtorEq, Nat.reduceEqDiff, Nat.reduceAdd, Nat.reduceLT, Nat.reduceLeDiff, Nat.reduceMul, Nat.reduceSub, ↓reduceIte, decide_true, decide_false, Bool.true_eq_false, Bool.false_eq_true, Bool.not_true, Bool.not_false, if_true, if_false, and_true, true_and, memE, celE, w64, Nat.zero_add, Nat.add_zero, Nat.mul_one, putL, and_self, ldn, tm, t0, t1, t5]
      exact newQ_nil ⟨by rw [allTo_no (f := fun x => hasX b x 0 b.length) hlt hb], rfl⟩
  · have hlt' : ¬ ((j : Int) < a.length) := by omega
    have e : j = a.length := by omega
    subst e
    simp (config := {implicitDefEqProofs := false, maxDischargeDepth := 20}) (disch := first | omega | (simp only [lenE]; done) | (simp only [lenE]; omega) | rfl | (simp only [lenE, markR_len]; done) | (simp only [lenE, markR_len]; omega)) only [runE, mapE, listE, initT_5, initT_6, initT_7, initT_8, resV, oneV, binA, unA, reduceCtorEq, Nat.reduceEqDiff, Nat.reduceAdd, Nat.reduceLT, Nat.reduceLeDiff, Nat.reduceMul, Nat.reduceSub, ↓reduceIte, decide_true, decide_false, Bool.true_eq_false, Bool.false_eq_true, Bool.not_true, Bool.not_false, if_true, if_false, and_true, true_and, memE, celE, w64, Nat.zero_add, Nat.add_zero, Nat.mul_one, putL, and_self, ldn, tm, t0, t1, t5, hlt', i.len]
    exact newQ_nil ⟨by rw [allTo_all hall], rfl⟩
theorem l7Fed_rc (m : Mem) (v u : Value) (need ps : List Int) (h : IntsA m v need) (h' : IntsA m u ps) : RC Try.prog 87 [v, u] m fun r new => r = .bool (covers need ps) ∧ new = [] := by
  refine rc_of_run mixed ok_spec_l7Fed (by simp) (go_start _ _ _ ?_)
  have i := h.ro
  have iu := h'.ro
  have hbd := i.bd
  have hbu := iu.bd
  simp (config := {implicitDefEqProofs := false, maxDischargeDepth := 20}) (disch := first | omega | (simp only [lenE]; done) | (simp only [lenE]; omega) | rfl | (simp only [lenE, markR_len]; done) | (simp only [lenE, markR_len]; omega)) only [runE, mapE, listE, initT_5, initT_6, initT_7, initT_8, resV, oneV, binA, unA, reduceCtorEq, Nat.reduceEqDiff, Nat.reduceAdd, Nat.reduceLT, Nat.reduceLeDiff, Nat.reduceMul, Nat.reduceSub, ↓reduceIte, decide_true, decide_false, Bool.true_eq_false, Bool.false_eq_true, Bool.not_true, Bool.not_false, if_true, if_false, and_true, true_and, memE, celE, w64, Nat.zero_add, Nat.add_zero, Nat.mul_one, putL, and_self, ldn, c_spec_l7Fed, r_spec_l7Fed]
  refine loop_inv mixed (fun s => ∃ j : Nat, j ≤ need.length ∧ (∀ t, t < j → need.getD t 0 ≤ 0) ∧ s.t 0 = v ∧ s.t 1 = u ∧ s.t 5 = .int .i64 j ∧ s.m = roM m) (fun s => need.length - (intOf (s.t 5)).toNat)
    ⟨0, by omega, fun j hj => absurd hj (by omega), rfl, rfl, rfl, rfl⟩ ?_
  rintro s ⟨j, hj, hall, t0, t1, t5, tm⟩
  by_cases hlt : j < need.length
  · have hlt' : (j : Int) < need.length := by omega
    by_cases hp : 0 < need.getD j 0
    · by_cases hl : 0 < ps.length
      · have hl' : (0 : Int) < ps.length := by omega
        have a0 := iu.at_ 0 hl
        rw [show ((0 : Nat) : Int) = 0 from rfl] at a0
        by_cases h0 : ps.getD 0 0 ≤ (j : Int)
        · simp (config := {implicitDefEqProofs := false, maxDischargeDepth := 20}) (disch := first | omega | (simp only [lenE]; done) | (simp only [lenE]; omega) | rfl | (simp only [lenE, markR_len]; done) | (simp only [lenE, markR_len]; omega)) only [runE, mapE, listE, initT_5, initT_6, initT_7, initT_8, resV, oneV, binA, unA, reduceCtorEq, Nat.reduceEqDiff, Nat.reduceAdd, Nat.reduceLT, Nat.reduceLeDiff, Nat.reduceMul, Nat.reduceSub, ↓reduceIte, decide_true, decide_false, Bool.true_eq_false, Bool.false_eq_true, Bool.not_true, Bool.not_false, if_true, if_false, and_true, true_and, memE, celE, w64, Nat.zero_add, Nat.add_zero, Nat.mul_one, putL, and_self, ldn, tm, t0, t1, t5, hlt', i.len, i.at_ j hlt, i.ld j hlt, gt_iff_lt, hp, iu.len, hl', a0, iu.ld 0 hl, h0]
          exact newQ_nil ⟨by rw [covers_yes (t := j) hj hall (.inr ⟨hl, h0⟩)], rfl⟩
        · simp (config := {implicitDefEqProofs := false, maxDischargeDepth := 20}) (disch := first | omega | (simp only [lenE]; done) | (simp only [lenE]; omega) | rfl | (simp only [lenE, markR_len]; done) | (simp only [lenE, markR_len]; omega)) only [runE, mapE, listE, initT_5, initT_6, initT_7, initT_8, resV, oneV, binA, unA, reduceCtorEq, Nat.reduceEqDiff, Nat.reduceAdd, Nat.reduceLT, Nat.reduceLeDiff, Nat.reduceMul, Nat.reduceSub, ↓reduceIte, decide_true, decide_false, Bool.true_eq_false, Bool.false_eq_true, Bool.not_true, Bool.not_false, if_true, if_false, and_true, true_and, memE, celE, w64, Nat.zero_add, Nat.add_zero, Nat.mul_one, putL, and_self, ldn, tm, t0, t1, t5, hlt', i.len, i.at_ j hlt, i.ld j hlt, gt_iff_lt, hp, iu.len, hl', a0, iu.ld 0 hl, h0]
          exact newQ_nil ⟨by rw [covers_no hlt hp fun hh => h0 hh.2], rfl⟩
      · have hl' : ¬ ((0 : Int) < ps.length) := by omega
        simp (config := {implicitDefEqProofs := false, maxDischargeDepth := 20}) (disch := first | omega | (simp only [lenE]; done) | (simp only [lenE]; omega) | rfl | (simp only [lenE, markR_len]; done) | (simp only [lenE, markR_len]; omega)) only [runE, mapE, listE, initT_5, initT_6, initT_7, initT_8, resV, oneV, binA, unA, reduceCtorEq, Nat.reduceEqDiff, Nat.reduceAdd, Nat.reduceLT, Nat.reduceLeDiff, Nat.reduceMul, Nat.reduceSub, ↓reduceIte, decide_true, decide_false, Bool.true_eq_false, Bool.false_eq_true, Bool.not_true, Bool.not_false, if_true, if_false, and_true, true_and, memE, celE, w64, Nat.zero_add, Nat.add_zero, Nat.mul_one, putL, and_self, ldn, tm, t0, t1, t5, hlt', i.len, i.at_ j hlt, i.ld j hlt, gt_iff_lt, hp, iu.len, hl', goG_undef]
        exact newQ_nil ⟨by rw [covers_no hlt hp fun hh => hl hh.1], rfl⟩
    · simp (config := {implicitDefEqProofs := false, maxDischargeDepth := 20}) (disch := first | omega | (simp only [lenE]; done) | (simp only [lenE]; omega) | rfl | (simp only [lenE, markR_len]; done) | (simp only [lenE, markR_len]; omega)) only [runE, mapE, listE, initT_5, initT_6, initT_7, initT_8, resV, oneV, binA, unA, reduceCtorEq, Nat.reduceEqDiff, Nat.reduceAdd, Nat.reduceLT, Nat.reduceLeDiff, Nat.reduceMul, Nat.reduceSub, ↓reduceIte, decide_true, decide_false, Bool.true_eq_false, Bool.false_eq_true, Bool.not_true, Bool.not_false, if_true, if_false, and_true, true_and, memE, celE, w64, Nat.zero_add, Nat.add_zero, Nat.mul_one, putL, and_self, ldn, tm, t0, t1, t5, hlt', i.len, i.at_ j hlt, i.ld j hlt, gt_iff_lt, hp]
      refine ⟨⟨j + 1, by omega, fun t ht => ?_, by simp⟩, by simp [intOf]; omega⟩
      by_cases e : t = j
      · subst e; omega
      · exact hall t (by omega)
  · have hlt' : ¬ ((j : Int) < need.length) := by omega
    have e : j = need.length := by omega
    subst e
    simp (config := {implicitDefEqProofs := false, maxDischargeDepth := 20}) (disch := first | omega | (simp only [lenE]; done) | (simp only [lenE]; omega) | rfl | (simp only [lenE, markR_len]; done) | (simp only [lenE, markR_len]; omega)) only [runE, mapE, listE, initT_5, initT_6, initT_7, initT_8, resV, oneV, binA, unA, reduceCtorEq, Nat.reduceEqDiff, Nat.reduceAdd, Nat.reduceLT, Nat.reduceLeDiff, Nat.reduceMul, Nat.reduceSub, ↓reduceIte, decide_true, decide_false, Bool.true_eq_false, Bool.false_eq_true, Bool.not_true, Bool.not_false, if_true, if_false, and_true, true_and, memE, celE, w64, Nat.zero_add, Nat.add_zero, Nat.mul_one, putL, and_self, ldn, tm, t0, t1, t5, hlt', i.len]
    exact newQ_nil ⟨by rw [covers_yes (Nat.le_refl _) hall (.inl rfl)], rfl⟩
theorem l7Row_rc (m : Mem) (v u : Value) (need ps : List Int) (h : IntsA m v need) (h' : IntsA m u ps) (hn : ∀ x ∈ need, 0 ≤ x ∧ x ≤ 160) (h8 : need.length ≤ 8) (hr : Rising ps need.length) (hl : ps.length ≤ 1048576) :
    RC Try.prog 90 [v, u] m (AnsR m (fromL need ps)) := by
  refine rc_of_run mixed ok_spec_l7Row (by simp) (go_start _ _ _ ?_)
  have h1 := h.ro
  have hu := h'.ro
  obtain ⟨n, hn'⟩ : ∃ n, n = need.length := ⟨_, rfl⟩
  have mk : ∀ M : Mem, mksA M 3 8 [.int .i64 0] (.int .i64 (n : Int)) (.int .i64 (n : Int)) = some (.slice (some ⟨M.length, 0, none⟩) n 1, M ++ [⟨.own, 3, List.replicate n (.int .i64 0)⟩]) := fun M => mksA_eq rfl (by omega)
  have l1 := h1.len
  rw [← hn'] at l1 hr h8
  simp (config := {implicitDefEqProofs := false, maxDischargeDepth := 20}) (disch := first | omega | (simp only [lenE]; done) | (simp only [lenE]; omega) | rfl | (simp only [lenE, markR_len]; done) | (simp only [lenE, markR_len]; omega)) only [runE, mapE, listE, initT_5, initT_6, initT_7, initT_8, resV, oneV, binA, unA, reduceCtorEq, Nat.reduceEqDiff, Nat.reduceAdd, Nat.reduceLT, Nat.reduceLeDiff, Nat.reduceMul, Nat.reduceSub, ↓reduceIte, decide_true, decide_false, Bool.true_eq_false, Bool.false_eq_true, Bool.not_true, Bool.not_false, if_true, if_false, and_true, true_and, memE, celE, w64, Nat.zero_add, Nat.add_zero, Nat.mul_one, putL, and_self, ldn, c_spec_l7Row, r_spec_l7Row, l1, mk]
  have hx : Grow (roM m) (roM m ++ [⟨.own, 3, List.replicate n (.int .i64 0)⟩]) := (Grow.refl _).one _ _
  have o0 : OwnR (roM m ++ [⟨.own, 3, List.replicate n (.int .i64 0)⟩]) m.length (List.replicate n 0) := OwnR.zeros (by simp [roM_len])
  refine loop_inv mixed (fun s => ∃ (i : Nat) (M : Mem), i ≤ ps.length ∧ s.t 0 = v ∧ s.t 1 = u ∧ s.t 5 = .slice (some ⟨m.length, 0, none⟩) n 1 ∧ s.t 6 = .int .i64 i ∧ s.m = M ∧ Grow (roM m) M ∧ OwnR M m.length (fromI need ps i)) (fun s => ps.length - (intOf (s.t 6)).toNat)
    ⟨0, _, by omega, rfl, rfl, by simp only [put_t, put_t', put_m, putT_t, putT_t', putT_m, init_t, init_m, initT_0, initT_1, initT_2, initT_3, initT_4, initT_5, initT_6, initT_7, initT_8, Nat.reduceEqDiff, ↓reduceIte], rfl, rfl, hx, by rw [fromI, ← hn']; exact o0⟩ ?_
  rintro s ⟨i, M, hk, t0, t1, t5, t6, tm, hxM, oM⟩
  have i1 := hxM.ints h1
  have iu := hxM.ints hu
  have l1 := i1.len
  rw [← hn'] at l1
  by_cases hlt : i < ps.length
  · have hlt' : (i : Int) < ps.length := by omega
    have hb := hr.bd i hlt
    obtain ⟨p, hp⟩ : ∃ p : Nat, ps.getD i 0 = (p : Int) := ⟨(ps.getD i 0).toNat, by omega⟩
    have hnx := nxtP_in hr hlt
    have hpn : (ps.getD i 0).toNat = p := by omega
    rw [hpn] at hnx
    obtain ⟨c1, e1, d1⟩ := i1.cut hnx.1 (by omega)
    have li := iu.ld i hlt
    rw [hp] at li
    have hfl := fromI_len need ps i
    have hxp : p < (fromI need ps i).length := by omega
    have fin : ∀ x : Int, x = sumR need p (nxtP n ps i) → OwnR (M.set m.length (rowB ((fromI need ps i).set p x))) m.length (fromI need ps (i + 1)) := fun x hx => by
      have := OwnR.set_self (L' := (fromI need ps i).set p x) oM
      rw [fromI, hpn, ← hn', ← hx]; exact this
    by_cases h2 : i + 1 < ps.length
    · have h2' : (i : Int) + 1 < ps.length := by omega
      have a2 := iu.at_ (i + 1) h2
      have l2 := iu.ld (i + 1) h2
      have ee : ps.getD (i + 1) 0 = (nxtP n ps i : Int) := by unfold nxtP; rw [if_pos h2]; have := hr.bd (i + 1) h2; omega
      rw [ee] at l2
      have cast1 : ((i + 1 : Nat) : Int) = (i : Int) + 1 := by omega
      rw [cast1] at a2
      simp (config := {implicitDefEqProofs := false, maxDischargeDepth := 20}) (disch := first | omega | (simp only [lenE]; done) | (simp only [lenE]; omega) | rfl | (simp only [lenE, markR_len]; done) | (simp only [lenE, markR_len]; omega)) only [runE, mapE, listE, initT_5, initT_6, initT_7, initT_8, resV, oneV, binA, unA, reduceCtorEq, Nat.reduceEqDiff, Nat.reduceAdd, Nat.reduceLT, Nat.reduceLeDiff, Nat.reduceMul, Nat.reduceSub, ↓reduceIte, decide_true, decide_false, Bool.true_eq_false, Bool.false_eq_true, Bool.not_true, Bool.not_false, if_true, if_false, and_true, true_and, memE, celE, w64, Nat.zero_add, Nat.add_zero, Nat.mul_one, putL, and_self, ldn, t0, t1, t5, t6, tm, hu.len, hlt', l1, h2', a2, l2, iu.at_ i hlt, li, e1]
      refine rcallH_rc (l2Sum_rc _ _ (cutL need p (nxtP n ps i)) d1 fun q hq => ?_) ?_
      · rw [cutL_len (by omega)] at hq
        rw [sumTo_cut hnx.1 (by omega) q hq]
        have := sumR_in (m := 160) (by omega) hn p q
        omega
      rintro r new ⟨rfl, rfl⟩
      rw [sumTo_cut' hnx.1 (by omega)]
      have w := oM.st (off := p) (x := sumR need p (nxtP n ps i)) hxp
      simp (config := {implicitDefEqProofs := false, maxDischargeDepth := 20}) (disch := first | omega | (simp only [lenE]; done) | (simp only [lenE]; omega) | rfl | (simp only [lenE, markR_len]; done) | (simp only [lenE, markR_len]; omega)) only [runE, mapE, listE, initT_5, initT_6, initT_7, initT_8, resV, oneV, binA, unA, reduceCtorEq, Nat.reduceEqDiff, Nat.reduceAdd, Nat.reduceLT, Nat.reduceLeDiff, Nat.reduceMul, Nat.reduceSub, ↓reduceIte, decide_true, decide_false, Bool.true_eq_false, Bool.false_eq_true, Bool.not_true, Bool.not_false, if_true, if_false, and_true, true_and, memE, celE, w64, Nat.zero_add, Nat.add_zero, Nat.mul_one, putL, and_self, ldn, t0, t1, t5, t6, tm, iadA_in (show p < n by omega), w]
      exact ⟨⟨i + 1, _, by omega, by simp, rfl, hxM.put (id := m.length) (by simp [roM_len]) _ _, fin _ rfl⟩, by simp [intOf]; omega⟩
    · have h2' : ¬ ((i : Int) + 1 < ps.length) := by omega
      have ee : (n : Int) = (nxtP n ps i : Int) := by unfold nxtP; rw [if_neg h2]
      simp (config := {implicitDefEqProofs := false, maxDischargeDepth := 20}) (disch := first | omega | (simp only [lenE]; done) | (simp only [lenE]; omega) | rfl | (simp only [lenE, markR_len]; done) | (simp only [lenE, markR_len]; omega)) only [runE, mapE, listE, initT_5, initT_6, initT_7, initT_8, resV, oneV, binA, unA, reduceCtorEq, Nat.reduceEqDiff, Nat.reduceAdd, Nat.reduceLT, Nat.reduceLeDiff, Nat.reduceMul, Nat.reduceSub, ↓reduceIte, decide_true, decide_false, Bool.true_eq_false, Bool.false_eq_true, Bool.not_true, Bool.not_false, if_true, if_false, and_true, true_and, memE, celE, w64, Nat.zero_add, Nat.add_zero, Nat.mul_one, putL, and_self, ldn, t0, t1, t5, t6, tm, hu.len, hlt', l1, h2', iu.at_ i hlt, li, ee, e1]
      refine rcallH_rc (l2Sum_rc _ _ (cutL need p (nxtP n ps i)) d1 fun q hq => ?_) ?_
      · rw [cutL_len (by omega)] at hq
        rw [sumTo_cut hnx.1 (by omega) q hq]
        have := sumR_in (m := 160) (by omega) hn p q
        omega
      rintro r new ⟨rfl, rfl⟩
      rw [sumTo_cut' hnx.1 (by omega)]
      have w := oM.st (off := p) (x := sumR need p (nxtP n ps i)) hxp
      simp (config := {implicitDefEqProofs := false, maxDischargeDepth := 20}) (disch := first | omega | (simp only [lenE]; done) | (simp only [lenE]; omega) | rfl | (simp only [lenE, markR_len]; done) | (simp only [lenE, markR_len]; omega)) only [runE, mapE, listE, initT_5, initT_6, initT_7, initT_8, resV, oneV, binA, unA, reduceCtorEq, Nat.reduceEqDiff, Nat.reduceAdd, Nat.reduceLT, Nat.reduceLeDiff, Nat.reduceMul, Nat.reduceSub, ↓reduceIte, decide_true, decide_false, Bool.true_eq_false, Bool.false_eq_true, Bool.not_true, Bool.not_false, if_true, if_false, and_true, true_and, memE, celE, w64, Nat.zero_add, Nat.add_zero, Nat.mul_one, putL, and_self, ldn, t0, t1, t5, t6, tm, iadA_in (show p < n by omega), w]
      exact ⟨⟨i + 1, _, by omega, by simp, rfl, hxM.put (id := m.length) (by simp [roM_len]) _ _, fin _ rfl⟩, by simp [intOf]; omega⟩
  · have hlt' : ¬ ((i : Int) < ps.length) := by omega
    have e : i = ps.length := by omega
    subst e
    simp (config := {implicitDefEqProofs := false, maxDischargeDepth := 20}) (disch := first | omega | (simp only [lenE]; done) | (simp only [lenE]; omega) | rfl | (simp only [lenE, markR_len]; done) | (simp only [lenE, markR_len]; omega)) only [runE, mapE, listE, initT_5, initT_6, initT_7, initT_8, resV, oneV, binA, unA, reduceCtorEq, Nat.reduceEqDiff, Nat.reduceAdd, Nat.reduceLT, Nat.reduceLeDiff, Nat.reduceMul, Nat.reduceSub, ↓reduceIte, decide_true, decide_false, Bool.true_eq_false, Bool.false_eq_true, Bool.not_true, Bool.not_false, if_true, if_false, and_true, true_and, memE, celE, w64, Nat.zero_add, Nat.add_zero, Nat.mul_one, putL, and_self, ldn, t0, t1, t5, t6, tm, hu.len, hlt']
    exact ext_ansR ((Ext.refl m).grow hxM) (show OwnR M m.length (fromL need ps) from oM) (by omega) (by rw [fromL_len, hn']) (by rw [fromL_len]; omega)
end Go.Proofs.Ytamhhicnfpemeaa.Ab
end
section
namespace Go.Proofs.Ytamhhicnfpemeaa.Ab
open Go Go.RowKit
set_option linter.unusedVariables false
set_option linter.unusedSimpArgs false
def nestRow (c : Ch) (T : List (List Int)) (s : Nat) : Bool := risB (T.getD s []) c.need.length && (decide (s = 0) || withinB (T.getD (s - 1) []) (T.getD s []))
def nestOk (c : Ch) (T : List (List Int)) : Bool := c.good && decide (T.length = c.setup.length) && (List.range T.length).all (nestRow c T) && (List.range T.length).all fun s => covers c.need (T.getD s [])
def nestT (c : Ch) (T : List (List Int)) : List (List Int) := (List.range T.length).map fun s => fromL c.need (T.getD s [])
theorem nestT_len (c : Ch) (T : List (List Int)) : (nestT c T).length = T.length := by simp [nestT]
theorem nestT_at {c : Ch} {T : List (List Int)} {s : Nat} (h : s < T.length) : (nestT c T).getD s [] = fromL c.need (T.getD s []) := by simp [nestT, List.getD_eq_getElem?_getD, h]
theorem nestT_take (c : Ch) (T : List (List Int)) {s : Nat} (h : s < T.length) : (nestT c T).take (s + 1) = (nestT c T).take s ++ [fromL c.need (T.getD s [])] := by
  rw [List.take_add_one]
  congr 1
  have := nestT_at (c := c) h
  rw [List.getD_eq_getElem?_getD, List.getElem?_eq_getElem (by rw [nestT_len]; exact h)] at this
  rw [List.getElem?_eq_getElem (by rw [nestT_len]; exact h)]
  simp only [Option.getD_some] at this
  rw [this]; rfl
theorem nestT_sz {c : Ch} {T : List (List Int)} (h3 : T.length ≤ 3) (n6 : c.need.length ≤ 6) : tsz (nestT c T) (nestT c T).length ≤ 1048576 := by
  have := tsz_bd (T := nestT c T) (n := 6) (fun j hj => by
    rw [nestT_len] at hj
    rw [nestT_at hj, fromL_len]; exact n6) (nestT c T).length (Nat.le_refl _)
  rw [nestT_len] at this ⊢
  omega
def nestA (c : Ch) (T : List (List Int)) : List (List Int) := if nestOk c T then nestT c T else []
theorem nestA_no {c : Ch} {T : List (List Int)} (h : nestOk c T = false) : nestA c T = [] := by unfold nestA; rw [h]; rfl
theorem nestA_yes {c : Ch} {T : List (List Int)} (h : nestOk c T = true) : nestA c T = nestT c T := by unfold nestA; rw [h]; rfl
theorem all_range_no {n s : Nat} {f : Nat → Bool} (hs : s < n) (h : f s = false) : (List.range n).all f = false := by
  cases hr : (List.range n).all f with
  | false => rfl
  | true => rw [List.all_eq_true.1 hr s (List.mem_range.2 hs)] at h; cases h
theorem all_range_yes {n : Nat} {f : Nat → Bool} (h : ∀ s, s < n → f s = true) : (List.range n).all f = true := by
  rw [List.all_eq_true]; exact fun s hs => h s (List.mem_range.1 hs)
theorem l1Ris_rc (m : Mem) (u : Value) (ps : List Int) (n : Nat) (h' : IntsA m u ps) (hn : n ≤ 1048576) : RC Try.prog 134 [u, .int .i64 0, .int .i64 ((n : Int) - 1)] m (AnsV (.bool (risB ps n))) := l1Rising_rc m u ps n h' hn
theorem l7Periods_rc (m : Mem) (v vt : Value) (c : Ch) (T : List (List Int)) (h : ChA m v c) (hT : TabA m vt T) (hg : GoodCh c) : RC Try.prog 104 [v, vt] m (AnsV (.bool (decide (T.length = c.setup.length) && (List.range T.length).all (nestRow c T)))) := by
  refine rc_of_run mixed ok_spec_l7Periods (by simp) (go_start _ _ _ ?_)
  obtain ⟨a, b, d, rfl, ha, hb, hd⟩ := h.ro
  have hTr := hT.ro
  have htb := hTr.bd
  have n6 := hg.n6
  have s3 := hg.s3
  have hX0 := (Ext.refl m).one 26 [a, b, d]
  have b0 : OwnB (roM m ++ [⟨.own, 26, [a, b, d]⟩]) m.length 26 [a, b, d] := OwnB.here (roM_len m).symm
  simp (config := {implicitDefEqProofs := false, maxDischargeDepth := 20}) (disch := first | omega | (simp only [lenE]; done) | (simp only [lenE]; omega) | rfl | (simp only [lenE, markR_len]; done) | (simp only [lenE, markR_len]; omega)) only [runE, mapE, listE, initT_5, initT_6, initT_7, initT_8, resV, oneV, binA, unA, reduceCtorEq, Nat.reduceEqDiff, Nat.reduceAdd, Nat.reduceLT, Nat.reduceLeDiff, Nat.reduceMul, Nat.reduceSub, ↓reduceIte, decide_true, decide_false, Bool.true_eq_false, Bool.false_eq_true, Bool.not_true, Bool.not_false, if_true, if_false, and_true, true_and, memE, celE, w64, Nat.zero_add, Nat.add_zero, Nat.mul_one, putL, and_self, ldn, c_spec_l7Periods, r_spec_l7Periods]
  refine loop_inv mixed (fun s => ∃ (k : Nat) (M : Mem), k ≤ T.length ∧ s.m = M ∧ Ext m M ∧ OwnB M m.length 26 [a, b, d] ∧ s.t 1 = vt ∧ s.t 2 = .pointer (some ⟨m.length, 0, none⟩) ∧ s.t 5 = .int .i64 (k : Int) ∧ ∀ j, j < k → nestRow c T j = true) (fun s => T.length - (intOf (s.t 5)).toNat)
    ⟨0, _, by omega, rfl, hX0, b0, rfl, rfl, rfl, fun j hj => absurd hj (by omega)⟩ ?_
  rintro s ⟨k, M, hk, tm, hX, hbx, t1, t2, t5, hall⟩
  have hT1 := TabA.xt hT hX
  have ha1 := hX.ints ha
  by_cases hlt : k < T.length
  · have hlt' : (k : Int) < T.length := by omega
    obtain ⟨u, hu, hrow⟩ := hT1.ld k hlt
    have hat := hT1.at_ k hlt
    have nx : nestRow c T k = true → ∀ j, j < k + 1 → nestRow c T j = true := fun hh j hj => by
      by_cases e : j = k
      · subst e; exact hh
      · exact hall j (by omega)
    simp (config := {implicitDefEqProofs := false, maxDischargeDepth := 20}) (disch := first | omega | (simp only [lenE]; done) | (simp only [lenE]; omega) | rfl | (simp only [lenE, markR_len]; done) | (simp only [lenE, markR_len]; omega)) only [runE, mapE, listE, initT_5, initT_6, initT_7, initT_8, resV, oneV, binA, unA, reduceCtorEq, Nat.reduceEqDiff, Nat.reduceAdd, Nat.reduceLT, Nat.reduceLeDiff, Nat.reduceMul, Nat.reduceSub, ↓reduceIte, decide_true, decide_false, Bool.true_eq_false, Bool.false_eq_true, Bool.not_true, Bool.not_false, if_true, if_false, and_true, true_and, memE, celE, w64, Nat.zero_add, Nat.add_zero, Nat.mul_one, putL, and_self, ldn, tm, t1, t2, t5, hlt', hT1.len, hat, hu, hbx.rd, ha1.len]
    refine rcallH_rc (l1Ris_rc _ u (T.getD k []) c.need.length hrow (by omega)) ?_
    rintro r n1 ⟨rfl, nr1⟩
    have hX2 := hX.app nr1
    have hbx2 := hbx.ext n1
    cases hb : risB (T.getD k []) c.need.length with
    | false =>
      simp (config := {implicitDefEqProofs := false, maxDischargeDepth := 20}) (disch := first | omega | (simp only [lenE]; done) | (simp only [lenE]; omega) | rfl | (simp only [lenE, markR_len]; done) | (simp only [lenE, markR_len]; omega)) only [runE, mapE, listE, initT_5, initT_6, initT_7, initT_8, resV, oneV, binA, unA, reduceCtorEq, Nat.reduceEqDiff, Nat.reduceAdd, Nat.reduceLT, Nat.reduceLeDiff, Nat.reduceMul, Nat.reduceSub, ↓reduceIte, decide_true, decide_false, Bool.true_eq_false, Bool.false_eq_true, Bool.not_true, Bool.not_false, if_true, if_false, and_true, true_and, memE, celE, w64, Nat.zero_add, Nat.add_zero, Nat.mul_one, putL, and_self, ldn, tm, t1, t2, t5, goG_undef]
      refine ext_ansV hX2 ?_
      rw [all_range_no hlt (by unfold nestRow; rw [hb]; rfl)]; simp
    | true =>
      by_cases h0 : 0 < k
      · have h0' : (0 : Int) < k := by omega
        have ec : (k : Int) - 1 = ((k - 1 : Nat) : Int) := by omega
        obtain ⟨p, hp, hprow⟩ := hT1.ld (k - 1) (by omega)
        have hpat := hT1.at_ (k - 1) (by omega)
        have hp2 := ldA_ext (new := n1) hp
        have hu2 := ldA_ext (new := n1) hu
        simp (config := {implicitDefEqProofs := false, maxDischargeDepth := 20}) (disch := first | omega | (simp only [lenE]; done) | (simp only [lenE]; omega) | rfl | (simp only [lenE, markR_len]; done) | (simp only [lenE, markR_len]; omega)) only [runE, mapE, listE, initT_5, initT_6, initT_7, initT_8, resV, oneV, binA, unA, reduceCtorEq, Nat.reduceEqDiff, Nat.reduceAdd, Nat.reduceLT, Nat.reduceLeDiff, Nat.reduceMul, Nat.reduceSub, ↓reduceIte, decide_true, decide_false, Bool.true_eq_false, Bool.false_eq_true, Bool.not_true, Bool.not_false, if_true, if_false, and_true, true_and, memE, celE, w64, Nat.zero_add, Nat.add_zero, Nat.mul_one, putL, and_self, ldn, tm, t1, t2, t5, gt_iff_lt, h0', ec, hpat, hp2, hat, hu2]
        refine rcallH_rc (l7Within_rc _ p u (T.getD (k - 1) []) (T.getD k []) (hprow.ext _) (hrow.ext _)) ?_
        rintro r n2 ⟨rfl, rfl⟩
        rw [List.append_nil]
        cases hw : withinB (T.getD (k - 1) []) (T.getD k []) with
        | false =>
          simp (config := {implicitDefEqProofs := false, maxDischargeDepth := 20}) (disch := first | omega | (simp only [lenE]; done) | (simp only [lenE]; omega) | rfl | (simp only [lenE, markR_len]; done) | (simp only [lenE, markR_len]; omega)) only [runE, mapE, listE, initT_5, initT_6, initT_7, initT_8, resV, oneV, binA, unA, reduceCtorEq, Nat.reduceEqDiff, Nat.reduceAdd, Nat.reduceLT, Nat.reduceLeDiff, Nat.reduceMul, Nat.reduceSub, ↓reduceIte, decide_true, decide_false, Bool.true_eq_false, Bool.false_eq_true, Bool.not_true, Bool.not_false, if_true, if_false, and_true, true_and, memE, celE, w64, Nat.zero_add, Nat.add_zero, Nat.mul_one, putL, and_self, ldn, tm, t1, t2, t5]
          refine ext_ansV hX2 ?_
          rw [all_range_no hlt (by unfold nestRow; rw [hb, hw]; simp; omega)]; simp
        | true =>
          simp (config := {implicitDefEqProofs := false, maxDischargeDepth := 20}) (disch := first | omega | (simp only [lenE]; done) | (simp only [lenE]; omega) | rfl | (simp only [lenE, markR_len]; done) | (simp only [lenE, markR_len]; omega)) only [runE, mapE, listE, initT_5, initT_6, initT_7, initT_8, resV, oneV, binA, unA, reduceCtorEq, Nat.reduceEqDiff, Nat.reduceAdd, Nat.reduceLT, Nat.reduceLeDiff, Nat.reduceMul, Nat.reduceSub, ↓reduceIte, decide_true, decide_false, Bool.true_eq_false, Bool.false_eq_true, Bool.not_true, Bool.not_false, if_true, if_false, and_true, true_and, memE, celE, w64, Nat.zero_add, Nat.add_zero, Nat.mul_one, putL, and_self, ldn, tm, t1, t2, t5]
          exact ⟨⟨k + 1, _, by omega, rfl, hX2, hbx2, by simp, nx (by unfold nestRow; rw [hb, hw]; simp)⟩, by simp [intOf]; omega⟩
      · have h0' : ¬ ((0 : Int) < k) := by omega
        simp (config := {implicitDefEqProofs := false, maxDischargeDepth := 20}) (disch := first | omega | (simp only [lenE]; done) | (simp only [lenE]; omega) | rfl | (simp only [lenE, markR_len]; done) | (simp only [lenE, markR_len]; omega)) only [runE, mapE, listE, initT_5, initT_6, initT_7, initT_8, resV, oneV, binA, unA, reduceCtorEq, Nat.reduceEqDiff, Nat.reduceAdd, Nat.reduceLT, Nat.reduceLeDiff, Nat.reduceMul, Nat.reduceSub, ↓reduceIte, decide_true, decide_false, Bool.true_eq_false, Bool.false_eq_true, Bool.not_true, Bool.not_false, if_true, if_false, and_true, true_and, memE, celE, w64, Nat.zero_add, Nat.add_zero, Nat.mul_one, putL, and_self, ldn, tm, t1, t2, t5, gt_iff_lt, h0', goG_undef]
        exact ⟨⟨k + 1, _, by omega, rfl, hX2, hbx2, by simp, nx (by unfold nestRow; rw [hb]; simp; omega)⟩, by simp [intOf]; omega⟩
  · have hlt' : ¬ ((k : Int) < T.length) := by omega
    have e : k = T.length := by omega
    subst e
    simp (config := {implicitDefEqProofs := false, maxDischargeDepth := 20}) (disch := first | omega | (simp only [lenE]; done) | (simp only [lenE]; omega) | rfl | (simp only [lenE, markR_len]; done) | (simp only [lenE, markR_len]; omega)) only [runE, mapE, listE, initT_5, initT_6, initT_7, initT_8, resV, oneV, binA, unA, reduceCtorEq, Nat.reduceEqDiff, Nat.reduceAdd, Nat.reduceLT, Nat.reduceLeDiff, Nat.reduceMul, Nat.reduceSub, ↓reduceIte, decide_true, decide_false, Bool.true_eq_false, Bool.false_eq_true, Bool.not_true, Bool.not_false, if_true, if_false, and_true, true_and, memE, celE, w64, Nat.zero_add, Nat.add_zero, Nat.mul_one, putL, and_self, ldn, tm, t1, t2, t5, hlt', hT1.len, hbx.rd, hb.len]
    refine ext_ansV hX ?_
    rw [all_range_yes hall]
    by_cases e : T.length = c.setup.length
    · simp [e]
    · have : ((T.length : Int) == c.setup.length) = false := by rw [beq_eq_false_iff_ne]; omega
      rw [this]; simp [e]
theorem specNestP_rc (m : Mem) (v vt : Value) (c : Ch) (T : List (List Int)) (h : ChA m v c) (hT : TabA m vt T) (hz : tsz T T.length ≤ 1048576) : RC Try.prog 55 [v, vt] m (AnsO m (TabO (nestA c T)) fun v => .tuple #[v, .bool (nestOk c T)]) := by
  refine rc_of_run mixed ok_spec_NestedPlan (by simp) (go_start _ _ _ ?_)
  obtain ⟨a, b, d, rfl, ha, hb, hd⟩ := h.ro
  have hTr := hT.ro
  obtain ⟨M0, hM0⟩ : ∃ M0, M0 = roM m ++ [⟨.own, 26, [a, b, d]⟩] ++ [⟨.own, 24, []⟩] := ⟨_, rfl⟩
  have L0 : M0.length = m.length + 2 := by rw [hM0]; simp [roM_len]
  have hX0 : Ext m M0 := by rw [hM0]; exact ((Ext.refl m).one _ _).one _ _
  have b0 : OwnB M0 m.length 26 [a, b, d] := by rw [hM0]; exact (OwnB.here (roM_len m).symm).ext _
  have t0' : OwnB M0 (m.length + 1) 24 [] := by rw [hM0]; exact OwnB.here (by simp [roM_len])
  have emp : ∀ M, Ext m M → OwnB M (m.length + 1) 24 [] → nestOk c T = false → newQ m (AnsO m (TabO (nestA c T)) fun v => .tuple #[v, .bool (nestOk c T)]) (.tuple #[.slice (some ⟨m.length + 1, 0, none⟩) 0 1, .bool false]) M := fun M hX ho hn => by
    rw [nestA_no hn, hn]
    exact ext_ansO (f := fun v => .tuple #[v, .bool false]) hX fun M' hM => ⟨by simp, by simp [tsz], _, 1, fun _ => 0, fun _ => 0, rfl, by omega, ho.lt, ho.at_ (hM _ (by omega) ho.lt), fun j hj => absurd hj (by simp), fun i j hi => absurd hi (by simp)⟩
  simp (config := {implicitDefEqProofs := false, maxDischargeDepth := 20}) (disch := first | omega | (simp only [lenE]; done) | (simp only [lenE]; omega) | rfl | (simp only [lenE, markR_len]; done) | (simp only [lenE, markR_len]; omega)) only [runE, mapE, listE, initT_5, initT_6, initT_7, initT_8, resV, oneV, binA, unA, reduceCtorEq, Nat.reduceEqDiff, Nat.reduceAdd, Nat.reduceLT, Nat.reduceLeDiff, Nat.reduceMul, Nat.reduceSub, ↓reduceIte, decide_true, decide_false, Bool.true_eq_false, Bool.false_eq_true, Bool.not_true, Bool.not_false, if_true, if_false, and_true, true_and, memE, celE, w64, Nat.zero_add, Nat.add_zero, Nat.mul_one, putL, and_self, ldn, c_spec_NestedPlan, r_spec_NestedPlan, bsl_no]
  rw [← hM0]
  refine callH_rc (l7Good_rc _ _ c (ChA.mk (hX0.ints ha) (hX0.ints hb) (hX0.ints hd))) ?_
  rintro r n1 ⟨rfl, nr1⟩
  have hX1 := hX0.app nr1
  replace b0 := b0.ext n1
  replace t0' := t0'.ext n1
  obtain ⟨M1, hM1⟩ : ∃ M1, M1 = M0 ++ n1 := ⟨_, rfl⟩
  rw [← hM1] at hX1 b0 t0' ⊢
  cases hg : c.good with
  | false =>
    simp (config := {implicitDefEqProofs := false, maxDischargeDepth := 20}) (disch := first | omega | (simp only [lenE]; done) | (simp only [lenE]; omega) | rfl | (simp only [lenE, markR_len]; done) | (simp only [lenE, markR_len]; omega)) only [runE, mapE, listE, initT_5, initT_6, initT_7, initT_8, resV, oneV, binA, unA, reduceCtorEq, Nat.reduceEqDiff, Nat.reduceAdd, Nat.reduceLT, Nat.reduceLeDiff, Nat.reduceMul, Nat.reduceSub, ↓reduceIte, decide_true, decide_false, Bool.true_eq_false, Bool.false_eq_true, Bool.not_true, Bool.not_false, if_true, if_false, and_true, true_and, memE, celE, w64, Nat.zero_add, Nat.add_zero, Nat.mul_one, putL, and_self, ldn, goG_undef]
    exact emp _ hX1 t0' (by unfold nestOk; rw [hg]; rfl)
  | true =>
  have gd := goodCh_iff.1 hg
  have n6 := gd.n6
  have s3 := gd.s3
  simp (config := {implicitDefEqProofs := false, maxDischargeDepth := 20}) (disch := first | omega | (simp only [lenE]; done) | (simp only [lenE]; omega) | rfl | (simp only [lenE, markR_len]; done) | (simp only [lenE, markR_len]; omega)) only [runE, mapE, listE, initT_5, initT_6, initT_7, initT_8, resV, oneV, binA, unA, reduceCtorEq, Nat.reduceEqDiff, Nat.reduceAdd, Nat.reduceLT, Nat.reduceLeDiff, Nat.reduceMul, Nat.reduceSub, ↓reduceIte, decide_true, decide_false, Bool.true_eq_false, Bool.false_eq_true, Bool.not_true, Bool.not_false, if_true, if_false, and_true, true_and, memE, celE, w64, Nat.zero_add, Nat.add_zero, Nat.mul_one, putL, and_self, ldn, b0.rd]
  refine callH_rc (l7Periods_rc _ _ vt c T (ChA.mk (hX1.ints ha) (hX1.ints hb) (hX1.ints hd)) (TabA.xt hT hX1) gd) ?_
  rintro r n2 ⟨rfl, nr2⟩
  have hX2 := hX1.app nr2
  replace b0 := b0.ext n2
  replace t0' := t0'.ext n2
  obtain ⟨M2, hM2⟩ : ∃ M2, M2 = M1 ++ n2 := ⟨_, rfl⟩
  rw [← hM2] at hX2 b0 t0' ⊢
  cases hp : (decide (T.length = c.setup.length) && (List.range T.length).all (nestRow c T)) with
  | false =>
    simp (config := {implicitDefEqProofs := false, maxDischargeDepth := 20}) (disch := first | omega | (simp only [lenE]; done) | (simp only [lenE]; omega) | rfl | (simp only [lenE, markR_len]; done) | (simp only [lenE, markR_len]; omega)) only [runE, mapE, listE, initT_5, initT_6, initT_7, initT_8, resV, oneV, binA, unA, reduceCtorEq, Nat.reduceEqDiff, Nat.reduceAdd, Nat.reduceLT, Nat.reduceLeDiff, Nat.reduceMul, Nat.reduceSub, ↓reduceIte, decide_true, decide_false, Bool.true_eq_false, Bool.false_eq_true, Bool.not_true, Bool.not_false, if_true, if_false, and_true, true_and, memE, celE, w64, Nat.zero_add, Nat.add_zero, Nat.mul_one, putL, and_self, ldn]
    refine emp _ hX2 t0' ?_
    unfold nestOk
    rw [hg, Bool.true_and, hp]; rfl
  | true =>
  rw [Bool.and_eq_true, decide_eq_true_eq, List.all_eq_true] at hp
  obtain ⟨hlen, hrows⟩ := hp
  have hrow : ∀ j, j < T.length → Rising (T.getD j []) c.need.length := fun j hj => by
    have := hrows j (List.mem_range.2 hj)
    unfold nestRow at this
    rw [Bool.and_eq_true] at this
    exact risB_iff.1 this.1
  have ht0 : TabX [] (m.length + 1) M2.length M2 (m.length + 1) (fun _ => 0) (fun _ => 0) := ⟨by omega, t0'.lt, t0', fun j hj => absurd hj (by simp), fun i j hi => absurd hi (by simp)⟩
  simp (config := {implicitDefEqProofs := false, maxDischargeDepth := 20}) (disch := first | omega | (simp only [lenE]; done) | (simp only [lenE]; omega) | rfl | (simp only [lenE, markR_len]; done) | (simp only [lenE, markR_len]; omega)) only [runE, mapE, listE, initT_5, initT_6, initT_7, initT_8, resV, oneV, binA, unA, reduceCtorEq, Nat.reduceEqDiff, Nat.reduceAdd, Nat.reduceLT, Nat.reduceLeDiff, Nat.reduceMul, Nat.reduceSub, ↓reduceIte, decide_true, decide_false, Bool.true_eq_false, Bool.false_eq_true, Bool.not_true, Bool.not_false, if_true, if_false, and_true, true_and, memE, celE, w64, Nat.zero_add, Nat.add_zero, Nat.mul_one, putL, and_self, ldn]
  refine loop_inv mixed (fun s => ∃ (k : Nat) (M : Mem) (id : Nat) (R F : Nat → Nat), k ≤ T.length ∧ s.m = M ∧ Ext m M ∧ OwnB M m.length 26 [a, b, d] ∧ TabX ((nestT c T).take k) (m.length + 1) M.length M id R F ∧ (∀ j, j < k → covers c.need (T.getD j []) = true) ∧ s.t 1 = vt ∧ s.t 2 = .pointer (some ⟨m.length, 0, none⟩) ∧ s.t 6 = .slice (some ⟨id, 0, none⟩) k 1 ∧ s.t 7 = .int .i64 (k : Int)) (fun s => T.length - (intOf (s.t 7)).toNat)
    ⟨0, _, m.length + 1, _, _, by omega, rfl, hX2, b0, ht0, fun j hj => absurd hj (by omega), rfl, rfl, rfl, rfl⟩ ?_
  rintro s ⟨k, M, id, R, F, hk, tm, hX, hbx, hTX, hcv, t1, t2, t6, t7⟩
  have hT1 := TabA.xt hT hX
  have ha1 := hX.ints ha
  by_cases hlt : k < T.length
  · have hlt' : (k : Int) < T.length := by omega
    obtain ⟨u, hu, hur⟩ := hT1.ld k hlt
    have hat := hT1.at_ k hlt
    have hrl := tsz_row T hlt
    simp (config := {implicitDefEqProofs := false, maxDischargeDepth := 20}) (disch := first | omega | (simp only [lenE]; done) | (simp only [lenE]; omega) | rfl | (simp only [lenE, markR_len]; done) | (simp only [lenE, markR_len]; omega)) only [runE, mapE, listE, initT_5, initT_6, initT_7, initT_8, resV, oneV, binA, unA, reduceCtorEq, Nat.reduceEqDiff, Nat.reduceAdd, Nat.reduceLT, Nat.reduceLeDiff, Nat.reduceMul, Nat.reduceSub, ↓reduceIte, decide_true, decide_false, Bool.true_eq_false, Bool.false_eq_true, Bool.not_true, Bool.not_false, if_true, if_false, and_true, true_and, memE, celE, w64, Nat.zero_add, Nat.add_zero, Nat.mul_one, putL, and_self, ldn, tm, t1, t2, t6, t7, hlt', hT1.len, hbx.rd, hat, hu]
    refine rcallH_rc (l7Fed_rc _ a u c.need (T.getD k []) ha1 hur) ?_
    rintro r n3 ⟨rfl, rfl⟩
    rw [List.append_nil]
    cases hb : covers c.need (T.getD k []) with
    | false =>
      simp (config := {implicitDefEqProofs := false, maxDischargeDepth := 20}) (disch := first | omega | (simp only [lenE]; done) | (simp only [lenE]; omega) | rfl | (simp only [lenE, markR_len]; done) | (simp only [lenE, markR_len]; omega)) only [runE, mapE, listE, initT_5, initT_6, initT_7, initT_8, resV, oneV, binA, unA, reduceCtorEq, Nat.reduceEqDiff, Nat.reduceAdd, Nat.reduceLT, Nat.reduceLeDiff, Nat.reduceMul, Nat.reduceSub, ↓reduceIte, decide_true, decide_false, Bool.true_eq_false, Bool.false_eq_true, Bool.not_true, Bool.not_false, if_true, if_false, and_true, true_and, memE, celE, w64, Nat.zero_add, Nat.add_zero, Nat.mul_one, putL, and_self, ldn, tm, t1, t2, t6, t7, bsl_no]
      have e : nestOk c T = false := by
        unfold nestOk
        rw [all_range_no (f := fun s => covers c.need (T.getD s [])) hlt hb]; simp
      rw [nestA_no e, e]
      exact ext_noTab (f := fun v => .tuple #[v, .bool false]) hX rfl
    | true =>
      simp (config := {implicitDefEqProofs := false, maxDischargeDepth := 20}) (disch := first | omega | (simp only [lenE]; done) | (simp only [lenE]; omega) | rfl | (simp only [lenE, markR_len]; done) | (simp only [lenE, markR_len]; omega)) only [runE, mapE, listE, initT_5, initT_6, initT_7, initT_8, resV, oneV, binA, unA, reduceCtorEq, Nat.reduceEqDiff, Nat.reduceAdd, Nat.reduceLT, Nat.reduceLeDiff, Nat.reduceMul, Nat.reduceSub, ↓reduceIte, decide_true, decide_false, Bool.true_eq_false, Bool.false_eq_true, Bool.not_true, Bool.not_false, if_true, if_false, and_true, true_and, memE, celE, w64, Nat.zero_add, Nat.add_zero, Nat.mul_one, putL, and_self, ldn, tm, t1, t2, t6, t7, hbx.rd, hat, hu]
      refine rcallH_rc (l7Row_rc _ a u c.need (T.getD k []) ha1 hur (fun x hx => by have := gd.need x hx; omega) (by omega) (hrow k hlt) (by omega)) ?_
      intro r n3 hA
      obtain ⟨rid, rf, rfl, hge, hown, hle, nr3⟩ := hA.row
      have hX3 := hX.app nr3
      have hbx3 := hbx.ext n3
      have hTX3 := hTX.ext (Nat.le_refl _) n3
      have hidl := hTX.2.1
      have hlo := hTX.1
      have hfl := fromL_len c.need (T.getD k [])
      obtain ⟨A, hA0⟩ : ∃ A, A = M ++ n3 := ⟨_, rfl⟩
      have hAl : A.length = M.length + n3.length := by rw [hA0]; simp
      rw [← hA0] at hX3 hbx3 hTX3 hown ⊢
      have hridl := hown.lt
      rw [hfl]
      have happ := app_back (e := 24) (sz := 1) (byt := 24) (n := k) (ys := [.slice (some ⟨rid, 0, none⟩) c.need.length rf]) hTX3.2.2.1 rfl (by rw [rowsC_len, List.length_take, nestT_len]; omega) rfl (by rfl) (by omega) (by omega)
      simp (config := {implicitDefEqProofs := false, maxDischargeDepth := 20}) (disch := first | omega | (simp only [lenE]; done) | (simp only [lenE]; omega) | rfl | (simp only [lenE, markR_len]; done) | (simp only [lenE, markR_len]; omega)) only [runE, mapE, listE, initT_5, initT_6, initT_7, initT_8, resV, oneV, binA, unA, reduceCtorEq, Nat.reduceEqDiff, Nat.reduceAdd, Nat.reduceLT, Nat.reduceLeDiff, Nat.reduceMul, Nat.reduceSub, ↓reduceIte, decide_true, decide_false, Bool.true_eq_false, Bool.false_eq_true, Bool.not_true, Bool.not_false, if_true, if_false, and_true, true_and, memE, celE, w64, Nat.zero_add, Nat.add_zero, Nat.mul_one, putL, and_self, ldn, t1, t2, t6, t7, bsl_sl', happ]
      refine ⟨⟨k + 1, _, A.length + 1, fun j => if j < ((nestT c T).take k).length then R j else rid, fun j => if j < ((nestT c T).take k).length then F j else rf, by omega, rfl, ?_, ?_, ?_, ?_, rfl, by simp⟩, by simp [intOf]; omega⟩
      · exact ((hX3.dead (by omega)).one _ _).one _ _
      · exact hbx3.at_ (by rw [List.append_assoc, List.getElem?_append_left (by rw [List.length_set]; exact hbx3.lt), List.getElem?_set_ne (by omega)])
      · rw [nestT_take c T hlt]
        refine TabX.snoc (rid := rid) (f := rf) (hTX3.wider (Nat.le_refl _)) (fun i h1 h2 h3 => ?_) (by omega) (by simp) ?_ hge (by simp; omega) ?_ (by simp; omega)
        · rw [List.append_assoc, List.getElem?_append_left (by rw [List.length_set]; omega), List.getElem?_set_ne (by omega)]
        · rw [hfl]
          exact OwnB.here (by simp)
        · exact (((hown.dead (by omega)).ext _).ext _)
      · intro j hj
        by_cases e : j = k
        · subst e; exact hb
        · exact hcv j (by omega)
  · have hlt' : ¬ ((k : Int) < T.length) := by omega
    have e : k = T.length := by omega
    subst e
    simp (config := {implicitDefEqProofs := false, maxDischargeDepth := 20}) (disch := first | omega | (simp only [lenE]; done) | (simp only [lenE]; omega) | rfl | (simp only [lenE, markR_len]; done) | (simp only [lenE, markR_len]; omega)) only [runE, mapE, listE, initT_5, initT_6, initT_7, initT_8, resV, oneV, binA, unA, reduceCtorEq, Nat.reduceEqDiff, Nat.reduceAdd, Nat.reduceLT, Nat.reduceLeDiff, Nat.reduceMul, Nat.reduceSub, ↓reduceIte, decide_true, decide_false, Bool.true_eq_false, Bool.false_eq_true, Bool.not_true, Bool.not_false, if_true, if_false, and_true, true_and, memE, celE, w64, Nat.zero_add, Nat.add_zero, Nat.mul_one, putL, and_self, ldn, tm, t1, t2, t6, t7, hlt', hT1.len]
    rw [List.take_of_length_le (by rw [nestT_len]; omega)] at hTX
    have e : nestOk c T = true := by
      unfold nestOk
      rw [hg, all_range_yes (f := fun s => covers c.need (T.getD s [])) hcv, List.all_eq_true.2 hrows]
      simp [hlen]
    rw [nestA_yes e, e]
    refine ext_ansO (f := fun v => .tuple #[v, .bool true]) hX fun M' hM => ?_
    have := (hTX.at_ (M' := M') fun i h1 h2 => hM i (by omega) h2).obj (fl := 1) (by rw [nestT_len]; omega) (nestT_sz (by omega) n6)
    rw [nestT_len] at this
    exact TabO.wide _ _ _ _ _ _ _ (by omega) (Nat.le_refl _) this
theorem roM_idem (m : Mem) : roM (roM m) = roM m := by
  unfold roM
  rw [List.map_map]
  congr 1
  funext b
  obtain ⟨kd, e, cs⟩ := b
  cases kd <;> rfl
def TestM (m : Mem) (fv : Value) (f : Int → Bool) : Prop := ∃ g cap, fv = .func (.func g) #[] cap ∧ ∀ x, RC Try.prog g (.int .i64 x :: cap.toList) (roM m) fun r new => r = .bool (f x) ∧ new = []
theorem indexFuncM_rc (m : Mem) (v fv : Value) (l : List Int) (f : Int → Bool) (h : IntsA m v l) (hf : TestM m fv f) :
    RC Try.prog 158 [v, fv] m fun r new => r = .int .i64 (firstAt f l 0) ∧ new = [] := by
  refine rc_of_run mixed ok_slices_IndexFunc (by simp) (go_start _ _ _ ?_)
  obtain ⟨e1, e2, e3, e4, -⟩ := h.ro
  obtain ⟨g, cap, rfl, hg⟩ := hf
  simp (config := {implicitDefEqProofs := false, maxDischargeDepth := 20}) (disch := first | omega | (simp only [lenE]; done) | (simp only [lenE]; omega) | rfl | (simp only [lenE, markR_len]; done) | (simp only [lenE, markR_len]; omega)) only [runE, mapE, listE, initT_5, initT_6, initT_7, initT_8, resV, oneV, binA, unA, reduceCtorEq, Nat.reduceEqDiff, Nat.reduceAdd, Nat.reduceLT, Nat.reduceLeDiff, Nat.reduceMul, Nat.reduceSub, ↓reduceIte, decide_true, decide_false, Bool.true_eq_false, Bool.false_eq_true, Bool.not_true, Bool.not_false, if_true, if_false, and_true, true_and, memE, celE, w64, Nat.zero_add, Nat.add_zero, Nat.mul_one, putL, and_self, ldn, c_slices_IndexFunc, r_slices_IndexFunc, e1]
  refine loop_inv mixed (fun s => ∃ k : Nat, k ≤ l.length ∧ s.t 0 = v ∧ s.t 1 = .func (.func g) #[] cap ∧ s.t 7 = .int .i64 l.length ∧ s.t 8 = .int .i64 k ∧ s.m = roM m ∧ firstAt f l 0 = firstAt f (l.drop k) k) (fun s => l.length - (intOf (s.t 8)).toNat) ⟨0, by omega, rfl, rfl, rfl, rfl, rfl, rfl⟩ ?_
  rintro s ⟨k, hk, t0, t1, t7, t8, tm, hall⟩
  by_cases hlt : k < l.length
  · have hlt' : (k : Int) < l.length := by omega
    simp (config := {implicitDefEqProofs := false, maxDischargeDepth := 20}) (disch := first | omega | (simp only [lenE]; done) | (simp only [lenE]; omega) | rfl | (simp only [lenE, markR_len]; done) | (simp only [lenE, markR_len]; omega)) only [runE, mapE, listE, initT_5, initT_6, initT_7, initT_8, resV, oneV, binA, unA, reduceCtorEq, Nat.reduceEqDiff, Nat.reduceAdd, Nat.reduceLT, Nat.reduceLeDiff, Nat.reduceMul, Nat.reduceSub, ↓reduceIte, decide_true, decide_false, Bool.true_eq_false, Bool.false_eq_true, Bool.not_true, Bool.not_false, if_true, if_false, and_true, true_and, memE, celE, w64, Nat.zero_add, Nat.add_zero, Nat.mul_one, putL, and_self, ldn, t0, t1, t7, t8, tm, e1, e3 k hlt, e4 k hlt, hlt']
    refine callH_rc (hg _) ?_
    rintro r new ⟨rfl, rfl⟩
    rw [firstAt_step hlt] at hall
    cases hb : f (l.getD k 0) with
    | true =>
      simp (config := {implicitDefEqProofs := false, maxDischargeDepth := 20}) (disch := first | omega | (simp only [lenE]; done) | (simp only [lenE]; omega) | rfl | (simp only [lenE, markR_len]; done) | (simp only [lenE, markR_len]; omega)) only [runE, mapE, listE, initT_5, initT_6, initT_7, initT_8, resV, oneV, binA, unA, reduceCtorEq, Nat.reduceEqDiff, Nat.reduceAdd, Nat.reduceLT, Nat.reduceLeDiff, Nat.reduceMul, Nat.reduceSub, ↓reduceIte, decide_true, decide_false, Bool.true_eq_false, Bool.false_eq_true, Bool.not_true, Bool.not_false, if_true, if_false, and_true, true_and, memE, celE, w64, Nat.zero_add, Nat.add_zero, Nat.mul_one, putL, and_self, ldn, t0, t1, t7, t8, tm]
      exact newQ_nil ⟨by rw [hall, hb]; rfl, rfl⟩
    | false =>
      simp (config := {implicitDefEqProofs := false, maxDischargeDepth := 20}) (disch := first | omega | (simp only [lenE]; done) | (simp only [lenE]; omega) | rfl | (simp only [lenE, markR_len]; done) | (simp only [lenE, markR_len]; omega)) only [runE, mapE, listE, initT_5, initT_6, initT_7, initT_8, resV, oneV, binA, unA, reduceCtorEq, Nat.reduceEqDiff, Nat.reduceAdd, Nat.reduceLT, Nat.reduceLeDiff, Nat.reduceMul, Nat.reduceSub, ↓reduceIte, decide_true, decide_false, Bool.true_eq_false, Bool.false_eq_true, Bool.not_true, Bool.not_false, if_true, if_false, and_true, true_and, memE, celE, w64, Nat.zero_add, Nat.add_zero, Nat.mul_one, putL, and_self, ldn, t0, t1, t7, t8, tm]
      rw [hb] at hall
      refine ⟨⟨k + 1, by omega, by simp, hall⟩, ?_⟩
      simp [intOf]; omega
  · have hlt' : ¬ ((k : Int) < l.length) := by omega
    simp (config := {implicitDefEqProofs := false, maxDischargeDepth := 20}) (disch := first | omega | (simp only [lenE]; done) | (simp only [lenE]; omega) | rfl | (simp only [lenE, markR_len]; done) | (simp only [lenE, markR_len]; omega)) only [runE, mapE, listE, initT_5, initT_6, initT_7, initT_8, resV, oneV, binA, unA, reduceCtorEq, Nat.reduceEqDiff, Nat.reduceAdd, Nat.reduceLT, Nat.reduceLeDiff, Nat.reduceMul, Nat.reduceSub, ↓reduceIte, decide_true, decide_false, Bool.true_eq_false, Bool.false_eq_true, Bool.not_true, Bool.not_false, if_true, if_false, and_true, true_and, memE, celE, w64, Nat.zero_add, Nat.add_zero, Nat.mul_one, putL, and_self, ldn, t0, t1, t7, t8, tm, e1, hlt']
    exact newQ_nil ⟨by rw [hall, List.drop_eq_nil_of_le (by omega)]; rfl, rfl⟩
theorem containsFuncM_rc (m : Mem) (v fv : Value) (l : List Int) (f : Int → Bool) (h : IntsA m v l) (hf : TestM m fv f) :
    RC Try.prog 132 [v, fv] m fun r new => r = .bool (l.any f) ∧ new = [] := by
  refine rc_of_run mixed ok_slices_ContainsFunc (by simp) (go_start _ _ _ ?_)
  have hf' : TestM (roM m) fv f := by unfold TestM; rw [roM_idem]; exact hf
  simp (config := {implicitDefEqProofs := false, maxDischargeDepth := 20}) (disch := first | omega | (simp only [lenE]; done) | (simp only [lenE]; omega) | rfl | (simp only [lenE, markR_len]; done) | (simp only [lenE, markR_len]; omega)) only [runE, mapE, listE, initT_5, initT_6, initT_7, initT_8, resV, oneV, binA, unA, reduceCtorEq, Nat.reduceEqDiff, Nat.reduceAdd, Nat.reduceLT, Nat.reduceLeDiff, Nat.reduceMul, Nat.reduceSub, ↓reduceIte, decide_true, decide_false, Bool.true_eq_false, Bool.false_eq_true, Bool.not_true, Bool.not_false, if_true, if_false, and_true, true_and, memE, celE, w64, Nat.zero_add, Nat.add_zero, Nat.mul_one, putL, and_self, ldn, c_slices_ContainsFunc, r_slices_ContainsFunc]
  refine callH_rc (indexFuncM_rc _ v fv l f h.ro hf') ?_
  rintro r new ⟨rfl, rfl⟩
  simp (config := {implicitDefEqProofs := false, maxDischargeDepth := 20}) (disch := first | omega | (simp only [lenE]; done) | (simp only [lenE]; omega) | rfl | (simp only [lenE, markR_len]; done) | (simp only [lenE, markR_len]; omega)) only [runE, mapE, listE, initT_5, initT_6, initT_7, initT_8, resV, oneV, binA, unA, reduceCtorEq, Nat.reduceEqDiff, Nat.reduceAdd, Nat.reduceLT, Nat.reduceLeDiff, Nat.reduceMul, Nat.reduceSub, ↓reduceIte, decide_true, decide_false, Bool.true_eq_false, Bool.false_eq_true, Bool.not_true, Bool.not_false, if_true, if_false, and_true, true_and, memE, celE, w64, Nat.zero_add, Nat.add_zero, Nat.mul_one, putL, and_self, ldn, ge_iff_le]
  exact newQ_nil ⟨by rw [(firstAt_any f l 0).1], rfl⟩
theorem hasAll_rc (m : Mem) (v u : Value) (list nums : List Int) (h : IntsA m v list) (h' : IntsA m u nums) (hl : list.length ≤ 1048576) : RC Try.prog 106 [v, u] m (AnsV (.bool (withinB nums list))) := by
  refine rc_of_run mixed ok_impl_hasAll (by simp) (go_start _ _ _ ?_)
  have hr := h.ro
  have hcl : v.cells.toList = [v] := by rw [hr.cellsOne]
  simp (config := {implicitDefEqProofs := false, maxDischargeDepth := 20}) (disch := first | omega | (simp only [lenE]; done) | (simp only [lenE]; omega) | rfl | (simp only [lenE, markR_len]; done) | (simp only [lenE, markR_len]; omega)) only [runE, mapE, listE, initT_5, initT_6, initT_7, initT_8, resV, oneV, binA, unA, reduceCtorEq, Nat.reduceEqDiff, Nat.reduceAdd, Nat.reduceLT, Nat.reduceLeDiff, Nat.reduceMul, Nat.reduceSub, ↓reduceIte, decide_true, decide_false, Bool.true_eq_false, Bool.false_eq_true, Bool.not_true, Bool.not_false, if_true, if_false, and_true, true_and, memE, celE, w64, Nat.zero_add, Nat.add_zero, Nat.mul_one, putL, and_self, ldn, c_impl_hasAll, r_impl_hasAll, hcl]
  have b0 : OwnB (roM m ++ [⟨.own, 24, [v]⟩]) m.length 24 [v] := OwnB.here (roM_len m).symm
  refine callH_rc (containsFuncM_rc _ u _ nums (fun x => !hasX list x 0 list.length) (h'.ro.ext _) ⟨_, _, rfl, fun x => ?_⟩) ?_
  · refine rc_of_run mixed ok_impl_hasAll_1 (by simp) (go_start _ _ _ ?_)
    have hb : rdc (roM (roM (roM m ++ [⟨.own, 24, [v]⟩]))) m.length 0 = some v := by rw [rdc_roM, rdc_roM, b0.rd]; rfl
    simp (config := {implicitDefEqProofs := false, maxDischargeDepth := 20}) (disch := first | omega | (simp only [lenE]; done) | (simp only [lenE]; omega) | rfl | (simp only [lenE, markR_len]; done) | (simp only [lenE, markR_len]; omega)) only [runE, mapE, listE, initT_5, initT_6, initT_7, initT_8, resV, oneV, binA, unA, reduceCtorEq, Nat.reduceEqDiff, Nat.reduceAdd, Nat.reduceLT, Nat.reduceLeDiff, Nat.reduceMul, Nat.reduceSub, ↓reduceIte, decide_true, decide_false, Bool.true_eq_false, Bool.false_eq_true, Bool.not_true, Bool.not_false, if_true, if_false, and_true, true_and, memE, celE, w64, Nat.zero_add, Nat.add_zero, Nat.mul_one, putL, and_self, ldn, c_impl_hasAll_1, r_impl_hasAll_1, hb]
    refine callH_rc (contains_rc _ v list x ((hr.ext _).ro.ro) hl) ?_
    rintro r new ⟨rfl, rfl⟩
    simp (config := {implicitDefEqProofs := false, maxDischargeDepth := 20}) (disch := first | omega | (simp only [lenE]; done) | (simp only [lenE]; omega) | rfl | (simp only [lenE, markR_len]; done) | (simp only [lenE, markR_len]; omega)) only [runE, mapE, listE, initT_5, initT_6, initT_7, initT_8, resV, oneV, binA, unA, reduceCtorEq, Nat.reduceEqDiff, Nat.reduceAdd, Nat.reduceLT, Nat.reduceLeDiff, Nat.reduceMul, Nat.reduceSub, ↓reduceIte, decide_true, decide_false, Bool.true_eq_false, Bool.false_eq_true, Bool.not_true, Bool.not_false, if_true, if_false, and_true, true_and, memE, celE, w64, Nat.zero_add, Nat.add_zero, Nat.mul_one, putL, and_self, ldn]
    exact newQ_nil ⟨rfl, rfl⟩
  · rintro r new ⟨rfl, rfl⟩
    simp (config := {implicitDefEqProofs := false, maxDischargeDepth := 20}) (disch := first | omega | (simp only [lenE]; done) | (simp only [lenE]; omega) | rfl | (simp only [lenE, markR_len]; done) | (simp only [lenE, markR_len]; omega)) only [runE, mapE, listE, initT_5, initT_6, initT_7, initT_8, resV, oneV, binA, unA, reduceCtorEq, Nat.reduceEqDiff, Nat.reduceAdd, Nat.reduceLT, Nat.reduceLeDiff, Nat.reduceMul, Nat.reduceSub, ↓reduceIte, decide_true, decide_false, Bool.true_eq_false, Bool.false_eq_true, Bool.not_true, Bool.not_false, if_true, if_false, and_true, true_and, memE, celE, w64, Nat.zero_add, Nat.add_zero, Nat.mul_one, putL, and_self, ldn, List.append_nil]
    refine ext_ansV ((Ext.refl m).one _ _) ?_
    unfold withinB
    rw [List.any_eq_not_all_not]
    simp
theorem stage_good {c : Ch} (hg : GoodCh c) {s : Nat} (hs : s < c.setup.length) : (c.stage s).good = true := by
  have n6 := hg.n6
  have he := hg.ech hs
  have hb := getD_bound (m := 99) (by omega) hg.setup s
  refine good_iff.2 ⟨by show c.need.length ≤ 8; omega, hg.need, ?_, ?_, ?_, by simp [Ch.stage, evenC], by simp [Ch.stage, evenC], by simp [Ch.stage, evenC]⟩
  · intro x hx; rw [List.eq_of_mem_replicate hx]; exact hb
  · intro x hx; rw [List.eq_of_mem_replicate hx]; omega
  · intro x hx; rw [List.eq_of_mem_replicate hx]; exact he
theorem implNestP_rc (m : Mem) (v vt : Value) (c : Ch) (T : List (List Int)) (h : ChA m v c) (hT : TabA m vt T) (hz : tsz T T.length ≤ 1048576) : RC Try.prog 56 [v, vt] m (AnsO m (TabO (nestA c T)) fun v => .tuple #[v, .bool (nestOk c T)]) := by
  refine rc_of_run mixed ok_impl_NestedPlan (by simp) (go_start _ _ _ ?_)
  obtain ⟨a, b, d, rfl, ha, hb, hd⟩ := h.ro
  have hTr := hT.ro
  obtain ⟨M0, hM0⟩ : ∃ M0, M0 = roM m ++ [⟨.own, 26, [a, b, d]⟩] := ⟨_, rfl⟩
  have L0 : M0.length = m.length + 1 := by rw [hM0]; simp [roM_len]
  have hX0 : Ext m M0 := by rw [hM0]; exact (Ext.refl m).one _ _
  have b0 : OwnB M0 m.length 26 [a, b, d] := by rw [hM0]; exact OwnB.here (roM_len m).symm
  have emp : ∀ M, Ext m M → nestOk c T = false → newQ m (AnsO m (TabO (nestA c T)) fun v => .tuple #[v, .bool (nestOk c T)]) (.tuple #[.slice (some ⟨M.length, 0, none⟩) 0 1, .bool false]) (M ++ [⟨.own, 24, []⟩]) := fun M hX hn => by
    rw [nestA_no hn, hn]
    exact ext_noTab (f := fun v => .tuple #[v, .bool false]) hX rfl
  simp (config := {implicitDefEqProofs := false, maxDischargeDepth := 20}) (disch := first | omega | (simp only [lenE]; done) | (simp only [lenE]; omega) | rfl | (simp only [lenE, markR_len]; done) | (simp only [lenE, markR_len]; omega)) only [runE, mapE, listE, initT_5, initT_6, initT_7, initT_8, resV, oneV, binA, unA, reduceCtorEq, Nat.reduceEqDiff, Nat.reduceAdd, Nat.reduceLT, Nat.reduceLeDiff, Nat.reduceMul, Nat.reduceSub, ↓reduceIte, decide_true, decide_false, Bool.true_eq_false, Bool.false_eq_true, Bool.not_true, Bool.not_false, if_true, if_false, and_true, true_and, memE, celE, w64, Nat.zero_add, Nat.add_zero, Nat.mul_one, putL, and_self, ldn, c_impl_NestedPlan, r_impl_NestedPlan]
  rw [← hM0]
  refine callH_rc (implIsChain_rc _ _ c (ChA.mk (hX0.ints ha) (hX0.ints hb) (hX0.ints hd))) ?_
  rintro r n1 ⟨rfl, nr1⟩
  have hX1 := hX0.app nr1
  replace b0 := b0.ext n1
  obtain ⟨M1, hM1⟩ : ∃ M1, M1 = M0 ++ n1 := ⟨_, rfl⟩
  rw [← hM1] at hX1 b0 ⊢
  cases hg : c.good with
  | false =>
    simp (config := {implicitDefEqProofs := false, maxDischargeDepth := 20}) (disch := first | omega | (simp only [lenE]; done) | (simp only [lenE]; omega) | rfl | (simp only [lenE, markR_len]; done) | (simp only [lenE, markR_len]; omega)) only [runE, mapE, listE, initT_5, initT_6, initT_7, initT_8, resV, oneV, binA, unA, reduceCtorEq, Nat.reduceEqDiff, Nat.reduceAdd, Nat.reduceLT, Nat.reduceLeDiff, Nat.reduceMul, Nat.reduceSub, ↓reduceIte, decide_true, decide_false, Bool.true_eq_false, Bool.false_eq_true, Bool.not_true, Bool.not_false, if_true, if_false, and_true, true_and, memE, celE, w64, Nat.zero_add, Nat.add_zero, Nat.mul_one, putL, and_self, ldn, bsl_no, goG_undef]
    exact emp _ hX1 (by unfold nestOk; rw [hg]; rfl)
  | true =>
  have gd := goodCh_iff.1 hg
  have n6 := gd.n6
  have s3 := gd.s3
  by_cases hlen : T.length = c.setup.length
  · have hlen' : ((T.length : Int) != c.setup.length) = false := by simp; omega
    have b1 := b0.ext [⟨.own, 24, []⟩]
    have ml := b0.lt
    have ht0 : TabX [] (m.length + 1) (M1 ++ [(⟨.own, 24, []⟩ : Blk)]).length (M1 ++ [(⟨.own, 24, []⟩ : Blk)]) M1.length (fun _ => 0) (fun _ => 0) := ⟨by omega, by simp, OwnB.here rfl, fun j hj => absurd hj (by simp), fun i j hi => absurd hi (by simp)⟩
    simp (config := {implicitDefEqProofs := false, maxDischargeDepth := 20}) (disch := first | omega | (simp only [lenE]; done) | (simp only [lenE]; omega) | rfl | (simp only [lenE, markR_len]; done) | (simp only [lenE, markR_len]; omega)) only [runE, mapE, listE, initT_5, initT_6, initT_7, initT_8, resV, oneV, binA, unA, reduceCtorEq, Nat.reduceEqDiff, Nat.reduceAdd, Nat.reduceLT, Nat.reduceLeDiff, Nat.reduceMul, Nat.reduceSub, ↓reduceIte, decide_true, decide_false, Bool.true_eq_false, Bool.false_eq_true, Bool.not_true, Bool.not_false, if_true, if_false, and_true, true_and, memE, celE, w64, Nat.zero_add, Nat.add_zero, Nat.mul_one, putL, and_self, ldn, hTr.len, b0.rd, hb.len, hlen', bsl_no]
    refine loop_inv mixed (fun s => ∃ (k : Nat) (M : Mem) (id : Nat) (R F : Nat → Nat), k ≤ T.length ∧ s.m = M ∧ Ext m M ∧ OwnB M m.length 26 [a, b, d] ∧ TabX ((nestT c T).take k) (m.length + 1) M.length M id R F ∧ (∀ j, j < k → nestRow c T j = true ∧ covers c.need (T.getD j []) = true) ∧ s.t 1 = vt ∧ s.t 2 = .pointer (some ⟨m.length, 0, none⟩) ∧ s.t 6 = .slice (some ⟨id, 0, none⟩) k 1 ∧ s.t 24 = vt ∧ s.t 25 = .int .i64 (T.length : Int) ∧ s.t 26 = .int .i64 (k : Int)) (fun s => T.length - (intOf (s.t 26)).toNat)
      ⟨0, _, M1.length, _, _, by omega, rfl, hX1.one _ _, b1, ht0, fun j hj => absurd hj (by omega), rfl, rfl, rfl, rfl, rfl, rfl⟩ ?_
    rintro s ⟨k, M, id, R, F, hk, tm, hX, hbx, hTX, hcv, t1, t2, t6, t24, t25, t26⟩
    have hT1 := TabA.xt hT hX
    by_cases hlt : k < T.length
    · have hlt' : (k : Int) < T.length := by omega
      obtain ⟨u, hu, hur⟩ := hT1.ld k hlt
      have hat := hT1.at_ k hlt
      have hrl := tsz_row T hlt
      simp (config := {implicitDefEqProofs := false, maxDischargeDepth := 20}) (disch := first | omega | (simp only [lenE]; done) | (simp only [lenE]; omega) | rfl | (simp only [lenE, markR_len]; done) | (simp only [lenE, markR_len]; omega)) only [runE, mapE, listE, initT_5, initT_6, initT_7, initT_8, resV, oneV, binA, unA, reduceCtorEq, Nat.reduceEqDiff, Nat.reduceAdd, Nat.reduceLT, Nat.reduceLeDiff, Nat.reduceMul, Nat.reduceSub, ↓reduceIte, decide_true, decide_false, Bool.true_eq_false, Bool.false_eq_true, Bool.not_true, Bool.not_false, if_true, if_false, and_true, true_and, memE, celE, w64, Nat.zero_add, Nat.add_zero, Nat.mul_one, putL, and_self, ldn, tm, t1, t2, t6, t24, t25, t26, hlt', hat, hu, hbx.rd]
      refine callH_rc (stageCase_rc _ _ c k _ rfl (ChA.mk (hX.ints ha) (hX.ints hb) (hX.ints hd)) gd (by omega)) ?_
      rintro r n2 ⟨nr2, w, hwe, hw⟩
      rw [id_eq] at hwe
      subst r
      have hX2 := hX.app nr2
      simp (config := {implicitDefEqProofs := false, maxDischargeDepth := 20}) (disch := first | omega | (simp only [lenE]; done) | (simp only [lenE]; omega) | rfl | (simp only [lenE, markR_len]; done) | (simp only [lenE, markR_len]; omega)) only [runE, mapE, listE, initT_5, initT_6, initT_7, initT_8, resV, oneV, binA, unA, reduceCtorEq, Nat.reduceEqDiff, Nat.reduceAdd, Nat.reduceLT, Nat.reduceLeDiff, Nat.reduceMul, Nat.reduceSub, ↓reduceIte, decide_true, decide_false, Bool.true_eq_false, Bool.false_eq_true, Bool.not_true, Bool.not_false, if_true, if_false, and_true, true_and, memE, celE, w64, Nat.zero_add, Nat.add_zero, Nat.mul_one, putL, and_self, ldn]
      refine callH_rc (implPlanFrom_rc _ w u (c.stage k) (T.getD k []) hw.now.in (hur.ext _) (by omega)) ?_
      intro r n3 hA
      obtain ⟨rid, rf, rfl, hge, hown, hle, nr3⟩ := hA.row
      have hX3 := hX2.app nr3
      have hbx3 := (hbx.ext n2).ext n3
      have hTX3 := (hTX.ext (Nat.le_refl _) n2).ext (by simp) n3
      have hidl := hTX.2.1
      have hlo := hTX.1
      have hge' : M.length ≤ rid := by rw [List.length_append] at hge; omega
      obtain ⟨A, hA0⟩ : ∃ A, A = M ++ n2 ++ n3 := ⟨_, rfl⟩
      have hAl : M.length ≤ A.length := by rw [hA0]; simp
      rw [← hA0] at hX3 hbx3 hTX3 hown ⊢
      have hfo : fromOk (c.stage k) (T.getD k []) = (risB (T.getD k []) c.need.length && covers c.need (T.getD k [])) := by
        unfold fromOk
        rw [stage_good gd (by omega), Bool.true_and]; rfl
      cases hb1 : fromOk (c.stage k) (T.getD k []) with
      | false =>
        simp (config := {implicitDefEqProofs := false, maxDischargeDepth := 20}) (disch := first | omega | (simp only [lenE]; done) | (simp only [lenE]; omega) | rfl | (simp only [lenE, markR_len]; done) | (simp only [lenE, markR_len]; omega)) only [runE, mapE, listE, initT_5, initT_6, initT_7, initT_8, resV, oneV, binA, unA, reduceCtorEq, Nat.reduceEqDiff, Nat.reduceAdd, Nat.reduceLT, Nat.reduceLeDiff, Nat.reduceMul, Nat.reduceSub, ↓reduceIte, decide_true, decide_false, Bool.true_eq_false, Bool.false_eq_true, Bool.not_true, Bool.not_false, if_true, if_false, and_true, true_and, memE, celE, w64, Nat.zero_add, Nat.add_zero, Nat.mul_one, putL, and_self, ldn, ext_2_0, ext_2_1, t1, t2, t6, t24, t25, t26, bsl_no, goG_undef]
        refine emp _ hX3 ?_
        rw [hfo] at hb1
        unfold nestOk
        cases hr1 : risB (T.getD k []) c.need.length with
        | false => rw [all_range_no hlt (by unfold nestRow; rw [hr1]; rfl)]; simp
        | true =>
          rw [hr1, Bool.true_and] at hb1
          rw [all_range_no (f := fun s => covers c.need (T.getD s [])) hlt hb1]; simp
      | true =>
        rw [fromA_yes hb1] at hown hle ⊢
        have hb2 := hb1
        rw [hfo, Bool.and_eq_true] at hb2
        have hfl : (fromL (c.stage k).need (T.getD k [])).length = c.need.length := fromL_len c.need (T.getD k [])
        have hown' : OwnR A rid (fromL c.need (T.getD k [])) := hown
        have hridl := hown'.lt
        rw [hfl]
        have happ := app_back (e := 24) (sz := 1) (byt := 24) (n := k) (ys := [.slice (some ⟨rid, 0, none⟩) c.need.length rf]) hTX3.2.2.1 rfl (by rw [rowsC_len, List.length_take, nestT_len]; omega) rfl (by rfl) (by omega) (by omega)
        have go : ∀ (x : Mem), Ext m x → OwnB x m.length 26 [a, b, d] → TabX ((nestT c T).take k) (m.length + 1) M.length x id R F → OwnR x rid (fromL c.need (T.getD k [])) → M.length ≤ x.length → nestRow c T k = true →
            Ext m (x.set id deadB ++ [⟨.own, 24, [.slice (some ⟨rid, 0, none⟩) c.need.length rf]⟩] ++ [⟨.own, 24, rowsC ((nestT c T).take k) R F ++ [.slice (some ⟨rid, 0, none⟩) c.need.length rf]⟩]) ∧ OwnB (x.set id deadB ++ [⟨.own, 24, [.slice (some ⟨rid, 0, none⟩) c.need.length rf]⟩] ++ [⟨.own, 24, rowsC ((nestT c T).take k) R F ++ [.slice (some ⟨rid, 0, none⟩) c.need.length rf]⟩]) m.length 26 [a, b, d] ∧
            TabX ((nestT c T).take (k + 1)) (m.length + 1) (x.set id deadB ++ [(⟨.own, 24, [.slice (some ⟨rid, 0, none⟩) c.need.length rf]⟩ : Blk)] ++ [(⟨.own, 24, rowsC ((nestT c T).take k) R F ++ [.slice (some ⟨rid, 0, none⟩) c.need.length rf]⟩ : Blk)]).length (x.set id deadB ++ [⟨.own, 24, [.slice (some ⟨rid, 0, none⟩) c.need.length rf]⟩] ++ [⟨.own, 24, rowsC ((nestT c T).take k) R F ++ [.slice (some ⟨rid, 0, none⟩) c.need.length rf]⟩]) (x.length + 1) (fun j => if j < ((nestT c T).take k).length then R j else rid) (fun j => if j < ((nestT c T).take k).length then F j else rf) ∧ ∀ j, j < k + 1 → nestRow c T j = true ∧ covers c.need (T.getD j []) = true := by
          intro x hx1 hx2 hx3 hx4 hx5 hrw
          have hx4l := hx4.lt
          refine ⟨((hx1.dead (by omega)).one _ _).one _ _, ?_, ?_, fun j hj => ?_⟩
          · exact hx2.at_ (by rw [List.append_assoc, List.getElem?_append_left (by rw [List.length_set]; exact hx2.lt), List.getElem?_set_ne (by omega)])
          · rw [nestT_take c T hlt]
            refine TabX.snoc (rid := rid) (f := rf) (hx3.wider (Nat.le_refl _)) (fun i h1 h2 h3 => ?_) (by omega) (by simp) ?_ hge' (by simp; omega) ?_ (by simp; omega)
            · rw [List.append_assoc, List.getElem?_append_left (by rw [List.length_set]; omega), List.getElem?_set_ne (by omega)]
            · rw [fromL_len]
              exact OwnB.here (by simp)
            · exact (((hx4.dead (by omega)).ext _).ext _)
          · by_cases e : j = k
            · subst e; exact ⟨hrw, hb2.2⟩
            · exact hcv j (by omega)
        by_cases h0 : 0 < k
        · have h0' : (0 : Int) < k := by omega
          have ec : (k : Int) - 1 = ((k - 1 : Nat) : Int) := by omega
          have hTA := TabA.xt hT hX3
          obtain ⟨p, hp, hprow⟩ := hTA.ld (k - 1) (by omega)
          have hpat := hTA.at_ (k - 1) (by omega)
          have hurA : IntsA A u (T.getD k []) := by rw [hA0]; exact (hur.ext _).ext _
          simp (config := {implicitDefEqProofs := false, maxDischargeDepth := 20}) (disch := first | omega | (simp only [lenE]; done) | (simp only [lenE]; omega) | rfl | (simp only [lenE, markR_len]; done) | (simp only [lenE, markR_len]; omega)) only [runE, mapE, listE, initT_5, initT_6, initT_7, initT_8, resV, oneV, binA, unA, reduceCtorEq, Nat.reduceEqDiff, Nat.reduceAdd, Nat.reduceLT, Nat.reduceLeDiff, Nat.reduceMul, Nat.reduceSub, ↓reduceIte, decide_true, decide_false, Bool.true_eq_false, Bool.false_eq_true, Bool.not_true, Bool.not_false, if_true, if_false, and_true, true_and, memE, celE, w64, Nat.zero_add, Nat.add_zero, Nat.mul_one, putL, and_self, ldn, ext_2_0, ext_2_1, t1, t2, t6, t24, t25, t26, gt_iff_lt, h0', ec, hpat, hp]
          refine callH_rc (hasAll_rc _ u p (T.getD k []) (T.getD (k - 1) []) hurA hprow (by omega)) ?_
          rintro r n4 ⟨rfl, nr4⟩
          have hX4 := hX3.app nr4
          cases hw2 : withinB (T.getD (k - 1) []) (T.getD k []) with
          | false =>
            simp (config := {implicitDefEqProofs := false, maxDischargeDepth := 20}) (disch := first | omega | (simp only [lenE]; done) | (simp only [lenE]; omega) | rfl | (simp only [lenE, markR_len]; done) | (simp only [lenE, markR_len]; omega)) only [runE, mapE, listE, initT_5, initT_6, initT_7, initT_8, resV, oneV, binA, unA, reduceCtorEq, Nat.reduceEqDiff, Nat.reduceAdd, Nat.reduceLT, Nat.reduceLeDiff, Nat.reduceMul, Nat.reduceSub, ↓reduceIte, decide_true, decide_false, Bool.true_eq_false, Bool.false_eq_true, Bool.not_true, Bool.not_false, if_true, if_false, and_true, true_and, memE, celE, w64, Nat.zero_add, Nat.add_zero, Nat.mul_one, putL, and_self, ldn, t1, t2, t6, t24, t25, t26, bsl_no]
            have := emp _ hX4 (by
              unfold nestOk
              rw [all_range_no hlt (by unfold nestRow; rw [hw2, hb2.1]; simp; omega)]; simp)
            rw [List.length_append] at this
            exact this
          | true =>
            have happ2 := app_back (e := 24) (sz := 1) (byt := 24) (n := k) (ys := [.slice (some ⟨rid, 0, none⟩) c.need.length rf]) (hTX3.2.2.1.ext n4) rfl (by rw [rowsC_len, List.length_take, nestT_len]; omega) rfl (by rfl) (by omega) (by omega)
            obtain ⟨B, hB⟩ : ∃ B, B = A ++ n4 := ⟨_, rfl⟩
            have hBl : A.length ≤ B.length := by rw [hB]; simp
            have g := go B (by rw [hB]; exact hX4) (by rw [hB]; exact hbx3.ext n4) (by rw [hB]; exact hTX3.ext hAl n4) (by rw [hB]; exact hown'.ext n4) (by omega) (by unfold nestRow; rw [hw2, hb2.1]; simp)
            rw [← hB] at happ2 ⊢
            simp (config := {implicitDefEqProofs := false, maxDischargeDepth := 20}) (disch := first | omega | (simp only [lenE]; done) | (simp only [lenE]; omega) | rfl | (simp only [lenE, markR_len]; done) | (simp only [lenE, markR_len]; omega)) only [runE, mapE, listE, initT_5, initT_6, initT_7, initT_8, resV, oneV, binA, unA, reduceCtorEq, Nat.reduceEqDiff, Nat.reduceAdd, Nat.reduceLT, Nat.reduceLeDiff, Nat.reduceMul, Nat.reduceSub, ↓reduceIte, decide_true, decide_false, Bool.true_eq_false, Bool.false_eq_true, Bool.not_true, Bool.not_false, if_true, if_false, and_true, true_and, memE, celE, w64, Nat.zero_add, Nat.add_zero, Nat.mul_one, putL, and_self, ldn, t1, t2, t6, t24, t25, t26, bsl_sl', happ2]
            exact ⟨⟨k + 1, _, B.length + 1, _, _, by omega, rfl, g.1, g.2.1, g.2.2.1, g.2.2.2, rfl, by simp⟩, by simp [intOf]; omega⟩
        · have h0' : ¬ ((0 : Int) < k) := by omega
          have g := go A hX3 hbx3 hTX3 hown' hAl (by unfold nestRow; rw [hb2.1]; simp; omega)
          simp (config := {implicitDefEqProofs := false, maxDischargeDepth := 20}) (disch := first | omega | (simp only [lenE]; done) | (simp only [lenE]; omega) | rfl | (simp only [lenE, markR_len]; done) | (simp only [lenE, markR_len]; omega)) only [runE, mapE, listE, initT_5, initT_6, initT_7, initT_8, resV, oneV, binA, unA, reduceCtorEq, Nat.reduceEqDiff, Nat.reduceAdd, Nat.reduceLT, Nat.reduceLeDiff, Nat.reduceMul, Nat.reduceSub, ↓reduceIte, decide_true, decide_false, Bool.true_eq_false, Bool.false_eq_true, Bool.not_true, Bool.not_false, if_true, if_false, and_true, true_and, memE, celE, w64, Nat.zero_add, Nat.add_zero, Nat.mul_one, putL, and_self, ldn, ext_2_0, ext_2_1, t1, t2, t6, t24, t25, t26, gt_iff_lt, h0', goG_undef, bsl_sl', happ]
          exact ⟨⟨k + 1, _, A.length + 1, _, _, by omega, rfl, g.1, g.2.1, g.2.2.1, g.2.2.2, rfl, by simp⟩, by simp [intOf]; omega⟩
    · have hlt' : ¬ ((k : Int) < T.length) := by omega
      have e : k = T.length := by omega
      subst e
      simp (config := {implicitDefEqProofs := false, maxDischargeDepth := 20}) (disch := first | omega | (simp only [lenE]; done) | (simp only [lenE]; omega) | rfl | (simp only [lenE, markR_len]; done) | (simp only [lenE, markR_len]; omega)) only [runE, mapE, listE, initT_5, initT_6, initT_7, initT_8, resV, oneV, binA, unA, reduceCtorEq, Nat.reduceEqDiff, Nat.reduceAdd, Nat.reduceLT, Nat.reduceLeDiff, Nat.reduceMul, Nat.reduceSub, ↓reduceIte, decide_true, decide_false, Bool.true_eq_false, Bool.false_eq_true, Bool.not_true, Bool.not_false, if_true, if_false, and_true, true_and, memE, celE, w64, Nat.zero_add, Nat.add_zero, Nat.mul_one, putL, and_self, ldn, tm, t1, t2, t6, t24, t25, t26, hlt']
      rw [List.take_of_length_le (by rw [nestT_len]; omega)] at hTX
      have e : nestOk c T = true := by
        unfold nestOk
        rw [hg, all_range_yes (f := fun s => covers c.need (T.getD s [])) fun s hs => (hcv s hs).2, all_range_yes fun s hs => (hcv s hs).1]
        simp [hlen]
      rw [nestA_yes e, e]
      refine ext_ansO (f := fun v => .tuple #[v, .bool true]) hX fun M' hM => ?_
      have := (hTX.at_ (M' := M') fun i h1 h2 => hM i (by omega) h2).obj (fl := 1) (by rw [nestT_len]; omega) (nestT_sz (by omega) n6)
      rw [nestT_len] at this
      exact TabO.wide _ _ _ _ _ _ _ (by omega) (Nat.le_refl _) this
  · have hlen' : ((T.length : Int) != c.setup.length) = true := by simp; omega
    simp (config := {implicitDefEqProofs := false, maxDischargeDepth := 20}) (disch := first | omega | (simp only [lenE]; done) | (simp only [lenE]; omega) | rfl | (simp only [lenE, markR_len]; done) | (simp only [lenE, markR_len]; omega)) only [runE, mapE, listE, initT_5, initT_6, initT_7, initT_8, resV, oneV, binA, unA, reduceCtorEq, Nat.reduceEqDiff, Nat.reduceAdd, Nat.reduceLT, Nat.reduceLeDiff, Nat.reduceMul, Nat.reduceSub, ↓reduceIte, decide_true, decide_false, Bool.true_eq_false, Bool.false_eq_true, Bool.not_true, Bool.not_false, if_true, if_false, and_true, true_and, memE, celE, w64, Nat.zero_add, Nat.add_zero, Nat.mul_one, putL, and_self, ldn, hTr.len, b0.rd, hb.len, hlen', bsl_no]
    exact emp _ hX1 (by unfold nestOk; simp [hlen])
end Go.Proofs.Ytamhhicnfpemeaa.Ab
end
section
namespace Go.Proofs.Ytamhhicnfpemeaa.Ab
open Go Go.RowKit
set_option linter.unusedVariables false
set_option linter.unusedSimpArgs false
def Adds (W : World) (ρ ρ' : Places) (m m' : Mem) : Prop := ρ <+: ρ' ∧ MRel W W.heap.size ρ' m' W ∧ ∃ new, m' = m ++ new
theorem Adds.trans {W : World} {ρ1 ρ2 ρ3 : Places} {m1 m2 m3 : Mem} (h : Adds W ρ1 ρ2 m1 m2) (h' : Adds W ρ2 ρ3 m2 m3) : Adds W ρ1 ρ3 m1 m3 := by
  obtain ⟨a, b, n1, rfl⟩ := h
  obtain ⟨c, d, n2, rfl⟩ := h'
  exact ⟨a.trans c, d, n1 ++ n2, by rw [List.append_assoc]⟩
theorem Adds.refl {W : World} {ρ : Places} {m : Mem} (h : MRel W W.heap.size ρ m W) : Adds W ρ ρ m m := ⟨List.prefix_refl _, h, [], by simp⟩
theorem addFlat {W : World} {ρ : Places} {m : Mem} (h : MRel W W.heap.size ρ m W) {v : Value} {n : Nat} {cs xs : List Value} (hi : FlatIn W v n cs) (hx : ∀ (k : Nat) (x : Value), xs[k]? = some x → ∃ y, cs[k]? = some y ∧ VR ρ x y) (hz : 0 < n → 0 < cs.length) :
    ∃ ρ', Adds W ρ ρ' m (m ++ [⟨.ro, 0, xs⟩]) ∧ VR ρ' (.slice (some ⟨m.length, 0, none⟩) n 0) v := by
  obtain ⟨A, c, rfl, hlc, hc, hr⟩ := hi
  by_cases hl : 0 < cs.length
  · obtain ⟨b, off, rfl, hb, hcell⟩ := hr hl
    refine ⟨ρ ++ [(b, off, 0)], ⟨pre_snoc _ _, h.addRo fun k x hk => ?_, _, rfl⟩, ?_⟩
    · obtain ⟨y, hy, hv⟩ := hx k x hk
      exact ⟨hb, y, hcell k y hy, hv⟩
    · exact .sl (b := b) (o := off) (tot := 0) (by rw [← h.len]; simp) hlc hc (fun _ _ => by simp) (fun hf => absurd hf (by omega))
  · refine ⟨ρ ++ [(0, 0, 0)], ⟨pre_snoc _ _, h.addRo fun k x hk => ?_, _, rfl⟩, ?_⟩
    · obtain ⟨y, hy, _⟩ := hx k x hk
      have := (List.getElem?_eq_some_iff.1 hy).1
      omega
    · exact .sl (b := 0) (o := 0) (tot := 0) (by rw [← h.len]; simp) hlc hc (fun _ hp => absurd (hz hp) hl) (fun hf => absurd hf (by omega))
theorem rdc_roNew (m : Mem) (xs : List Value) (k : Nat) : rdc (m ++ [⟨.ro, 0, xs⟩]) m.length k = xs[k]? := by simp [rdc]
theorem argI2 {W : World} {ρ : Places} {m : Mem} (h : MRel W W.heap.size ρ m W) {v : Value} {l : List Int} (hi : IntsIn W v l) :
    ∃ ρ' m', Adds W ρ ρ' m m' ∧ ∃ x, VR ρ' x v ∧ IntsA m' x l := by
  obtain ⟨p, h1, h2⟩ := h.argInts hi
  exact ⟨_, _, ⟨pre_snoc _ _, h1, _, rfl⟩, _, h2, (RowA.arg (IntsIn.bd hi) rfl).ints 0⟩
theorem argRows {W : World} : ∀ (us : List Value) (T : List (List Int)) {ρ : Places} {m : Mem}, MRel W W.heap.size ρ m W → us.length = T.length → (∀ k u, us[k]? = some u → IntsIn W u (T.getD k [])) →
    ∃ ρ' m' xs, Adds W ρ ρ' m m' ∧ VL ρ' xs us ∧ ∀ k x, xs[k]? = some x → IntsA m' x (T.getD k [])
  | [], T, ρ, m, h, _, _ => ⟨ρ, m, [], .refl h, .nil _, fun k x hx => by simp at hx⟩
  | u :: us, [], ρ, m, h, hl, _ => by simp at hl
  | u :: us, l :: T, ρ, m, h, hl, hi => by
    obtain ⟨ρ1, m1, a1, x1, v1, i1⟩ := argI2 h (hi 0 u rfl)
    obtain ⟨ρ2, m2, xs, a2, v2, i2⟩ := argRows us T a1.2.1 (by simpa using hl) fun k u' hk => by simpa using hi (k + 1) u' (by simpa using hk)
    refine ⟨ρ2, m2, x1 :: xs, a1.trans a2, .cons (v1.mono a2.1) v2, fun k x hx => ?_⟩
    cases k with
    | zero =>
      simp at hx
      subst hx
      obtain ⟨n2, rfl⟩ := a2.2.2
      simpa using i1.ext n2
    | succ k => simpa using i2 k x (by simpa using hx)
theorem argTab {W : World} {ρ : Places} {m : Mem} (h : MRel W W.heap.size ρ m W) {v : Value} {T : List (List Int)} (hi : TabIn W v T) :
    ∃ ρ' m', Adds W ρ ρ' m m' ∧ ∃ x, VR ρ' x v ∧ TabA m' x T := by
  obtain ⟨us, hf, hl, hr⟩ := hi
  have hb : T.length ≤ 9223372036854775807 := by
    obtain ⟨A, c, _, h1, h2, _⟩ := hf
    unfold maxLen at h2; omega
  obtain ⟨ρ1, m1, xs, a1, v1, i1⟩ := argRows us T h hl hr
  obtain ⟨ρ2, a2, v2⟩ := addFlat a1.2.1 hf (xs := xs) (fun k x hx => v1.at_ hx) (by omega)
  refine ⟨ρ2, _, a1.trans a2, _, v2, TabA.blk hb fun k hk => ?_⟩
  have hlx : k < xs.length := by rw [v1.1, hl]; exact hk
  exact ⟨xs[k], by rw [rdc_roNew]; exact List.getElem?_eq_getElem hlx, (i1 k _ (List.getElem?_eq_getElem hlx)).ext _⟩
end Go.Proofs.Ytamhhicnfpemeaa.Ab
end
section
namespace Go.Proofs.Ytamhhicnfpemeaa
open Go.RowKit Go.ChangeShapes Go.WideShapes Go.ChangeAt
open Go.WideMaps Go.WideElems
set_option linter.unusedVariables false
def ChainIn (W : World) (v : Value) (c : Ch) : Prop := ∃ a b d, v = .agg #[a, b, d] ∧ IntsIn W a c.need ∧ IntsIn W b c.setup ∧ IntsIn W d c.hold
set_option maxRecDepth 100000 in
theorem open_chain {H : Type} {enc : TypeId × Value → H} {W : World} {base : Nat} {v : Value} {d : DataW H} {ps : List MemPlace}
    (hval : Value.okWide Try.prog W .any base 41 v) (h : DataW.Trod enc Try.prog W 0 (fun _ => true) true 41 v d ps) : ∃ c, ChainIn W v c := by
  simp only [Value.okWide, Try.underlying41] at hval
  obtain ⟨cs, rfl, hsz, _⟩ := hval
  have hsz3 : cs.size = 3 := hsz.trans (by kernel_rfl)
  obtain ⟨fuel, hf⟩ := h
  obtain ⟨xs, n, _, _, _, hlen, hfield⟩ := DataW.trod_struct Try.underlying41 hf
  obtain ⟨a, b, c, rfl⟩ : ∃ a b c, cs = #[a, b, c] := by
    obtain ⟨l⟩ := cs
    match l, hsz3 with
    | [a, b, c], _ => exact ⟨a, b, c, rfl⟩
  have hcs : Try.prog.cellsOf 24 = 1 := by kernel_rfl
  match xs, hlen with
  | [y0, y1, y2], _ =>
    obtain ⟨u0, l0, k0, h0⟩ := ints_trod (cs := [a]) (by simpa [Value.cells, hcs] using hfield 0 _ rfl)
    obtain ⟨u1, l1, k1, h1⟩ := ints_trod (cs := [b]) (by simpa [Value.cells, hcs] using hfield 1 _ rfl)
    obtain ⟨u2, l2, k2, h2⟩ := ints_trod (cs := [c]) (by simpa [Value.cells, hcs] using hfield 2 _ rfl)
    cases k0; cases k1; cases k2
    exact ⟨⟨l0, l1, l2⟩, _, _, _, rfl, h0, h1, h2⟩
end Go.Proofs.Ytamhhicnfpemeaa
end
section
namespace Go.Proofs.Ytamhhicnfpemeaa.Ab
open Go Go.RowKit
set_option linter.unusedVariables false
theorem BoxA.ld3 {m : Mem} {id : Nat} {a b c : Value} (h : BoxA m id [a, b, c]) : ldA m (some 3) (.pointer (some ⟨id, 0, none⟩)) = some (.agg #[a, b, c]) := by
  obtain ⟨_, h⟩ := h
  simp [ldA, rdn, rdc, h]
theorem BoxA.but {m m' : Mem} {id lo hi : Nat} {vs : List Value} (h : BoxA m id vs) (hb : But lo hi m m') (hd : id < lo ∨ hi ≤ id) : BoxA m' id vs := by
  have hl := h.lt
  obtain ⟨e, h⟩ := h
  exact ⟨e, by rw [hb.2 id hl hd]; exact h⟩
theorem IntsA.one {m : Mem} {v : Value} {l : List Int} (h : IntsA m v l) (xs : List Value) : onesB (v :: xs) = onesB xs := by
  rcases h.form with ⟨rfl, _⟩ | ⟨id, off, fl, rfl⟩ <;> exact onesB_sl _ _ _ _
end Go.Proofs.Ytamhhicnfpemeaa.Ab
end
section
namespace Go.Proofs.Ytamhhicnfpemeaa.Ab
open Go Go.RowKit
set_option linter.unusedVariables false
theorem vr3 {ρ : Places} {a b c x y z : Value} (ha : VR ρ a x) (hb : VR ρ b y) (hc : VR ρ c z) : VR ρ (.agg #[a, b, c]) (.agg #[x, y, z]) := by
  obtain ⟨h1, h2⟩ := (VL.cons ha (VL.cons hb (VL.cons hc (VL.nil ρ)))).arr
  exact .agg h1 h2
theorem argChain {W : World} {ρ : Places} {m : Mem} (h : MRel W W.heap.size ρ m W) {v : Value} {c : Ch} (hi : ChainIn W v c) :
    ∃ ρ' m', Adds W ρ ρ' m m' ∧ ∃ x, VR ρ' x v ∧ ChA m' x c := by
  obtain ⟨u1, u2, u3, rfl, h1, h2, h3⟩ := hi
  obtain ⟨ρ1, m1, a1, x1, k1, A1⟩ := argI2 h h1
  obtain ⟨ρ2, m2, a2, x2, k2, A2⟩ := argI2 a1.2.1 h2
  obtain ⟨ρ3, m3, a3, x3, k3, A3⟩ := argI2 a2.2.1 h3
  obtain ⟨p2, q2, n2, e2⟩ := a2
  obtain ⟨p3, q3, n3, e3⟩ := a3
  refine ⟨ρ3, m3, a1.trans (Adds.trans ⟨p2, q2, n2, e2⟩ ⟨p3, q3, n3, e3⟩), _, vr3 (k1.mono (p2.trans p3)) (k2.mono p3) k3, ?_⟩
  subst e2
  subst e3
  exact ChA.mk ((A1.ext _).ext _) (A2.ext _) A3
theorem ChA.one1 {m : Mem} {c : Ch} {a b d : Value} (h : ChA m (chV a b d) c) (xs : List Value) : onesB (a :: xs) = onesB xs := by
  obtain ⟨a', b', d', e, h1, h2, h3⟩ := h
  obtain ⟨rfl, rfl, rfl⟩ : a = a' ∧ b = b' ∧ d = d' := by simpa [chV] using e
  exact h1.one xs
theorem ChA.one2 {m : Mem} {c : Ch} {a b d : Value} (h : ChA m (chV a b d) c) (xs : List Value) : onesB (b :: xs) = onesB xs := by
  obtain ⟨a', b', d', e, h1, h2, h3⟩ := h
  obtain ⟨rfl, rfl, rfl⟩ : a = a' ∧ b = b' ∧ d = d' := by simpa [chV] using e
  exact h2.one xs
theorem ChA.one3 {m : Mem} {c : Ch} {a b d : Value} (h : ChA m (chV a b d) c) (xs : List Value) : onesB (d :: xs) = onesB xs := by
  obtain ⟨a', b', d', e, h1, h2, h3⟩ := h
  obtain ⟨rfl, rfl, rfl⟩ : a = a' ∧ b = b' ∧ d = d' := by simpa [chV] using e
  exact h3.one xs
end Go.Proofs.Ytamhhicnfpemeaa.Ab
end
section
namespace Go.Proofs.Ytamhhicnfpemeaa.Ab
open Go Go.RowKit Go.Proofs
set_option maxRecDepth 100000
def c_laws_FnExactNestedPlan : ACode := .seq (.reg [⟨(some 2), .box 41 (.tmp 0), none⟩,
  ⟨(some 4), .mv (.const (.bool false)), none⟩])
 (.seq (.reg [⟨(some 5), .mv (.const (.int .i64 1048576)), none⟩])
 (.seq (.reg [⟨(some 17), .ld (some 3) (.tmp 2), none⟩,
  ⟨(some 18), .mv (.tmp 5), none⟩,
  ⟨(some 19), .call (.func 29) [(.tmp 17), (.tmp 18)], none⟩,
  ⟨(some 5), .mv (.tmp 19), none⟩])
 (.seq (.seq (.reg [⟨(some 20), .mv (.tmp 5), none⟩,
  ⟨(some 21), .bin .lss (.tmp 20) (.const (.int .i64 0)), none⟩])
 (.cond (.tmp 21) (.seq (.reg [⟨(some 4), .mv (.const (.bool true)), none⟩])
 (.ret)) (.skip)))
 (.seq (.reg [⟨(some 22), .mv (.tmp 1), none⟩,
  ⟨(some 23), .mv (.tmp 5), none⟩,
  ⟨(some 24), .call (.func 34) [(.tmp 22), (.tmp 23)], none⟩,
  ⟨(some 5), .mv (.tmp 24), none⟩])
 (.seq (.seq (.reg [⟨(some 25), .mv (.tmp 5), none⟩,
  ⟨(some 26), .bin .lss (.tmp 25) (.const (.int .i64 0)), none⟩])
 (.cond (.tmp 26) (.seq (.reg [⟨(some 4), .mv (.const (.bool true)), none⟩])
 (.ret)) (.skip)))
 (.seq (.reg [⟨(some 28), .ld (some 3) (.tmp 2), none⟩,
  ⟨(some 29), .call (.func 31) [(.tmp 28)], none⟩,
  ⟨(some 30), .mv (.tmp 1), none⟩,
  ⟨(some 31), .call (.func 36) [(.tmp 30)], none⟩,
  ⟨(some 32), .call (.func 55) [(.tmp 29), (.tmp 31)], none⟩,
  ⟨(some 27), .mv (.tmp 32), none⟩,
  ⟨(some 33), .ext 0 (.tmp 27), none⟩,
  ⟨(some 34), .ext 1 (.tmp 27), none⟩,
  ⟨(some 6), .mv (.tmp 33), none⟩,
  ⟨(some 7), .mv (.tmp 34), none⟩])
 (.seq (.reg [⟨(some 35), .ld (some 3) (.tmp 2), none⟩,
  ⟨(some 36), .call (.func 31) [(.tmp 35)], none⟩,
  ⟨(some 8), .alc 26 [(.slice none 0 0), (.slice none 0 0), (.slice none 0 0)], none⟩,
  ⟨none, .st 3 (.tmp 8) (.tmp 36), none⟩])
 (.seq (.reg [⟨(some 37), .mv (.tmp 1), none⟩,
  ⟨(some 38), .call (.func 36) [(.tmp 37)], none⟩,
  ⟨(some 9), .mv (.tmp 38), none⟩])
 (.seq (.reg [⟨(some 40), .ld (some 3) (.tmp 8), none⟩,
  ⟨(some 41), .mv (.tmp 9), none⟩,
  ⟨(some 42), .call (.func 56) [(.tmp 40), (.tmp 41)], none⟩,
  ⟨(some 39), .mv (.tmp 42), none⟩,
  ⟨(some 43), .ext 0 (.tmp 39), none⟩,
  ⟨(some 44), .ext 1 (.tmp 39), none⟩,
  ⟨(some 10), .mv (.tmp 43), none⟩,
  ⟨(some 11), .mv (.tmp 44), none⟩])
 (.seq (.seq (.reg [⟨(some 45), .mv (.tmp 10), none⟩,
  ⟨(some 46), .mv (.tmp 6), none⟩,
  ⟨(some 47), .call (.func 38) [(.tmp 45), (.tmp 46)], none⟩,
  ⟨(some 48), .un .not (.tmp 47), none⟩,
  ⟨(some 49), .mv (.tmp 48), none⟩,
  ⟨(some 50), .mv (.tmp 11), (some (49, false))⟩,
  ⟨(some 51), .mv (.tmp 7), (some (49, false))⟩,
  ⟨(some 52), .beq true (.tmp 50) (.tmp 51), (some (49, false))⟩,
  ⟨(some 53), .pick (.tmp 49) (.const (.bool true)) (.tmp 52), none⟩])
 (.cond (.tmp 53) (.seq (.reg [⟨(some 4), .mv (.const (.bool false)), none⟩])
 (.ret)) (.skip)))
 (.seq (.seq (.reg [⟨(some 54), .ld (some 3) (.tmp 8), none⟩,
  ⟨(some 55), .ld (some 3) (.tmp 2), none⟩,
  ⟨(some 56), .rcall (.func 31) [(.tmp 55)], none⟩,
  ⟨(some 57), .rcall (.func 33) [(.tmp 54), (.tmp 56)], none⟩,
  ⟨(some 58), .un .not (.tmp 57), none⟩])
 (.cond (.tmp 58) (.seq (.reg [⟨(some 4), .mv (.const (.bool false)), none⟩])
 (.ret)) (.skip)))
 (.seq (.seq (.reg [⟨(some 59), .mv (.tmp 9), none⟩,
  ⟨(some 60), .mv (.tmp 1), none⟩,
  ⟨(some 61), .call (.func 36) [(.tmp 60)], none⟩,
  ⟨(some 62), .call (.func 38) [(.tmp 59), (.tmp 61)], none⟩,
  ⟨(some 63), .un .not (.tmp 62), none⟩])
 (.cond (.tmp 63) (.seq (.reg [⟨(some 4), .mv (.const (.bool false)), none⟩])
 (.ret)) (.skip)))
 (.seq (.reg [⟨(some 12), .mv (.const (.int .i64 1)), none⟩])
 (.seq (.reg [⟨(some 64), .ld (some 3) (.tmp 8), none⟩,
  ⟨(some 65), .mv (.tmp 12), none⟩,
  ⟨(some 66), .call (.func 39) [(.tmp 64), (.tmp 65)], none⟩,
  ⟨(some 12), .mv (.tmp 66), none⟩])
 (.seq (.reg [⟨(some 67), .mv (.tmp 9), none⟩,
  ⟨(some 68), .mv (.tmp 12), none⟩,
  ⟨(some 69), .call (.func 40) [(.tmp 67), (.tmp 68)], none⟩,
  ⟨(some 12), .mv (.tmp 69), none⟩])
 (.seq (.seq (.reg [⟨(some 70), .mv (.tmp 12), none⟩,
  ⟨(some 71), .bin .lss (.tmp 70) (.const (.int .i64 0)), none⟩,
  ⟨(some 72), .mv (.tmp 71), none⟩,
  ⟨(some 73), .mv (.tmp 10), (some (72, false))⟩,
  ⟨(some 74), .mv (.tmp 6), (some (72, false))⟩,
  ⟨(some 75), .call (.func 38) [(.tmp 73), (.tmp 74)], (some (72, false))⟩,
  ⟨(some 76), .un .not (.tmp 75), (some (72, false))⟩,
  ⟨(some 77), .pick (.tmp 72) (.const (.bool true)) (.tmp 76), none⟩,
  ⟨(some 78), .mv (.tmp 77), none⟩,
  ⟨(some 79), .mv (.tmp 11), (some (78, false))⟩,
  ⟨(some 80), .mv (.tmp 7), (some (78, false))⟩,
  ⟨(some 81), .beq true (.tmp 79) (.tmp 80), (some (78, false))⟩,
  ⟨(some 82), .pick (.tmp 78) (.const (.bool true)) (.tmp 81), none⟩])
 (.cond (.tmp 82) (.seq (.reg [⟨(some 4), .mv (.const (.bool false)), none⟩])
 (.ret)) (.skip)))
 (.seq (.reg [⟨(some 13), .mv (.const (.int .i64 1)), none⟩])
 (.seq (.reg [⟨(some 83), .mv (.tmp 10), none⟩,
  ⟨(some 84), .mv (.tmp 13), none⟩,
  ⟨(some 85), .call (.func 40) [(.tmp 83), (.tmp 84)], none⟩,
  ⟨(some 13), .mv (.tmp 85), none⟩])
 (.seq (.reg [⟨(some 14), .mv (.const (.int .i64 1)), none⟩])
 (.seq (.reg [⟨(some 86), .mv (.tmp 10), none⟩,
  ⟨(some 87), .mv (.tmp 14), none⟩,
  ⟨(some 88), .call (.func 41) [(.tmp 86), (.tmp 87)], none⟩,
  ⟨(some 14), .mv (.tmp 88), none⟩])
 (.seq (.seq (.reg [⟨(some 89), .mv (.tmp 14), none⟩,
  ⟨(some 90), .bin .lss (.tmp 89) (.const (.int .i64 0)), none⟩])
 (.cond (.tmp 90) (.seq (.reg [⟨(some 4), .mv (.const (.bool false)), none⟩])
 (.ret)) (.skip)))
 (.seq (.seq (.reg [⟨(some 91), .mv (.tmp 14), none⟩,
  ⟨(some 92), .mv (.tmp 13), none⟩,
  ⟨(some 93), .bin .neq (.tmp 91) (.tmp 92), none⟩])
 (.cond (.tmp 93) (.seq (.reg [⟨(some 4), .mv (.const (.bool false)), none⟩])
 (.ret)) (.skip)))
 (.seq (.reg [⟨(some 95), .ld (some 3) (.tmp 2), none⟩,
  ⟨(some 96), .call (.func 31) [(.tmp 95)], none⟩,
  ⟨(some 97), .mv (.tmp 1), none⟩,
  ⟨(some 98), .call (.func 36) [(.tmp 97)], none⟩,
  ⟨(some 99), .call (.func 56) [(.tmp 96), (.tmp 98)], none⟩,
  ⟨(some 94), .mv (.tmp 99), none⟩,
  ⟨(some 100), .ext 0 (.tmp 94), none⟩,
  ⟨(some 101), .ext 1 (.tmp 94), none⟩,
  ⟨(some 15), .mv (.tmp 100), none⟩,
  ⟨(some 16), .mv (.tmp 101), none⟩])
 (.seq (.seq (.reg [⟨(some 102), .mv (.tmp 15), none⟩,
  ⟨(some 103), .mv (.tmp 6), none⟩,
  ⟨(some 104), .call (.func 38) [(.tmp 102), (.tmp 103)], none⟩,
  ⟨(some 105), .un .not (.tmp 104), none⟩,
  ⟨(some 106), .mv (.tmp 105), none⟩,
  ⟨(some 107), .mv (.tmp 16), (some (106, false))⟩,
  ⟨(some 108), .mv (.tmp 7), (some (106, false))⟩,
  ⟨(some 109), .beq true (.tmp 107) (.tmp 108), (some (106, false))⟩,
  ⟨(some 110), .pick (.tmp 106) (.const (.bool true)) (.tmp 109), none⟩])
 (.cond (.tmp 110) (.seq (.reg [⟨(some 4), .mv (.const (.bool false)), none⟩])
 (.ret)) (.skip)))
 (.seq (.reg [⟨(some 14), .mv (.const (.int .i64 1)), none⟩])
 (.seq (.reg [⟨(some 111), .mv (.tmp 10), none⟩,
  ⟨(some 112), .mv (.tmp 14), none⟩,
  ⟨(some 113), .call (.func 41) [(.tmp 111), (.tmp 112)], none⟩,
  ⟨(some 14), .mv (.tmp 113), none⟩])
 (.seq (.seq (.reg [⟨(some 114), .mv (.tmp 14), none⟩,
  ⟨(some 115), .bin .lss (.tmp 114) (.const (.int .i64 0)), none⟩])
 (.cond (.tmp 115) (.seq (.reg [⟨(some 4), .mv (.const (.bool false)), none⟩])
 (.ret)) (.skip)))
 (.seq (.seq (.reg [⟨(some 116), .mv (.tmp 14), none⟩,
  ⟨(some 117), .mv (.tmp 13), none⟩,
  ⟨(some 118), .bin .neq (.tmp 116) (.tmp 117), none⟩])
 (.cond (.tmp 118) (.seq (.reg [⟨(some 4), .mv (.const (.bool false)), none⟩])
 (.ret)) (.skip)))
 (.seq (.reg [⟨(some 4), .mv (.const (.bool true)), none⟩])
 (.ret))))))))))))))))))))))))))))))
def r_laws_FnExactNestedPlan : List ARes := [.tmp 4]
theorem ok_laws_FnExactNestedPlan : FnOk Try.prog 11 119 c_laws_FnExactNestedPlan r_laws_FnExactNestedPlan := ⟨⟨Try.f11, _, Try.func11, by kernel_rfl, rfl, rfl, by kernel_rfl, by kernel_rfl⟩⟩
end Go.Proofs.Ytamhhicnfpemeaa.Ab
end
