/- Shelves in memory: the laws' helpers szShelf, toShelf, eqShelf, markShelf. -/
import Derived.Test.YtihjcjhnkpkomaaAbPairs
import Derived.Test.YtihjcjhnkpkomaaShMath
namespace Go.Proofs.Ytihjcjhnkpkomaa.Ab
open Go Go.RowKit
set_option linter.unusedVariables false
set_option linter.unusedSimpArgs false

abbrev shV (s : Sh) (a b : Value) : Value := .agg #[.int .i64 s.life, a, b, .int .i64 s.waste, .int .i64 s.lost]
def ShA (m : Mem) (v : Value) (s : Sh) : Prop := ∃ a b, v = shV s a b ∧ IntsA m a s.arr ∧ IntsA m b s.need
theorem ShA.mk {m : Mem} {a b : Value} {s : Sh} (h1 : IntsA m a s.arr) (h2 : IntsA m b s.need) : ShA m (shV s a b) s := ⟨a, b, rfl, h1, h2⟩
theorem ShA.ext {m : Mem} {v : Value} {s : Sh} (h : ShA m v s) (new : Mem) : ShA (m ++ new) v s := by
  obtain ⟨a, b, rfl, h1, h2⟩ := h
  exact ⟨a, b, rfl, h1.ext new, h2.ext new⟩
theorem ShA.ro {m : Mem} {v : Value} {s : Sh} (h : ShA m v s) : ShA (roM m) v s := by
  obtain ⟨a, b, rfl, h1, h2⟩ := h
  exact ⟨a, b, rfl, h1.ro, h2.ro⟩
def ShO (s : Sh) (lo hi : Nat) (M : Mem) (v : Value) : Prop := ∃ a b p, v = shV s a b ∧ lo ≤ p ∧ p ≤ hi ∧ IntsO s.arr lo p M a ∧ IntsO s.need p hi M b
theorem ShO.in {s : Sh} {lo hi : Nat} {M : Mem} {v : Value} (h : ShO s lo hi M v) : ShA M v s := by
  obtain ⟨a, b, p, rfl, _, _, h1, h2⟩ := h
  exact ⟨a, b, rfl, h1.in, h2.in⟩
theorem szShelf_rc (m : Mem) (v : Value) (s : Sh) (left : Int) (h : ShA m v s) (h0 : 0 ≤ left) (h1 : left ≤ 1048576) :
    RC Try.prog 16 [v, .int .i64 left] m fun r new => NoRo new ∧ ((r = .int .i64 (-1)) ∨ ∃ z : Int, 0 ≤ z ∧ z ≤ left ∧ r = .int .i64 z ∧ s.arr.length ≤ 1048576 ∧ s.need.length ≤ 1048576) := by
  refine rc_of_run mixed ok_laws_szShelf (by simp) (go_start _ _ _ ?_)
  obtain ⟨a, b, rfl, ha, hb⟩ := h.ro
  simp (config := {implicitDefEqProofs := false, maxDischargeDepth := 20}) (disch := first | omega | (simp only [lenE]; done) | (simp only [lenE]; omega) | rfl | (simp only [lenE, markR_len]; done) | (simp only [lenE, markR_len]; omega)) only [runE, mapE, listE, initT_5, initT_6, initT_7, initT_8, resV, oneV, binA, unA, reduceCtorEq, Nat.reduceEqDiff, Nat.reduceAdd, Nat.reduceLT, Nat.reduceLeDiff, Nat.reduceMul, Nat.reduceSub, ↓reduceIte, decide_true, decide_false, Bool.true_eq_false, Bool.false_eq_true, Bool.not_true, Bool.not_false, if_true, if_false, and_true, true_and, memE, celE, w64, Nat.zero_add, Nat.add_zero, Nat.mul_one, putL, and_self, ldn, c_laws_szShelf, r_laws_szShelf]
  refine callH_rc (szIntsO_rc _ a s.arr left (ha.ext _) h0 h1) ?_
  rintro r n1 ⟨nr1, rfl | ⟨z, z0, z1, rfl, l1⟩⟩
  · simp (config := {implicitDefEqProofs := false, maxDischargeDepth := 20}) (disch := first | omega | (simp only [lenE]; done) | (simp only [lenE]; omega) | rfl | (simp only [lenE, markR_len]; done) | (simp only [lenE, markR_len]; omega)) only [runE, mapE, listE, initT_5, initT_6, initT_7, initT_8, resV, oneV, binA, unA, reduceCtorEq, Nat.reduceEqDiff, Nat.reduceAdd, Nat.reduceLT, Nat.reduceLeDiff, Nat.reduceMul, Nat.reduceSub, ↓reduceIte, decide_true, decide_false, Bool.true_eq_false, Bool.false_eq_true, Bool.not_true, Bool.not_false, if_true, if_false, and_true, true_and, memE, celE, w64, Nat.zero_add, Nat.add_zero, Nat.mul_one, putL, and_self, ldn, show ((-1 : Int) < 0) = True by simp]
    try simp only [List.append_assoc, List.cons_append, List.nil_append, List.append_nil]
    exact ⟨_, rfl, by (repeat (first | exact noRo_nil | assumption | apply noRo_own | apply noRo_dead | apply noRo_app)), by (repeat (first | exact noRo_nil | assumption | apply noRo_own | apply noRo_dead | apply noRo_app)), .inl rfl⟩
  · have hz : ¬ (z < 0) := by omega
    simp (config := {implicitDefEqProofs := false, maxDischargeDepth := 20}) (disch := first | omega | (simp only [lenE]; done) | (simp only [lenE]; omega) | rfl | (simp only [lenE, markR_len]; done) | (simp only [lenE, markR_len]; omega)) only [runE, mapE, listE, initT_5, initT_6, initT_7, initT_8, resV, oneV, binA, unA, reduceCtorEq, Nat.reduceEqDiff, Nat.reduceAdd, Nat.reduceLT, Nat.reduceLeDiff, Nat.reduceMul, Nat.reduceSub, ↓reduceIte, decide_true, decide_false, Bool.true_eq_false, Bool.false_eq_true, Bool.not_true, Bool.not_false, if_true, if_false, and_true, true_and, memE, celE, w64, Nat.zero_add, Nat.add_zero, Nat.mul_one, putL, and_self, ldn, hz]
    refine callH_rc (szIntsO_rc _ b s.need z ((hb.ext _).ext _) z0 (by omega)) ?_
    rintro r n2 ⟨nr2, rfl | ⟨y, y0, y1, rfl, l2⟩⟩
    · simp (config := {implicitDefEqProofs := false, maxDischargeDepth := 20}) (disch := first | omega | (simp only [lenE]; done) | (simp only [lenE]; omega) | rfl | (simp only [lenE, markR_len]; done) | (simp only [lenE, markR_len]; omega)) only [runE, mapE, listE, initT_5, initT_6, initT_7, initT_8, resV, oneV, binA, unA, reduceCtorEq, Nat.reduceEqDiff, Nat.reduceAdd, Nat.reduceLT, Nat.reduceLeDiff, Nat.reduceMul, Nat.reduceSub, ↓reduceIte, decide_true, decide_false, Bool.true_eq_false, Bool.false_eq_true, Bool.not_true, Bool.not_false, if_true, if_false, and_true, true_and, memE, celE, w64, Nat.zero_add, Nat.add_zero, Nat.mul_one, putL, and_self, ldn, show ((-1 : Int) < 0) = True by simp]
      try simp only [List.append_assoc, List.cons_append, List.nil_append, List.append_nil]
      exact ⟨_, rfl, by (repeat (first | exact noRo_nil | assumption | apply noRo_own | apply noRo_dead | apply noRo_app)), by (repeat (first | exact noRo_nil | assumption | apply noRo_own | apply noRo_dead | apply noRo_app)), .inl rfl⟩
    · have hy : ¬ (y < 0) := by omega
      simp (config := {implicitDefEqProofs := false, maxDischargeDepth := 20}) (disch := first | omega | (simp only [lenE]; done) | (simp only [lenE]; omega) | rfl | (simp only [lenE, markR_len]; done) | (simp only [lenE, markR_len]; omega)) only [runE, mapE, listE, initT_5, initT_6, initT_7, initT_8, resV, oneV, binA, unA, reduceCtorEq, Nat.reduceEqDiff, Nat.reduceAdd, Nat.reduceLT, Nat.reduceLeDiff, Nat.reduceMul, Nat.reduceSub, ↓reduceIte, decide_true, decide_false, Bool.true_eq_false, Bool.false_eq_true, Bool.not_true, Bool.not_false, if_true, if_false, and_true, true_and, memE, celE, w64, Nat.zero_add, Nat.add_zero, Nat.mul_one, putL, and_self, ldn, hy]
      try simp only [List.append_assoc, List.cons_append, List.nil_append, List.append_nil]
      exact ⟨_, rfl, by (repeat (first | exact noRo_nil | assumption | apply noRo_own | apply noRo_dead | apply noRo_app)), by (repeat (first | exact noRo_nil | assumption | apply noRo_own | apply noRo_dead | apply noRo_app)), .inr ⟨y, y0, by omega, rfl, l1, l2⟩⟩
theorem eqShelf_rc (m : Mem) (v u : Value) (s : Sh) (h : ShA m v s) (h' : ShA m u s) : RC Try.prog 20 [v, u] m (AnsV (.bool true)) := by
  refine rc_of_run mixed ok_laws_eqShelf (by simp) (go_start _ _ _ ?_)
  obtain ⟨a, b, rfl, ha, hb⟩ := h.ro
  obtain ⟨a', b', rfl, ha', hb'⟩ := h'.ro
  simp (config := {implicitDefEqProofs := false, maxDischargeDepth := 20}) (disch := first | omega | (simp only [lenE]; done) | (simp only [lenE]; omega) | rfl | (simp only [lenE, markR_len]; done) | (simp only [lenE, markR_len]; omega)) only [runE, mapE, listE, initT_5, initT_6, initT_7, initT_8, resV, oneV, binA, unA, reduceCtorEq, Nat.reduceEqDiff, Nat.reduceAdd, Nat.reduceLT, Nat.reduceLeDiff, Nat.reduceMul, Nat.reduceSub, ↓reduceIte, decide_true, decide_false, Bool.true_eq_false, Bool.false_eq_true, Bool.not_true, Bool.not_false, if_true, if_false, and_true, true_and, memE, celE, w64, Nat.zero_add, Nat.add_zero, Nat.mul_one, putL, and_self, ldn, c_laws_eqShelf, r_laws_eqShelf, bne_self_eq_false]
  refine callH_rc (eqIntS_rc _ a a' s.arr ((ha.ext _).ext _) ((ha'.ext _).ext _)) ?_
  rintro r new ⟨rfl, rfl⟩
  simp (config := {implicitDefEqProofs := false, maxDischargeDepth := 20}) (disch := first | omega | (simp only [lenE]; done) | (simp only [lenE]; omega) | rfl | (simp only [lenE, markR_len]; done) | (simp only [lenE, markR_len]; omega)) only [runE, mapE, listE, initT_5, initT_6, initT_7, initT_8, resV, oneV, binA, unA, reduceCtorEq, Nat.reduceEqDiff, Nat.reduceAdd, Nat.reduceLT, Nat.reduceLeDiff, Nat.reduceMul, Nat.reduceSub, ↓reduceIte, decide_true, decide_false, Bool.true_eq_false, Bool.false_eq_true, Bool.not_true, Bool.not_false, if_true, if_false, and_true, true_and, memE, celE, w64, Nat.zero_add, Nat.add_zero, Nat.mul_one, putL, and_self, ldn, bne_self_eq_false]
  refine callH_rc (eqIntS_rc _ b b' s.need ((hb.ext _).ext _) ((hb'.ext _).ext _)) ?_
  rintro r new ⟨rfl, rfl⟩
  simp (config := {implicitDefEqProofs := false, maxDischargeDepth := 20}) (disch := first | omega | (simp only [lenE]; done) | (simp only [lenE]; omega) | rfl | (simp only [lenE, markR_len]; done) | (simp only [lenE, markR_len]; omega)) only [runE, mapE, listE, initT_5, initT_6, initT_7, initT_8, resV, oneV, binA, unA, reduceCtorEq, Nat.reduceEqDiff, Nat.reduceAdd, Nat.reduceLT, Nat.reduceLeDiff, Nat.reduceMul, Nat.reduceSub, ↓reduceIte, decide_true, decide_false, Bool.true_eq_false, Bool.false_eq_true, Bool.not_true, Bool.not_false, if_true, if_false, and_true, true_and, memE, celE, w64, Nat.zero_add, Nat.add_zero, Nat.mul_one, putL, and_self, ldn, bne_self_eq_false]
  try simp only [List.append_assoc, List.cons_append, List.nil_append, List.append_nil]
  exact ⟨_, rfl, by (repeat (first | exact noRo_nil | assumption | apply noRo_own | apply noRo_dead | apply noRo_app)), rfl, by (repeat (first | exact noRo_nil | assumption | apply noRo_own | apply noRo_dead | apply noRo_app))⟩
theorem toShelf_rc (m : Mem) (v : Value) (s : Sh) (h : ShA m v s) (l1 : s.arr.length ≤ 1048576) (l2 : s.need.length ≤ 1048576) :
    RC Try.prog 18 [v] m (AnsO m (ShO s) id) := by
  refine rc_of_run mixed ok_laws_toShelf (by simp) (go_start _ _ _ ?_)
  obtain ⟨a, b, rfl, ha, hb⟩ := h.ro
  simp (config := {implicitDefEqProofs := false, maxDischargeDepth := 20}) (disch := first | omega | (simp only [lenE]; done) | (simp only [lenE]; omega) | rfl | (simp only [lenE, markR_len]; done) | (simp only [lenE, markR_len]; omega)) only [runE, mapE, listE, initT_5, initT_6, initT_7, initT_8, resV, oneV, binA, unA, reduceCtorEq, Nat.reduceEqDiff, Nat.reduceAdd, Nat.reduceLT, Nat.reduceLeDiff, Nat.reduceMul, Nat.reduceSub, ↓reduceIte, decide_true, decide_false, Bool.true_eq_false, Bool.false_eq_true, Bool.not_true, Bool.not_false, if_true, if_false, and_true, true_and, memE, celE, w64, Nat.zero_add, Nat.add_zero, Nat.mul_one, putL, and_self, ldn, c_laws_toShelf, r_laws_toShelf]
  refine callH_rc (toIntS_rc _ a s.arr (((ha.ext _).ext _).ext _) l1) ?_
  rintro r new ⟨rfl, rfl⟩
  simp (config := {implicitDefEqProofs := false, maxDischargeDepth := 20}) (disch := first | omega | (simp only [lenE]; done) | (simp only [lenE]; omega) | rfl | (simp only [lenE, markR_len]; done) | (simp only [lenE, markR_len]; omega)) only [runE, mapE, listE, initT_5, initT_6, initT_7, initT_8, resV, oneV, binA, unA, reduceCtorEq, Nat.reduceEqDiff, Nat.reduceAdd, Nat.reduceLT, Nat.reduceLeDiff, Nat.reduceMul, Nat.reduceSub, ↓reduceIte, decide_true, decide_false, Bool.true_eq_false, Bool.false_eq_true, Bool.not_true, Bool.not_false, if_true, if_false, and_true, true_and, memE, celE, w64, Nat.zero_add, Nat.add_zero, Nat.mul_one, putL, and_self, ldn]
  refine callH_rc (toIntS_rc _ b s.need ((((hb.ext _).ext _).ext _).ext _) l2) ?_
  rintro r new ⟨rfl, rfl⟩
  simp (config := {implicitDefEqProofs := false, maxDischargeDepth := 20}) (disch := first | omega | (simp only [lenE]; done) | (simp only [lenE]; omega) | rfl | (simp only [lenE, markR_len]; done) | (simp only [lenE, markR_len]; omega)) only [runE, mapE, listE, initT_5, initT_6, initT_7, initT_8, resV, oneV, binA, unA, reduceCtorEq, Nat.reduceEqDiff, Nat.reduceAdd, Nat.reduceLT, Nat.reduceLeDiff, Nat.reduceMul, Nat.reduceSub, ↓reduceIte, decide_true, decide_false, Bool.true_eq_false, Bool.false_eq_true, Bool.not_true, Bool.not_false, if_true, if_false, and_true, true_and, memE, celE, w64, Nat.zero_add, Nat.add_zero, Nat.mul_one, putL, and_self, ldn]
  obtain ⟨B, hB⟩ : ∃ B : Blk, B = ⟨.own, 27, [.int .i64 s.life, .slice (some ⟨m.length + 1 + 1 + 1, 0, none⟩) s.arr.length 1, .slice (some ⟨m.length + 1 + 1 + 1 + 1, 0, none⟩) s.need.length 1, .int .i64 s.waste, .int .i64 s.lost]⟩ := ⟨_, rfl⟩
  obtain ⟨N, hN⟩ : ∃ N, N = roM m ++ [⟨.own, 24, [.int .i64 s.life, a, b, .int .i64 s.waste, .int .i64 s.lost]⟩] ++ [B] ++ [B] := ⟨_, rfl⟩
  rw [hB] at hN
  rw [← hN]
  have hX : Ext m N := by rw [hN]; exact (((Ext.refl m).one _ _).one _ _).one _ _
  have hL : N.length = m.length + 1 + 1 + 1 := by rw [hN]; simp [roM_len]
  rw [← hL]
  refine ext_ansO (f := _root_.id) (((hX).one _ _).one _ _) fun M' hM => ⟨_, _, N.length + 1, rfl, by omega, by simp, ?_, ?_⟩
  · exact IntsA.ownO (OwnR.at_ (((OwnR.here N s.arr _ rfl)).ext _) (hM _ (by omega) (by simp))) l1 (by omega) (by omega)
  · exact IntsA.ownO (OwnR.at_ (OwnR.here _ s.need _ (by simp)) (hM _ (by omega) (by simp))) l2 (by omega) (by simp)
theorem OwnB.but {M M' : Mem} {id lo hi : Nat} {e : TypeId} {cs : List Value} (h : OwnB M id e cs) (hb : But lo hi M M') (hd : id < lo ∨ hi ≤ id) : OwnB M' id e cs := h.at_ (hb.2 id h.lt hd)
theorem markShelf_ac (m : Mem) (lo hi : Nat) (v : Value) (s : Sh) (k0 : Int) (h : Lv lo hi m fun M => ShO s lo hi M v) (h0 : 0 ≤ k0) (h1 : k0 ≤ 68000000000) :
    AC Try.prog 28 [v, .int .i64 k0] m fun r m' => r = .int .i64 (k0 + ((s.arr.length : Int) + s.need.length)) ∧ But lo hi m m' := by
  refine ac_of_run mixed ok_laws_markShelf (by simp) (go_start _ _ _ ?_)
  obtain ⟨a, b, p, rfl, e1, e2, ha, hb⟩ := h.now
  have s1 := ha.1
  have s2 := hb.1
  have hm := h.2.1
  have hb0 : OwnB (m ++ [⟨.own, 27, [.int .i64 s.life, a, b, .int .i64 s.waste, .int .i64 s.lost]⟩]) m.length 27 [.int .i64 s.life, a, b, .int .i64 s.waste, .int .i64 s.lost] := OwnB.here rfl
  have La := (ha.lv (by omega)).ext [⟨.own, 27, [.int .i64 s.life, a, b, .int .i64 s.waste, .int .i64 s.lost]⟩]
  have Lb := (hb.lv (by omega)).ext [⟨.own, 27, [.int .i64 s.life, a, b, .int .i64 s.waste, .int .i64 s.lost]⟩]
  simp (config := {implicitDefEqProofs := false, maxDischargeDepth := 20}) (disch := first | omega | (simp only [lenE]; done) | (simp only [lenE]; omega) | rfl | (simp only [lenE, markR_len]; done) | (simp only [lenE, markR_len]; omega)) only [runE, mapE, listE, initT_5, initT_6, initT_7, initT_8, resV, oneV, binA, unA, reduceCtorEq, Nat.reduceEqDiff, Nat.reduceAdd, Nat.reduceLT, Nat.reduceLeDiff, Nat.reduceMul, Nat.reduceSub, ↓reduceIte, decide_true, decide_false, Bool.true_eq_false, Bool.false_eq_true, Bool.not_true, Bool.not_false, if_true, if_false, and_true, true_and, memE, celE, w64, Nat.zero_add, Nat.add_zero, Nat.mul_one, putL, and_self, ldn, c_laws_markShelf, r_laws_markShelf]
  refine callH_ac (markIntsO_ac _ lo p a s.arr k0 La h0 (by omega)) ?_
  rintro r m1 ⟨rfl, B1, -⟩
  replace hb0 := hb0.but B1 (by omega)
  replace Lb := Lb.but B1 (by omega)
  simp (config := {implicitDefEqProofs := false, maxDischargeDepth := 20}) (disch := first | omega | (simp only [lenE]; done) | (simp only [lenE]; omega) | rfl | (simp only [lenE, markR_len]; done) | (simp only [lenE, markR_len]; omega)) only [runE, mapE, listE, initT_5, initT_6, initT_7, initT_8, resV, oneV, binA, unA, reduceCtorEq, Nat.reduceEqDiff, Nat.reduceAdd, Nat.reduceLT, Nat.reduceLeDiff, Nat.reduceMul, Nat.reduceSub, ↓reduceIte, decide_true, decide_false, Bool.true_eq_false, Bool.false_eq_true, Bool.not_true, Bool.not_false, if_true, if_false, and_true, true_and, memE, celE, w64, Nat.zero_add, Nat.add_zero, Nat.mul_one, putL, and_self, ldn, hb0.rd]
  refine callH_ac (markIntsO_ac _ p hi b s.need _ Lb (by omega) (by omega)) ?_
  rintro r m2 ⟨rfl, B2, -⟩
  simp (config := {implicitDefEqProofs := false, maxDischargeDepth := 20}) (disch := first | omega | (simp only [lenE]; done) | (simp only [lenE]; omega) | rfl | (simp only [lenE, markR_len]; done) | (simp only [lenE, markR_len]; omega)) only [runE, mapE, listE, initT_5, initT_6, initT_7, initT_8, resV, oneV, binA, unA, reduceCtorEq, Nat.reduceEqDiff, Nat.reduceAdd, Nat.reduceLT, Nat.reduceLeDiff, Nat.reduceMul, Nat.reduceSub, ↓reduceIte, decide_true, decide_false, Bool.true_eq_false, Bool.false_eq_true, Bool.not_true, Bool.not_false, if_true, if_false, and_true, true_and, memE, celE, w64, Nat.zero_add, Nat.add_zero, Nat.mul_one, putL, and_self, ldn]
  refine ⟨by congr 1; omega, ?_⟩
  exact ((B1.wider (Nat.le_refl _) (by omega)).trans (B2.wider (by omega) (Nat.le_refl _))).base
end Go.Proofs.Ytihjcjhnkpkomaa.Ab
