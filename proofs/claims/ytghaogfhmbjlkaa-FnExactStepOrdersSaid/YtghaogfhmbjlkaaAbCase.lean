/- Cases: four slices of numbers; the laws' helpers szCase, toCase, eqCase, markCase, heldCase. -/
import Derived.Test.YtghaogfhmbjlkaaAbInt
import Derived.Test.YtghaogfhmbjlkaaLotMath
namespace Go.Proofs.Ytghaogfhmbjlkaa.Ab
open Go Go.RowKit
set_option linter.unusedVariables false
set_option linter.unusedSimpArgs false

/-- A new row of numbers. -/
abbrev rowB (l : List Int) : Blk := ⟨.own, 3, l.map (Value.int .i64)⟩
/-- The marks from k0 on, in a row. -/
def markR (m : Mem) (id : Nat) (k0 : Int) (n : Nat) : Mem := m.set id (rowB (imarks k0 n))
theorem markR_len (m : Mem) (id : Nat) (k0 : Int) (n : Nat) : (markR m id k0 n).length = m.length := by simp [markR]

/-- A Case, somewhere. -/
structure CaseA (m : Mem) (v : Value) (k : Cs) : Prop where
  ok : ∃ v1 v2 v3 v4, v = .agg #[v1, v2, v3, v4] ∧ IntsA m v1 k.need ∧ IntsA m v2 k.setup ∧ IntsA m v3 k.unit ∧ IntsA m v4 k.hold
theorem CaseA.ext {m : Mem} {v : Value} {k : Cs} (h : CaseA m v k) (new : Mem) : CaseA (m ++ new) v k := by
  obtain ⟨v1, v2, v3, v4, h0, h1, h2, h3, h4⟩ := h.ok
  exact ⟨v1, v2, v3, v4, h0, h1.ext new, h2.ext new, h3.ext new, h4.ext new⟩
theorem CaseA.ro {m : Mem} {v : Value} {k : Cs} (h : CaseA m v k) : CaseA (roM m) v k := by
  obtain ⟨v1, v2, v3, v4, h0, h1, h2, h3, h4⟩ := h.ok
  exact ⟨v1, v2, v3, v4, h0, h1.ro, h2.ro, h3.ro, h4.ro⟩
def _root_.Go.Proofs.Ytghaogfhmbjlkaa.Cs.tot (k : Cs) : Int := k.need.length + k.setup.length + k.unit.length + k.hold.length
def _root_.Go.Proofs.Ytghaogfhmbjlkaa.Cs.small (k : Cs) : Prop := k.need.length ≤ 1048576 ∧ k.setup.length ≤ 1048576 ∧ k.unit.length ≤ 1048576 ∧ k.hold.length ≤ 1048576

theorem szCase_rc (m : Mem) (v : Value) (k : Cs) (h : CaseA m v k) :
    RC Try.prog 9 [v, .int .i64 1048576] m fun r new => NoRo new ∧ ((r = .int .i64 (-1)) ∨ (∃ x : Int, 0 ≤ x ∧ x ≤ 1048576 ∧ r = .int .i64 x ∧ k.small)) := by
  refine rc_of_run mixed ok_laws_szCase (by simp) (go_start _ _ _ ?_)
  obtain ⟨v1, v2, v3, v4, rfl, h1, h2, h3, h4⟩ := h.ro.ok
  have fin : ∀ (b : Blk) (r : Value), b.kd = .own → ((r = .int .i64 (-1)) ∨ (∃ x : Int, 0 ≤ x ∧ x ≤ 1048576 ∧ r = .int .i64 x ∧ k.small)) → newQ m (fun r new => NoRo new ∧ ((r = .int .i64 (-1)) ∨ (∃ x : Int, 0 ≤ x ∧ x ≤ 1048576 ∧ r = .int .i64 x ∧ k.small))) r (roM m ++ [b]) :=
    fun b r hb hr => ⟨[b], rfl, by intro c hc; simp at hc; subst hc; rw [hb]; simp, by intro c hc; simp at hc; subst hc; rw [hb]; simp, hr⟩
  simp (config := {implicitDefEqProofs := false, maxDischargeDepth := 20}) (disch := first | omega | (simp only [lenE]; done) | (simp only [lenE]; omega) | rfl | (simp only [lenE, markR_len]; done) | (simp only [lenE, markR_len]; omega)) only [runE, mapE, listE, initT_5, initT_6, initT_7, initT_8, resV, oneV, binA, unA, reduceCtorEq, Nat.reduceEqDiff, Nat.reduceAdd, Nat.reduceLT, Nat.reduceLeDiff, Nat.reduceMul, Nat.reduceSub, ↓reduceIte, decide_true, decide_false, Bool.true_eq_false, Bool.false_eq_true, Bool.not_true, Bool.not_false, if_true, if_false, and_true, true_and, memE, celE, w64, Nat.zero_add, Nat.add_zero, Nat.mul_one, putL, and_self, ldn, c_laws_szCase, r_laws_szCase]
  refine callH_rc (szIntS_rc _ v1 k.need 1048576 (h1.ext _) (by omega) (by omega)) ?_
  rintro r new ⟨rfl, rfl⟩
  by_cases g1 : (1048576 : Int) - k.need.length < 0
  · rw [if_pos g1]
    simp (config := {implicitDefEqProofs := false, maxDischargeDepth := 20}) (disch := first | omega | (simp only [lenE]; done) | (simp only [lenE]; omega) | rfl | (simp only [lenE, markR_len]; done) | (simp only [lenE, markR_len]; omega)) only [runE, mapE, listE, initT_5, initT_6, initT_7, initT_8, resV, oneV, binA, unA, reduceCtorEq, Nat.reduceEqDiff, Nat.reduceAdd, Nat.reduceLT, Nat.reduceLeDiff, Nat.reduceMul, Nat.reduceSub, ↓reduceIte, decide_true, decide_false, Bool.true_eq_false, Bool.false_eq_true, Bool.not_true, Bool.not_false, if_true, if_false, and_true, true_and, memE, celE, w64, Nat.zero_add, Nat.add_zero, Nat.mul_one, putL, and_self, ldn, show ((-1 : Int) < 0) = True by simp]
    exact fin _ _ rfl (.inl rfl)
  · rw [if_neg g1]
    simp (config := {implicitDefEqProofs := false, maxDischargeDepth := 20}) (disch := first | omega | (simp only [lenE]; done) | (simp only [lenE]; omega) | rfl | (simp only [lenE, markR_len]; done) | (simp only [lenE, markR_len]; omega)) only [runE, mapE, listE, initT_5, initT_6, initT_7, initT_8, resV, oneV, binA, unA, reduceCtorEq, Nat.reduceEqDiff, Nat.reduceAdd, Nat.reduceLT, Nat.reduceLeDiff, Nat.reduceMul, Nat.reduceSub, ↓reduceIte, decide_true, decide_false, Bool.true_eq_false, Bool.false_eq_true, Bool.not_true, Bool.not_false, if_true, if_false, and_true, true_and, memE, celE, w64, Nat.zero_add, Nat.add_zero, Nat.mul_one, putL, and_self, ldn, g1]
    refine callH_rc (szIntS_rc _ v2 k.setup _ (h2.ext _) (by omega) (by omega)) ?_
    rintro r new ⟨rfl, rfl⟩
    by_cases g2 : (1048576 : Int) - k.need.length - k.setup.length < 0
    · rw [if_pos g2]
      simp (config := {implicitDefEqProofs := false, maxDischargeDepth := 20}) (disch := first | omega | (simp only [lenE]; done) | (simp only [lenE]; omega) | rfl | (simp only [lenE, markR_len]; done) | (simp only [lenE, markR_len]; omega)) only [runE, mapE, listE, initT_5, initT_6, initT_7, initT_8, resV, oneV, binA, unA, reduceCtorEq, Nat.reduceEqDiff, Nat.reduceAdd, Nat.reduceLT, Nat.reduceLeDiff, Nat.reduceMul, Nat.reduceSub, ↓reduceIte, decide_true, decide_false, Bool.true_eq_false, Bool.false_eq_true, Bool.not_true, Bool.not_false, if_true, if_false, and_true, true_and, memE, celE, w64, Nat.zero_add, Nat.add_zero, Nat.mul_one, putL, and_self, ldn, show ((-1 : Int) < 0) = True by simp]
      exact fin _ _ rfl (.inl rfl)
    · rw [if_neg g2]
      simp (config := {implicitDefEqProofs := false, maxDischargeDepth := 20}) (disch := first | omega | (simp only [lenE]; done) | (simp only [lenE]; omega) | rfl | (simp only [lenE, markR_len]; done) | (simp only [lenE, markR_len]; omega)) only [runE, mapE, listE, initT_5, initT_6, initT_7, initT_8, resV, oneV, binA, unA, reduceCtorEq, Nat.reduceEqDiff, Nat.reduceAdd, Nat.reduceLT, Nat.reduceLeDiff, Nat.reduceMul, Nat.reduceSub, ↓reduceIte, decide_true, decide_false, Bool.true_eq_false, Bool.false_eq_true, Bool.not_true, Bool.not_false, if_true, if_false, and_true, true_and, memE, celE, w64, Nat.zero_add, Nat.add_zero, Nat.mul_one, putL, and_self, ldn, g2]
      refine callH_rc (szIntS_rc _ v3 k.unit _ (h3.ext _) (by omega) (by omega)) ?_
      rintro r new ⟨rfl, rfl⟩
      by_cases g3 : (1048576 : Int) - k.need.length - k.setup.length - k.unit.length < 0
      · rw [if_pos g3]
        simp (config := {implicitDefEqProofs := false, maxDischargeDepth := 20}) (disch := first | omega | (simp only [lenE]; done) | (simp only [lenE]; omega) | rfl | (simp only [lenE, markR_len]; done) | (simp only [lenE, markR_len]; omega)) only [runE, mapE, listE, initT_5, initT_6, initT_7, initT_8, resV, oneV, binA, unA, reduceCtorEq, Nat.reduceEqDiff, Nat.reduceAdd, Nat.reduceLT, Nat.reduceLeDiff, Nat.reduceMul, Nat.reduceSub, ↓reduceIte, decide_true, decide_false, Bool.true_eq_false, Bool.false_eq_true, Bool.not_true, Bool.not_false, if_true, if_false, and_true, true_and, memE, celE, w64, Nat.zero_add, Nat.add_zero, Nat.mul_one, putL, and_self, ldn, show ((-1 : Int) < 0) = True by simp]
        exact fin _ _ rfl (.inl rfl)
      · rw [if_neg g3]
        simp (config := {implicitDefEqProofs := false, maxDischargeDepth := 20}) (disch := first | omega | (simp only [lenE]; done) | (simp only [lenE]; omega) | rfl | (simp only [lenE, markR_len]; done) | (simp only [lenE, markR_len]; omega)) only [runE, mapE, listE, initT_5, initT_6, initT_7, initT_8, resV, oneV, binA, unA, reduceCtorEq, Nat.reduceEqDiff, Nat.reduceAdd, Nat.reduceLT, Nat.reduceLeDiff, Nat.reduceMul, Nat.reduceSub, ↓reduceIte, decide_true, decide_false, Bool.true_eq_false, Bool.false_eq_true, Bool.not_true, Bool.not_false, if_true, if_false, and_true, true_and, memE, celE, w64, Nat.zero_add, Nat.add_zero, Nat.mul_one, putL, and_self, ldn, g3]
        refine callH_rc (szIntS_rc _ v4 k.hold _ (h4.ext _) (by omega) (by omega)) ?_
        rintro r new ⟨rfl, rfl⟩
        by_cases g4 : (1048576 : Int) - k.need.length - k.setup.length - k.unit.length - k.hold.length < 0
        · rw [if_pos g4]
          simp (config := {implicitDefEqProofs := false, maxDischargeDepth := 20}) (disch := first | omega | (simp only [lenE]; done) | (simp only [lenE]; omega) | rfl | (simp only [lenE, markR_len]; done) | (simp only [lenE, markR_len]; omega)) only [runE, mapE, listE, initT_5, initT_6, initT_7, initT_8, resV, oneV, binA, unA, reduceCtorEq, Nat.reduceEqDiff, Nat.reduceAdd, Nat.reduceLT, Nat.reduceLeDiff, Nat.reduceMul, Nat.reduceSub, ↓reduceIte, decide_true, decide_false, Bool.true_eq_false, Bool.false_eq_true, Bool.not_true, Bool.not_false, if_true, if_false, and_true, true_and, memE, celE, w64, Nat.zero_add, Nat.add_zero, Nat.mul_one, putL, and_self, ldn, show ((-1 : Int) < 0) = True by simp]
          exact fin _ _ rfl (.inl rfl)
        · rw [if_neg g4]
          simp (config := {implicitDefEqProofs := false, maxDischargeDepth := 20}) (disch := first | omega | (simp only [lenE]; done) | (simp only [lenE]; omega) | rfl | (simp only [lenE, markR_len]; done) | (simp only [lenE, markR_len]; omega)) only [runE, mapE, listE, initT_5, initT_6, initT_7, initT_8, resV, oneV, binA, unA, reduceCtorEq, Nat.reduceEqDiff, Nat.reduceAdd, Nat.reduceLT, Nat.reduceLeDiff, Nat.reduceMul, Nat.reduceSub, ↓reduceIte, decide_true, decide_false, Bool.true_eq_false, Bool.false_eq_true, Bool.not_true, Bool.not_false, if_true, if_false, and_true, true_and, memE, celE, w64, Nat.zero_add, Nat.add_zero, Nat.mul_one, putL, and_self, ldn, g4]
          exact fin _ _ rfl (.inr ⟨_, by omega, by omega, rfl, by unfold Cs.small; omega⟩)

theorem eqCase_rc (m : Mem) (v u : Value) (k : Cs) (h : CaseA m v k) (h' : CaseA m u k) : RC Try.prog 13 [v, u] m fun r new => r = .bool true ∧ NoRo new := by
  refine rc_of_run mixed ok_laws_eqCase (by simp) (go_start _ _ _ ?_)
  obtain ⟨v1, v2, v3, v4, rfl, h1, h2, h3, h4⟩ := h.ro.ok
  obtain ⟨u1, u2, u3, u4, rfl, d1, d2, d3, d4⟩ := h'.ro.ok
  simp (config := {implicitDefEqProofs := false, maxDischargeDepth := 20}) (disch := first | omega | (simp only [lenE]; done) | (simp only [lenE]; omega) | rfl | (simp only [lenE, markR_len]; done) | (simp only [lenE, markR_len]; omega)) only [runE, mapE, listE, initT_5, initT_6, initT_7, initT_8, resV, oneV, binA, unA, reduceCtorEq, Nat.reduceEqDiff, Nat.reduceAdd, Nat.reduceLT, Nat.reduceLeDiff, Nat.reduceMul, Nat.reduceSub, ↓reduceIte, decide_true, decide_false, Bool.true_eq_false, Bool.false_eq_true, Bool.not_true, Bool.not_false, if_true, if_false, and_true, true_and, memE, celE, w64, Nat.zero_add, Nat.add_zero, Nat.mul_one, putL, and_self, ldn, c_laws_eqCase, r_laws_eqCase]
  refine callH_rc (eqIntS_rc _ v1 u1 k.need ((h1.ext _).ext _) ((d1.ext _).ext _)) ?_
  rintro r new ⟨rfl, rfl⟩
  simp (config := {implicitDefEqProofs := false, maxDischargeDepth := 20}) (disch := first | omega | (simp only [lenE]; done) | (simp only [lenE]; omega) | rfl | (simp only [lenE, markR_len]; done) | (simp only [lenE, markR_len]; omega)) only [runE, mapE, listE, initT_5, initT_6, initT_7, initT_8, resV, oneV, binA, unA, reduceCtorEq, Nat.reduceEqDiff, Nat.reduceAdd, Nat.reduceLT, Nat.reduceLeDiff, Nat.reduceMul, Nat.reduceSub, ↓reduceIte, decide_true, decide_false, Bool.true_eq_false, Bool.false_eq_true, Bool.not_true, Bool.not_false, if_true, if_false, and_true, true_and, memE, celE, w64, Nat.zero_add, Nat.add_zero, Nat.mul_one, putL, and_self, ldn]
  refine callH_rc (eqIntS_rc _ v2 u2 k.setup ((h2.ext _).ext _) ((d2.ext _).ext _)) ?_
  rintro r new ⟨rfl, rfl⟩
  simp (config := {implicitDefEqProofs := false, maxDischargeDepth := 20}) (disch := first | omega | (simp only [lenE]; done) | (simp only [lenE]; omega) | rfl | (simp only [lenE, markR_len]; done) | (simp only [lenE, markR_len]; omega)) only [runE, mapE, listE, initT_5, initT_6, initT_7, initT_8, resV, oneV, binA, unA, reduceCtorEq, Nat.reduceEqDiff, Nat.reduceAdd, Nat.reduceLT, Nat.reduceLeDiff, Nat.reduceMul, Nat.reduceSub, ↓reduceIte, decide_true, decide_false, Bool.true_eq_false, Bool.false_eq_true, Bool.not_true, Bool.not_false, if_true, if_false, and_true, true_and, memE, celE, w64, Nat.zero_add, Nat.add_zero, Nat.mul_one, putL, and_self, ldn]
  refine callH_rc (eqIntS_rc _ v3 u3 k.unit ((h3.ext _).ext _) ((d3.ext _).ext _)) ?_
  rintro r new ⟨rfl, rfl⟩
  simp (config := {implicitDefEqProofs := false, maxDischargeDepth := 20}) (disch := first | omega | (simp only [lenE]; done) | (simp only [lenE]; omega) | rfl | (simp only [lenE, markR_len]; done) | (simp only [lenE, markR_len]; omega)) only [runE, mapE, listE, initT_5, initT_6, initT_7, initT_8, resV, oneV, binA, unA, reduceCtorEq, Nat.reduceEqDiff, Nat.reduceAdd, Nat.reduceLT, Nat.reduceLeDiff, Nat.reduceMul, Nat.reduceSub, ↓reduceIte, decide_true, decide_false, Bool.true_eq_false, Bool.false_eq_true, Bool.not_true, Bool.not_false, if_true, if_false, and_true, true_and, memE, celE, w64, Nat.zero_add, Nat.add_zero, Nat.mul_one, putL, and_self, ldn]
  refine callH_rc (eqIntS_rc _ v4 u4 k.hold ((h4.ext _).ext _) ((d4.ext _).ext _)) ?_
  rintro r new ⟨rfl, rfl⟩
  simp (config := {implicitDefEqProofs := false, maxDischargeDepth := 20}) (disch := first | omega | (simp only [lenE]; done) | (simp only [lenE]; omega) | rfl | (simp only [lenE, markR_len]; done) | (simp only [lenE, markR_len]; omega)) only [runE, mapE, listE, initT_5, initT_6, initT_7, initT_8, resV, oneV, binA, unA, reduceCtorEq, Nat.reduceEqDiff, Nat.reduceAdd, Nat.reduceLT, Nat.reduceLeDiff, Nat.reduceMul, Nat.reduceSub, ↓reduceIte, decide_true, decide_false, Bool.true_eq_false, Bool.false_eq_true, Bool.not_true, Bool.not_false, if_true, if_false, and_true, true_and, memE, celE, w64, Nat.zero_add, Nat.add_zero, Nat.mul_one, putL, and_self, ldn]
  refine ⟨_, by rw [List.append_assoc], ?_, rfl, ?_⟩ <;> (intro b hb; simp at hb; rcases hb with rfl | rfl <;> simp)

abbrev slB (id n : Nat) : Value := .slice (some ⟨id, 0, none⟩) n 1
theorem toCase_rc (m : Mem) (v : Value) (k : Cs) (h : CaseA m v k) (hs : k.small) :
    RC Try.prog 11 [v] m fun r new => r = .agg #[slB (m.length + 3) k.need.length, slB (m.length + 4) k.setup.length, slB (m.length + 5) k.unit.length, slB (m.length + 6) k.hold.length] ∧
      ∃ b0 b1 b2 : Blk, new = [b0, b1, b2, rowB k.need, rowB k.setup, rowB k.unit, rowB k.hold] ∧ b0.kd = .own ∧ b1.kd = .own ∧ b2.kd = .own := by
  refine rc_of_run mixed ok_laws_toCase (by simp) (go_start _ _ _ ?_)
  obtain ⟨v1, v2, v3, v4, rfl, h1, h2, h3, h4⟩ := h.ro.ok
  obtain ⟨s1, s2, s3, s4⟩ := hs
  simp (config := {implicitDefEqProofs := false, maxDischargeDepth := 20}) (disch := first | omega | (simp only [lenE]; done) | (simp only [lenE]; omega) | rfl | (simp only [lenE, markR_len]; done) | (simp only [lenE, markR_len]; omega)) only [runE, mapE, listE, initT_5, initT_6, initT_7, initT_8, resV, oneV, binA, unA, reduceCtorEq, Nat.reduceEqDiff, Nat.reduceAdd, Nat.reduceLT, Nat.reduceLeDiff, Nat.reduceMul, Nat.reduceSub, ↓reduceIte, decide_true, decide_false, Bool.true_eq_false, Bool.false_eq_true, Bool.not_true, Bool.not_false, if_true, if_false, and_true, true_and, memE, celE, w64, Nat.zero_add, Nat.add_zero, Nat.mul_one, putL, and_self, ldn, c_laws_toCase, r_laws_toCase]
  refine callH_rc (toIntS_rc _ v1 k.need (((h1.ext _).ext _).ext _) s1) ?_
  rintro r new ⟨rfl, rfl⟩
  simp (config := {implicitDefEqProofs := false, maxDischargeDepth := 20}) (disch := first | omega | (simp only [lenE]; done) | (simp only [lenE]; omega) | rfl | (simp only [lenE, markR_len]; done) | (simp only [lenE, markR_len]; omega)) only [runE, mapE, listE, initT_5, initT_6, initT_7, initT_8, resV, oneV, binA, unA, reduceCtorEq, Nat.reduceEqDiff, Nat.reduceAdd, Nat.reduceLT, Nat.reduceLeDiff, Nat.reduceMul, Nat.reduceSub, ↓reduceIte, decide_true, decide_false, Bool.true_eq_false, Bool.false_eq_true, Bool.not_true, Bool.not_false, if_true, if_false, and_true, true_and, memE, celE, w64, Nat.zero_add, Nat.add_zero, Nat.mul_one, putL, and_self, ldn]
  refine callH_rc (toIntS_rc _ v2 k.setup ((((h2.ext _).ext _).ext _).ext _) s2) ?_
  rintro r new ⟨rfl, rfl⟩
  simp (config := {implicitDefEqProofs := false, maxDischargeDepth := 20}) (disch := first | omega | (simp only [lenE]; done) | (simp only [lenE]; omega) | rfl | (simp only [lenE, markR_len]; done) | (simp only [lenE, markR_len]; omega)) only [runE, mapE, listE, initT_5, initT_6, initT_7, initT_8, resV, oneV, binA, unA, reduceCtorEq, Nat.reduceEqDiff, Nat.reduceAdd, Nat.reduceLT, Nat.reduceLeDiff, Nat.reduceMul, Nat.reduceSub, ↓reduceIte, decide_true, decide_false, Bool.true_eq_false, Bool.false_eq_true, Bool.not_true, Bool.not_false, if_true, if_false, and_true, true_and, memE, celE, w64, Nat.zero_add, Nat.add_zero, Nat.mul_one, putL, and_self, ldn]
  refine callH_rc (toIntS_rc _ v3 k.unit (((((h3.ext _).ext _).ext _).ext _).ext _) s3) ?_
  rintro r new ⟨rfl, rfl⟩
  simp (config := {implicitDefEqProofs := false, maxDischargeDepth := 20}) (disch := first | omega | (simp only [lenE]; done) | (simp only [lenE]; omega) | rfl | (simp only [lenE, markR_len]; done) | (simp only [lenE, markR_len]; omega)) only [runE, mapE, listE, initT_5, initT_6, initT_7, initT_8, resV, oneV, binA, unA, reduceCtorEq, Nat.reduceEqDiff, Nat.reduceAdd, Nat.reduceLT, Nat.reduceLeDiff, Nat.reduceMul, Nat.reduceSub, ↓reduceIte, decide_true, decide_false, Bool.true_eq_false, Bool.false_eq_true, Bool.not_true, Bool.not_false, if_true, if_false, and_true, true_and, memE, celE, w64, Nat.zero_add, Nat.add_zero, Nat.mul_one, putL, and_self, ldn]
  refine callH_rc (toIntS_rc _ v4 k.hold ((((((h4.ext _).ext _).ext _).ext _).ext _).ext _) s4) ?_
  rintro r new ⟨rfl, rfl⟩
  simp (config := {implicitDefEqProofs := false, maxDischargeDepth := 20}) (disch := first | omega | (simp only [lenE]; done) | (simp only [lenE]; omega) | rfl | (simp only [lenE, markR_len]; done) | (simp only [lenE, markR_len]; omega)) only [runE, mapE, listE, initT_5, initT_6, initT_7, initT_8, resV, oneV, binA, unA, reduceCtorEq, Nat.reduceEqDiff, Nat.reduceAdd, Nat.reduceLT, Nat.reduceLeDiff, Nat.reduceMul, Nat.reduceSub, ↓reduceIte, decide_true, decide_false, Bool.true_eq_false, Bool.false_eq_true, Bool.not_true, Bool.not_false, if_true, if_false, and_true, true_and, memE, celE, w64, Nat.zero_add, Nat.add_zero, Nat.mul_one, putL, and_self, ldn]
  try simp only [List.append_assoc, List.cons_append, List.nil_append, List.append_nil]
  exact ⟨_, rfl, by (repeat (first | exact noRo_nil | assumption | apply noRo_own | apply noRo_dead | apply noRo_app)), rfl, _, _, _, rfl, rfl, rfl, rfl⟩

/-- A row of one's own. -/
def OwnR (m : Mem) (id : Nat) (l : List Int) : Prop := m[id]? = some (rowB l)
theorem OwnR.lt {m : Mem} {id : Nat} {l : List Int} (h : OwnR m id l) : id < m.length := (List.getElem?_eq_some_iff.1 h).1
theorem OwnR.ext {m : Mem} {id : Nat} {l : List Int} (h : OwnR m id l) (new : Mem) : OwnR (m ++ new) id l := by
  unfold OwnR; rw [List.getElem?_append_left h.lt]; exact h
theorem OwnR.ints {m : Mem} {id : Nat} {l : List Int} (h : OwnR m id l) (hb : l.length ≤ 9223372036854775807) (fl : Nat) : IntsA m (.slice (some ⟨id, 0, none⟩) l.length fl) l := by
  refine IntsA.of_block hb (fun k hk => ?_) ?_
  · unfold rdc
    rw [show m[id]? = some (rowB l) from h]
    simp [hk]
  · unfold rdl
    rw [show m[id]? = some (rowB l) from h]
    simp [List.take_of_length_le]
theorem markR_ext {m new : Mem} {id : Nat} (k0 : Int) (n : Nat) (h : id < m.length) : markR (m ++ new) id k0 n = markR m id k0 n ++ new := by
  unfold markR; rw [List.set_append_left _ _ h]
theorem OwnR.marked {m : Mem} {id : Nat} (k0 : Int) (n : Nat) (h : id < m.length) : OwnR (markR m id k0 n) id (imarks k0 n) := by
  unfold OwnR markR; rw [List.getElem?_set_self h]
theorem OwnR.other {m : Mem} {id id' : Nat} {l : List Int} (k0 : Int) (n : Nat) (h : OwnR m id' l) (hne : id ≠ id') : OwnR (markR m id k0 n) id' l := by
  unfold OwnR markR; rw [List.getElem?_set_ne hne]; exact h

theorem markIntS_any (m : Mem) (id fl : Nat) (l : List Int) (k0 : Int) (h : OwnR m id l) (h0 : 0 ≤ k0) (h1 : k0 ≤ 1099511627776) (hl : l.length ≤ 1099511627776) :
    AC Try.prog 24 [.slice (some ⟨id, 0, none⟩) l.length fl, .int .i64 k0] m fun r m' => r = .int .i64 (k0 + l.length) ∧ m' = markR m id k0 l.length :=
  markIntS_ac m id fl _ l k0 h h0 h1 hl

theorem markCase_ac (m : Mem) (i1 i2 i3 i4 f1 f2 f3 f4 : Nat) (k : Cs) (k0 : Int) (h1 : OwnR m i1 k.need) (h2 : OwnR m i2 k.setup) (h3 : OwnR m i3 k.unit) (h4 : OwnR m i4 k.hold)
    (d12 : i1 ≠ i2) (d13 : i1 ≠ i3) (d14 : i1 ≠ i4) (d23 : i2 ≠ i3) (d24 : i2 ≠ i4) (d34 : i3 ≠ i4) (g0 : 0 ≤ k0) (g1 : k0 ≤ 68719476736) (hs : k.small) :
    AC Try.prog 14 [.agg #[.slice (some ⟨i1, 0, none⟩) k.need.length f1, .slice (some ⟨i2, 0, none⟩) k.setup.length f2, .slice (some ⟨i3, 0, none⟩) k.unit.length f3, .slice (some ⟨i4, 0, none⟩) k.hold.length f4], .int .i64 k0] m
      fun r m' => r = .int .i64 (k0 + k.tot) ∧ ∃ b : Blk, m' = markR (markR (markR (markR m i1 k0 k.need.length) i2 (k0 + k.need.length) k.setup.length) i3 (k0 + k.need.length + k.setup.length) k.unit.length) i4 (k0 + k.need.length + k.setup.length + k.unit.length) k.hold.length ++ [b] := by
  refine ac_of_run mixed ok_laws_markCase (by simp) (go_start _ _ _ ?_)
  obtain ⟨s1, s2, s3, s4⟩ := hs
  have l1 := h1.lt
  have l2 := h2.lt
  have l3 := h3.lt
  have l4 := h4.lt
  simp (config := {implicitDefEqProofs := false, maxDischargeDepth := 20}) (disch := first | omega | (simp only [lenE]; done) | (simp only [lenE]; omega) | rfl | (simp only [lenE, markR_len]; done) | (simp only [lenE, markR_len]; omega)) only [runE, mapE, listE, initT_5, initT_6, initT_7, initT_8, resV, oneV, binA, unA, reduceCtorEq, Nat.reduceEqDiff, Nat.reduceAdd, Nat.reduceLT, Nat.reduceLeDiff, Nat.reduceMul, Nat.reduceSub, ↓reduceIte, decide_true, decide_false, Bool.true_eq_false, Bool.false_eq_true, Bool.not_true, Bool.not_false, if_true, if_false, and_true, true_and, memE, celE, w64, Nat.zero_add, Nat.add_zero, Nat.mul_one, putL, and_self, ldn, c_laws_markCase, r_laws_markCase]
  refine callH_ac (markIntS_any _ i1 f1 k.need k0 (h1.ext _) (by omega) (by omega) (by omega)) ?_
  rintro r m' ⟨rfl, rfl⟩
  rw [markR_ext _ _ l1]
  simp (config := {implicitDefEqProofs := false, maxDischargeDepth := 20}) (disch := first | omega | (simp only [lenE]; done) | (simp only [lenE]; omega) | rfl | (simp only [lenE, markR_len]; done) | (simp only [lenE, markR_len]; omega)) only [runE, mapE, listE, initT_5, initT_6, initT_7, initT_8, resV, oneV, binA, unA, reduceCtorEq, Nat.reduceEqDiff, Nat.reduceAdd, Nat.reduceLT, Nat.reduceLeDiff, Nat.reduceMul, Nat.reduceSub, ↓reduceIte, decide_true, decide_false, Bool.true_eq_false, Bool.false_eq_true, Bool.not_true, Bool.not_false, if_true, if_false, and_true, true_and, memE, celE, w64, Nat.zero_add, Nat.add_zero, Nat.mul_one, putL, and_self, ldn, markR_len]
  refine callH_ac (markIntS_any _ i2 f2 k.setup _ ((h2.other _ _ d12).ext _) (by omega) (by omega) (by omega)) ?_
  rintro r m' ⟨rfl, rfl⟩
  rw [markR_ext _ _ (by rw [markR_len]; exact l2)]
  simp (config := {implicitDefEqProofs := false, maxDischargeDepth := 20}) (disch := first | omega | (simp only [lenE]; done) | (simp only [lenE]; omega) | rfl | (simp only [lenE, markR_len]; done) | (simp only [lenE, markR_len]; omega)) only [runE, mapE, listE, initT_5, initT_6, initT_7, initT_8, resV, oneV, binA, unA, reduceCtorEq, Nat.reduceEqDiff, Nat.reduceAdd, Nat.reduceLT, Nat.reduceLeDiff, Nat.reduceMul, Nat.reduceSub, ↓reduceIte, decide_true, decide_false, Bool.true_eq_false, Bool.false_eq_true, Bool.not_true, Bool.not_false, if_true, if_false, and_true, true_and, memE, celE, w64, Nat.zero_add, Nat.add_zero, Nat.mul_one, putL, and_self, ldn, markR_len]
  refine callH_ac (markIntS_any _ i3 f3 k.unit _ (((h3.other _ _ d13).other _ _ d23).ext _) (by omega) (by omega) (by omega)) ?_
  rintro r m' ⟨rfl, rfl⟩
  rw [markR_ext _ _ (by rw [markR_len, markR_len]; exact l3)]
  simp (config := {implicitDefEqProofs := false, maxDischargeDepth := 20}) (disch := first | omega | (simp only [lenE]; done) | (simp only [lenE]; omega) | rfl | (simp only [lenE, markR_len]; done) | (simp only [lenE, markR_len]; omega)) only [runE, mapE, listE, initT_5, initT_6, initT_7, initT_8, resV, oneV, binA, unA, reduceCtorEq, Nat.reduceEqDiff, Nat.reduceAdd, Nat.reduceLT, Nat.reduceLeDiff, Nat.reduceMul, Nat.reduceSub, ↓reduceIte, decide_true, decide_false, Bool.true_eq_false, Bool.false_eq_true, Bool.not_true, Bool.not_false, if_true, if_false, and_true, true_and, memE, celE, w64, Nat.zero_add, Nat.add_zero, Nat.mul_one, putL, and_self, ldn, markR_len]
  refine callH_ac (markIntS_any _ i4 f4 k.hold _ ((((h4.other _ _ d14).other _ _ d24).other _ _ d34).ext _) (by omega) (by omega) (by omega)) ?_
  rintro r m' ⟨rfl, rfl⟩
  rw [markR_ext _ _ (by rw [markR_len, markR_len, markR_len]; exact l4)]
  simp (config := {implicitDefEqProofs := false, maxDischargeDepth := 20}) (disch := first | omega | (simp only [lenE]; done) | (simp only [lenE]; omega) | rfl | (simp only [lenE, markR_len]; done) | (simp only [lenE, markR_len]; omega)) only [runE, mapE, listE, initT_5, initT_6, initT_7, initT_8, resV, oneV, binA, unA, reduceCtorEq, Nat.reduceEqDiff, Nat.reduceAdd, Nat.reduceLT, Nat.reduceLeDiff, Nat.reduceMul, Nat.reduceSub, ↓reduceIte, decide_true, decide_false, Bool.true_eq_false, Bool.false_eq_true, Bool.not_true, Bool.not_false, if_true, if_false, and_true, true_and, memE, celE, w64, Nat.zero_add, Nat.add_zero, Nat.mul_one, putL, and_self, ldn, markR_len]
  exact ⟨by unfold Cs.tot; congr 1; omega, _, rfl⟩

theorem heldCase_rc (m : Mem) (v : Value) (n1 n2 n3 n4 : Nat) (k0 : Int) (h : CaseA m v ⟨imarks k0 n1, imarks (k0 + n1) n2, imarks (k0 + n1 + n2) n3, imarks (k0 + n1 + n2 + n3) n4⟩) (g0 : 0 ≤ k0) (g1 : k0 ≤ 68719476736) (s1 : n1 ≤ 1048576) (s2 : n2 ≤ 1048576) (s3 : n3 ≤ 1048576) (s4 : n4 ≤ 1048576) :
    RC Try.prog 15 [v, .int .i64 k0] m fun r new => r = .int .i64 (k0 + n1 + n2 + n3 + n4) ∧ NoRo new := by
  refine rc_of_run mixed ok_laws_heldCase (by simp) (go_start _ _ _ ?_)
  obtain ⟨v1, v2, v3, v4, rfl, h1, h2, h3, h4⟩ := h.ro.ok
  simp only [] at h1 h2 h3 h4
  simp (config := {implicitDefEqProofs := false, maxDischargeDepth := 20}) (disch := first | omega | (simp only [lenE]; done) | (simp only [lenE]; omega) | rfl | (simp only [lenE, markR_len]; done) | (simp only [lenE, markR_len]; omega)) only [runE, mapE, listE, initT_5, initT_6, initT_7, initT_8, resV, oneV, binA, unA, reduceCtorEq, Nat.reduceEqDiff, Nat.reduceAdd, Nat.reduceLT, Nat.reduceLeDiff, Nat.reduceMul, Nat.reduceSub, ↓reduceIte, decide_true, decide_false, Bool.true_eq_false, Bool.false_eq_true, Bool.not_true, Bool.not_false, if_true, if_false, and_true, true_and, memE, celE, w64, Nat.zero_add, Nat.add_zero, Nat.mul_one, putL, and_self, ldn, c_laws_heldCase, r_laws_heldCase]
  refine callH_rc (heldIntS_rc _ v1 k0 n1 (h1.ext _) (by omega) (by omega) (by omega)) ?_
  rintro r new ⟨rfl, rfl⟩
  have e1 : ¬ (k0 + (n1 : Int) < 0) := by omega
  simp (config := {implicitDefEqProofs := false, maxDischargeDepth := 20}) (disch := first | omega | (simp only [lenE]; done) | (simp only [lenE]; omega) | rfl | (simp only [lenE, markR_len]; done) | (simp only [lenE, markR_len]; omega)) only [runE, mapE, listE, initT_5, initT_6, initT_7, initT_8, resV, oneV, binA, unA, reduceCtorEq, Nat.reduceEqDiff, Nat.reduceAdd, Nat.reduceLT, Nat.reduceLeDiff, Nat.reduceMul, Nat.reduceSub, ↓reduceIte, decide_true, decide_false, Bool.true_eq_false, Bool.false_eq_true, Bool.not_true, Bool.not_false, if_true, if_false, and_true, true_and, memE, celE, w64, Nat.zero_add, Nat.add_zero, Nat.mul_one, putL, and_self, ldn, e1]
  refine callH_rc (heldIntS_rc _ v2 _ n2 (h2.ext _) (by omega) (by omega) (by omega)) ?_
  rintro r new ⟨rfl, rfl⟩
  have e2 : ¬ (k0 + (n1 : Int) + n2 < 0) := by omega
  simp (config := {implicitDefEqProofs := false, maxDischargeDepth := 20}) (disch := first | omega | (simp only [lenE]; done) | (simp only [lenE]; omega) | rfl | (simp only [lenE, markR_len]; done) | (simp only [lenE, markR_len]; omega)) only [runE, mapE, listE, initT_5, initT_6, initT_7, initT_8, resV, oneV, binA, unA, reduceCtorEq, Nat.reduceEqDiff, Nat.reduceAdd, Nat.reduceLT, Nat.reduceLeDiff, Nat.reduceMul, Nat.reduceSub, ↓reduceIte, decide_true, decide_false, Bool.true_eq_false, Bool.false_eq_true, Bool.not_true, Bool.not_false, if_true, if_false, and_true, true_and, memE, celE, w64, Nat.zero_add, Nat.add_zero, Nat.mul_one, putL, and_self, ldn, e2]
  refine callH_rc (heldIntS_rc _ v3 _ n3 (h3.ext _) (by omega) (by omega) (by omega)) ?_
  rintro r new ⟨rfl, rfl⟩
  have e3 : ¬ (k0 + (n1 : Int) + n2 + n3 < 0) := by omega
  simp (config := {implicitDefEqProofs := false, maxDischargeDepth := 20}) (disch := first | omega | (simp only [lenE]; done) | (simp only [lenE]; omega) | rfl | (simp only [lenE, markR_len]; done) | (simp only [lenE, markR_len]; omega)) only [runE, mapE, listE, initT_5, initT_6, initT_7, initT_8, resV, oneV, binA, unA, reduceCtorEq, Nat.reduceEqDiff, Nat.reduceAdd, Nat.reduceLT, Nat.reduceLeDiff, Nat.reduceMul, Nat.reduceSub, ↓reduceIte, decide_true, decide_false, Bool.true_eq_false, Bool.false_eq_true, Bool.not_true, Bool.not_false, if_true, if_false, and_true, true_and, memE, celE, w64, Nat.zero_add, Nat.add_zero, Nat.mul_one, putL, and_self, ldn, e3]
  refine callH_rc (heldIntS_rc _ v4 _ n4 (h4.ext _) (by omega) (by omega) (by omega)) ?_
  rintro r new ⟨rfl, rfl⟩
  have e4 : ¬ (k0 + (n1 : Int) + n2 + n3 + n4 < 0) := by omega
  simp (config := {implicitDefEqProofs := false, maxDischargeDepth := 20}) (disch := first | omega | (simp only [lenE]; done) | (simp only [lenE]; omega) | rfl | (simp only [lenE, markR_len]; done) | (simp only [lenE, markR_len]; omega)) only [runE, mapE, listE, initT_5, initT_6, initT_7, initT_8, resV, oneV, binA, unA, reduceCtorEq, Nat.reduceEqDiff, Nat.reduceAdd, Nat.reduceLT, Nat.reduceLeDiff, Nat.reduceMul, Nat.reduceSub, ↓reduceIte, decide_true, decide_false, Bool.true_eq_false, Bool.false_eq_true, Bool.not_true, Bool.not_false, if_true, if_false, and_true, true_and, memE, celE, w64, Nat.zero_add, Nat.add_zero, Nat.mul_one, putL, and_self, ldn, e4]
  try simp only [List.append_assoc, List.cons_append, List.nil_append, List.append_nil]
  exact ⟨_, rfl, by (repeat (first | exact noRo_nil | assumption | apply noRo_own | apply noRo_dead | apply noRo_app)), rfl, by (repeat (first | exact noRo_nil | assumption | apply noRo_own | apply noRo_dead | apply noRo_app))⟩
end Go.Proofs.Ytghaogfhmbjlkaa.Ab
