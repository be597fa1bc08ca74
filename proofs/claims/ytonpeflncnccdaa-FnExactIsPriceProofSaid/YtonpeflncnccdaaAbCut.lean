/- Slices of slices; CutCase. -/
import Derived.Test.YtonpeflncnccdaaAbCost
import Derived.Test.YtonpeflncnccdaaAbBasis
namespace Go.Proofs.Ytonpeflncnccdaa.Ab
open Go Go.RowKit
set_option linter.unusedVariables false
set_option linter.unusedSimpArgs false

/-- An answer: a Case of its own rows, or the empty one. -/
def AnsC (m : Mem) (k : Cs) (ok : Bool) (r : Value) (new : Mem) : Prop :=
  NoRo new ∧ k.small ∧ ((ok = true ∧ ∃ i1 i2 i3 i4 f1 f2 f3 f4, r = .tuple #[.agg #[.slice (some ⟨m.length + i1, 0, none⟩) k.need.length f1, .slice (some ⟨m.length + i2, 0, none⟩) k.setup.length f2, .slice (some ⟨m.length + i3, 0, none⟩) k.unit.length f3, .slice (some ⟨m.length + i4, 0, none⟩) k.hold.length f4], .bool true] ∧
      new[i1]? = some (rowB k.need) ∧ new[i2]? = some (rowB k.setup) ∧ new[i3]? = some (rowB k.unit) ∧ new[i4]? = some (rowB k.hold) ∧ i1 < i2 ∧ i2 < i3 ∧ i3 < i4) ∨
    (ok = false ∧ k = ⟨[], [], [], []⟩ ∧ r = .tuple #[.agg #[.slice none 0 0, .slice none 0 0, .slice none 0 0, .slice none 0 0], .bool false]))
theorem ansC_no {m M : Mem} (h : Ext m M) : newQ m (AnsC m ⟨[], [], [], []⟩ false) (.tuple #[.agg #[.slice none 0 0, .slice none 0 0, .slice none 0 0, .slice none 0 0], .bool false]) M := by
  obtain ⟨n0, rfl, h0⟩ := h
  exact ⟨n0, rfl, h0, h0, by simp [Cs.small], .inr ⟨rfl, rfl, rfl⟩⟩
theorem ansC_yes {m M : Mem} {k : Cs} {d1 d2 d3 d4 f1 f2 f3 f4 : Nat} (h : Ext m M) (hs : k.small) (o1 : OwnR M d1 k.need) (o2 : OwnR M d2 k.setup) (o3 : OwnR M d3 k.unit) (o4 : OwnR M d4 k.hold) (l1 : m.length ≤ d1) (l2 : d1 < d2) (l3 : d2 < d3) (l4 : d3 < d4) :
    newQ m (AnsC m k true) (.tuple #[.agg #[.slice (some ⟨d1, 0, none⟩) k.need.length f1, .slice (some ⟨d2, 0, none⟩) k.setup.length f2, .slice (some ⟨d3, 0, none⟩) k.unit.length f3, .slice (some ⟨d4, 0, none⟩) k.hold.length f4], .bool true]) M := by
  obtain ⟨n0, rfl, h0⟩ := h
  have tr : ∀ {d : Nat} {l : List Int}, OwnR (roM m ++ n0) d l → m.length ≤ d → n0[d - m.length]? = some (rowB l) := by
    intro d l ho hd
    unfold OwnR at ho
    rwa [List.getElem?_append_right (by rw [roM_len]; exact hd), roM_len] at ho
  refine ⟨n0, rfl, h0, h0, hs, .inl ⟨rfl, d1 - m.length, d2 - m.length, d3 - m.length, d4 - m.length, f1, f2, f3, f4, ?_, tr o1 l1, tr o2 (by omega), tr o3 (by omega), tr o4 (by omega), by omega, by omega, by omega⟩⟩
  rw [Nat.add_sub_cancel' l1, Nat.add_sub_cancel' (by omega : m.length ≤ d2), Nat.add_sub_cancel' (by omega : m.length ≤ d3), Nat.add_sub_cancel' (by omega : m.length ≤ d4)]
theorem bld4 (z1 z2 z3 z4 : Value) (i1 i2 i3 i4 : Option Addr) (n1 n2 n3 n4 c1 c2 c3 c4 : Nat) :
    bldA [z1, z2, z3, z4] [(0, 1, .slice i1 n1 c1), (1, 1, .slice i2 n2 c2), (2, 1, .slice i3 n3 c3), (3, 1, .slice i4 n4 c4)] = some (.agg #[.slice i1 n1 c1, .slice i2 n2 c2, .slice i3 n3 c3, .slice i4 n4 c4]) := rfl

def cutOk (k : Cs) (a b : Int) : Bool := k.good && (decide (0 ≤ a) && decide (a ≤ b)) && (decide (0 ≤ b) && decide (b ≤ k.need.length))
def cutC (k : Cs) (a b : Nat) : Cs := ⟨cutL k.need a b, cutL k.setup a b, cutL k.unit a b, cutL k.hold a b⟩
def cutA (k : Cs) (a b : Int) : Cs := if cutOk k a b then cutC k a.toNat b.toNat else ⟨[], [], [], []⟩
theorem cutA_no {k : Cs} {a b : Int} (h : cutOk k a b = false) : cutA k a b = ⟨[], [], [], []⟩ := by unfold cutA; rw [h]; rfl
theorem cutA_yes {k : Cs} {a b : Int} (h : cutOk k a b = true) : cutA k a b = cutC k a.toNat b.toNat := by unfold cutA; rw [h]; rfl

theorem markIntS_nil (m : Mem) (k0 : Int) : AC Try.prog 20 [.slice none 0 0, .int .i64 k0] m fun r m' => r = .int .i64 k0 ∧ m' = m := by
  refine ac_of_run mixed ok_laws_markIntS (by simp) (go_start _ _ _ ?_)
  simp (config := {implicitDefEqProofs := false, maxDischargeDepth := 20}) (disch := first | omega | (simp only [lenE]; done) | (simp only [lenE]; omega) | rfl | (simp only [lenE, markR_len]; done) | (simp only [lenE, markR_len]; omega)) only [runE, mapE, listE, initT_5, initT_6, initT_7, initT_8, resV, oneV, binA, unA, reduceCtorEq, Nat.reduceEqDiff, Nat.reduceAdd, Nat.reduceLT, Nat.reduceLeDiff, Nat.reduceMul, Nat.reduceSub, ↓reduceIte, decide_true, decide_false, Bool.true_eq_false, Bool.false_eq_true, Bool.not_true, Bool.not_false, if_true, if_false, and_true, true_and, memE, celE, w64, Nat.zero_add, Nat.add_zero, Nat.mul_one, putL, and_self, ldn, c_laws_markIntS, r_laws_markIntS]
  refine loop_inv mixed (fun s => s.t 0 = .slice none 0 0 ∧ s.t 1 = .int .i64 k0 ∧ s.t 5 = .int .i64 0 ∧ s.m = m) (fun s => 0) ⟨rfl, rfl, rfl, rfl⟩ ?_
  rintro s ⟨t0, t1, t5, tm⟩
  simp (config := {implicitDefEqProofs := false, maxDischargeDepth := 20}) (disch := first | omega | (simp only [lenE]; done) | (simp only [lenE]; omega) | rfl | (simp only [lenE, markR_len]; done) | (simp only [lenE, markR_len]; omega)) only [runE, mapE, listE, initT_5, initT_6, initT_7, initT_8, resV, oneV, binA, unA, reduceCtorEq, Nat.reduceEqDiff, Nat.reduceAdd, Nat.reduceLT, Nat.reduceLeDiff, Nat.reduceMul, Nat.reduceSub, ↓reduceIte, decide_true, decide_false, Bool.true_eq_false, Bool.false_eq_true, Bool.not_true, Bool.not_false, if_true, if_false, and_true, true_and, memE, celE, w64, Nat.zero_add, Nat.add_zero, Nat.mul_one, putL, and_self, ldn, t0, t1, t5, tm, show ¬ ((0 : Int) < ((0 : Nat) : Int)) by decide]
  try exact ⟨rfl, rfl⟩
theorem markCase_nil (m : Mem) (k0 : Int) (g0 : 0 ≤ k0) (g1 : k0 ≤ 68719476736) :
    AC Try.prog 19 [.agg #[.slice none 0 0, .slice none 0 0, .slice none 0 0, .slice none 0 0], .int .i64 k0] m
      fun r m' => r = .int .i64 (k0 + ((0 : Nat) : Int) + ((0 : Nat) : Int) + ((0 : Nat) : Int) + ((0 : Nat) : Int)) ∧ ∃ b : Blk, m' = m ++ [b] := by
  refine ac_of_run mixed ok_laws_markCase (by simp) (go_start _ _ _ ?_)
  simp (config := {implicitDefEqProofs := false, maxDischargeDepth := 20}) (disch := first | omega | (simp only [lenE]; done) | (simp only [lenE]; omega) | rfl | (simp only [lenE, markR_len]; done) | (simp only [lenE, markR_len]; omega)) only [runE, mapE, listE, initT_5, initT_6, initT_7, initT_8, resV, oneV, binA, unA, reduceCtorEq, Nat.reduceEqDiff, Nat.reduceAdd, Nat.reduceLT, Nat.reduceLeDiff, Nat.reduceMul, Nat.reduceSub, ↓reduceIte, decide_true, decide_false, Bool.true_eq_false, Bool.false_eq_true, Bool.not_true, Bool.not_false, if_true, if_false, and_true, true_and, memE, celE, w64, Nat.zero_add, Nat.add_zero, Nat.mul_one, putL, and_self, ldn, c_laws_markCase, r_laws_markCase]
  refine callH_ac (markIntS_nil _ _) ?_
  rintro r m' ⟨rfl, rfl⟩
  simp (config := {implicitDefEqProofs := false, maxDischargeDepth := 20}) (disch := first | omega | (simp only [lenE]; done) | (simp only [lenE]; omega) | rfl | (simp only [lenE, markR_len]; done) | (simp only [lenE, markR_len]; omega)) only [runE, mapE, listE, initT_5, initT_6, initT_7, initT_8, resV, oneV, binA, unA, reduceCtorEq, Nat.reduceEqDiff, Nat.reduceAdd, Nat.reduceLT, Nat.reduceLeDiff, Nat.reduceMul, Nat.reduceSub, ↓reduceIte, decide_true, decide_false, Bool.true_eq_false, Bool.false_eq_true, Bool.not_true, Bool.not_false, if_true, if_false, and_true, true_and, memE, celE, w64, Nat.zero_add, Nat.add_zero, Nat.mul_one, putL, and_self, ldn]
  refine callH_ac (markIntS_nil _ _) ?_
  rintro r m' ⟨rfl, rfl⟩
  simp (config := {implicitDefEqProofs := false, maxDischargeDepth := 20}) (disch := first | omega | (simp only [lenE]; done) | (simp only [lenE]; omega) | rfl | (simp only [lenE, markR_len]; done) | (simp only [lenE, markR_len]; omega)) only [runE, mapE, listE, initT_5, initT_6, initT_7, initT_8, resV, oneV, binA, unA, reduceCtorEq, Nat.reduceEqDiff, Nat.reduceAdd, Nat.reduceLT, Nat.reduceLeDiff, Nat.reduceMul, Nat.reduceSub, ↓reduceIte, decide_true, decide_false, Bool.true_eq_false, Bool.false_eq_true, Bool.not_true, Bool.not_false, if_true, if_false, and_true, true_and, memE, celE, w64, Nat.zero_add, Nat.add_zero, Nat.mul_one, putL, and_self, ldn]
  refine callH_ac (markIntS_nil _ _) ?_
  rintro r m' ⟨rfl, rfl⟩
  simp (config := {implicitDefEqProofs := false, maxDischargeDepth := 20}) (disch := first | omega | (simp only [lenE]; done) | (simp only [lenE]; omega) | rfl | (simp only [lenE, markR_len]; done) | (simp only [lenE, markR_len]; omega)) only [runE, mapE, listE, initT_5, initT_6, initT_7, initT_8, resV, oneV, binA, unA, reduceCtorEq, Nat.reduceEqDiff, Nat.reduceAdd, Nat.reduceLT, Nat.reduceLeDiff, Nat.reduceMul, Nat.reduceSub, ↓reduceIte, decide_true, decide_false, Bool.true_eq_false, Bool.false_eq_true, Bool.not_true, Bool.not_false, if_true, if_false, and_true, true_and, memE, celE, w64, Nat.zero_add, Nat.add_zero, Nat.mul_one, putL, and_self, ldn]
  refine callH_ac (markIntS_nil _ _) ?_
  rintro r m' ⟨rfl, rfl⟩
  simp (config := {implicitDefEqProofs := false, maxDischargeDepth := 20}) (disch := first | omega | (simp only [lenE]; done) | (simp only [lenE]; omega) | rfl | (simp only [lenE, markR_len]; done) | (simp only [lenE, markR_len]; omega)) only [runE, mapE, listE, initT_5, initT_6, initT_7, initT_8, resV, oneV, binA, unA, reduceCtorEq, Nat.reduceEqDiff, Nat.reduceAdd, Nat.reduceLT, Nat.reduceLeDiff, Nat.reduceMul, Nat.reduceSub, ↓reduceIte, decide_true, decide_false, Bool.true_eq_false, Bool.false_eq_true, Bool.not_true, Bool.not_false, if_true, if_false, and_true, true_and, memE, celE, w64, Nat.zero_add, Nat.add_zero, Nat.mul_one, putL, and_self, ldn]
  exact ⟨by simp, _, rfl⟩
end Go.Proofs.Ytonpeflncnccdaa.Ab
