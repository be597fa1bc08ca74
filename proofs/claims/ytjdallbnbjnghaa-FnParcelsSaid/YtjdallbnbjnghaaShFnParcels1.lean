/- What the law needs of the texts that it rests on. -/
import Derived.Test.YtjdallbnbjnghaaShFnParcels0
section
namespace Go.Proofs.Ytjdallbnbjnghaa.Ab
open Go Go.RowKit
set_option linter.unusedVariables false
set_option linter.unusedSimpArgs false
def zOf : Value → Int
  | .int _ x => x
  | _ => 0
theorem near_rc (m : Mem) (x most : Int) (h : 0 ≤ most ∧ most ≤ 1000000000000) : RC Try.prog 112 [.int .i64 x, .int .i64 most] m fun r new => r = .bool (nearB most x) ∧ new = [] := by
  refine rc_of_run mixed ok_impl_isNear (by simp) (go_start _ _ _ ?_)
  by_cases h1 : -most ≤ x
  · have h1' : 0 - most ≤ x := by omega
    by_cases h2 : x ≤ most
    · simp (config := {implicitDefEqProofs := false, maxDischargeDepth := 20}) (disch := first | omega | (simp only [lenE]; done) | (simp only [lenE]; omega) | rfl | (simp only [lenE, markR_len]; done) | (simp only [lenE, markR_len]; omega)) only [runE, mapE, listE, initT_5, initT_6, initT_7, initT_8, resV, oneV, binA, unA, reduceCtorEq, Nat.reduceEqDiff, Nat.reduceAdd, Nat.reduceLT, Nat.reduceLeDiff, Nat.reduceMul, Nat.reduceSub, ↓reduceIte, decide_true, decide_false, Bool.true_eq_false, Bool.false_eq_true, Bool.not_true, Bool.not_false, if_true, if_false, and_true, true_and, memE, celE, w64, Nat.zero_add, Nat.add_zero, Nat.mul_one, putL, and_self, ldn, c_impl_isNear, r_impl_isNear, h1', h2, ge_iff_le]
      exact newQ_nil ⟨by simp [nearB, h1, h2], rfl⟩
    · simp (config := {implicitDefEqProofs := false, maxDischargeDepth := 20}) (disch := first | omega | (simp only [lenE]; done) | (simp only [lenE]; omega) | rfl | (simp only [lenE, markR_len]; done) | (simp only [lenE, markR_len]; omega)) only [runE, mapE, listE, initT_5, initT_6, initT_7, initT_8, resV, oneV, binA, unA, reduceCtorEq, Nat.reduceEqDiff, Nat.reduceAdd, Nat.reduceLT, Nat.reduceLeDiff, Nat.reduceMul, Nat.reduceSub, ↓reduceIte, decide_true, decide_false, Bool.true_eq_false, Bool.false_eq_true, Bool.not_true, Bool.not_false, if_true, if_false, and_true, true_and, memE, celE, w64, Nat.zero_add, Nat.add_zero, Nat.mul_one, putL, and_self, ldn, c_impl_isNear, r_impl_isNear, h1', h2, ge_iff_le]
      exact newQ_nil ⟨by simp [nearB, h2], rfl⟩
  · have h1' : ¬ (0 - most ≤ x) := by omega
    simp (config := {implicitDefEqProofs := false, maxDischargeDepth := 20}) (disch := first | omega | (simp only [lenE]; done) | (simp only [lenE]; omega) | rfl | (simp only [lenE, markR_len]; done) | (simp only [lenE, markR_len]; omega)) only [runE, mapE, listE, initT_5, initT_6, initT_7, initT_8, resV, oneV, binA, unA, reduceCtorEq, Nat.reduceEqDiff, Nat.reduceAdd, Nat.reduceLT, Nat.reduceLeDiff, Nat.reduceMul, Nat.reduceSub, ↓reduceIte, decide_true, decide_false, Bool.true_eq_false, Bool.false_eq_true, Bool.not_true, Bool.not_false, if_true, if_false, and_true, true_and, memE, celE, w64, Nat.zero_add, Nat.add_zero, Nat.mul_one, putL, and_self, ldn, c_impl_isNear, r_impl_isNear, h1', ge_iff_le]
    exact newQ_nil ⟨by simp [nearB, h1], rfl⟩
theorem in11_rc (m : Mem) (x : Int) : RC Try.prog 73 [.int .i64 x, .int .i64 (-200), .int .i64 200] m fun r new => r = .bool (nearB 200 x) ∧ new = [] := l1In_rc m x (-200) 200
theorem within_rc (m : Mem) (x b : Int) : RC Try.prog 68 [.int .i64 x, .int .i64 b] m fun r new => r = .bool (inF b x) ∧ new = [] := isWithin_rc m x b
theorem l11Numbers_rc (m : Mem) (v : Value) (l : List Int) (most : Nat) (mi top : Int) (hm : mi = most) (h : IntsA m v l) : RC Try.prog 93 [v, .int .i64 mi, .int .i64 top] m fun r new => r = .bool (numsB l most top) ∧ new = [] := by
  refine rc_of_run mixed ok_spec_l11Numbers (by simp) (go_start _ _ _ ?_)
  have hr := h.ro
  by_cases hl : (l.length : Int) ≤ mi
  · simp (config := {implicitDefEqProofs := false, maxDischargeDepth := 20}) (disch := first | omega | (simp only [lenE]; done) | (simp only [lenE]; omega) | rfl | (simp only [lenE, markR_len]; done) | (simp only [lenE, markR_len]; omega)) only [runE, mapE, listE, initT_5, initT_6, initT_7, initT_8, resV, oneV, binA, unA, reduceCtorEq, Nat.reduceEqDiff, Nat.reduceAdd, Nat.reduceLT, Nat.reduceLeDiff, Nat.reduceMul, Nat.reduceSub, ↓reduceIte, decide_true, decide_false, Bool.true_eq_false, Bool.false_eq_true, Bool.not_true, Bool.not_false, if_true, if_false, and_true, true_and, memE, celE, w64, Nat.zero_add, Nat.add_zero, Nat.mul_one, putL, and_self, ldn, c_spec_l11Numbers, r_spec_l11Numbers, hr.len, hl]
    refine callH_rc (l2Row_rc _ v l l.length top hr) ?_
    rintro r new ⟨rfl, rfl⟩
    simp (config := {implicitDefEqProofs := false, maxDischargeDepth := 20}) (disch := first | omega | (simp only [lenE]; done) | (simp only [lenE]; omega) | rfl | (simp only [lenE, markR_len]; done) | (simp only [lenE, markR_len]; omega)) only [runE, mapE, listE, initT_5, initT_6, initT_7, initT_8, resV, oneV, binA, unA, reduceCtorEq, Nat.reduceEqDiff, Nat.reduceAdd, Nat.reduceLT, Nat.reduceLeDiff, Nat.reduceMul, Nat.reduceSub, ↓reduceIte, decide_true, decide_false, Bool.true_eq_false, Bool.false_eq_true, Bool.not_true, Bool.not_false, if_true, if_false, and_true, true_and, memE, celE, w64, Nat.zero_add, Nat.add_zero, Nat.mul_one, putL, and_self, ldn, List.append_nil]
    exact newQ_nil ⟨by simp [numsB, show l.length ≤ most by omega], rfl⟩
  · simp (config := {implicitDefEqProofs := false, maxDischargeDepth := 20}) (disch := first | omega | (simp only [lenE]; done) | (simp only [lenE]; omega) | rfl | (simp only [lenE, markR_len]; done) | (simp only [lenE, markR_len]; omega)) only [runE, mapE, listE, initT_5, initT_6, initT_7, initT_8, resV, oneV, binA, unA, reduceCtorEq, Nat.reduceEqDiff, Nat.reduceAdd, Nat.reduceLT, Nat.reduceLeDiff, Nat.reduceMul, Nat.reduceSub, ↓reduceIte, decide_true, decide_false, Bool.true_eq_false, Bool.false_eq_true, Bool.not_true, Bool.not_false, if_true, if_false, and_true, true_and, memE, celE, w64, Nat.zero_add, Nat.add_zero, Nat.mul_one, putL, and_self, ldn, c_spec_l11Numbers, r_spec_l11Numbers, hr.len, hl]
    exact newQ_nil ⟨by simp [numsB, show ¬ l.length ≤ most by omega], rfl⟩
theorem isStock_rc (m : Mem) (x : Int) : RC Try.prog 75 [.int .i64 x] m fun r new => r = .bool (nearB 200 x) ∧ new = [] := by
  refine rc_of_run mixed ok_impl_isStock (by simp) (go_start _ _ _ ?_)
  simp (config := {implicitDefEqProofs := false, maxDischargeDepth := 20}) (disch := first | omega | (simp only [lenE]; done) | (simp only [lenE]; omega) | rfl | (simp only [lenE, markR_len]; done) | (simp only [lenE, markR_len]; omega)) only [runE, mapE, listE, initT_5, initT_6, initT_7, initT_8, resV, oneV, binA, unA, reduceCtorEq, Nat.reduceEqDiff, Nat.reduceAdd, Nat.reduceLT, Nat.reduceLeDiff, Nat.reduceMul, Nat.reduceSub, ↓reduceIte, decide_true, decide_false, Bool.true_eq_false, Bool.false_eq_true, Bool.not_true, Bool.not_false, if_true, if_false, and_true, true_and, memE, celE, w64, Nat.zero_add, Nat.add_zero, Nat.mul_one, putL, and_self, ldn, c_impl_isStock, r_impl_isStock]
  refine callH_rc (near_rc _ x 200 (by omega)) ?_
  rintro r new ⟨rfl, rfl⟩
  simp (config := {implicitDefEqProofs := false, maxDischargeDepth := 20}) (disch := first | omega | (simp only [lenE]; done) | (simp only [lenE]; omega) | rfl | (simp only [lenE, markR_len]; done) | (simp only [lenE, markR_len]; omega)) only [runE, mapE, listE, initT_5, initT_6, initT_7, initT_8, resV, oneV, binA, unA, reduceCtorEq, Nat.reduceEqDiff, Nat.reduceAdd, Nat.reduceLT, Nat.reduceLeDiff, Nat.reduceMul, Nat.reduceSub, ↓reduceIte, decide_true, decide_false, Bool.true_eq_false, Bool.false_eq_true, Bool.not_true, Bool.not_false, if_true, if_false, and_true, true_and, memE, celE, w64, Nat.zero_add, Nat.add_zero, Nat.mul_one, putL, and_self, ldn, List.append_nil]
  exact newQ_nil ⟨rfl, rfl⟩
theorem isAsked_rc (m : Mem) (x : Int) : RC Try.prog 71 [.int .i64 x] m fun r new => r = .bool (inF 20 x) ∧ new = [] := by
  refine rc_of_run mixed ok_impl_isAsked (by simp) (go_start _ _ _ ?_)
  simp (config := {implicitDefEqProofs := false, maxDischargeDepth := 20}) (disch := first | omega | (simp only [lenE]; done) | (simp only [lenE]; omega) | rfl | (simp only [lenE, markR_len]; done) | (simp only [lenE, markR_len]; omega)) only [runE, mapE, listE, initT_5, initT_6, initT_7, initT_8, resV, oneV, binA, unA, reduceCtorEq, Nat.reduceEqDiff, Nat.reduceAdd, Nat.reduceLT, Nat.reduceLeDiff, Nat.reduceMul, Nat.reduceSub, ↓reduceIte, decide_true, decide_false, Bool.true_eq_false, Bool.false_eq_true, Bool.not_true, Bool.not_false, if_true, if_false, and_true, true_and, memE, celE, w64, Nat.zero_add, Nat.add_zero, Nat.mul_one, putL, and_self, ldn, c_impl_isAsked, r_impl_isAsked]
  refine callH_rc (within_rc _ x 20) ?_
  rintro r new ⟨rfl, rfl⟩
  simp (config := {implicitDefEqProofs := false, maxDischargeDepth := 20}) (disch := first | omega | (simp only [lenE]; done) | (simp only [lenE]; omega) | rfl | (simp only [lenE, markR_len]; done) | (simp only [lenE, markR_len]; omega)) only [runE, mapE, listE, initT_5, initT_6, initT_7, initT_8, resV, oneV, binA, unA, reduceCtorEq, Nat.reduceEqDiff, Nat.reduceAdd, Nat.reduceLT, Nat.reduceLeDiff, Nat.reduceMul, Nat.reduceSub, ↓reduceIte, decide_true, decide_false, Bool.true_eq_false, Bool.false_eq_true, Bool.not_true, Bool.not_false, if_true, if_false, and_true, true_and, memE, celE, w64, Nat.zero_add, Nat.add_zero, Nat.mul_one, putL, and_self, ldn, List.append_nil]
  exact newQ_nil ⟨rfl, rfl⟩
theorem funInts {m : Mem} {g : FuncId} {l : List Int} {b : Int} (h : ∀ (M : Mem) (x : Int), RC Try.prog g [.int .i64 x] M fun r new => r = .bool (inF b x) ∧ new = []) : FunG m (.func (.func g) #[] #[]) (fun x : Value => [x]) (· ∈ l.map (Value.int .i64)) (fun x => .bool (inF b (zOf x))) :=
  ⟨_, _, rfl, fun M _ x hx => by
    obtain ⟨z, _, rfl⟩ := List.mem_map.1 hx
    exact (h M z).mono fun r new hA => ansV_of hA⟩
theorem all_ints (l : List Int) (b : Int) : (l.map (Value.int .i64)).all (fun x => inF b (zOf x)) = l.all (inF b) := by
  rw [List.all_map]; rfl
theorem numsP (l : List Int) (most : Nat) (mi top : Int) (hm : mi = most) : (decide ((l.length : Int) ≤ mi) && (l.map (Value.int .i64)).all (fun x => inF top (zOf x))) = numsB l most top := by
  rw [numsB_all, all_ints]
  subst hm
  congr 1
  simp
theorem areAsked_rc (m : Mem) (v : Value) (l : List Int) (h : IntsA m v l) : RC Try.prog 67 [v] m (AnsV (.bool (numsB l 20 20))) := by
  refine rc_of_run mixed ok_impl_areAsked (by simp) (go_start _ _ _ ?_)
  simp (config := {implicitDefEqProofs := false, maxDischargeDepth := 20}) (disch := first | omega | (simp only [lenE]; done) | (simp only [lenE]; omega) | rfl | (simp only [lenE, markR_len]; done) | (simp only [lenE, markR_len]; omega)) only [runE, mapE, listE, initT_5, initT_6, initT_7, initT_8, resV, oneV, binA, unA, reduceCtorEq, Nat.reduceEqDiff, Nat.reduceAdd, Nat.reduceLT, Nat.reduceLeDiff, Nat.reduceMul, Nat.reduceSub, ↓reduceIte, decide_true, decide_false, Bool.true_eq_false, Bool.false_eq_true, Bool.not_true, Bool.not_false, if_true, if_false, and_true, true_and, memE, celE, w64, Nat.zero_add, Nat.add_zero, Nat.mul_one, putL, and_self, ldn, c_impl_areAsked, r_impl_areAsked]
  refine callH_rc (areAtMostI_rc _ v _ _ _ 20 h.ro.el (funInts isAsked_rc)) ?_
  rintro r new ⟨rfl, hn⟩
  simp (config := {implicitDefEqProofs := false, maxDischargeDepth := 20}) (disch := first | omega | (simp only [lenE]; done) | (simp only [lenE]; omega) | rfl | (simp only [lenE, markR_len]; done) | (simp only [lenE, markR_len]; omega)) only [runE, mapE, listE, initT_5, initT_6, initT_7, initT_8, resV, oneV, binA, unA, reduceCtorEq, Nat.reduceEqDiff, Nat.reduceAdd, Nat.reduceLT, Nat.reduceLeDiff, Nat.reduceMul, Nat.reduceSub, ↓reduceIte, decide_true, decide_false, Bool.true_eq_false, Bool.false_eq_true, Bool.not_true, Bool.not_false, if_true, if_false, and_true, true_and, memE, celE, w64, Nat.zero_add, Nat.add_zero, Nat.mul_one, putL, and_self, ldn]
  exact ext_ansV ((Ext.refl m).app hn) (by rw [numsP l 20 20 20 rfl])
end Go.Proofs.Ytjdallbnbjnghaa.Ab
end
section
namespace Go.Proofs.Ytjdallbnbjnghaa.Ab
open Go Go.RowKit
set_option linter.unusedVariables false
set_option linter.unusedSimpArgs false
theorem OwnB.mk3' {M : Mem} {id : Nat} {e : TypeId} {a b c : Value} (h : OwnB M id e [a, b, c]) : ldA M (some 3) (.pointer (some ⟨id, 0, none⟩)) = some (.agg #[a, b, c]) ∧ rdc M id 0 = some a ∧ rdc M id 1 = some b ∧ rdc M id 2 = some c := by
  unfold OwnB at h
  simp [ldA, rdn, rdc, h]
theorem OwnB.mk1' {M : Mem} {id : Nat} {e : TypeId} {a : Value} (h : OwnB M id e [a]) : rdc M id 0 = some a := by
  unfold OwnB at h
  simp [rdc, h]
theorem isCount11_rc (m : Mem) (x most : Int) : RC Try.prog 109 [.int .i64 x, .int .i64 most] m fun r new => r = .bool (decide (1 ≤ x) && decide (x ≤ most)) ∧ new = [] := by
  refine rc_of_run mixed ok_impl_isCount (by simp) (go_start _ _ _ ?_)
  by_cases h : 0 < x
  · have e : decide (1 ≤ x) = true := decide_eq_true (by omega)
    simp (config := {implicitDefEqProofs := false, maxDischargeDepth := 20}) (disch := first | omega | (simp only [lenE]; done) | (simp only [lenE]; omega) | rfl | (simp only [lenE, markR_len]; done) | (simp only [lenE, markR_len]; omega)) only [runE, mapE, listE, initT_5, initT_6, initT_7, initT_8, resV, oneV, binA, unA, reduceCtorEq, Nat.reduceEqDiff, Nat.reduceAdd, Nat.reduceLT, Nat.reduceLeDiff, Nat.reduceMul, Nat.reduceSub, ↓reduceIte, decide_true, decide_false, Bool.true_eq_false, Bool.false_eq_true, Bool.not_true, Bool.not_false, if_true, if_false, and_true, true_and, memE, celE, w64, Nat.zero_add, Nat.add_zero, Nat.mul_one, putL, and_self, ldn, c_impl_isCount, r_impl_isCount, h, gt_iff_lt]
    try (refine callH_rc (within_rc _ x most) ?_; rintro r new ⟨rfl, rfl⟩; simp (config := {implicitDefEqProofs := false, maxDischargeDepth := 20}) (disch := first | omega | (simp only [lenE]; done) | (simp only [lenE]; omega) | rfl | (simp only [lenE, markR_len]; done) | (simp only [lenE, markR_len]; omega)) only [runE, mapE, listE, initT_5, initT_6, initT_7, initT_8, resV, oneV, binA, unA, reduceCtorEq, Nat.reduceEqDiff, Nat.reduceAdd, Nat.reduceLT, Nat.reduceLeDiff, Nat.reduceMul, Nat.reduceSub, ↓reduceIte, decide_true, decide_false, Bool.true_eq_false, Bool.false_eq_true, Bool.not_true, Bool.not_false, if_true, if_false, and_true, true_and, memE, celE, w64, Nat.zero_add, Nat.add_zero, Nat.mul_one, putL, and_self, ldn, List.append_nil])
    exact newQ_nil ⟨by simp [e, inF, show (0 : Int) ≤ x by omega], rfl⟩
  · have e : decide (1 ≤ x) = false := decide_eq_false (by omega)
    simp (config := {implicitDefEqProofs := false, maxDischargeDepth := 20}) (disch := first | omega | (simp only [lenE]; done) | (simp only [lenE]; omega) | rfl | (simp only [lenE, markR_len]; done) | (simp only [lenE, markR_len]; omega)) only [runE, mapE, listE, initT_5, initT_6, initT_7, initT_8, resV, oneV, binA, unA, reduceCtorEq, Nat.reduceEqDiff, Nat.reduceAdd, Nat.reduceLT, Nat.reduceLeDiff, Nat.reduceMul, Nat.reduceSub, ↓reduceIte, decide_true, decide_false, Bool.true_eq_false, Bool.false_eq_true, Bool.not_true, Bool.not_false, if_true, if_false, and_true, true_and, memE, celE, w64, Nat.zero_add, Nat.add_zero, Nat.mul_one, putL, and_self, ldn, c_impl_isCount, r_impl_isCount, h, gt_iff_lt]
    exact newQ_nil ⟨by simp [e], rfl⟩
theorem FunG.congr {α : Type} {m : Mem} {fv : Value} {enc : α → List Value} {D : α → Prop} {out out' : α → Value} (h : FunG m fv enc D out) (he : ∀ x, D x → out x = out' x) : FunG m fv enc D out' := by
  obtain ⟨g, cap, h1, h2⟩ := h
  exact ⟨g, cap, h1, fun M hM x hx => (h2 M hM x hx).mono fun r new hA => by change AnsV (out' x) r new; rw [← he x hx]; exact hA⟩
end Go.Proofs.Ytjdallbnbjnghaa.Ab
end
section
namespace Go.Proofs.Ytjdallbnbjnghaa.Ab
open Go Go.RowKit
set_option linter.unusedVariables false
set_option linter.unusedSimpArgs false
set_option maxRecDepth 10000
theorem bl_p0 (m : Mem) : bslA m 3 1 4 [.int .i64 0, .int .i64 0, .int .i64 0, .int .i64 0] [(0, 1, .int .i64 0), (1, 1, .int .i64 1), (2, 1, .int .i64 3), (3, 1, .int .i64 5)] = some (.slice (some ⟨m.length, 0, none⟩) 4 1, m ++ [rowB [0, 1, 3, 5]]) := rfl
theorem bl_p1 (m : Mem) : bslA m 3 1 7 [.int .i64 0, .int .i64 0, .int .i64 0, .int .i64 0, .int .i64 0, .int .i64 0, .int .i64 0] [(0, 1, .int .i64 4), (1, 1, .int .i64 6), (2, 1, .int .i64 2), (3, 1, .int .i64 1), (4, 1, .int .i64 0), (5, 1, .int .i64 12), (6, 1, .int .i64 13)] = some (.slice (some ⟨m.length, 0, none⟩) 7 1, m ++ [rowB [4, 6, 2, 1, 0, 12, 13]]) := rfl
theorem bl_q0 (m : Mem) : bslA m 3 1 3 [.int .i64 0, .int .i64 0, .int .i64 0] [(0, 1, .int .i64 0), (1, 1, .int .i64 20), (2, 1, .int .i64 21)] = some (.slice (some ⟨m.length, 0, none⟩) 3 1, m ++ [rowB [0, 20, 21]]) := rfl
theorem bl_q1 (m : Mem) : bslA m 3 1 3 [.int .i64 0, .int .i64 0, .int .i64 0] [(0, 1, .int .i64 0), (1, 1, .int .i64 40), (2, 1, .int .i64 41)] = some (.slice (some ⟨m.length, 0, none⟩) 3 1, m ++ [rowB [0, 40, 41]]) := rfl
theorem bl_q2 (m : Mem) : bslA m 3 1 3 [.int .i64 0, .int .i64 0, .int .i64 0] [(0, 1, .int .i64 (-1)), (1, 1, .int .i64 4), (2, 1, .int .i64 5)] = some (.slice (some ⟨m.length, 0, none⟩) 3 1, m ++ [rowB [-1, 4, 5]]) := rfl
theorem bl_s0 (m : Mem) : bslA m 3 1 8 [.int .i64 0, .int .i64 0, .int .i64 0, .int .i64 0, .int .i64 0, .int .i64 0, .int .i64 0, .int .i64 0] [(0, 1, .int .i64 0), (1, 1, .int .i64 5), (2, 1, .int .i64 20), (3, 1, .int .i64 (-3)), (4, 1, .int .i64 200), (5, 1, .int .i64 201), (6, 1, .int .i64 (-201)), (7, 1, .int .i64 1)] = some (.slice (some ⟨m.length, 0, none⟩) 8 1, m ++ [rowB [0, 5, 20, -3, 200, 201, -201, 1]]) := rfl
theorem bsl_noneP {m : Mem} {e : TypeId} : bslA m e 3 0 [] [] = some (.slice (some ⟨m.length, 0, none⟩) 0 3, m ++ [⟨.own, e, []⟩]) := rfl
theorem bld_pcR (a b c : Int) : bldA [.int .i64 0, .int .i64 0, .int .i64 0] [(0, 1, .int .i64 a), (1, 1, .int .i64 b), (2, 1, .int .i64 c)] = some (.agg #[.int .i64 a, .int .i64 b, .int .i64 c]) := rfl
theorem bsl_pcR {m : Mem} {e : TypeId} {a b c : Int} : bslA m e 3 1 [.int .i64 0, .int .i64 0, .int .i64 0] [(0, 3, .agg #[.int .i64 a, .int .i64 b, .int .i64 c])] = some (.slice (some ⟨m.length, 0, none⟩) 1 3, m ++ [⟨.own, e, [.int .i64 a, .int .i64 b, .int .i64 c]⟩]) := rfl
structure XP (M0 M : Mem) (cb id a bx : Nat) (l : List Int) (e : TypeId) (cs : List Value) : Prop where
  hid : id < M0.length
  hcb : cb < M0.length
  cw : Cw id M0 M
  cur : CurA M cb l id a
  box : OwnB M bx e cs
  ge : M0.length ≤ bx
section
variable {M0 M M2 : Mem} {cb id a a2 bx : Nat} {l : List Int} {e e2 : TypeId} {cs cs2 : List Value}
theorem XP.draw (h : XP M0 M cb id a bx l e cs) (w : Cw id M M2) (k : CurA M2 cb l id a2) : XP M0 M2 cb id a2 bx l e cs :=
  ⟨h.hid, h.hcb, Cw.trans h.hid h.cw w, k, h.box.at_ (w.old bx (by have := h.hid; have := h.ge; omega) h.box.lt), h.ge⟩
theorem XP.ext (h : XP M0 M cb id a bx l e cs) {new : Mem} (hn : NoRo new) : XP M0 (M ++ new) cb id a bx l e cs :=
  ⟨h.hid, h.hcb, h.cw.ext hn, h.cur.ext new, h.box.ext new, h.ge⟩
theorem XP.start (h : CurA M cb l id a) (e : TypeId) (cs : List Value) : XP M (M ++ [⟨.own, e, cs⟩]) cb id a M.length l e cs :=
  ⟨h.lt, h.cblt, (Cw.refl id M).ext (noRo_own noRo_nil), h.ext _, OwnB.here rfl, Nat.le_refl _⟩
theorem XP.new (h : XP M0 M cb id a bx l e cs) (e2 : TypeId) (cs2 : List Value) : XP M0 (M ++ [⟨.own, e2, cs2⟩]) cb id a M.length l e2 cs2 :=
  ⟨h.hid, h.hcb, h.cw.ext (noRo_own noRo_nil), h.cur.ext _, OwnB.here rfl, h.cw.len⟩
theorem XP.put (h : XP M0 M cb id a bx l e cs) (e2 : TypeId) (cs2 : List Value) : XP M0 (M.set bx ⟨.own, e2, cs2⟩) cb id a bx l e2 cs2 := by
  have hid := h.hid
  have hcb := h.hcb
  have hge := h.ge
  exact ⟨hid, hcb, h.cw.put hge (by simp), h.cur.put (by omega) (by omega) _, h.box.set_self _ _, hge⟩
theorem XP.other {b2 : Nat} (h : XP M0 M cb id a bx l e cs) (h2 : XP M0 M cb id a b2 l e2 cs2) (hne : bx ≠ b2) (b : Blk) (hb : b.kd ≠ .ro) : XP M0 (M.set bx b) cb id a b2 l e2 cs2 := by
  have hid := h.hid
  have hcb := h.hcb
  have hge := h.ge
  exact ⟨hid, hcb, h.cw.put hge hb, h.cur.put (by omega) (by omega) _, h2.box.set_ne hne b, h2.ge⟩
theorem XP.app {ys : List Value} {n : Nat} (h : XP M0 M cb id a bx l e cs) (l1 : cs.length = n * 3) (l2 : ys.length = 3) (ho : onesB ys = true) (hb : n ≤ 1000) : ∃ M2,
    appP (M ++ [⟨.own, e, ys⟩]) e 3 24 (.slice (some ⟨bx, 0, none⟩) n 3) (.slice (some ⟨M.length, 0, none⟩) 1 3) = some (.slice (some ⟨M.length + 1, 0, none⟩) (n + 1) 3, M2) ∧ XP M0 M2 cb id a (M.length + 1) l e (cs ++ ys) := by
  have hid := h.hid
  have hcb := h.hcb
  have hge := h.ge
  have hl := h.cw.len
  refine ⟨_, app_back (id2 := M.length) h.box rfl l1 l2 ho (by omega) (by omega), hid, hcb, ((h.cw.put hge (by simp [deadB])).ext (noRo_own noRo_nil)).ext (noRo_own noRo_nil), ((h.cur.put (by omega) (by omega) deadB).ext _).ext _, OwnB.here (by simp), by omega⟩
end
def pcF (p : Pc) (j : Nat) (x : Int) : Pc := if j = 0 then ⟨x, p.amount, p.lead⟩ else if j = 1 then ⟨p.day, x, p.lead⟩ else ⟨p.day, p.amount, x⟩
theorem pcs_set (L : List Pc) (i j : Nat) (x : Int) (hi : i < L.length) (hj : j < 3) : (pcsC L).set (i * 3 + j) (.int .i64 x) = pcsC (L.set i (pcF (L.getD i Pc0) j x)) := by
  refine pcsC_ext (by rw [List.length_set, List.length_set, pcsC_len]) fun k q hk hq => ?_
  rw [List.length_set] at hk
  rw [List.getElem?_set]
  by_cases e : i * 3 + j = k * 3 + q
  · have ek : k = i := by omega
    have eq : q = j := by omega
    subst ek eq
    rw [if_pos rfl, if_pos (by rw [pcsC_len]; omega), List.getD_eq_getElem?_getD, List.getElem?_set_self hk]
    have : q = 0 ∨ q = 1 ∨ q = 2 := by omega
    rcases this with rfl | rfl | rfl <;> simp [pcF, pcC]
  · rw [if_neg e, pcsC_at L k q hk hq]
    by_cases ek : k = i
    · subst ek
      rw [List.getD_eq_getElem?_getD (l := L.set k _), List.getElem?_set_self hk]
      have h1 : q = 0 ∨ q = 1 ∨ q = 2 := by omega
      have h2 : j = 0 ∨ j = 1 ∨ j = 2 := by omega
      rcases h1 with rfl | rfl | rfl <;> rcases h2 with rfl | rfl | rfl <;> first | (exfalso; omega) | simp [pcF, pcC]
    · rw [List.getD_eq_getElem?_getD (l := L.set i _), List.getElem?_set_ne (Ne.symm ek), ← List.getD_eq_getElem?_getD]
theorem pcsC_sR (L : List Pc) (p : Pc) : pcsC (L ++ [p]) = pcsC L ++ [.int .i64 p.day, .int .i64 p.amount, .int .i64 p.lead] := by simp [pcsC, pcC]
set_option maxHeartbeats 8000000 in
theorem parcels_ac (M : Mem) (cb id a : Nat) (l : List Int) (h : CurA M cb l id a) (ha : a ≤ 999999000) :
    AC Try.prog 87 [.pointer (some ⟨id, 0, none⟩)] M fun v M' => ∃ (L : List Pc) (r a' : Nat), v = .slice (some ⟨r, 0, none⟩) L.length 3 ∧ L.length ≤ 13 ∧ a' ≤ a + 120 ∧ XP M M' cb id a' r l 66 (pcsC L) := by
  refine ac_of_run mixed ok_spec_l1Cur__parcels (by simp) (go_start _ _ _ ?_)
  simp (config := {implicitDefEqProofs := false, maxDischargeDepth := 20}) (disch := first | omega | (simp only [lenE]; done) | (simp only [lenE]; omega) | rfl | (simp only [lenE, markR_len]; done) | (simp only [lenE, markR_len]; omega)) only [runE, mapE, listE, initT_5, initT_6, initT_7, initT_8, resV, oneV, binA, unA, reduceCtorEq, Nat.reduceEqDiff, Nat.reduceAdd, Nat.reduceLT, Nat.reduceLeDiff, Nat.reduceMul, Nat.reduceSub, ↓reduceIte, decide_true, decide_false, Bool.true_eq_false, Bool.false_eq_true, Bool.not_true, Bool.not_false, if_true, if_false, and_true, true_and, memE, celE, w64, Nat.zero_add, Nat.add_zero, Nat.mul_one, putL, and_self, ldn, c_spec_l1Cur__parcels, r_spec_l1Cur__parcels, bsl_noneP, bl_p0]
  obtain ⟨E, hE⟩ : ∃ E, E = M ++ [⟨.own, 66, []⟩] := ⟨_, rfl⟩
  have d : XP M E cb id a M.length l 66 (pcsC []) := by rw [hE]; exact XP.start h _ _
  have LE : M.length + 1 = E.length := by rw [hE]; simp
  try rw [← hE, LE]
  clear hE
  refine callH_ac (among_new E cb id a l [0, 1, 3, 5] d.cur (by omega) rfl rfl (by simp) (by simp)) ?_
  rintro v E1 ⟨y, hy, rfl, w, a1, h1, k⟩
  have d := d.draw w k
  clear w k
  have hy2 : 0 ≤ y ∧ y ≤ 5 := by
    simp only [List.mem_cons, List.not_mem_nil, or_false] at hy
    omega
  simp (config := {implicitDefEqProofs := false, maxDischargeDepth := 20}) (disch := first | omega | (simp only [lenE]; done) | (simp only [lenE]; omega) | rfl | (simp only [lenE, markR_len]; done) | (simp only [lenE, markR_len]; omega)) only [runE, mapE, listE, initT_5, initT_6, initT_7, initT_8, resV, oneV, binA, unA, reduceCtorEq, Nat.reduceEqDiff, Nat.reduceAdd, Nat.reduceLT, Nat.reduceLeDiff, Nat.reduceMul, Nat.reduceSub, ↓reduceIte, decide_true, decide_false, Bool.true_eq_false, Bool.false_eq_true, Bool.not_true, Bool.not_false, if_true, if_false, and_true, true_and, memE, celE, w64, Nat.zero_add, Nat.add_zero, Nat.mul_one, putL, and_self, ldn, bl_p1]
  refine callH_ac (among_new E1 cb id a1 l [4, 6, 2, 1, 0, 12, 13] d.cur (by omega) rfl rfl (by simp) (by simp)) ?_
  rintro v E2 ⟨n, hn, rfl, w, a2, h2, k⟩
  have d := d.draw w k
  clear w k
  have hn2 : 0 ≤ n ∧ n ≤ 13 := by
    simp only [List.mem_cons, List.not_mem_nil, or_false] at hn
    omega
  simp (config := {implicitDefEqProofs := false, maxDischargeDepth := 20}) (disch := first | omega | (simp only [lenE]; done) | (simp only [lenE]; omega) | rfl | (simp only [lenE, markR_len]; done) | (simp only [lenE, markR_len]; omega)) only [runE, mapE, listE, initT_5, initT_6, initT_7, initT_8, resV, oneV, binA, unA, reduceCtorEq, Nat.reduceEqDiff, Nat.reduceAdd, Nat.reduceLT, Nat.reduceLeDiff, Nat.reduceMul, Nat.reduceSub, ↓reduceIte, decide_true, decide_false, Bool.true_eq_false, Bool.false_eq_true, Bool.not_true, Bool.not_false, if_true, if_false, and_true, true_and, memE, celE, w64, Nat.zero_add, Nat.add_zero, Nat.mul_one, putL, and_self, ldn]
  refine loop_inv mixed (fun s => ∃ (k : Nat) (N : Mem) (r b : Nat) (L : List Pc) (day : Int), s.t 6 = .int .i64 k ∧ L.length + k ≤ 13 ∧ b + 6 * k ≤ a + 90 ∧ 0 ≤ day ∧ day + 3 * k ≤ 100 ∧ s.m = N ∧ XP M N cb id b r l 66 (pcsC L) ∧ s.t 0 = .pointer (some ⟨id, 0, none⟩) ∧ s.t 3 = .slice (some ⟨r, 0, none⟩) L.length 3 ∧ s.t 4 = .int .i64 day ∧ s.t 5 = .int .i64 y) (fun s => (intOf (s.t 6)).toNat)
    ⟨n.toNat, _, M.length, a2, [], 1, by simp only [put_t, put_t', put_m, putT_t, putT_t', putT_m, init_t, init_m, initT_0, initT_1, initT_2, initT_3, initT_4, initT_5, initT_6, initT_7, initT_8, Nat.reduceEqDiff, ↓reduceIte]; rw [Int.toNat_of_nonneg hn2.1], by simp; omega, by omega, by omega, by omega, rfl, d, rfl, rfl, rfl, rfl⟩ ?_
  clear d
  rintro s ⟨k, N, r, b, L, day, t6, hL, hb, hd0, hd1, tm, d, t0, t3, t4, t5⟩
  by_cases hk : 0 < k
  · have hk' : (0 : Int) < (k : Int) := by omega
    simp (config := {implicitDefEqProofs := false, maxDischargeDepth := 20}) (disch := first | omega | (simp only [lenE]; done) | (simp only [lenE]; omega) | rfl | (simp only [lenE, markR_len]; done) | (simp only [lenE, markR_len]; omega)) only [runE, mapE, listE, initT_5, initT_6, initT_7, initT_8, resV, oneV, binA, unA, reduceCtorEq, Nat.reduceEqDiff, Nat.reduceAdd, Nat.reduceLT, Nat.reduceLeDiff, Nat.reduceMul, Nat.reduceSub, ↓reduceIte, decide_true, decide_false, Bool.true_eq_false, Bool.false_eq_true, Bool.not_true, Bool.not_false, if_true, if_false, and_true, true_and, memE, celE, w64, Nat.zero_add, Nat.add_zero, Nat.mul_one, putL, and_self, ldn, tm, t0, t3, t4, t5, t6, gt_iff_lt, hk']
    refine callH_ac (pick_ac N cb id b l 5 d.cur (by omega) (by omega) (by omega)) ?_
    rintro v N1 ⟨ld, rfl, hl0, hl1, w, b1, hb1, kk⟩
    have d := d.draw w kk
    clear w kk
    have dX := d.new 66 [.int .i64 day, .int .i64 y, .int .i64 ld]
    have dR := d.ext (new := [⟨.own, 66, [.int .i64 day, .int .i64 y, .int .i64 ld]⟩]) (noRo_own noRo_nil)
    have hne : N1.length ≠ r := by have := d.box.lt; omega
    by_cases hy0 : y = 0
    · have q0 : (y == 0) = true := by simp [hy0]
      simp (config := {implicitDefEqProofs := false, maxDischargeDepth := 20}) (disch := first | omega | (simp only [lenE]; done) | (simp only [lenE]; omega) | rfl | (simp only [lenE, markR_len]; done) | (simp only [lenE, markR_len]; omega)) only [runE, mapE, listE, initT_5, initT_6, initT_7, initT_8, resV, oneV, binA, unA, reduceCtorEq, Nat.reduceEqDiff, Nat.reduceAdd, Nat.reduceLT, Nat.reduceLeDiff, Nat.reduceMul, Nat.reduceSub, ↓reduceIte, decide_true, decide_false, Bool.true_eq_false, Bool.false_eq_true, Bool.not_true, Bool.not_false, if_true, if_false, and_true, true_and, memE, celE, w64, Nat.zero_add, Nat.add_zero, Nat.mul_one, putL, and_self, ldn, t0, t3, t4, t5, bld_pcR, stP_agg3p, q0]
      obtain ⟨N2, hN2⟩ : ∃ N2, N2 = N1 ++ [⟨.own, 66, [.int .i64 day, .int .i64 y, .int .i64 ld]⟩] := ⟨_, rfl⟩
      rw [← hN2] at dX dR
      try rw [← hN2]
      clear hN2 d
      generalize N1.length = bx at *
      refine callH_ac (pick_ac N2 cb id b1 l 9 dX.cur (by omega) (by omega) (by omega)) ?_
      rintro v N3 ⟨z, rfl, hz0, hz1, w, b2, hb2, kk⟩
      have dX := dX.draw w kk
      have dR := dR.draw w kk
      clear w kk
      have s1 := dX.box.st (off := 1) (vs := [.int .i64 (1 + z)]) (by simp) rfl
      have dR := dX.other dR hne ⟨.own, 66, [.int .i64 day, .int .i64 (1 + z), .int .i64 ld]⟩ (by simp)
      have dX := dX.put 66 [.int .i64 day, .int .i64 (1 + z), .int .i64 ld]
      simp only [putL, List.set_cons_zero, List.set_cons_succ] at s1
      obtain ⟨N4, hN4⟩ : ∃ N4, N4 = N3.set bx ⟨.own, 66, [.int .i64 day, .int .i64 (1 + z), .int .i64 ld]⟩ := ⟨_, rfl⟩
      rw [← hN4] at s1 dX dR
      clear hN4
      obtain ⟨N5, ap, d5⟩ := dR.app (ys := [.int .i64 day, .int .i64 (1 + z), .int .i64 ld]) (n := L.length) (by rw [pcsC_len]) rfl rfl (by omega)
      have m3 := dX.box.mk3'
      simp (config := {implicitDefEqProofs := false, maxDischargeDepth := 20}) (disch := first | omega | (simp only [lenE]; done) | (simp only [lenE]; omega) | rfl | (simp only [lenE, markR_len]; done) | (simp only [lenE, markR_len]; omega)) only [runE, mapE, listE, initT_5, initT_6, initT_7, initT_8, resV, oneV, binA, unA, reduceCtorEq, Nat.reduceEqDiff, Nat.reduceAdd, Nat.reduceLT, Nat.reduceLeDiff, Nat.reduceMul, Nat.reduceSub, ↓reduceIte, decide_true, decide_false, Bool.true_eq_false, Bool.false_eq_true, Bool.not_true, Bool.not_false, if_true, if_false, and_true, true_and, memE, celE, w64, Nat.zero_add, Nat.add_zero, Nat.mul_one, putL, and_self, ldn, s1, m3, t0, t3, t4, t5, bsl_pcR, ap]
      refine callH_ac (pick_ac N5 cb id b2 l 3 d5.cur (by omega) (by omega) (by omega)) ?_
      rintro v N6 ⟨z3, rfl, hz30, hz31, w, b6, hb6, kk⟩
      have d6 := d5.draw w kk
      clear w kk
      simp (config := {implicitDefEqProofs := false, maxDischargeDepth := 20}) (disch := first | omega | (simp only [lenE]; done) | (simp only [lenE]; omega) | rfl | (simp only [lenE, markR_len]; done) | (simp only [lenE, markR_len]; omega)) only [runE, mapE, listE, initT_5, initT_6, initT_7, initT_8, resV, oneV, binA, unA, reduceCtorEq, Nat.reduceEqDiff, Nat.reduceAdd, Nat.reduceLT, Nat.reduceLeDiff, Nat.reduceMul, Nat.reduceSub, ↓reduceIte, decide_true, decide_false, Bool.true_eq_false, Bool.false_eq_true, Bool.not_true, Bool.not_false, if_true, if_false, and_true, true_and, memE, celE, w64, Nat.zero_add, Nat.add_zero, Nat.mul_one, putL, and_self, ldn, t0, t3, t4, t5, t6]
      refine ⟨⟨k - 1, _, _, b6, L ++ [⟨day, 1 + z, ld⟩], day + z3, by congr 1; omega, by simp; omega, by omega, by omega, by omega, rfl, by rw [pcsC_sR]; exact d6, by simp⟩, ?_⟩
      simp [intOf]; omega
    · have q0 : (y == 0) = false := by simp [hy0]
      obtain ⟨N4, hN4⟩ : ∃ N4, N4 = N1 ++ [⟨.own, 66, [.int .i64 day, .int .i64 y, .int .i64 ld]⟩] := ⟨_, rfl⟩
      rw [← hN4] at dR dX
      have hL4 : N4.length = N1.length + 1 := by rw [hN4]; simp
      obtain ⟨N5, ap, d5⟩ := dR.app (ys := [.int .i64 day, .int .i64 y, .int .i64 ld]) (n := L.length) (by rw [pcsC_len]) rfl rfl (by omega)
      rw [hN4] at ap d5
      simp only [List.length_append, List.length_cons, List.length_nil, Nat.zero_add] at ap d5
      simp (config := {implicitDefEqProofs := false, maxDischargeDepth := 20}) (disch := first | omega | (simp only [lenE]; done) | (simp only [lenE]; omega) | rfl | (simp only [lenE, markR_len]; done) | (simp only [lenE, markR_len]; omega)) only [runE, mapE, listE, initT_5, initT_6, initT_7, initT_8, resV, oneV, binA, unA, reduceCtorEq, Nat.reduceEqDiff, Nat.reduceAdd, Nat.reduceLT, Nat.reduceLeDiff, Nat.reduceMul, Nat.reduceSub, ↓reduceIte, decide_true, decide_false, Bool.true_eq_false, Bool.false_eq_true, Bool.not_true, Bool.not_false, if_true, if_false, and_true, true_and, memE, celE, w64, Nat.zero_add, Nat.add_zero, Nat.mul_one, putL, and_self, ldn, t0, t3, t4, t5, bld_pcR, stP_agg3p, q0, bsl_pcR, ap]
      refine callH_ac (pick_ac N5 cb id b1 l 3 d5.cur (by omega) (by omega) (by omega)) ?_
      rintro v N6 ⟨z3, rfl, hz30, hz31, w, b6, hb6, kk⟩
      have d6 := d5.draw w kk
      clear w kk
      simp (config := {implicitDefEqProofs := false, maxDischargeDepth := 20}) (disch := first | omega | (simp only [lenE]; done) | (simp only [lenE]; omega) | rfl | (simp only [lenE, markR_len]; done) | (simp only [lenE, markR_len]; omega)) only [runE, mapE, listE, initT_5, initT_6, initT_7, initT_8, resV, oneV, binA, unA, reduceCtorEq, Nat.reduceEqDiff, Nat.reduceAdd, Nat.reduceLT, Nat.reduceLeDiff, Nat.reduceMul, Nat.reduceSub, ↓reduceIte, decide_true, decide_false, Bool.true_eq_false, Bool.false_eq_true, Bool.not_true, Bool.not_false, if_true, if_false, and_true, true_and, memE, celE, w64, Nat.zero_add, Nat.add_zero, Nat.mul_one, putL, and_self, ldn, t0, t3, t4, t5, t6]
      refine ⟨⟨k - 1, _, _, b6, L ++ [⟨day, y, ld⟩], day + z3, by congr 1; omega, by simp; omega, by omega, by omega, by omega, rfl, by rw [pcsC_sR]; exact d6, by simp⟩, ?_⟩
      simp [intOf]; omega
  · have hk' : ¬ ((0 : Int) < (k : Int)) := by omega
    have hll : lenA (.slice (some ⟨r, 0, none⟩) L.length 3) = some (.int .i64 L.length) := rfl
    by_cases hpos : 0 < L.length
    · have hpos' : (0 : Int) < (L.length : Int) := by omega
      simp (config := {implicitDefEqProofs := false, maxDischargeDepth := 20}) (disch := first | omega | (simp only [lenE]; done) | (simp only [lenE]; omega) | rfl | (simp only [lenE, markR_len]; done) | (simp only [lenE, markR_len]; omega)) only [runE, mapE, listE, initT_5, initT_6, initT_7, initT_8, resV, oneV, binA, unA, reduceCtorEq, Nat.reduceEqDiff, Nat.reduceAdd, Nat.reduceLT, Nat.reduceLeDiff, Nat.reduceMul, Nat.reduceSub, ↓reduceIte, decide_true, decide_false, Bool.true_eq_false, Bool.false_eq_true, Bool.not_true, Bool.not_false, if_true, if_false, and_true, true_and, memE, celE, w64, Nat.zero_add, Nat.add_zero, Nat.mul_one, putL, and_self, ldn, tm, t0, t3, t4, t5, t6, gt_iff_lt, hk', hll, hpos']
      refine callH_ac (pick_ac N cb id b l L.length d.cur (by omega) (by omega) (by omega)) ?_
      rintro v N1 ⟨i, rfl, hi0, hi1, w, b1, hb1, kk⟩
      have d := d.draw w kk
      clear w kk
      simp (config := {implicitDefEqProofs := false, maxDischargeDepth := 20}) (disch := first | omega | (simp only [lenE]; done) | (simp only [lenE]; omega) | rfl | (simp only [lenE, markR_len]; done) | (simp only [lenE, markR_len]; omega)) only [runE, mapE, listE, initT_5, initT_6, initT_7, initT_8, resV, oneV, binA, unA, reduceCtorEq, Nat.reduceEqDiff, Nat.reduceAdd, Nat.reduceLT, Nat.reduceLeDiff, Nat.reduceMul, Nat.reduceSub, ↓reduceIte, decide_true, decide_false, Bool.true_eq_false, Bool.false_eq_true, Bool.not_true, Bool.not_false, if_true, if_false, and_true, true_and, memE, celE, w64, Nat.zero_add, Nat.add_zero, Nat.mul_one, putL, and_self, ldn, t0, t3]
      refine callH_ac (pick_ac N1 cb id b1 l 40 d.cur (by omega) (by omega) (by omega)) ?_
      rintro v N2 ⟨p, rfl, hp0, hp1, w, b2, hb2, kk⟩
      have d := d.draw w kk
      clear w kk
      obtain ⟨j, hj⟩ : ∃ j : Nat, i = (j : Int) := ⟨i.toNat, (Int.toNat_of_nonneg hi0).symm⟩
      subst hj
      have hjl : j < L.length := by omega
      have ia := iadA_in (id := r) (off := 0) (n := L.length) (fl := 3) (sz := 3) (k := .i64) hjl
      rw [Nat.zero_add] at ia
      by_cases c0 : p = 0
      · have g0 : (p == 0) = true := by simp [c0]
        simp (config := {implicitDefEqProofs := false, maxDischargeDepth := 20}) (disch := first | omega | (simp only [lenE]; done) | (simp only [lenE]; omega) | rfl | (simp only [lenE, markR_len]; done) | (simp only [lenE, markR_len]; omega)) only [runE, mapE, listE, initT_5, initT_6, initT_7, initT_8, resV, oneV, binA, unA, reduceCtorEq, Nat.reduceEqDiff, Nat.reduceAdd, Nat.reduceLT, Nat.reduceLeDiff, Nat.reduceMul, Nat.reduceSub, ↓reduceIte, decide_true, decide_false, Bool.true_eq_false, Bool.false_eq_true, Bool.not_true, Bool.not_false, if_true, if_false, and_true, true_and, memE, celE, w64, Nat.zero_add, Nat.add_zero, Nat.mul_one, putL, and_self, ldn, g0, t0, t3, bl_q0]
        refine callH_ac (among_new N2 cb id b2 l [0, 20, 21] d.cur (by omega) rfl rfl (by simp) (by simp)) ?_
        rintro v N3 ⟨x, -, rfl, w, b3, hb3, kk⟩
        have d := d.draw w kk
        clear w kk
        have s1 := d.box.st (off := j * 3 + 0) (vs := [.int .i64 x]) (by simp [pcsC_len]; omega) rfl
        have d := d.put 66 (pcsC (L.set j (pcF (L.getD j Pc0) 0 x)))
        rw [show putL (pcsC L) (j * 3 + 0) [.int .i64 x] = pcsC (L.set j (pcF (L.getD j Pc0) 0 x)) from pcs_set L j 0 x hjl (by omega)] at s1
        rw [Nat.add_zero] at s1
        simp (config := {implicitDefEqProofs := false, maxDischargeDepth := 20}) (disch := first | omega | (simp only [lenE]; done) | (simp only [lenE]; omega) | rfl | (simp only [lenE, markR_len]; done) | (simp only [lenE, markR_len]; omega)) only [runE, mapE, listE, initT_5, initT_6, initT_7, initT_8, resV, oneV, binA, unA, reduceCtorEq, Nat.reduceEqDiff, Nat.reduceAdd, Nat.reduceLT, Nat.reduceLeDiff, Nat.reduceMul, Nat.reduceSub, ↓reduceIte, decide_true, decide_false, Bool.true_eq_false, Bool.false_eq_true, Bool.not_true, Bool.not_false, if_true, if_false, and_true, true_and, memE, celE, w64, Nat.zero_add, Nat.add_zero, Nat.mul_one, putL, and_self, ldn, t3, ia, s1]
        exact ⟨_, r, b3, by rw [List.length_set], by rw [List.length_set]; omega, by omega, d⟩
      · have g0 : (p == 0) = false := by simp [c0]
        by_cases c1 : p = 1
        · have g1 : (p == 1) = true := by simp [c1]
          simp (config := {implicitDefEqProofs := false, maxDischargeDepth := 20}) (disch := first | omega | (simp only [lenE]; done) | (simp only [lenE]; omega) | rfl | (simp only [lenE, markR_len]; done) | (simp only [lenE, markR_len]; omega)) only [runE, mapE, listE, initT_5, initT_6, initT_7, initT_8, resV, oneV, binA, unA, reduceCtorEq, Nat.reduceEqDiff, Nat.reduceAdd, Nat.reduceLT, Nat.reduceLeDiff, Nat.reduceMul, Nat.reduceSub, ↓reduceIte, decide_true, decide_false, Bool.true_eq_false, Bool.false_eq_true, Bool.not_true, Bool.not_false, if_true, if_false, and_true, true_and, memE, celE, w64, Nat.zero_add, Nat.add_zero, Nat.mul_one, putL, and_self, ldn, g0, g1, t0, t3, bl_q1]
          refine callH_ac (among_new N2 cb id b2 l [0, 40, 41] d.cur (by omega) rfl rfl (by simp) (by simp)) ?_
          rintro v N3 ⟨x, -, rfl, w, b3, hb3, kk⟩
          have d := d.draw w kk
          clear w kk
          have s1 := d.box.st (off := j * 3 + 1) (vs := [.int .i64 x]) (by simp [pcsC_len]; omega) rfl
          have d := d.put 66 (pcsC (L.set j (pcF (L.getD j Pc0) 1 x)))
          rw [show putL (pcsC L) (j * 3 + 1) [.int .i64 x] = pcsC (L.set j (pcF (L.getD j Pc0) 1 x)) from pcs_set L j 1 x hjl (by omega)] at s1
          simp (config := {implicitDefEqProofs := false, maxDischargeDepth := 20}) (disch := first | omega | (simp only [lenE]; done) | (simp only [lenE]; omega) | rfl | (simp only [lenE, markR_len]; done) | (simp only [lenE, markR_len]; omega)) only [runE, mapE, listE, initT_5, initT_6, initT_7, initT_8, resV, oneV, binA, unA, reduceCtorEq, Nat.reduceEqDiff, Nat.reduceAdd, Nat.reduceLT, Nat.reduceLeDiff, Nat.reduceMul, Nat.reduceSub, ↓reduceIte, decide_true, decide_false, Bool.true_eq_false, Bool.false_eq_true, Bool.not_true, Bool.not_false, if_true, if_false, and_true, true_and, memE, celE, w64, Nat.zero_add, Nat.add_zero, Nat.mul_one, putL, and_self, ldn, t3, ia, s1]
          exact ⟨_, r, b3, by rw [List.length_set], by rw [List.length_set]; omega, by omega, d⟩
        · have g1 : (p == 1) = false := by simp [c1]
          by_cases c2 : p = 2
          · have g2 : (p == 2) = true := by simp [c2]
            simp (config := {implicitDefEqProofs := false, maxDischargeDepth := 20}) (disch := first | omega | (simp only [lenE]; done) | (simp only [lenE]; omega) | rfl | (simp only [lenE, markR_len]; done) | (simp only [lenE, markR_len]; omega)) only [runE, mapE, listE, initT_5, initT_6, initT_7, initT_8, resV, oneV, binA, unA, reduceCtorEq, Nat.reduceEqDiff, Nat.reduceAdd, Nat.reduceLT, Nat.reduceLeDiff, Nat.reduceMul, Nat.reduceSub, ↓reduceIte, decide_true, decide_false, Bool.true_eq_false, Bool.false_eq_true, Bool.not_true, Bool.not_false, if_true, if_false, and_true, true_and, memE, celE, w64, Nat.zero_add, Nat.add_zero, Nat.mul_one, putL, and_self, ldn, g0, g1, g2, t0, t3, bl_q2]
            refine callH_ac (among_new N2 cb id b2 l [-1, 4, 5] d.cur (by omega) rfl rfl (by simp) (by simp)) ?_
            rintro v N3 ⟨x, -, rfl, w, b3, hb3, kk⟩
            have d := d.draw w kk
            clear w kk
            have s1 := d.box.st (off := j * 3 + 2) (vs := [.int .i64 x]) (by simp [pcsC_len]; omega) rfl
            have d := d.put 66 (pcsC (L.set j (pcF (L.getD j Pc0) 2 x)))
            rw [show putL (pcsC L) (j * 3 + 2) [.int .i64 x] = pcsC (L.set j (pcF (L.getD j Pc0) 2 x)) from pcs_set L j 2 x hjl (by omega)] at s1
            simp (config := {implicitDefEqProofs := false, maxDischargeDepth := 20}) (disch := first | omega | (simp only [lenE]; done) | (simp only [lenE]; omega) | rfl | (simp only [lenE, markR_len]; done) | (simp only [lenE, markR_len]; omega)) only [runE, mapE, listE, initT_5, initT_6, initT_7, initT_8, resV, oneV, binA, unA, reduceCtorEq, Nat.reduceEqDiff, Nat.reduceAdd, Nat.reduceLT, Nat.reduceLeDiff, Nat.reduceMul, Nat.reduceSub, ↓reduceIte, decide_true, decide_false, Bool.true_eq_false, Bool.false_eq_true, Bool.not_true, Bool.not_false, if_true, if_false, and_true, true_and, memE, celE, w64, Nat.zero_add, Nat.add_zero, Nat.mul_one, putL, and_self, ldn, t3, ia, s1]
            exact ⟨_, r, b3, by rw [List.length_set], by rw [List.length_set]; omega, by omega, d⟩
          · have g2 : (p == 2) = false := by simp [c2]
            simp (config := {implicitDefEqProofs := false, maxDischargeDepth := 20}) (disch := first | omega | (simp only [lenE]; done) | (simp only [lenE]; omega) | rfl | (simp only [lenE, markR_len]; done) | (simp only [lenE, markR_len]; omega)) only [runE, mapE, listE, initT_5, initT_6, initT_7, initT_8, resV, oneV, binA, unA, reduceCtorEq, Nat.reduceEqDiff, Nat.reduceAdd, Nat.reduceLT, Nat.reduceLeDiff, Nat.reduceMul, Nat.reduceSub, ↓reduceIte, decide_true, decide_false, Bool.true_eq_false, Bool.false_eq_true, Bool.not_true, Bool.not_false, if_true, if_false, and_true, true_and, memE, celE, w64, Nat.zero_add, Nat.add_zero, Nat.mul_one, putL, and_self, ldn, g0, g1, g2, t3]
            exact ⟨L, r, b2, rfl, by omega, by omega, d⟩
    · have hpos' : ¬ ((0 : Int) < (L.length : Int)) := by omega
      simp (config := {implicitDefEqProofs := false, maxDischargeDepth := 20}) (disch := first | omega | (simp only [lenE]; done) | (simp only [lenE]; omega) | rfl | (simp only [lenE, markR_len]; done) | (simp only [lenE, markR_len]; omega)) only [runE, mapE, listE, initT_5, initT_6, initT_7, initT_8, resV, oneV, binA, unA, reduceCtorEq, Nat.reduceEqDiff, Nat.reduceAdd, Nat.reduceLT, Nat.reduceLeDiff, Nat.reduceMul, Nat.reduceSub, ↓reduceIte, decide_true, decide_false, Bool.true_eq_false, Bool.false_eq_true, Bool.not_true, Bool.not_false, if_true, if_false, and_true, true_and, memE, celE, w64, Nat.zero_add, Nat.add_zero, Nat.mul_one, putL, and_self, ldn, tm, t0, t3, t4, t5, t6, gt_iff_lt, hk', hll, hpos']
      exact ⟨L, r, b, rfl, by omega, by omega, d⟩
end Go.Proofs.Ytjdallbnbjnghaa.Ab
end
section
namespace Go.Proofs.Ytjdallbnbjnghaa.Ab
open Go Go.RowKit
set_option linter.unusedVariables false
set_option linter.unusedSimpArgs false
set_option maxRecDepth 10000
theorem OwnB.backR {m n0 : Mem} {id : Nat} {e : TypeId} {cs : List Value} (h : OwnB (roM m ++ n0) id e cs) (hid : m.length ≤ id) : OwnB (m ++ n0) id e cs :=
  h.at_ (by rw [List.getElem?_append_right hid, List.getElem?_append_right (by rw [roM_len]; exact hid), roM_len])
theorem OwnR.backR {m n0 : Mem} {id : Nat} {l : List Int} (h : OwnR (roM m ++ n0) id l) (hid : m.length ≤ id) : OwnR (m ++ n0) id l :=
  h.at_ (by rw [List.getElem?_append_right hid, List.getElem?_append_right (by rw [roM_len]; exact hid), roM_len])
theorem CurA.start2 {M : Mem} {cb fl : Nat} {l : List Int} (h : M[cb]? = some ⟨.ro, 5, l.map (Value.int .u8)⟩) (hb : ∀ x ∈ l, 0 ≤ x ∧ x ≤ 255) (hf : l.length ≤ 65536) : CurA (M ++ [⟨.own, 75, [.slice (some ⟨cb, 0, none⟩) l.length fl, .int .i64 0, .int .u64 0]⟩]) cb l M.length 0 :=
  ⟨by rw [List.getElem?_append_left (List.getElem?_eq_some_iff.1 h).1]; exact h, hb, hf, (fl, 0), by simp⟩
def AnsPc (m : Mem) (r : Value) (new : Mem) : Prop :=
  NoRo new ∧ ∃ (L : List Pc) (id : Nat), r = .slice (some ⟨id, 0, none⟩) L.length 3 ∧ m.length ≤ id ∧ L.length ≤ 13 ∧ OwnB (m ++ new) id 66 (pcsC L)
theorem ext_pcR {m M : Mem} {L : List Pc} {id n : Nat} (h : Ext m M) (hn : n = L.length) (hid : m.length ≤ id) (hl : L.length ≤ 13) (ho : OwnB M id 66 (pcsC L)) : newQ m (AnsPc m) (.slice (some ⟨id, 0, none⟩) n 3) M := by
  subst hn
  obtain ⟨n0, rfl, h0⟩ := h
  exact ⟨n0, rfl, h0, h0, L, id, rfl, hid, hl, ho.backR hid⟩
theorem DrawArrivalsOf_rc (m : Mem) (cb fl : Nat) (l : List Int) (h : BytesA m cb l) :
    RC Try.prog 95 [.slice (some ⟨cb, 0, none⟩) l.length fl] m (AnsPc m) := by
  refine rc_of_run mixed ok_spec_DrawArrivalsOf (by simp) (go_start _ _ _ ?_)
  have k0 := CurA.start2 (fl := fl) h.ro h.byte h.few
  rw [roM_len] at k0
  simp (config := {implicitDefEqProofs := false, maxDischargeDepth := 20}) (disch := first | omega | (simp only [lenE]; done) | (simp only [lenE]; omega) | rfl | (simp only [lenE, markR_len]; done) | (simp only [lenE, markR_len]; omega)) only [runE, mapE, listE, initT_5, initT_6, initT_7, initT_8, resV, oneV, binA, unA, reduceCtorEq, Nat.reduceEqDiff, Nat.reduceAdd, Nat.reduceLT, Nat.reduceLeDiff, Nat.reduceMul, Nat.reduceSub, ↓reduceIte, decide_true, decide_false, Bool.true_eq_false, Bool.false_eq_true, Bool.not_true, Bool.not_false, if_true, if_false, and_true, true_and, memE, celE, w64, Nat.zero_add, Nat.add_zero, Nat.mul_one, putL, and_self, ldn, c_spec_DrawArrivalsOf, r_spec_DrawArrivalsOf, bldCur]
  refine callH_ac (parcels_ac _ cb _ 0 l k0 (by omega)) ?_
  rintro v M1 ⟨L, r, a, rfl, hl, ha, d⟩
  have hx := Cw.toExt d.cw d.cur
  have hge := d.ge
  rw [List.length_append, roM_len] at hge
  simp (config := {implicitDefEqProofs := false, maxDischargeDepth := 20}) (disch := first | omega | (simp only [lenE]; done) | (simp only [lenE]; omega) | rfl | (simp only [lenE, markR_len]; done) | (simp only [lenE, markR_len]; omega)) only [runE, mapE, listE, initT_5, initT_6, initT_7, initT_8, resV, oneV, binA, unA, reduceCtorEq, Nat.reduceEqDiff, Nat.reduceAdd, Nat.reduceLT, Nat.reduceLeDiff, Nat.reduceMul, Nat.reduceSub, ↓reduceIte, decide_true, decide_false, Bool.true_eq_false, Bool.false_eq_true, Bool.not_true, Bool.not_false, if_true, if_false, and_true, true_and, memE, celE, w64, Nat.zero_add, Nat.add_zero, Nat.mul_one, putL, and_self, ldn]
  exact ext_pcR hx rfl (by omega) hl d.box
theorem DrawStraightLeads_rc (m : Mem) (cb fl : Nat) (l : List Int) (h : BytesA m cb l) :
    RC Try.prog 38 [.slice (some ⟨cb, 0, none⟩) l.length fl] m (AnsPc m) := by
  refine rc_of_run mixed ok_spec_DrawStraightLeads (by simp) (go_start _ _ _ ?_)
  simp (config := {implicitDefEqProofs := false, maxDischargeDepth := 20}) (disch := first | omega | (simp only [lenE]; done) | (simp only [lenE]; omega) | rfl | (simp only [lenE, markR_len]; done) | (simp only [lenE, markR_len]; omega)) only [runE, mapE, listE, initT_5, initT_6, initT_7, initT_8, resV, oneV, binA, unA, reduceCtorEq, Nat.reduceEqDiff, Nat.reduceAdd, Nat.reduceLT, Nat.reduceLeDiff, Nat.reduceMul, Nat.reduceSub, ↓reduceIte, decide_true, decide_false, Bool.true_eq_false, Bool.false_eq_true, Bool.not_true, Bool.not_false, if_true, if_false, and_true, true_and, memE, celE, w64, Nat.zero_add, Nat.add_zero, Nat.mul_one, putL, and_self, ldn, c_spec_DrawStraightLeads, r_spec_DrawStraightLeads]
  refine callH_rc (DrawArrivalsOf_rc _ cb fl l ⟨⟨.ro, by simp, h.ro⟩, h.byte, h.few⟩) ?_
  rintro r new ⟨hn, L, id, rfl, hid, hl, ho⟩
  rw [roM_len] at hid
  simp (config := {implicitDefEqProofs := false, maxDischargeDepth := 20}) (disch := first | omega | (simp only [lenE]; done) | (simp only [lenE]; omega) | rfl | (simp only [lenE, markR_len]; done) | (simp only [lenE, markR_len]; omega)) only [runE, mapE, listE, initT_5, initT_6, initT_7, initT_8, resV, oneV, binA, unA, reduceCtorEq, Nat.reduceEqDiff, Nat.reduceAdd, Nat.reduceLT, Nat.reduceLeDiff, Nat.reduceMul, Nat.reduceSub, ↓reduceIte, decide_true, decide_false, Bool.true_eq_false, Bool.false_eq_true, Bool.not_true, Bool.not_false, if_true, if_false, and_true, true_and, memE, celE, w64, Nat.zero_add, Nat.add_zero, Nat.mul_one, putL, and_self, ldn]
  exact ext_pcR ((Ext.refl m).app hn) rfl hid hl ho
def AnsPs (m : Mem) (r : Value) (new : Mem) : Prop :=
  NoRo new ∧ ∃ (x : Int) (L : List Pc) (id : Nat) (A : List Int) (rid : Nat), r = .tuple #[.int .i64 x, .slice (some ⟨id, 0, none⟩) L.length 3, .slice (some ⟨rid, 0, none⟩) A.length 1] ∧ m.length ≤ id ∧ m.length ≤ rid ∧ L.length ≤ 13 ∧ A.length ≤ 21 ∧ OwnB (m ++ new) id 66 (pcsC L) ∧ OwnR (m ++ new) rid A
theorem DrawParcelStocks_rc (m : Mem) (cb fl : Nat) (l : List Int) (h : BytesA m cb l) :
    RC Try.prog 35 [.slice (some ⟨cb, 0, none⟩) l.length fl] m (AnsPs m) := by
  refine rc_of_run mixed ok_spec_DrawParcelStocks (by simp) (go_start _ _ _ ?_)
  have k0 := CurA.start2 (fl := fl) h.ro h.byte h.few
  rw [roM_len] at k0
  simp (config := {implicitDefEqProofs := false, maxDischargeDepth := 20}) (disch := first | omega | (simp only [lenE]; done) | (simp only [lenE]; omega) | rfl | (simp only [lenE, markR_len]; done) | (simp only [lenE, markR_len]; omega)) only [runE, mapE, listE, initT_5, initT_6, initT_7, initT_8, resV, oneV, binA, unA, reduceCtorEq, Nat.reduceEqDiff, Nat.reduceAdd, Nat.reduceLT, Nat.reduceLeDiff, Nat.reduceMul, Nat.reduceSub, ↓reduceIte, decide_true, decide_false, Bool.true_eq_false, Bool.false_eq_true, Bool.not_true, Bool.not_false, if_true, if_false, and_true, true_and, memE, celE, w64, Nat.zero_add, Nat.add_zero, Nat.mul_one, putL, and_self, ldn, c_spec_DrawParcelStocks, r_spec_DrawParcelStocks, bldCur]
  refine callH_ac (parcels_ac _ cb _ 0 l k0 (by omega)) ?_
  rintro v M1 ⟨L, r, a, rfl, hl, ha, d⟩
  simp (config := {implicitDefEqProofs := false, maxDischargeDepth := 20}) (disch := first | omega | (simp only [lenE]; done) | (simp only [lenE]; omega) | rfl | (simp only [lenE, markR_len]; done) | (simp only [lenE, markR_len]; omega)) only [runE, mapE, listE, initT_5, initT_6, initT_7, initT_8, resV, oneV, binA, unA, reduceCtorEq, Nat.reduceEqDiff, Nat.reduceAdd, Nat.reduceLT, Nat.reduceLeDiff, Nat.reduceMul, Nat.reduceSub, ↓reduceIte, decide_true, decide_false, Bool.true_eq_false, Bool.false_eq_true, Bool.not_true, Bool.not_false, if_true, if_false, and_true, true_and, memE, celE, w64, Nat.zero_add, Nat.add_zero, Nat.mul_one, putL, and_self, ldn, bl_s0]
  refine callH_ac (among_new M1 cb _ a l [0, 5, 20, -3, 200, 201, -201, 1] d.cur (by omega) rfl rfl (by simp) (by simp)) ?_
  rintro v M2 ⟨x, hx, rfl, w, a2, h2, k⟩
  have d := d.draw w k
  clear w k
  simp (config := {implicitDefEqProofs := false, maxDischargeDepth := 20}) (disch := first | omega | (simp only [lenE]; done) | (simp only [lenE]; omega) | rfl | (simp only [lenE, markR_len]; done) | (simp only [lenE, markR_len]; omega)) only [runE, mapE, listE, initT_5, initT_6, initT_7, initT_8, resV, oneV, binA, unA, reduceCtorEq, Nat.reduceEqDiff, Nat.reduceAdd, Nat.reduceLT, Nat.reduceLeDiff, Nat.reduceMul, Nat.reduceSub, ↓reduceIte, decide_true, decide_false, Bool.true_eq_false, Bool.false_eq_true, Bool.not_true, Bool.not_false, if_true, if_false, and_true, true_and, memE, celE, w64, Nat.zero_add, Nat.add_zero, Nat.mul_one, putL, and_self, ldn]
  refine callH_ac (calls_ac M2 cb _ a2 l d.cur (by omega)) ?_
  rintro v M3 ⟨A, rid, a3, rfl, hA, h3, q⟩
  have d := d.draw q.cw q.cur
  have hge := d.ge
  have hge2 := q.ge
  have hll := d.cw.len
  have hb := d.box.lt
  have hX := Cw.toExt d.cw d.cur
  have hM2 : m.length ≤ M2.length := by
    have := q.hid; omega
  rw [List.length_append, roM_len] at hge
  simp (config := {implicitDefEqProofs := false, maxDischargeDepth := 20}) (disch := first | omega | (simp only [lenE]; done) | (simp only [lenE]; omega) | rfl | (simp only [lenE, markR_len]; done) | (simp only [lenE, markR_len]; omega)) only [runE, mapE, listE, initT_5, initT_6, initT_7, initT_8, resV, oneV, binA, unA, reduceCtorEq, Nat.reduceEqDiff, Nat.reduceAdd, Nat.reduceLT, Nat.reduceLeDiff, Nat.reduceMul, Nat.reduceSub, ↓reduceIte, decide_true, decide_false, Bool.true_eq_false, Bool.false_eq_true, Bool.not_true, Bool.not_false, if_true, if_false, and_true, true_and, memE, celE, w64, Nat.zero_add, Nat.add_zero, Nat.mul_one, putL, and_self, ldn]
  obtain ⟨n0, rfl, h0⟩ := hX
  exact ⟨n0, rfl, h0, h0, x, L, r, A, rid, rfl, by omega, by omega, hl, hA, d.box.backR (by omega), q.own.backR (by omega)⟩
end Go.Proofs.Ytjdallbnbjnghaa.Ab
end
section
namespace Go.Proofs.Ytjdallbnbjnghaa.Ab
open Go Go.RowKit
set_option linter.unusedVariables false
set_option linter.unusedSimpArgs false
theorem OwnR.backP {m n0 : Mem} {id : Nat} {l : List Int} (h : OwnR (roM m ++ n0) id l) (hid : m.length ≤ id) : OwnR (m ++ n0) id l :=
  h.at_ (by rw [List.getElem?_append_right hid, List.getElem?_append_right (by rw [roM_len]; exact hid), roM_len])
theorem OwnB.deadP {M : Mem} {id id' : Nat} {e : TypeId} {cs : List Value} (h : OwnB M id' e cs) (hne : id ≠ id') : OwnB (M.set id deadB) id' e cs := h.set_ne hne _
def pcOf (v : Value) : Pc := match v with
  | .agg #[.int _ a, .int _ b, .int _ c] => ⟨a, b, c⟩
  | _ => Pc0
def ascB (L : List Pc) : Bool := decide (∀ k, k < L.length - 1 → (L.getD k Pc0).day ≤ (L.getD (k + 1) Pc0).day)
def parB (L : List Pc) : Bool := (decide ((L.length : Int) ≤ 12) && L.all Pc.good) && ascB L
structure GoodL (L : List Pc) : Prop where
  len : L.length ≤ 12
  all : ∀ k, k < L.length → GoodP11 (L.getD k Pc0)
  asc : ∀ k, k + 1 < L.length → (L.getD k Pc0).day ≤ (L.getD (k + 1) Pc0).day
theorem allPc {L : List Pc} : L.all Pc.good = true ↔ ∀ k, k < L.length → GoodP11 (L.getD k Pc0) := by
  rw [List.all_eq_true]
  constructor
  · intro h k hk
    refine goodPc_iff.1 (h _ ?_)
    rw [List.getD_eq_getElem?_getD, List.getElem?_eq_getElem hk]; exact List.getElem_mem hk
  · intro h x hx
    obtain ⟨k, hk, rfl⟩ := List.getElem_of_mem hx
    have := h k hk
    rw [List.getD_eq_getElem?_getD, List.getElem?_eq_getElem hk] at this
    exact goodPc_iff.2 this
theorem parB_iff {L : List Pc} : parB L = true ↔ GoodL L := by
  unfold parB ascB
  rw [Bool.and_eq_true, Bool.and_eq_true, decide_eq_true_eq, decide_eq_true_eq, allPc]
  exact ⟨fun h => ⟨by omega, h.1.2, fun k hk => h.2 k (by omega)⟩, fun h => ⟨⟨by have := h.len; omega, h.all⟩, fun k hk => h.asc k (by omega)⟩⟩
theorem all_pc (L : List Pc) : (L.map pcV).all (fun x => (pcOf x).good) = L.all Pc.good := by
  rw [List.all_map]; rfl
theorem ones_pc (L : List Pc) : ∀ x ∈ L.map pcV, ∃ a b c, x = .agg #[a, b, c] ∧ onesB [a, b, c] = true := by
  intro x hx
  obtain ⟨p, _, rfl⟩ := List.mem_map.1 hx
  exact ⟨_, _, _, rfl, rfl⟩
theorem isParcel_rc (m : Mem) (p : Pc) : RC Try.prog 118 [pcV p] m (AnsV (.bool p.good)) := by
  refine rc_of_run mixed ok_impl_isParcel (by simp) (go_start _ _ _ ?_)
  have hx : Ext m (roM m ++ [⟨.own, 66, [.int .i64 p.day, .int .i64 p.amount, .int .i64 p.lead]⟩]) := (Ext.refl m).one _ _
  simp (config := {implicitDefEqProofs := false, maxDischargeDepth := 20}) (disch := first | omega | (simp only [lenE]; done) | (simp only [lenE]; omega) | rfl | (simp only [lenE, markR_len]; done) | (simp only [lenE, markR_len]; omega)) only [runE, mapE, listE, initT_5, initT_6, initT_7, initT_8, resV, oneV, binA, unA, reduceCtorEq, Nat.reduceEqDiff, Nat.reduceAdd, Nat.reduceLT, Nat.reduceLeDiff, Nat.reduceMul, Nat.reduceSub, ↓reduceIte, decide_true, decide_false, Bool.true_eq_false, Bool.false_eq_true, Bool.not_true, Bool.not_false, if_true, if_false, and_true, true_and, memE, celE, w64, Nat.zero_add, Nat.add_zero, Nat.mul_one, putL, and_self, ldn, c_impl_isParcel, r_impl_isParcel, pcV]
  refine callH_rc (isCount11_rc _ _ _) ?_
  rintro r1 new ⟨rfl, rfl⟩
  rw [List.append_nil]
  cases h1 : (decide (1 ≤ p.day) && decide (p.day ≤ 20)) with
  | false =>
    simp (config := {implicitDefEqProofs := false, maxDischargeDepth := 20}) (disch := first | omega | (simp only [lenE]; done) | (simp only [lenE]; omega) | rfl | (simp only [lenE, markR_len]; done) | (simp only [lenE, markR_len]; omega)) only [runE, mapE, listE, initT_5, initT_6, initT_7, initT_8, resV, oneV, binA, unA, reduceCtorEq, Nat.reduceEqDiff, Nat.reduceAdd, Nat.reduceLT, Nat.reduceLeDiff, Nat.reduceMul, Nat.reduceSub, ↓reduceIte, decide_true, decide_false, Bool.true_eq_false, Bool.false_eq_true, Bool.not_true, Bool.not_false, if_true, if_false, and_true, true_and, memE, celE, w64, Nat.zero_add, Nat.add_zero, Nat.mul_one, putL, and_self, ldn]
    exact ext_ansV hx (by simp only [Pc.good, h1]; rfl)
  | true =>
    simp (config := {implicitDefEqProofs := false, maxDischargeDepth := 20}) (disch := first | omega | (simp only [lenE]; done) | (simp only [lenE]; omega) | rfl | (simp only [lenE, markR_len]; done) | (simp only [lenE, markR_len]; omega)) only [runE, mapE, listE, initT_5, initT_6, initT_7, initT_8, resV, oneV, binA, unA, reduceCtorEq, Nat.reduceEqDiff, Nat.reduceAdd, Nat.reduceLT, Nat.reduceLeDiff, Nat.reduceMul, Nat.reduceSub, ↓reduceIte, decide_true, decide_false, Bool.true_eq_false, Bool.false_eq_true, Bool.not_true, Bool.not_false, if_true, if_false, and_true, true_and, memE, celE, w64, Nat.zero_add, Nat.add_zero, Nat.mul_one, putL, and_self, ldn]
    refine callH_rc (isCount11_rc _ _ _) ?_
    rintro r1 new ⟨rfl, rfl⟩
    rw [List.append_nil]
    cases h2 : (decide (1 ≤ p.amount) && decide (p.amount ≤ 40)) with
    | false =>
      simp (config := {implicitDefEqProofs := false, maxDischargeDepth := 20}) (disch := first | omega | (simp only [lenE]; done) | (simp only [lenE]; omega) | rfl | (simp only [lenE, markR_len]; done) | (simp only [lenE, markR_len]; omega)) only [runE, mapE, listE, initT_5, initT_6, initT_7, initT_8, resV, oneV, binA, unA, reduceCtorEq, Nat.reduceEqDiff, Nat.reduceAdd, Nat.reduceLT, Nat.reduceLeDiff, Nat.reduceMul, Nat.reduceSub, ↓reduceIte, decide_true, decide_false, Bool.true_eq_false, Bool.false_eq_true, Bool.not_true, Bool.not_false, if_true, if_false, and_true, true_and, memE, celE, w64, Nat.zero_add, Nat.add_zero, Nat.mul_one, putL, and_self, ldn]
      exact ext_ansV hx (by simp only [Pc.good, h1, h2]; rfl)
    | true =>
      simp (config := {implicitDefEqProofs := false, maxDischargeDepth := 20}) (disch := first | omega | (simp only [lenE]; done) | (simp only [lenE]; omega) | rfl | (simp only [lenE, markR_len]; done) | (simp only [lenE, markR_len]; omega)) only [runE, mapE, listE, initT_5, initT_6, initT_7, initT_8, resV, oneV, binA, unA, reduceCtorEq, Nat.reduceEqDiff, Nat.reduceAdd, Nat.reduceLT, Nat.reduceLeDiff, Nat.reduceMul, Nat.reduceSub, ↓reduceIte, decide_true, decide_false, Bool.true_eq_false, Bool.false_eq_true, Bool.not_true, Bool.not_false, if_true, if_false, and_true, true_and, memE, celE, w64, Nat.zero_add, Nat.add_zero, Nat.mul_one, putL, and_self, ldn]
      refine callH_rc (within_rc _ _ _) ?_
      rintro r1 new ⟨rfl, rfl⟩
      simp (config := {implicitDefEqProofs := false, maxDischargeDepth := 20}) (disch := first | omega | (simp only [lenE]; done) | (simp only [lenE]; omega) | rfl | (simp only [lenE, markR_len]; done) | (simp only [lenE, markR_len]; omega)) only [runE, mapE, listE, initT_5, initT_6, initT_7, initT_8, resV, oneV, binA, unA, reduceCtorEq, Nat.reduceEqDiff, Nat.reduceAdd, Nat.reduceLT, Nat.reduceLeDiff, Nat.reduceMul, Nat.reduceSub, ↓reduceIte, decide_true, decide_false, Bool.true_eq_false, Bool.false_eq_true, Bool.not_true, Bool.not_false, if_true, if_false, and_true, true_and, memE, celE, w64, Nat.zero_add, Nat.add_zero, Nat.mul_one, putL, and_self, ldn, List.append_nil]
      exact ext_ansV hx (by simp only [Pc.good, h1, h2]; rfl)
theorem funParcel {m : Mem} {L : List Pc} : FunG m (.func (.func 118) #[] #[]) (fun x : Value => [x]) (· ∈ L.map pcV) (fun x => .bool (pcOf x).good) :=
  ⟨_, _, rfl, fun M _ x hx => by
    obtain ⟨p, _, rfl⟩ := List.mem_map.1 hx
    exact isParcel_rc M p⟩
theorem dayDiff_rc (m : Mem) (p q : Pc) (hp : GoodP11 p) (hq : GoodP11 q) : RC Try.prog 116 [pcV p, pcV q] m (AnsV (.int .i64 (p.day - q.day))) := by
  refine rc_of_run mixed ok_impl_areParcels_1 (by simp) (go_start _ _ _ ?_)
  have := hp.day
  have := hq.day
  simp (config := {implicitDefEqProofs := false, maxDischargeDepth := 20}) (disch := first | omega | (simp only [lenE]; done) | (simp only [lenE]; omega) | rfl | (simp only [lenE, markR_len]; done) | (simp only [lenE, markR_len]; omega)) only [runE, mapE, listE, initT_5, initT_6, initT_7, initT_8, resV, oneV, binA, unA, reduceCtorEq, Nat.reduceEqDiff, Nat.reduceAdd, Nat.reduceLT, Nat.reduceLeDiff, Nat.reduceMul, Nat.reduceSub, ↓reduceIte, decide_true, decide_false, Bool.true_eq_false, Bool.false_eq_true, Bool.not_true, Bool.not_false, if_true, if_false, and_true, true_and, memE, celE, w64, Nat.zero_add, Nat.add_zero, Nat.mul_one, putL, and_self, ldn, c_impl_areParcels_1, r_impl_areParcels_1, pcV]
  exact ext_ansV (((Ext.refl m).one _ _).one _ _) rfl
theorem isSortedP_rc (m : Mem) (v : Value) (L : List Pc) (h : PcsA m v L) (hl : L.length ≤ 12) (hall : ∀ k, k < L.length → GoodP11 (L.getD k Pc0)) :
    RC Try.prog 119 [v, .func (.func 116) #[] #[]] m (AnsV (.bool (ascB L))) := by
  refine rc_of_run mixed ok_slices_IsSortedFunc_Parcel (by simp) (go_start _ _ _ ?_)
  simp (config := {implicitDefEqProofs := false, maxDischargeDepth := 20}) (disch := first | omega | (simp only [lenE]; done) | (simp only [lenE]; omega) | rfl | (simp only [lenE, markR_len]; done) | (simp only [lenE, markR_len]; omega)) only [runE, mapE, listE, initT_5, initT_6, initT_7, initT_8, resV, oneV, binA, unA, reduceCtorEq, Nat.reduceEqDiff, Nat.reduceAdd, Nat.reduceLT, Nat.reduceLeDiff, Nat.reduceMul, Nat.reduceSub, ↓reduceIte, decide_true, decide_false, Bool.true_eq_false, Bool.false_eq_true, Bool.not_true, Bool.not_false, if_true, if_false, and_true, true_and, memE, celE, w64, Nat.zero_add, Nat.add_zero, Nat.mul_one, putL, and_self, ldn, c_slices_IsSortedFunc_Parcel, r_slices_IsSortedFunc_Parcel, h.len]
  refine loop_inv mixed (fun s => ∃ (k : Nat) (M : Mem), k ≤ L.length ∧ s.m = M ∧ Ext m M ∧ s.t 0 = v ∧ s.t 1 = .func (.func 116) #[] #[] ∧ s.t 5 = .int .i64 ((k : Int) - 1) ∧ (∀ j, k ≤ j + 1 → j + 1 < L.length → (L.getD j Pc0).day ≤ (L.getD (j + 1) Pc0).day)) (fun s => (intOf (s.t 5) + 1).toNat)
    ⟨L.length, _, by omega, rfl, Ext.refl m, rfl, rfl, rfl, fun j h1 h2 => absurd h2 (by omega)⟩ ?_
  rintro s ⟨k, M, hk, tm, hx, t0, t1, t5, hasc⟩
  by_cases hlt : 2 ≤ k
  · have hlt' : (0 : Int) < (k : Int) - 1 := by omega
    have hM := hx.keeps.pcs h
    have ek : ((k : Int) - 1) = ((k - 1 : Nat) : Int) := by omega
    have ek2 : ((k : Int) - 1 - 1) = ((k - 2 : Nat) : Int) := by omega
    have i1 := hM.at_ (k := k - 1) (by omega)
    have i2 := hM.ld (k := k - 1) (by omega)
    have i3 := hM.at_ (k := k - 2) (by omega)
    have i4 := hM.ld (k := k - 2) (by omega)
    rw [← ek] at i1
    rw [← ek2] at i3
    simp (config := {implicitDefEqProofs := false, maxDischargeDepth := 20}) (disch := first | omega | (simp only [lenE]; done) | (simp only [lenE]; omega) | rfl | (simp only [lenE, markR_len]; done) | (simp only [lenE, markR_len]; omega)) only [runE, mapE, listE, initT_5, initT_6, initT_7, initT_8, resV, oneV, binA, unA, reduceCtorEq, Nat.reduceEqDiff, Nat.reduceAdd, Nat.reduceLT, Nat.reduceLeDiff, Nat.reduceMul, Nat.reduceSub, ↓reduceIte, decide_true, decide_false, Bool.true_eq_false, Bool.false_eq_true, Bool.not_true, Bool.not_false, if_true, if_false, and_true, true_and, memE, celE, w64, Nat.zero_add, Nat.add_zero, Nat.mul_one, putL, and_self, ldn, tm, t0, t1, t5, gt_iff_lt, hlt', i1, i2, i3, i4]
    refine rcallH_rc (dayDiff_rc _ _ _ (hall (k - 1) (by omega)) (hall (k - 2) (by omega))) ?_
    rintro r new ⟨rfl, hn⟩
    by_cases hc : (L.getD (k - 1) Pc0).day - (L.getD (k - 2) Pc0).day < 0
    · simp (config := {implicitDefEqProofs := false, maxDischargeDepth := 20}) (disch := first | omega | (simp only [lenE]; done) | (simp only [lenE]; omega) | rfl | (simp only [lenE, markR_len]; done) | (simp only [lenE, markR_len]; omega)) only [runE, mapE, listE, initT_5, initT_6, initT_7, initT_8, resV, oneV, binA, unA, reduceCtorEq, Nat.reduceEqDiff, Nat.reduceAdd, Nat.reduceLT, Nat.reduceLeDiff, Nat.reduceMul, Nat.reduceSub, ↓reduceIte, decide_true, decide_false, Bool.true_eq_false, Bool.false_eq_true, Bool.not_true, Bool.not_false, if_true, if_false, and_true, true_and, memE, celE, w64, Nat.zero_add, Nat.add_zero, Nat.mul_one, putL, and_self, ldn, tm, t0, t1, t5, hc]
      refine ext_ansV (hx.app hn) ?_
      congr 1
      symm
      refine decide_eq_false fun hh => ?_
      have := hh (k - 2) (by omega)
      rw [show k - 2 + 1 = k - 1 by omega] at this
      omega
    · simp (config := {implicitDefEqProofs := false, maxDischargeDepth := 20}) (disch := first | omega | (simp only [lenE]; done) | (simp only [lenE]; omega) | rfl | (simp only [lenE, markR_len]; done) | (simp only [lenE, markR_len]; omega)) only [runE, mapE, listE, initT_5, initT_6, initT_7, initT_8, resV, oneV, binA, unA, reduceCtorEq, Nat.reduceEqDiff, Nat.reduceAdd, Nat.reduceLT, Nat.reduceLeDiff, Nat.reduceMul, Nat.reduceSub, ↓reduceIte, decide_true, decide_false, Bool.true_eq_false, Bool.false_eq_true, Bool.not_true, Bool.not_false, if_true, if_false, and_true, true_and, memE, celE, w64, Nat.zero_add, Nat.add_zero, Nat.mul_one, putL, and_self, ldn, tm, t0, t1, t5, hc]
      refine ⟨⟨k - 1, _, by omega, rfl, hx.app hn, by congr 1; omega, fun j h1 h2 => ?_⟩, ?_⟩
      · by_cases e : j = k - 2
        · subst e
          rw [show k - 2 + 1 = k - 1 by omega]
          omega
        · exact hasc j (by omega) h2
      · simp [intOf]; omega
  · have hlt' : ¬ ((0 : Int) < (k : Int) - 1) := by omega
    simp (config := {implicitDefEqProofs := false, maxDischargeDepth := 20}) (disch := first | omega | (simp only [lenE]; done) | (simp only [lenE]; omega) | rfl | (simp only [lenE, markR_len]; done) | (simp only [lenE, markR_len]; omega)) only [runE, mapE, listE, initT_5, initT_6, initT_7, initT_8, resV, oneV, binA, unA, reduceCtorEq, Nat.reduceEqDiff, Nat.reduceAdd, Nat.reduceLT, Nat.reduceLeDiff, Nat.reduceMul, Nat.reduceSub, ↓reduceIte, decide_true, decide_false, Bool.true_eq_false, Bool.false_eq_true, Bool.not_true, Bool.not_false, if_true, if_false, and_true, true_and, memE, celE, w64, Nat.zero_add, Nat.add_zero, Nat.mul_one, putL, and_self, ldn, tm, t0, t1, t5, gt_iff_lt, hlt']
    refine ext_ansV hx ?_
    congr 1
    symm
    exact decide_eq_true fun j hj => hasc j (by omega) (by omega)
theorem areParcels_rc (m : Mem) (v : Value) (L : List Pc) (h : PcsA m v L) : RC Try.prog 88 [v] m (AnsV (.bool (parB L))) := by
  refine rc_of_run mixed ok_impl_areParcels (by simp) (go_start _ _ _ ?_)
  simp (config := {implicitDefEqProofs := false, maxDischargeDepth := 20}) (disch := first | omega | (simp only [lenE]; done) | (simp only [lenE]; omega) | rfl | (simp only [lenE, markR_len]; done) | (simp only [lenE, markR_len]; omega)) only [runE, mapE, listE, initT_5, initT_6, initT_7, initT_8, resV, oneV, binA, unA, reduceCtorEq, Nat.reduceEqDiff, Nat.reduceAdd, Nat.reduceLT, Nat.reduceLeDiff, Nat.reduceMul, Nat.reduceSub, ↓reduceIte, decide_true, decide_false, Bool.true_eq_false, Bool.false_eq_true, Bool.not_true, Bool.not_false, if_true, if_false, and_true, true_and, memE, celE, w64, Nat.zero_add, Nat.add_zero, Nat.mul_one, putL, and_self, ldn, c_impl_areParcels, r_impl_areParcels]
  refine callH_rc (areAtMostP_rc _ v _ _ _ 12 (ones_pc L) h.ro.el funParcel) ?_
  rintro r n1 ⟨rfl, hn1⟩
  have hX := (Ext.refl m).app hn1
  rw [all_pc, List.length_map]
  cases hc : (decide ((L.length : Int) ≤ 12) && L.all Pc.good) with
  | false =>
    simp (config := {implicitDefEqProofs := false, maxDischargeDepth := 20}) (disch := first | omega | (simp only [lenE]; done) | (simp only [lenE]; omega) | rfl | (simp only [lenE, markR_len]; done) | (simp only [lenE, markR_len]; omega)) only [runE, mapE, listE, initT_5, initT_6, initT_7, initT_8, resV, oneV, binA, unA, reduceCtorEq, Nat.reduceEqDiff, Nat.reduceAdd, Nat.reduceLT, Nat.reduceLeDiff, Nat.reduceMul, Nat.reduceSub, ↓reduceIte, decide_true, decide_false, Bool.true_eq_false, Bool.false_eq_true, Bool.not_true, Bool.not_false, if_true, if_false, and_true, true_and, memE, celE, w64, Nat.zero_add, Nat.add_zero, Nat.mul_one, putL, and_self, ldn]
    exact ext_ansV hX (by unfold parB; rw [hc]; rfl)
  | true =>
    simp only [Bool.and_eq_true, decide_eq_true_eq] at hc
    simp (config := {implicitDefEqProofs := false, maxDischargeDepth := 20}) (disch := first | omega | (simp only [lenE]; done) | (simp only [lenE]; omega) | rfl | (simp only [lenE, markR_len]; done) | (simp only [lenE, markR_len]; omega)) only [runE, mapE, listE, initT_5, initT_6, initT_7, initT_8, resV, oneV, binA, unA, reduceCtorEq, Nat.reduceEqDiff, Nat.reduceAdd, Nat.reduceLT, Nat.reduceLeDiff, Nat.reduceMul, Nat.reduceSub, ↓reduceIte, decide_true, decide_false, Bool.true_eq_false, Bool.false_eq_true, Bool.not_true, Bool.not_false, if_true, if_false, and_true, true_and, memE, celE, w64, Nat.zero_add, Nat.add_zero, Nat.mul_one, putL, and_self, ldn]
    refine callH_rc (isSortedP_rc _ v L (hX.keeps.pcs h) (by omega) (allPc.1 hc.2)) ?_
    rintro r n2 ⟨rfl, hn2⟩
    simp (config := {implicitDefEqProofs := false, maxDischargeDepth := 20}) (disch := first | omega | (simp only [lenE]; done) | (simp only [lenE]; omega) | rfl | (simp only [lenE, markR_len]; done) | (simp only [lenE, markR_len]; omega)) only [runE, mapE, listE, initT_5, initT_6, initT_7, initT_8, resV, oneV, binA, unA, reduceCtorEq, Nat.reduceEqDiff, Nat.reduceAdd, Nat.reduceLT, Nat.reduceLeDiff, Nat.reduceMul, Nat.reduceSub, ↓reduceIte, decide_true, decide_false, Bool.true_eq_false, Bool.false_eq_true, Bool.not_true, Bool.not_false, if_true, if_false, and_true, true_and, memE, celE, w64, Nat.zero_add, Nat.add_zero, Nat.mul_one, putL, and_self, ldn]
    refine ext_ansV (hX.app hn2) ?_
    unfold parB
    rw [hc.2, decide_eq_true hc.1]; rfl
end Go.Proofs.Ytjdallbnbjnghaa.Ab
end
section
namespace Go.Proofs.Ytjdallbnbjnghaa.Ab
open Go Go.RowKit
set_option linter.unusedVariables false
set_option linter.unusedSimpArgs false
def arrTo (L : List Pc) : Nat → List Int
  | 0 => List.replicate 24 0
  | k + 1 => (arrTo L k).set ((L.getD k Pc0).day + (L.getD k Pc0).lead - 1).toNat ((arrTo L k).getD ((L.getD k Pc0).day + (L.getD k Pc0).lead - 1).toNat 0 + (L.getD k Pc0).amount)
theorem arrTo_len (L : List Pc) : ∀ k, (arrTo L k).length = 24
  | 0 => by simp [arrTo]
  | k + 1 => by simp [arrTo, arrTo_len L k]
theorem arrTo_bd {L : List Pc} (h : GoodL L) : ∀ k, k ≤ L.length → ∀ i, 0 ≤ (arrTo L k).getD i 0 ∧ (arrTo L k).getD i 0 ≤ 40 * (k : Int)
  | 0, _, i => by
    simp only [arrTo, List.getD_eq_getElem?_getD, List.getElem?_replicate]
    split <;> simp
  | k + 1, hk, i => by
    have ih := arrTo_bd h k (by omega) i
    have ih2 := arrTo_bd h k (by omega) ((L.getD k Pc0).day + (L.getD k Pc0).lead - 1).toNat
    have hg := h.all k (by omega)
    have ga := hg.amount
    simp only [arrTo]
    rw [List.getD_eq_getElem?_getD, List.getElem?_set]
    split
    · split
      · simp only [Option.getD_some]
        omega
      · simp only [Option.getD_none]
        omega
    · rw [← List.getD_eq_getElem?_getD]
      omega
def arrA (L : List Pc) : List Int := if parB L then arrTo L L.length else []
theorem arrivalOf_rc (m : Mem) (p : Pc) (h : GoodP11 p) : RC Try.prog 99 [pcV p] m (AnsV (.int .i64 (p.day + p.lead))) := by
  refine rc_of_run mixed ok_impl_arrivalOf (by simp) (go_start _ _ _ ?_)
  have := h.day
  have := h.lead
  simp (config := {implicitDefEqProofs := false, maxDischargeDepth := 20}) (disch := first | omega | (simp only [lenE]; done) | (simp only [lenE]; omega) | rfl | (simp only [lenE, markR_len]; done) | (simp only [lenE, markR_len]; omega)) only [runE, mapE, listE, initT_5, initT_6, initT_7, initT_8, resV, oneV, binA, unA, reduceCtorEq, Nat.reduceEqDiff, Nat.reduceAdd, Nat.reduceLT, Nat.reduceLeDiff, Nat.reduceMul, Nat.reduceSub, ↓reduceIte, decide_true, decide_false, Bool.true_eq_false, Bool.false_eq_true, Bool.not_true, Bool.not_false, if_true, if_false, and_true, true_and, memE, celE, w64, Nat.zero_add, Nat.add_zero, Nat.mul_one, putL, and_self, ldn, c_impl_arrivalOf, r_impl_arrivalOf, pcV]
  exact ext_ansV ((Ext.refl m).one _ _) rfl
set_option maxHeartbeats 4000000 in
theorem l11Parcels_rc (m : Mem) (v : Value) (L : List Pc) (h : PcsA m v L) : RC Try.prog 92 [v] m (AnsV (.bool (parB L))) := by
  refine rc_of_run mixed ok_spec_l11Parcels (by simp) (go_start _ _ _ ?_)
  have hl := h.len
  have hbd := h.1
  simp (config := {implicitDefEqProofs := false, maxDischargeDepth := 20}) (disch := first | omega | (simp only [lenE]; done) | (simp only [lenE]; omega) | rfl | (simp only [lenE, markR_len]; done) | (simp only [lenE, markR_len]; omega)) only [runE, mapE, listE, initT_5, initT_6, initT_7, initT_8, resV, oneV, binA, unA, reduceCtorEq, Nat.reduceEqDiff, Nat.reduceAdd, Nat.reduceLT, Nat.reduceLeDiff, Nat.reduceMul, Nat.reduceSub, ↓reduceIte, decide_true, decide_false, Bool.true_eq_false, Bool.false_eq_true, Bool.not_true, Bool.not_false, if_true, if_false, and_true, true_and, memE, celE, w64, Nat.zero_add, Nat.add_zero, Nat.mul_one, putL, and_self, ldn, c_spec_l11Parcels, r_spec_l11Parcels]
  refine loop_inv mixed (fun s => ∃ (k : Nat) (M : Mem), k ≤ L.length ∧ s.m = M ∧ Ext m M ∧ s.t 0 = v ∧ s.t 3 = .int .i64 k ∧ (∀ j, j < k → GoodP11 (L.getD j Pc0)) ∧ (∀ j, j + 1 < k → (L.getD j Pc0).day ≤ (L.getD (j + 1) Pc0).day)) (fun s => L.length - (intOf (s.t 3)).toNat)
    ⟨0, _, by omega, rfl, Ext.refl m, rfl, rfl, fun j h => absurd h (by omega), fun j h => absurd h (by omega)⟩ ?_
  rintro s ⟨k, M, hk, tm, hx, t0, t3, hg, hasc⟩
  by_cases hlt : k < L.length
  · have hlt' : (k : Int) < L.length := by omega
    have hM := hx.keeps.pcs h
    obtain ⟨p, hp⟩ : ∃ p, p = L.getD k Pc0 := ⟨_, rfl⟩
    have i1 := hM.at_ hlt
    have i2 := hM.ld hlt
    rw [← hp] at i2
    have no : ∀ M', Ext m M' → ¬ GoodP11 p → newQ m (AnsV (.bool (parB L))) (.bool false) M' := fun M' hM' hn => ext_ansV hM' (by
      cases hb : parB L with
      | false => rfl
      | true => exact absurd (hp ▸ (parB_iff.1 hb).all k hlt) hn)
    simp (config := {implicitDefEqProofs := false, maxDischargeDepth := 20}) (disch := first | omega | (simp only [lenE]; done) | (simp only [lenE]; omega) | rfl | (simp only [lenE, markR_len]; done) | (simp only [lenE, markR_len]; omega)) only [runE, mapE, listE, initT_5, initT_6, initT_7, initT_8, resV, oneV, binA, unA, reduceCtorEq, Nat.reduceEqDiff, Nat.reduceAdd, Nat.reduceLT, Nat.reduceLeDiff, Nat.reduceMul, Nat.reduceSub, ↓reduceIte, decide_true, decide_false, Bool.true_eq_false, Bool.false_eq_true, Bool.not_true, Bool.not_false, if_true, if_false, and_true, true_and, memE, celE, w64, Nat.zero_add, Nat.add_zero, Nat.mul_one, putL, and_self, ldn, tm, t0, t3, hl, hlt', i1, i2, pcV, stP_agg3p]
    obtain ⟨E, hE⟩ : ∃ E, E = M ++ [⟨.own, 66, [.int .i64 p.day, .int .i64 p.amount, .int .i64 p.lead]⟩] := ⟨_, rfl⟩
    have hXE : Ext m E := by rw [hE]; exact hx.one _ _
    have bE : OwnB E M.length 66 [.int .i64 p.day, .int .i64 p.amount, .int .i64 p.lead] := by rw [hE]; exact OwnB.here rfl
    try rw [← hE]
    clear hE
    try simp (config := {implicitDefEqProofs := false, maxDischargeDepth := 20}) (disch := first | omega | (simp only [lenE]; done) | (simp only [lenE]; omega) | rfl | (simp only [lenE, markR_len]; done) | (simp only [lenE, markR_len]; omega)) only [runE, mapE, listE, initT_5, initT_6, initT_7, initT_8, resV, oneV, binA, unA, reduceCtorEq, Nat.reduceEqDiff, Nat.reduceAdd, Nat.reduceLT, Nat.reduceLeDiff, Nat.reduceMul, Nat.reduceSub, ↓reduceIte, decide_true, decide_false, Bool.true_eq_false, Bool.false_eq_true, Bool.not_true, Bool.not_false, if_true, if_false, and_true, true_and, memE, celE, w64, Nat.zero_add, Nat.add_zero, Nat.mul_one, putL, and_self, ldn, bE.mk3']
    refine rcallH_rc (l1In_rc _ _ _ _) ?_
    rintro r1 new ⟨rfl, rfl⟩
    rw [List.append_nil]
    cases h1 : (decide (1 ≤ p.day) && decide (p.day ≤ 20)) with
    | false =>
      simp (config := {implicitDefEqProofs := false, maxDischargeDepth := 20}) (disch := first | omega | (simp only [lenE]; done) | (simp only [lenE]; omega) | rfl | (simp only [lenE, markR_len]; done) | (simp only [lenE, markR_len]; omega)) only [runE, mapE, listE, initT_5, initT_6, initT_7, initT_8, resV, oneV, binA, unA, reduceCtorEq, Nat.reduceEqDiff, Nat.reduceAdd, Nat.reduceLT, Nat.reduceLeDiff, Nat.reduceMul, Nat.reduceSub, ↓reduceIte, decide_true, decide_false, Bool.true_eq_false, Bool.false_eq_true, Bool.not_true, Bool.not_false, if_true, if_false, and_true, true_and, memE, celE, w64, Nat.zero_add, Nat.add_zero, Nat.mul_one, putL, and_self, ldn]
      exact no _ hXE fun hg => by have := hg.day; simp [this.1, this.2] at h1
    | true =>
    simp (config := {implicitDefEqProofs := false, maxDischargeDepth := 20}) (disch := first | omega | (simp only [lenE]; done) | (simp only [lenE]; omega) | rfl | (simp only [lenE, markR_len]; done) | (simp only [lenE, markR_len]; omega)) only [runE, mapE, listE, initT_5, initT_6, initT_7, initT_8, resV, oneV, binA, unA, reduceCtorEq, Nat.reduceEqDiff, Nat.reduceAdd, Nat.reduceLT, Nat.reduceLeDiff, Nat.reduceMul, Nat.reduceSub, ↓reduceIte, decide_true, decide_false, Bool.true_eq_false, Bool.false_eq_true, Bool.not_true, Bool.not_false, if_true, if_false, and_true, true_and, memE, celE, w64, Nat.zero_add, Nat.add_zero, Nat.mul_one, putL, and_self, ldn, bE.mk3']
    refine rcallH_rc (l1In_rc _ _ _ _) ?_
    rintro r1 new ⟨rfl, rfl⟩
    rw [List.append_nil]
    cases h2 : (decide (1 ≤ p.amount) && decide (p.amount ≤ 40)) with
    | false =>
      simp (config := {implicitDefEqProofs := false, maxDischargeDepth := 20}) (disch := first | omega | (simp only [lenE]; done) | (simp only [lenE]; omega) | rfl | (simp only [lenE, markR_len]; done) | (simp only [lenE, markR_len]; omega)) only [runE, mapE, listE, initT_5, initT_6, initT_7, initT_8, resV, oneV, binA, unA, reduceCtorEq, Nat.reduceEqDiff, Nat.reduceAdd, Nat.reduceLT, Nat.reduceLeDiff, Nat.reduceMul, Nat.reduceSub, ↓reduceIte, decide_true, decide_false, Bool.true_eq_false, Bool.false_eq_true, Bool.not_true, Bool.not_false, if_true, if_false, and_true, true_and, memE, celE, w64, Nat.zero_add, Nat.add_zero, Nat.mul_one, putL, and_self, ldn]
      exact no _ hXE fun hg => by have := hg.amount; simp [this.1, this.2] at h2
    | true =>
    simp (config := {implicitDefEqProofs := false, maxDischargeDepth := 20}) (disch := first | omega | (simp only [lenE]; done) | (simp only [lenE]; omega) | rfl | (simp only [lenE, markR_len]; done) | (simp only [lenE, markR_len]; omega)) only [runE, mapE, listE, initT_5, initT_6, initT_7, initT_8, resV, oneV, binA, unA, reduceCtorEq, Nat.reduceEqDiff, Nat.reduceAdd, Nat.reduceLT, Nat.reduceLeDiff, Nat.reduceMul, Nat.reduceSub, ↓reduceIte, decide_true, decide_false, Bool.true_eq_false, Bool.false_eq_true, Bool.not_true, Bool.not_false, if_true, if_false, and_true, true_and, memE, celE, w64, Nat.zero_add, Nat.add_zero, Nat.mul_one, putL, and_self, ldn, bE.mk3']
    refine rcallH_rc (l1In_rc _ _ _ _) ?_
    rintro r1 new ⟨rfl, rfl⟩
    rw [List.append_nil]
    cases h3 : (decide (0 ≤ p.lead) && decide (p.lead ≤ 4)) with
    | false =>
      simp (config := {implicitDefEqProofs := false, maxDischargeDepth := 20}) (disch := first | omega | (simp only [lenE]; done) | (simp only [lenE]; omega) | rfl | (simp only [lenE, markR_len]; done) | (simp only [lenE, markR_len]; omega)) only [runE, mapE, listE, initT_5, initT_6, initT_7, initT_8, resV, oneV, binA, unA, reduceCtorEq, Nat.reduceEqDiff, Nat.reduceAdd, Nat.reduceLT, Nat.reduceLeDiff, Nat.reduceMul, Nat.reduceSub, ↓reduceIte, decide_true, decide_false, Bool.true_eq_false, Bool.false_eq_true, Bool.not_true, Bool.not_false, if_true, if_false, and_true, true_and, memE, celE, w64, Nat.zero_add, Nat.add_zero, Nat.mul_one, putL, and_self, ldn]
      exact no _ hXE fun hg => by have := hg.lead; simp [this.1, this.2] at h3
    | true =>
    simp only [Bool.and_eq_true, decide_eq_true_eq] at h1 h2 h3
    have hgp : GoodP11 p := ⟨h1, h2, h3⟩
    have hg' : ∀ j, j < k + 1 → GoodP11 (L.getD j Pc0) := fun j hj => by
      by_cases e : j = k
      · subst e; exact hp ▸ hgp
      · exact hg j (by omega)
    by_cases hk0 : (0 : Int) < k
    · have hME := hXE.keeps.pcs h
      have ek : (k : Int) - 1 = ((k - 1 : Nat) : Int) := by omega
      obtain ⟨q, hq⟩ : ∃ q, q = L.getD (k - 1) Pc0 := ⟨_, rfl⟩
      have j1 := hME.at_ (k := k - 1) (by omega)
      rw [← ek] at j1
      obtain ⟨q0, f0, g0⟩ := hME.fld (k := k - 1) (by omega) 0 (by decide)
      rw [← hq] at g0
      replace g0 : ldA E none q0 = some (.int .i64 q.day) := g0
      by_cases hc : p.day < q.day
      · simp (config := {implicitDefEqProofs := false, maxDischargeDepth := 20}) (disch := first | omega | (simp only [lenE]; done) | (simp only [lenE]; omega) | rfl | (simp only [lenE, markR_len]; done) | (simp only [lenE, markR_len]; omega)) only [runE, mapE, listE, initT_5, initT_6, initT_7, initT_8, resV, oneV, binA, unA, reduceCtorEq, Nat.reduceEqDiff, Nat.reduceAdd, Nat.reduceLT, Nat.reduceLeDiff, Nat.reduceMul, Nat.reduceSub, ↓reduceIte, decide_true, decide_false, Bool.true_eq_false, Bool.false_eq_true, Bool.not_true, Bool.not_false, if_true, if_false, and_true, true_and, memE, celE, w64, Nat.zero_add, Nat.add_zero, Nat.mul_one, putL, and_self, ldn, tm, t0, t3, gt_iff_lt, hk0, bE.mk3', j1, f0, g0, hc]
        refine ext_ansV hXE ?_
        cases hb : parB L with
        | false => rfl
        | true =>
          have := (parB_iff.1 hb).asc (k - 1) (by omega)
          rw [show k - 1 + 1 = k by omega, ← hq, ← hp] at this
          omega
      · simp (config := {implicitDefEqProofs := false, maxDischargeDepth := 20}) (disch := first | omega | (simp only [lenE]; done) | (simp only [lenE]; omega) | rfl | (simp only [lenE, markR_len]; done) | (simp only [lenE, markR_len]; omega)) only [runE, mapE, listE, initT_5, initT_6, initT_7, initT_8, resV, oneV, binA, unA, reduceCtorEq, Nat.reduceEqDiff, Nat.reduceAdd, Nat.reduceLT, Nat.reduceLeDiff, Nat.reduceMul, Nat.reduceSub, ↓reduceIte, decide_true, decide_false, Bool.true_eq_false, Bool.false_eq_true, Bool.not_true, Bool.not_false, if_true, if_false, and_true, true_and, memE, celE, w64, Nat.zero_add, Nat.add_zero, Nat.mul_one, putL, and_self, ldn, tm, t0, t3, gt_iff_lt, hk0, bE.mk3', j1, f0, g0, hc]
        refine ⟨⟨k + 1, _, by omega, rfl, hXE, by simp, hg', fun j hj => ?_⟩, ?_⟩
        · by_cases e : j = k - 1
          · subst e
            rw [show k - 1 + 1 = k by omega, ← hq, ← hp]
            omega
          · exact hasc j (by omega)
        · simp [intOf]; omega
    · simp (config := {implicitDefEqProofs := false, maxDischargeDepth := 20}) (disch := first | omega | (simp only [lenE]; done) | (simp only [lenE]; omega) | rfl | (simp only [lenE, markR_len]; done) | (simp only [lenE, markR_len]; omega)) only [runE, mapE, listE, initT_5, initT_6, initT_7, initT_8, resV, oneV, binA, unA, reduceCtorEq, Nat.reduceEqDiff, Nat.reduceAdd, Nat.reduceLT, Nat.reduceLeDiff, Nat.reduceMul, Nat.reduceSub, ↓reduceIte, decide_true, decide_false, Bool.true_eq_false, Bool.false_eq_true, Bool.not_true, Bool.not_false, if_true, if_false, and_true, true_and, memE, celE, w64, Nat.zero_add, Nat.add_zero, Nat.mul_one, putL, and_self, ldn, tm, t0, t3, gt_iff_lt, hk0]
      refine ⟨⟨k + 1, _, by omega, rfl, hXE, by simp, hg', fun j hj => absurd hj (by omega)⟩, ?_⟩
      simp [intOf]; omega
  · have hlt' : ¬ ((k : Int) < L.length) := by omega
    obtain rfl : k = L.length := by omega
    simp (config := {implicitDefEqProofs := false, maxDischargeDepth := 20}) (disch := first | omega | (simp only [lenE]; done) | (simp only [lenE]; omega) | rfl | (simp only [lenE, markR_len]; done) | (simp only [lenE, markR_len]; omega)) only [runE, mapE, listE, initT_5, initT_6, initT_7, initT_8, resV, oneV, binA, unA, reduceCtorEq, Nat.reduceEqDiff, Nat.reduceAdd, Nat.reduceLT, Nat.reduceLeDiff, Nat.reduceMul, Nat.reduceSub, ↓reduceIte, decide_true, decide_false, Bool.true_eq_false, Bool.false_eq_true, Bool.not_true, Bool.not_false, if_true, if_false, and_true, true_and, memE, celE, w64, Nat.zero_add, Nat.add_zero, Nat.mul_one, putL, and_self, ldn, tm, t0, t3, hl, hlt']
    refine ext_ansV hx ?_
    congr 1
    unfold parB ascB
    rw [allPc.2 hg, decide_eq_true (p := ∀ k, k < L.length - 1 → _) fun j hj => hasc j (by omega), Bool.and_true, Bool.and_true]
set_option maxHeartbeats 4000000 in
theorem l11Arrivals_rc (m : Mem) (v : Value) (L : List Pc) (h : PcsA m v L) (hG : GoodL L) : RC Try.prog 94 [v] m (AnsR m (arrTo L L.length)) := by
  refine rc_of_run mixed ok_spec_l11Arrivals (by simp) (go_start _ _ _ ?_)
  have hl := h.len
  have hlen := hG.len
  simp (config := {implicitDefEqProofs := false, maxDischargeDepth := 20}) (disch := first | omega | (simp only [lenE]; done) | (simp only [lenE]; omega) | rfl | (simp only [lenE, markR_len]; done) | (simp only [lenE, markR_len]; omega)) only [runE, mapE, listE, initT_5, initT_6, initT_7, initT_8, resV, oneV, binA, unA, reduceCtorEq, Nat.reduceEqDiff, Nat.reduceAdd, Nat.reduceLT, Nat.reduceLeDiff, Nat.reduceMul, Nat.reduceSub, ↓reduceIte, decide_true, decide_false, Bool.true_eq_false, Bool.false_eq_true, Bool.not_true, Bool.not_false, if_true, if_false, and_true, true_and, memE, celE, w64, Nat.zero_add, Nat.add_zero, Nat.mul_one, putL, and_self, ldn, c_spec_l11Arrivals, r_spec_l11Arrivals, mksA_eq (byt := 8) (n := 24) (a := 24) (by rfl) (by omega)]
  refine loop_inv mixed (fun s => ∃ (k : Nat) (M : Mem), k ≤ L.length ∧ s.m = M ∧ Ext m M ∧ OwnR M m.length (arrTo L k) ∧ s.t 0 = v ∧ s.t 3 = .slice (some ⟨m.length, 0, none⟩) 24 1 ∧ s.t 4 = .int .i64 k) (fun s => L.length - (intOf (s.t 4)).toNat)
    ⟨0, _, by omega, rfl, (Ext.refl m).one _ _, OwnR.zeros (roM_len m).symm, rfl, rfl, rfl⟩ ?_
  rintro s ⟨k, M, hk, tm, hx, ho, t0, t3, t4⟩
  by_cases hlt : k < L.length
  · have hlt' : (k : Int) < L.length := by omega
    have hM := hx.keeps.pcs h
    obtain ⟨p, hp⟩ : ∃ p, p = L.getD k Pc0 := ⟨_, rfl⟩
    have hgp : GoodP11 p := hp ▸ hG.all k hlt
    have gd := hgp.day
    have gl := hgp.lead
    have ga := hgp.amount
    have i1 := hM.at_ hlt
    obtain ⟨q0, f0, g0⟩ := hM.fld hlt 0 (by decide)
    obtain ⟨q1, f1, g1⟩ := hM.fld hlt 1 (by decide)
    obtain ⟨q2, f2, g2⟩ := hM.fld hlt 2 (by decide)
    rw [← hp] at g0 g1 g2
    replace g0 : ldA M none q0 = some (.int .i64 p.day) := g0
    replace g1 : ldA M none q1 = some (.int .i64 p.amount) := g1
    replace g2 : ldA M none q2 = some (.int .i64 p.lead) := g2
    have hal := arrTo_len L k
    have hi : (p.day + p.lead - 1).toNat < 24 := by omega
    have ei : p.day + p.lead - 1 = ((p.day + p.lead - 1).toNat : Int) := by omega
    have q3 := iad0 (id := m.length) (n := 24) (fl := 1) ei hi
    have q4 := ho.rd' (i := (p.day + p.lead - 1).toNat) (by omega)
    have bd := arrTo_bd hG k (by omega) (p.day + p.lead - 1).toNat
    have st := ho.st (off := (p.day + p.lead - 1).toNat) (x := (arrTo L k).getD (p.day + p.lead - 1).toNat 0 + p.amount) (by omega)
    simp (config := {implicitDefEqProofs := false, maxDischargeDepth := 20}) (disch := first | omega | (simp only [lenE]; done) | (simp only [lenE]; omega) | rfl | (simp only [lenE, markR_len]; done) | (simp only [lenE, markR_len]; omega)) only [runE, mapE, listE, initT_5, initT_6, initT_7, initT_8, resV, oneV, binA, unA, reduceCtorEq, Nat.reduceEqDiff, Nat.reduceAdd, Nat.reduceLT, Nat.reduceLeDiff, Nat.reduceMul, Nat.reduceSub, ↓reduceIte, decide_true, decide_false, Bool.true_eq_false, Bool.false_eq_true, Bool.not_true, Bool.not_false, if_true, if_false, and_true, true_and, memE, celE, w64, Nat.zero_add, Nat.add_zero, Nat.mul_one, putL, and_self, ldn, tm, t0, t3, t4, hl, hlt', i1, f0, f1, f2, g0, g1, g2, q3, q4, st]
    refine ⟨⟨k + 1, _, by omega, rfl, hx.put (Nat.le_refl _) _ _, ?_, by simp⟩, ?_⟩
    · have : arrTo L (k + 1) = (arrTo L k).set (p.day + p.lead - 1).toNat ((arrTo L k).getD (p.day + p.lead - 1).toNat 0 + p.amount) := by rw [hp]; rfl
      rw [this]
      exact ho.set_self
    · simp [intOf]; omega
  · have hlt' : ¬ ((k : Int) < L.length) := by omega
    obtain rfl : k = L.length := by omega
    simp (config := {implicitDefEqProofs := false, maxDischargeDepth := 20}) (disch := first | omega | (simp only [lenE]; done) | (simp only [lenE]; omega) | rfl | (simp only [lenE, markR_len]; done) | (simp only [lenE, markR_len]; omega)) only [runE, mapE, listE, initT_5, initT_6, initT_7, initT_8, resV, oneV, binA, unA, reduceCtorEq, Nat.reduceEqDiff, Nat.reduceAdd, Nat.reduceLT, Nat.reduceLeDiff, Nat.reduceMul, Nat.reduceSub, ↓reduceIte, decide_true, decide_false, Bool.true_eq_false, Bool.false_eq_true, Bool.not_true, Bool.not_false, if_true, if_false, and_true, true_and, memE, celE, w64, Nat.zero_add, Nat.add_zero, Nat.mul_one, putL, and_self, ldn, tm, t0, t3, t4, hl, hlt']
    exact ext_ansR hx ho (Nat.le_refl _) (by rw [arrTo_len]) (by rw [arrTo_len]; decide)
set_option maxHeartbeats 4000000 in
theorem arrivalsOf_rc (m : Mem) (v : Value) (L : List Pc) (h : PcsA m v L) (hG : GoodL L) : RC Try.prog 89 [v] m (AnsR m (arrTo L L.length)) := by
  refine rc_of_run mixed ok_impl_arrivalsOf (by simp) (go_start _ _ _ ?_)
  have hl := h.len
  have hlen := hG.len
  simp (config := {implicitDefEqProofs := false, maxDischargeDepth := 20}) (disch := first | omega | (simp only [lenE]; done) | (simp only [lenE]; omega) | rfl | (simp only [lenE, markR_len]; done) | (simp only [lenE, markR_len]; omega)) only [runE, mapE, listE, initT_5, initT_6, initT_7, initT_8, resV, oneV, binA, unA, reduceCtorEq, Nat.reduceEqDiff, Nat.reduceAdd, Nat.reduceLT, Nat.reduceLeDiff, Nat.reduceMul, Nat.reduceSub, ↓reduceIte, decide_true, decide_false, Bool.true_eq_false, Bool.false_eq_true, Bool.not_true, Bool.not_false, if_true, if_false, and_true, true_and, memE, celE, w64, Nat.zero_add, Nat.add_zero, Nat.mul_one, putL, and_self, ldn, c_impl_arrivalsOf, r_impl_arrivalsOf, hl, mksA_eq (byt := 8) (n := 24) (a := 24) (by rfl) (by omega)]
  refine loop_inv mixed (fun s => ∃ (k : Nat) (M : Mem), k ≤ L.length ∧ s.m = M ∧ Ext m M ∧ OwnR M m.length (arrTo L k) ∧ s.t 3 = .slice (some ⟨m.length, 0, none⟩) 24 1 ∧ s.t 7 = v ∧ s.t 8 = .int .i64 L.length ∧ s.t 9 = .int .i64 k) (fun s => L.length - (intOf (s.t 9)).toNat)
    ⟨0, _, by omega, rfl, (Ext.refl m).one _ _, OwnR.zeros (roM_len m).symm, rfl, rfl, rfl, rfl⟩ ?_
  rintro s ⟨k, M, hk, tm, hx, ho, t3, t7, t8, t9⟩
  by_cases hlt : k < L.length
  · have hlt' : (k : Int) < L.length := by omega
    have hM := hx.keeps.pcs h
    obtain ⟨p, hp⟩ : ∃ p, p = L.getD k Pc0 := ⟨_, rfl⟩
    have hgp : GoodP11 p := hp ▸ hG.all k hlt
    have gd := hgp.day
    have gl := hgp.lead
    have ga := hgp.amount
    have i1 := hM.at_ hlt
    have i2 := hM.ld hlt
    rw [← hp] at i2
    simp (config := {implicitDefEqProofs := false, maxDischargeDepth := 20}) (disch := first | omega | (simp only [lenE]; done) | (simp only [lenE]; omega) | rfl | (simp only [lenE, markR_len]; done) | (simp only [lenE, markR_len]; omega)) only [runE, mapE, listE, initT_5, initT_6, initT_7, initT_8, resV, oneV, binA, unA, reduceCtorEq, Nat.reduceEqDiff, Nat.reduceAdd, Nat.reduceLT, Nat.reduceLeDiff, Nat.reduceMul, Nat.reduceSub, ↓reduceIte, decide_true, decide_false, Bool.true_eq_false, Bool.false_eq_true, Bool.not_true, Bool.not_false, if_true, if_false, and_true, true_and, memE, celE, w64, Nat.zero_add, Nat.add_zero, Nat.mul_one, putL, and_self, ldn, tm, t3, t7, t8, t9, hlt', i1, i2, pcV, stP_agg3p]
    obtain ⟨E, hE⟩ : ∃ E, E = M ++ [⟨.own, 66, [.int .i64 p.day, .int .i64 p.amount, .int .i64 p.lead]⟩] := ⟨_, rfl⟩
    have hXE : Ext m E := by rw [hE]; exact hx.one _ _
    have hoE : OwnR E m.length (arrTo L k) := by rw [hE]; exact ho.ext _
    have bE : OwnB E M.length 66 [.int .i64 p.day, .int .i64 p.amount, .int .i64 p.lead] := by rw [hE]; exact OwnB.here rfl
    try rw [← hE]
    clear hE
    try simp (config := {implicitDefEqProofs := false, maxDischargeDepth := 20}) (disch := first | omega | (simp only [lenE]; done) | (simp only [lenE]; omega) | rfl | (simp only [lenE, markR_len]; done) | (simp only [lenE, markR_len]; omega)) only [runE, mapE, listE, initT_5, initT_6, initT_7, initT_8, resV, oneV, binA, unA, reduceCtorEq, Nat.reduceEqDiff, Nat.reduceAdd, Nat.reduceLT, Nat.reduceLeDiff, Nat.reduceMul, Nat.reduceSub, ↓reduceIte, decide_true, decide_false, Bool.true_eq_false, Bool.false_eq_true, Bool.not_true, Bool.not_false, if_true, if_false, and_true, true_and, memE, celE, w64, Nat.zero_add, Nat.add_zero, Nat.mul_one, putL, and_self, ldn, bE.mk3']
    refine rcallH_rc (arrivalOf_rc _ p hgp) ?_
    rintro r n1 ⟨rfl, hn1⟩
    obtain ⟨E1, hE1⟩ : ∃ E1, E1 = E ++ n1 := ⟨_, rfl⟩
    have hX1 : Ext m E1 := by rw [hE1]; exact hXE.app hn1
    have ho1 : OwnR E1 m.length (arrTo L k) := by rw [hE1]; exact hoE.ext _
    rw [← hE1]
    clear hE1
    have hal := arrTo_len L k
    have hi : (p.day + p.lead - 1).toNat < 24 := by omega
    have ei : p.day + p.lead - 1 = ((p.day + p.lead - 1).toNat : Int) := by omega
    have q3 := iad0 (id := m.length) (n := 24) (fl := 1) ei hi
    have q4 := ho1.rd' (i := (p.day + p.lead - 1).toNat) (by omega)
    have bd := arrTo_bd hG k (by omega) (p.day + p.lead - 1).toNat
    have st := ho1.st (off := (p.day + p.lead - 1).toNat) (x := (arrTo L k).getD (p.day + p.lead - 1).toNat 0 + p.amount) (by omega)
    simp (config := {implicitDefEqProofs := false, maxDischargeDepth := 20}) (disch := first | omega | (simp only [lenE]; done) | (simp only [lenE]; omega) | rfl | (simp only [lenE, markR_len]; done) | (simp only [lenE, markR_len]; omega)) only [runE, mapE, listE, initT_5, initT_6, initT_7, initT_8, resV, oneV, binA, unA, reduceCtorEq, Nat.reduceEqDiff, Nat.reduceAdd, Nat.reduceLT, Nat.reduceLeDiff, Nat.reduceMul, Nat.reduceSub, ↓reduceIte, decide_true, decide_false, Bool.true_eq_false, Bool.false_eq_true, Bool.not_true, Bool.not_false, if_true, if_false, and_true, true_and, memE, celE, w64, Nat.zero_add, Nat.add_zero, Nat.mul_one, putL, and_self, ldn, tm, t3, t7, t8, t9, q3, q4, st]
    refine ⟨⟨k + 1, _, by omega, rfl, hX1.put (Nat.le_refl _) _ _, ?_, by simp⟩, ?_⟩
    · have : arrTo L (k + 1) = (arrTo L k).set (p.day + p.lead - 1).toNat ((arrTo L k).getD (p.day + p.lead - 1).toNat 0 + p.amount) := by rw [hp]; rfl
      rw [this]
      exact ho1.set_self
    · simp [intOf]; omega
  · have hlt' : ¬ ((k : Int) < L.length) := by omega
    obtain rfl : k = L.length := by omega
    simp (config := {implicitDefEqProofs := false, maxDischargeDepth := 20}) (disch := first | omega | (simp only [lenE]; done) | (simp only [lenE]; omega) | rfl | (simp only [lenE, markR_len]; done) | (simp only [lenE, markR_len]; omega)) only [runE, mapE, listE, initT_5, initT_6, initT_7, initT_8, resV, oneV, binA, unA, reduceCtorEq, Nat.reduceEqDiff, Nat.reduceAdd, Nat.reduceLT, Nat.reduceLeDiff, Nat.reduceMul, Nat.reduceSub, ↓reduceIte, decide_true, decide_false, Bool.true_eq_false, Bool.false_eq_true, Bool.not_true, Bool.not_false, if_true, if_false, and_true, true_and, memE, celE, w64, Nat.zero_add, Nat.add_zero, Nat.mul_one, putL, and_self, ldn, tm, t3, t7, t8, t9, hlt']
    exact ext_ansR hx ho (Nat.le_refl _) (by rw [arrTo_len]) (by rw [arrTo_len]; decide)
end Go.Proofs.Ytjdallbnbjnghaa.Ab
end
section
namespace Go.Proofs.Ytjdallbnbjnghaa.Ab
open Go Go.RowKit
set_option linter.unusedVariables false
set_option linter.unusedSimpArgs false
theorem ae3F (a b c : Int) : aeqA true 3 (.agg #[.int .i64 a, .int .i64 b, .int .i64 c]) (.agg #[.int .i64 a, .int .i64 b, .int .i64 c]) = some (.bool false) := by
  simp [aeqA, intsEq]
theorem rBigF_rc (m : Mem) (cb fl : Nat) (n : Nat) : RC Try.prog 6 [.slice (some ⟨cb, 0, none⟩) n fl] m fun r new => r = .bool (decide (65536 < n)) ∧ new = [] := by
  refine rc_of_run mixed ok_laws_rBig (by simp) (go_start _ _ _ ?_)
  simp (config := {implicitDefEqProofs := false, maxDischargeDepth := 20}) (disch := first | omega | (simp only [lenE]; done) | (simp only [lenE]; omega) | rfl | (simp only [lenE, markR_len]; done) | (simp only [lenE, markR_len]; omega)) only [runE, mapE, listE, initT_5, initT_6, initT_7, initT_8, resV, oneV, binA, unA, reduceCtorEq, Nat.reduceEqDiff, Nat.reduceAdd, Nat.reduceLT, Nat.reduceLeDiff, Nat.reduceMul, Nat.reduceSub, ↓reduceIte, decide_true, decide_false, Bool.true_eq_false, Bool.false_eq_true, Bool.not_true, Bool.not_false, if_true, if_false, and_true, true_and, memE, celE, w64, Nat.zero_add, Nat.add_zero, Nat.mul_one, putL, and_self, ldn, c_laws_rBig, r_laws_rBig, gt_iff_lt]
  refine newQ_nil ⟨?_, rfl⟩
  congr 1
  rw [decide_eq_decide]
  omega
theorem rIntsF_rc (m : Mem) (v u : Value) (l : List Int) (h : IntsA m v l) (h' : IntsA m u l) : RC Try.prog 10 [v, u] m fun r new => r = .bool true ∧ new = [] := by
  refine rc_of_run mixed ok_laws_rInts (by simp) (go_start _ _ _ ?_)
  obtain ⟨e1, e2, e3, e4, -⟩ := h.ro
  obtain ⟨d1, d2, d3, d4, -⟩ := h'.ro
  simp (config := {implicitDefEqProofs := false, maxDischargeDepth := 20}) (disch := first | omega | (simp only [lenE]; done) | (simp only [lenE]; omega) | rfl | (simp only [lenE, markR_len]; done) | (simp only [lenE, markR_len]; omega)) only [runE, mapE, listE, initT_5, initT_6, initT_7, initT_8, resV, oneV, binA, unA, reduceCtorEq, Nat.reduceEqDiff, Nat.reduceAdd, Nat.reduceLT, Nat.reduceLeDiff, Nat.reduceMul, Nat.reduceSub, ↓reduceIte, decide_true, decide_false, Bool.true_eq_false, Bool.false_eq_true, Bool.not_true, Bool.not_false, if_true, if_false, and_true, true_and, memE, celE, w64, Nat.zero_add, Nat.add_zero, Nat.mul_one, putL, and_self, ldn, c_laws_rInts, r_laws_rInts, e1, d1, bne_self_eq_false]
  refine loop_inv mixed (fun s => ∃ k : Nat, k ≤ l.length ∧ s.t 0 = v ∧ s.t 1 = u ∧ s.t 5 = .int .i64 k ∧ s.m = roM m) (fun s => l.length - (intOf (s.t 5)).toNat) ⟨0, by omega, rfl, rfl, rfl, rfl⟩ ?_
  rintro s ⟨k, hk, t0, t1, t5, tm⟩
  by_cases hlt : k < l.length
  · have hlt' : (k : Int) < l.length := by omega
    simp (config := {implicitDefEqProofs := false, maxDischargeDepth := 20}) (disch := first | omega | (simp only [lenE]; done) | (simp only [lenE]; omega) | rfl | (simp only [lenE, markR_len]; done) | (simp only [lenE, markR_len]; omega)) only [runE, mapE, listE, initT_5, initT_6, initT_7, initT_8, resV, oneV, binA, unA, reduceCtorEq, Nat.reduceEqDiff, Nat.reduceAdd, Nat.reduceLT, Nat.reduceLeDiff, Nat.reduceMul, Nat.reduceSub, ↓reduceIte, decide_true, decide_false, Bool.true_eq_false, Bool.false_eq_true, Bool.not_true, Bool.not_false, if_true, if_false, and_true, true_and, memE, celE, w64, Nat.zero_add, Nat.add_zero, Nat.mul_one, putL, and_self, ldn, t0, t1, t5, tm, e1, e3 k hlt, e4 k hlt, d3 k hlt, d4 k hlt, hlt', bne_self_eq_false]
    exact ⟨⟨k + 1, by omega, by simp⟩, by simp [intOf]; omega⟩
  · have hlt' : ¬ ((k : Int) < l.length) := by omega
    simp (config := {implicitDefEqProofs := false, maxDischargeDepth := 20}) (disch := first | omega | (simp only [lenE]; done) | (simp only [lenE]; omega) | rfl | (simp only [lenE, markR_len]; done) | (simp only [lenE, markR_len]; omega)) only [runE, mapE, listE, initT_5, initT_6, initT_7, initT_8, resV, oneV, binA, unA, reduceCtorEq, Nat.reduceEqDiff, Nat.reduceAdd, Nat.reduceLT, Nat.reduceLeDiff, Nat.reduceMul, Nat.reduceSub, ↓reduceIte, decide_true, decide_false, Bool.true_eq_false, Bool.false_eq_true, Bool.not_true, Bool.not_false, if_true, if_false, and_true, true_and, memE, celE, w64, Nat.zero_add, Nat.add_zero, Nat.mul_one, putL, and_self, ldn, t0, t1, t5, tm, e1, hlt']
    exact newQ_nil ⟨rfl, rfl⟩
theorem ae2F (a b : Int) : aeqA true 2 (.agg #[.int .i64 a, .int .i64 b]) (.agg #[.int .i64 a, .int .i64 b]) = some (.bool false) := by
  simp [aeqA, intsEq]
theorem rPairsF_rc (m : Mem) (v u : Value) (L : List (Int × Int)) (h : PairsA m v L) (h' : PairsA m u L) : RC Try.prog 43 [v, u] m (AnsV (.bool true)) := by
  refine rc_of_run mixed ok_laws_rPairs (by simp) (go_start _ _ _ ?_)
  obtain ⟨hb, id, fl, rfl, hc⟩ := h.ro
  obtain ⟨-, id', fl', rfl, hc'⟩ := h'.ro
  simp (config := {implicitDefEqProofs := false, maxDischargeDepth := 20}) (disch := first | omega | (simp only [lenE]; done) | (simp only [lenE]; omega) | rfl | (simp only [lenE, markR_len]; done) | (simp only [lenE, markR_len]; omega)) only [runE, mapE, listE, initT_5, initT_6, initT_7, initT_8, resV, oneV, binA, unA, reduceCtorEq, Nat.reduceEqDiff, Nat.reduceAdd, Nat.reduceLT, Nat.reduceLeDiff, Nat.reduceMul, Nat.reduceSub, ↓reduceIte, decide_true, decide_false, Bool.true_eq_false, Bool.false_eq_true, Bool.not_true, Bool.not_false, if_true, if_false, and_true, true_and, memE, celE, w64, Nat.zero_add, Nat.add_zero, Nat.mul_one, putL, and_self, ldn, c_laws_rPairs, r_laws_rPairs, bne_self_eq_false]
  refine loop_inv mixed (fun s => ∃ (k : Nat), k ≤ L.length ∧ s.m = roM m ∧ s.t 0 = .slice (some ⟨id, 0, none⟩) L.length fl ∧ s.t 1 = .slice (some ⟨id', 0, none⟩) L.length fl' ∧ s.t 5 = .int .i64 k) (fun s => L.length - (intOf (s.t 5)).toNat)
    ⟨0, by omega, rfl, rfl, rfl, rfl⟩ ?_
  rintro s ⟨k, hk, tm, t0, t1, t5⟩
  by_cases hlt : k < L.length
  · have hlt' : (k : Int) < L.length := by omega
    simp (config := {implicitDefEqProofs := false, maxDischargeDepth := 20}) (disch := first | omega | (simp only [lenE]; done) | (simp only [lenE]; omega) | rfl | (simp only [lenE, markR_len]; done) | (simp only [lenE, markR_len]; omega)) only [runE, mapE, listE, initT_5, initT_6, initT_7, initT_8, resV, oneV, binA, unA, reduceCtorEq, Nat.reduceEqDiff, Nat.reduceAdd, Nat.reduceLT, Nat.reduceLeDiff, Nat.reduceMul, Nat.reduceSub, ↓reduceIte, decide_true, decide_false, Bool.true_eq_false, Bool.false_eq_true, Bool.not_true, Bool.not_false, if_true, if_false, and_true, true_and, memE, celE, w64, Nat.zero_add, Nat.add_zero, Nat.mul_one, putL, and_self, ldn, tm, t0, t1, t5, hlt', iadA_in hlt, (hc k hlt).1, (hc k hlt).2, (hc' k hlt).1, (hc' k hlt).2, ae2F]
    refine ⟨⟨k + 1, by omega, by simp⟩, ?_⟩
    simp [intOf]; omega
  · have hlt' : ¬ ((k : Int) < L.length) := by omega
    simp (config := {implicitDefEqProofs := false, maxDischargeDepth := 20}) (disch := first | omega | (simp only [lenE]; done) | (simp only [lenE]; omega) | rfl | (simp only [lenE, markR_len]; done) | (simp only [lenE, markR_len]; omega)) only [runE, mapE, listE, initT_5, initT_6, initT_7, initT_8, resV, oneV, binA, unA, reduceCtorEq, Nat.reduceEqDiff, Nat.reduceAdd, Nat.reduceLT, Nat.reduceLeDiff, Nat.reduceMul, Nat.reduceSub, ↓reduceIte, decide_true, decide_false, Bool.true_eq_false, Bool.false_eq_true, Bool.not_true, Bool.not_false, if_true, if_false, and_true, true_and, memE, celE, w64, Nat.zero_add, Nat.add_zero, Nat.mul_one, putL, and_self, ldn, tm, t0, t1, t5, hlt']
    exact newQ_nil ⟨rfl, noRo_nil⟩
theorem sumTo_R {l : List Int} {k : Nat} (h : k < l.length) : sumTo l (k + 1) = sumTo l k + l.getD k 0 :=
  sumTo_succ (by rw [List.getD_eq_getElem?_getD, List.getElem?_eq_getElem h]; rfl)
theorem rSumF_rc (m : Mem) (v : Value) (l : List Int) (h : IntsA m v l) (hb : ∀ k, k ≤ l.length → -100000 ≤ sumTo l k ∧ sumTo l k ≤ 100000) : RC Try.prog 20 [v] m fun r new => r = .int .i64 (sumTo l l.length) ∧ new = [] := by
  refine rc_of_run mixed ok_laws_rSum (by simp) (go_start _ _ _ ?_)
  obtain ⟨e1, e2, e3, e4, -⟩ := h.ro
  simp (config := {implicitDefEqProofs := false, maxDischargeDepth := 20}) (disch := first | omega | (simp only [lenE]; done) | (simp only [lenE]; omega) | rfl | (simp only [lenE, markR_len]; done) | (simp only [lenE, markR_len]; omega)) only [runE, mapE, listE, initT_5, initT_6, initT_7, initT_8, resV, oneV, binA, unA, reduceCtorEq, Nat.reduceEqDiff, Nat.reduceAdd, Nat.reduceLT, Nat.reduceLeDiff, Nat.reduceMul, Nat.reduceSub, ↓reduceIte, decide_true, decide_false, Bool.true_eq_false, Bool.false_eq_true, Bool.not_true, Bool.not_false, if_true, if_false, and_true, true_and, memE, celE, w64, Nat.zero_add, Nat.add_zero, Nat.mul_one, putL, and_self, ldn, c_laws_rSum, r_laws_rSum, e1]
  refine loop_inv mixed (fun s => ∃ k : Nat, k ≤ l.length ∧ s.t 0 = v ∧ s.t 3 = .int .i64 (sumTo l k) ∧ s.t 4 = .int .i64 k ∧ s.m = roM m) (fun s => l.length - (intOf (s.t 4)).toNat) ⟨0, by omega, rfl, rfl, rfl, rfl⟩ ?_
  rintro s ⟨k, hk, t0, t3, t4, tm⟩
  by_cases hlt : k < l.length
  · have hlt' : (k : Int) < l.length := by omega
    have h1 := hb k (by omega)
    have h2 := hb (k + 1) (by omega)
    rw [sumTo_R hlt] at h2
    simp (config := {implicitDefEqProofs := false, maxDischargeDepth := 20}) (disch := first | omega | (simp only [lenE]; done) | (simp only [lenE]; omega) | rfl | (simp only [lenE, markR_len]; done) | (simp only [lenE, markR_len]; omega)) only [runE, mapE, listE, initT_5, initT_6, initT_7, initT_8, resV, oneV, binA, unA, reduceCtorEq, Nat.reduceEqDiff, Nat.reduceAdd, Nat.reduceLT, Nat.reduceLeDiff, Nat.reduceMul, Nat.reduceSub, ↓reduceIte, decide_true, decide_false, Bool.true_eq_false, Bool.false_eq_true, Bool.not_true, Bool.not_false, if_true, if_false, and_true, true_and, memE, celE, w64, Nat.zero_add, Nat.add_zero, Nat.mul_one, putL, and_self, ldn, t0, t3, t4, tm, e1, e3 k hlt, e4 k hlt, hlt']
    exact ⟨⟨k + 1, by omega, by rw [sumTo_R hlt], by simp⟩, by simp [intOf]; omega⟩
  · have hlt' : ¬ ((k : Int) < l.length) := by omega
    obtain rfl : k = l.length := by omega
    simp (config := {implicitDefEqProofs := false, maxDischargeDepth := 20}) (disch := first | omega | (simp only [lenE]; done) | (simp only [lenE]; omega) | rfl | (simp only [lenE, markR_len]; done) | (simp only [lenE, markR_len]; omega)) only [runE, mapE, listE, initT_5, initT_6, initT_7, initT_8, resV, oneV, binA, unA, reduceCtorEq, Nat.reduceEqDiff, Nat.reduceAdd, Nat.reduceLT, Nat.reduceLeDiff, Nat.reduceMul, Nat.reduceSub, ↓reduceIte, decide_true, decide_false, Bool.true_eq_false, Bool.false_eq_true, Bool.not_true, Bool.not_false, if_true, if_false, and_true, true_and, memE, celE, w64, Nat.zero_add, Nat.add_zero, Nat.mul_one, putL, and_self, ldn, t0, t3, t4, tm, e1, hlt']
    exact newQ_nil ⟨rfl, rfl⟩
theorem arrTo_sumBd {L : List Pc} (h : GoodL L) (k : Nat) (hk : k ≤ 24) : -100000 ≤ sumTo (arrTo L L.length) k ∧ sumTo (arrTo L L.length) k ≤ 100000 := by
  have hb := arrTo_bd h L.length (Nat.le_refl _)
  have hl := h.len
  have := sumTo_bound (l := arrTo L L.length) (m := 480) (by decide) (fun x hx => by
    obtain ⟨i, hi, rfl⟩ := List.getElem_of_mem hx
    have := hb i
    rw [List.getD_eq_getElem?_getD, List.getElem?_eq_getElem hi] at this
    simp only [Option.getD_some] at this
    omega) k
  omega
end Go.Proofs.Ytjdallbnbjnghaa.Ab
end
section
namespace Go.Proofs.Ytjdallbnbjnghaa.Ab
open Go Go.RowKit
set_option linter.unusedVariables false
set_option linter.unusedSimpArgs false
def posP (l : List Int) (x : Int) : Nat := (l.takeWhile (fun y => decide (y ≤ x))).length
def insP (l : List Int) (x : Int) : List Int := l.take (posP l x) ++ x :: l.drop (posP l x)
theorem posP_uniq {l : List Int} {x : Int} : ∀ {j : Nat}, j ≤ l.length → (∀ a, a < j → l.getD a 0 ≤ x) → (j < l.length → x < l.getD j 0) → j = posP l x := by
  induction l with
  | nil => intro j hj _ _; simp at hj; simp [posP, hj]
  | cons y l ih =>
    intro j hj h1 h2
    cases j with
    | zero =>
      have := h2 (by simp)
      simp only [List.getD_cons_zero] at this
      simp only [posP, List.takeWhile_cons]
      rw [if_neg (by simp; omega)]; rfl
    | succ j =>
      have h0 := h1 0 (by omega)
      simp only [List.getD_cons_zero] at h0
      have := ih (j := j) (by simpa using hj) (fun a ha => by simpa using h1 (a + 1) (by omega)) (fun hl => by simpa using h2 (by simpa using hl))
      simp only [posP, List.takeWhile_cons]
      rw [if_pos (by simpa using h0), List.length_cons, this]; rfl
theorem posP_le (l : List Int) (x : Int) : posP l x ≤ l.length := by
  exact (List.takeWhile_sublist _).length_le
theorem posP_gt {l : List Int} {x : Int} (h : posP l x < l.length) : x < l.getD (posP l x) 0 := by
  induction l with
  | nil => simp at h
  | cons y l ih =>
    simp only [posP, List.takeWhile_cons] at h ⊢
    by_cases hy : y ≤ x
    · rw [if_pos (by simpa using hy)] at h ⊢
      simp only [List.length_cons] at h ⊢
      simp only [List.getD_cons_succ]
      exact ih (by simpa [posP] using h)
    · rw [if_neg (by simpa using hy)]
      simp only [List.length_nil, List.getD_cons_zero]; omega
theorem posP_lt {l : List Int} {x : Int} : ∀ a, a < posP l x → l.getD a 0 ≤ x := by
  induction l with
  | nil => intro a h; simp [posP] at h
  | cons y l ih =>
    intro a h
    simp only [posP, List.takeWhile_cons] at h
    by_cases hy : y ≤ x
    · rw [if_pos (by simpa using hy)] at h
      cases a with
      | zero => simpa using hy
      | succ a =>
        simp only [List.getD_cons_succ]
        exact ih a (by simp only [List.length_cons] at h; simp only [posP]; omega)
    · rw [if_neg (by simpa using hy)] at h
      simp at h
theorem insP_len (l : List Int) (x : Int) : (insP l x).length = l.length + 1 := by
  have := posP_le l x
  simp [insP, List.length_take, List.length_drop]; omega
theorem insP_at (l : List Int) (x : Int) (i : Nat) : (insP l x).getD i 0 = if i < posP l x then l.getD i 0 else if i = posP l x then x else l.getD (i - 1) 0 := by
  have hp := posP_le l x
  have htl : (l.take (posP l x)).length = posP l x := by rw [List.length_take]; omega
  unfold insP
  rw [List.getD_eq_getElem?_getD]
  by_cases h1 : i < posP l x
  · rw [if_pos h1, List.getElem?_append_left (by omega), List.getElem?_take, if_pos h1, List.getD_eq_getElem?_getD]
  · rw [if_neg h1, List.getElem?_append_right (by omega), htl]
    by_cases h2 : i = posP l x
    · rw [if_pos h2, h2, Nat.sub_self]; rfl
    · rw [if_neg h2]
      obtain ⟨d, hd⟩ : ∃ d, i - posP l x = d + 1 := ⟨i - posP l x - 1, by omega⟩
      rw [hd, List.getElem?_cons_succ, List.getElem?_drop, List.getD_eq_getElem?_getD]
      congr 2; omega
def ascL (l : List Int) : Prop := ∀ i, i + 1 < l.length → l.getD i 0 ≤ l.getD (i + 1) 0
theorem ascL_le {l : List Int} (h : ascL l) {j : Nat} : ∀ d, j + d < l.length → l.getD j 0 ≤ l.getD (j + d) 0
  | 0, _ => Int.le_refl _
  | d + 1, hd => Int.le_trans (ascL_le h d (by omega)) (h (j + d) (by omega))
theorem insP_asc {l : List Int} (h : ascL l) (x : Int) : ascL (insP l x) := fun i hi => by
  rw [insP_len] at hi
  rw [insP_at, insP_at]
  have h1 := @posP_lt l x
  have h2 := @posP_gt l x
  by_cases c1 : i + 1 < posP l x
  · rw [if_pos c1, if_pos (by omega)]; have := posP_le l x; exact h i (by omega)
  · by_cases c2 : i + 1 = posP l x
    · rw [if_neg c1, if_pos c2, if_pos (by omega)]; exact h1 i (by omega)
    · rw [if_neg c1, if_neg c2, if_neg (by omega)]
      by_cases c3 : i = posP l x
      · rw [if_pos c3, Nat.add_sub_cancel, c3]; have := h2 (by omega); omega
      · rw [if_neg c3, Nat.add_sub_cancel]
        have := h (i - 1) (by omega)
        rwa [show i - 1 + 1 = i by omega] at this
def insA (L : List Int) : Nat → List Int
  | 0 => []
  | i + 1 => insP (insA L i) (L.getD i 0)
theorem insA_len (L : List Int) : ∀ i, (insA L i).length = i
  | 0 => rfl
  | i + 1 => by simp only [insA]; rw [insP_len, insA_len L i]
theorem insA_asc (L : List Int) : ∀ i, ascL (insA L i)
  | 0 => fun i hi => absurd hi (by simp [insA])
  | i + 1 => insP_asc (insA_asc L i) _
def rowJ (l : List Int) (x : Int) (t : List Int) (j : Nat) : List Int := l.take j ++ x :: (l.drop j ++ t)
theorem rowJ_len {l : List Int} {x : Int} {t : List Int} {j : Nat} (hj : j ≤ l.length) : (rowJ l x t j).length = l.length + 1 + t.length := by
  simp [rowJ]; omega
theorem rowJ_top (l : List Int) (x : Int) (t : List Int) : rowJ l x t l.length = l ++ x :: t := by simp [rowJ]
theorem rowJ_x {l : List Int} {x : Int} {t : List Int} {j : Nat} (hj : j ≤ l.length) : (rowJ l x t j).getD j 0 = x := by
  unfold rowJ
  rw [List.getD_eq_getElem?_getD, List.getElem?_append_right (by rw [List.length_take]; omega)]
  rw [List.length_take, Nat.min_eq_left hj, Nat.sub_self]; rfl
theorem rowJ_y {l : List Int} {x : Int} {t : List Int} {j : Nat} (hj : j + 1 ≤ l.length) : (rowJ l x t (j + 1)).getD j 0 = l.getD j 0 := by
  unfold rowJ
  rw [List.getD_eq_getElem?_getD, List.getElem?_append_left (by rw [List.length_take]; omega), List.getElem?_take, if_pos (by omega), List.getD_eq_getElem?_getD]
theorem rowJ_sw {l : List Int} {x : Int} {t : List Int} {j : Nat} (hj : j + 1 ≤ l.length) : ((rowJ l x t (j + 1)).set (j + 1) (l.getD j 0)).set j x = rowJ l x t j := by
  unfold rowJ
  have e1 : l.take (j + 1) = l.take j ++ [l.getD j 0] := by
    rw [List.take_succ_eq_append_getElem (by omega), List.getD_eq_getElem?_getD, List.getElem?_eq_getElem (by omega)]; rfl
  have e2 : l.drop j = l.getD j 0 :: l.drop (j + 1) := by
    rw [List.drop_eq_getElem_cons (by omega), List.getD_eq_getElem?_getD, List.getElem?_eq_getElem (by omega)]; rfl
  have hl : (l.take j).length = j := by rw [List.length_take]; omega
  rw [e1, e2]
  generalize hA : l.take j = A at *
  generalize l.getD j 0 = y
  generalize l.drop (j + 1) = B
  rw [List.append_assoc, List.set_append_right _ _ (by omega), List.set_append_right _ _ (by omega)]
  simp [hl]
theorem row_same {m : Mem} {id : Nat} {l : List Int} (h : OwnR m id l) : m.set id (rowB l) = m := by
  refine List.ext_getElem? fun i => ?_
  rw [List.getElem?_set]
  split
  · rename_i e
    subst e
    rw [if_pos h.lt]; exact (show m[id]? = some (rowB l) from h).symm
  · rfl
theorem isNaN11_rc (m : Mem) (x : Int) : RC Try.prog 144 [.int .i64 x] m fun r new => r = .bool false ∧ new = [] := by
  refine rc_of_run mixed ok_cmp_isNaN (by simp) (go_start _ _ _ ?_)
  simp (config := {implicitDefEqProofs := false, maxDischargeDepth := 20}) (disch := first | omega | (simp only [lenE]; done) | (simp only [lenE]; omega) | rfl | (simp only [lenE, markR_len]; done) | (simp only [lenE, markR_len]; omega)) only [runE, mapE, listE, initT_5, initT_6, initT_7, initT_8, resV, oneV, binA, unA, reduceCtorEq, Nat.reduceEqDiff, Nat.reduceAdd, Nat.reduceLT, Nat.reduceLeDiff, Nat.reduceMul, Nat.reduceSub, ↓reduceIte, decide_true, decide_false, Bool.true_eq_false, Bool.false_eq_true, Bool.not_true, Bool.not_false, if_true, if_false, and_true, true_and, memE, celE, w64, Nat.zero_add, Nat.add_zero, Nat.mul_one, putL, and_self, ldn, c_cmp_isNaN, r_cmp_isNaN, bne_self_eq_false]
  exact newQ_nil ⟨rfl, rfl⟩
theorem cmpLess11_rc (m : Mem) (x y : Int) : RC Try.prog 134 [.int .i64 x, .int .i64 y] m fun r new => r = .bool (decide (x < y)) ∧ new = [] := by
  refine rc_of_run mixed ok_cmp_Less (by simp) (go_start _ _ _ ?_)
  simp (config := {implicitDefEqProofs := false, maxDischargeDepth := 20}) (disch := first | omega | (simp only [lenE]; done) | (simp only [lenE]; omega) | rfl | (simp only [lenE, markR_len]; done) | (simp only [lenE, markR_len]; omega)) only [runE, mapE, listE, initT_5, initT_6, initT_7, initT_8, resV, oneV, binA, unA, reduceCtorEq, Nat.reduceEqDiff, Nat.reduceAdd, Nat.reduceLT, Nat.reduceLeDiff, Nat.reduceMul, Nat.reduceSub, ↓reduceIte, decide_true, decide_false, Bool.true_eq_false, Bool.false_eq_true, Bool.not_true, Bool.not_false, if_true, if_false, and_true, true_and, memE, celE, w64, Nat.zero_add, Nat.add_zero, Nat.mul_one, putL, and_self, ldn, c_cmp_Less, r_cmp_Less]
  refine callH_rc (isNaN11_rc _ x) ?_
  rintro r new ⟨rfl, rfl⟩
  simp (config := {implicitDefEqProofs := false, maxDischargeDepth := 20}) (disch := first | omega | (simp only [lenE]; done) | (simp only [lenE]; omega) | rfl | (simp only [lenE, markR_len]; done) | (simp only [lenE, markR_len]; omega)) only [runE, mapE, listE, initT_5, initT_6, initT_7, initT_8, resV, oneV, binA, unA, reduceCtorEq, Nat.reduceEqDiff, Nat.reduceAdd, Nat.reduceLT, Nat.reduceLeDiff, Nat.reduceMul, Nat.reduceSub, ↓reduceIte, decide_true, decide_false, Bool.true_eq_false, Bool.false_eq_true, Bool.not_true, Bool.not_false, if_true, if_false, and_true, true_and, memE, celE, w64, Nat.zero_add, Nat.add_zero, Nat.mul_one, putL, and_self, ldn, List.append_nil]
  exact newQ_nil ⟨rfl, rfl⟩
set_option maxHeartbeats 4000000 in
theorem insertSort_ac (m : Mem) (id fl : Nat) (L : List Int) (h : OwnR m id L) (hl : L.length ≤ 12) :
    AC Try.prog 128 [.slice (some ⟨id, 0, none⟩) L.length fl, .int .i64 0, .int .i64 L.length] m fun _ m' => m' = m.set id (rowB (insA L L.length)) := by
  refine ac_of_run mixed ok_slices_insertionSortOrdered (by simp) (go_start _ _ _ ?_)
  by_cases h0 : L.length = 0
  · have hL : L = [] := List.eq_nil_of_length_eq_zero h0
    subst hL
    simp (config := {implicitDefEqProofs := false, maxDischargeDepth := 20}) (disch := first | omega | (simp only [lenE]; done) | (simp only [lenE]; omega) | rfl | (simp only [lenE, markR_len]; done) | (simp only [lenE, markR_len]; omega)) only [runE, mapE, listE, initT_5, initT_6, initT_7, initT_8, resV, oneV, binA, unA, reduceCtorEq, Nat.reduceEqDiff, Nat.reduceAdd, Nat.reduceLT, Nat.reduceLeDiff, Nat.reduceMul, Nat.reduceSub, ↓reduceIte, decide_true, decide_false, Bool.true_eq_false, Bool.false_eq_true, Bool.not_true, Bool.not_false, if_true, if_false, and_true, true_and, memE, celE, w64, Nat.zero_add, Nat.add_zero, Nat.mul_one, putL, and_self, ldn, c_slices_insertionSortOrdered, r_slices_insertionSortOrdered]
    refine loop_inv mixed (fun s => s.m = m ∧ s.t 2 = .int .i64 0 ∧ s.t 6 = .int .i64 1) (fun s => 0) ⟨rfl, rfl, rfl⟩ ?_
    rintro s ⟨tm, t2, t6⟩
    have h10 : ¬ ((1 : Int) < 0) := by omega
    simp (config := {implicitDefEqProofs := false, maxDischargeDepth := 20}) (disch := first | omega | (simp only [lenE]; done) | (simp only [lenE]; omega) | rfl | (simp only [lenE, markR_len]; done) | (simp only [lenE, markR_len]; omega)) only [runE, mapE, listE, initT_5, initT_6, initT_7, initT_8, resV, oneV, binA, unA, reduceCtorEq, Nat.reduceEqDiff, Nat.reduceAdd, Nat.reduceLT, Nat.reduceLeDiff, Nat.reduceMul, Nat.reduceSub, ↓reduceIte, decide_true, decide_false, Bool.true_eq_false, Bool.false_eq_true, Bool.not_true, Bool.not_false, if_true, if_false, and_true, true_and, memE, celE, w64, Nat.zero_add, Nat.add_zero, Nat.mul_one, putL, and_self, ldn, tm, t2, t6, h10]
    exact (row_same h).symm
  · simp (config := {implicitDefEqProofs := false, maxDischargeDepth := 20}) (disch := first | omega | (simp only [lenE]; done) | (simp only [lenE]; omega) | rfl | (simp only [lenE, markR_len]; done) | (simp only [lenE, markR_len]; omega)) only [runE, mapE, listE, initT_5, initT_6, initT_7, initT_8, resV, oneV, binA, unA, reduceCtorEq, Nat.reduceEqDiff, Nat.reduceAdd, Nat.reduceLT, Nat.reduceLeDiff, Nat.reduceMul, Nat.reduceSub, ↓reduceIte, decide_true, decide_false, Bool.true_eq_false, Bool.false_eq_true, Bool.not_true, Bool.not_false, if_true, if_false, and_true, true_and, memE, celE, w64, Nat.zero_add, Nat.add_zero, Nat.mul_one, putL, and_self, ldn, c_slices_insertionSortOrdered, r_slices_insertionSortOrdered]
    refine loop_inv mixed (fun s => ∃ i : Nat, 1 ≤ i ∧ i ≤ L.length ∧ s.m = m.set id (rowB (insA L i ++ L.drop i)) ∧ s.t 0 = .slice (some ⟨id, 0, none⟩) L.length fl ∧ s.t 1 = .int .i64 0 ∧ s.t 2 = .int .i64 L.length ∧ s.t 6 = .int .i64 i) (fun s => L.length - (intOf (s.t 6)).toNat)
      ⟨1, by omega, by omega, ?_, rfl, rfl, rfl, rfl⟩ ?_
    · have e : insA L 1 ++ L.drop 1 = L := by
        cases L with
        | nil => simp at h0
        | cons x L => simp [insA, insP, posP]
      rw [e, row_same h]
      rfl
    rintro s ⟨i, hi1, hi, tm, t0, t1, t2, t6⟩
    by_cases hlt : i < L.length
    · have hlt' : (i : Int) < L.length := by omega
      obtain ⟨l, hll⟩ : ∃ l, l = insA L i := ⟨_, rfl⟩
      have hlen : l.length = i := by rw [hll]; exact insA_len L i
      have hasc : ascL l := by rw [hll]; exact insA_asc L i
      obtain ⟨x, hx⟩ : ∃ x, x = L.getD i 0 := ⟨_, rfl⟩
      obtain ⟨t, ht⟩ : ∃ t, t = L.drop (i + 1) := ⟨_, rfl⟩
      have htl : i + 1 + t.length = L.length := by rw [ht, List.length_drop]; omega
      have hd : L.drop i = x :: t := by
        rw [List.drop_eq_getElem_cons hlt, hx, ht, List.getD_eq_getElem?_getD, List.getElem?_eq_getElem hlt]; rfl
      have hS : insA L (i + 1) = insP l x := by rw [hll, hx]; rfl
      rw [← hll, hd] at tm
      simp (config := {implicitDefEqProofs := false, maxDischargeDepth := 20}) (disch := first | omega | (simp only [lenE]; done) | (simp only [lenE]; omega) | rfl | (simp only [lenE, markR_len]; done) | (simp only [lenE, markR_len]; omega)) only [runE, mapE, listE, initT_5, initT_6, initT_7, initT_8, resV, oneV, binA, unA, reduceCtorEq, Nat.reduceEqDiff, Nat.reduceAdd, Nat.reduceLT, Nat.reduceLeDiff, Nat.reduceMul, Nat.reduceSub, ↓reduceIte, decide_true, decide_false, Bool.true_eq_false, Bool.false_eq_true, Bool.not_true, Bool.not_false, if_true, if_false, and_true, true_and, memE, celE, w64, Nat.zero_add, Nat.add_zero, Nat.mul_one, putL, and_self, ldn, tm, t0, t1, t2, t6, hlt']
      refine loop_inv mixed (fun s => ∃ j : Nat, j ≤ i ∧ (∀ a, j ≤ a → a < i → x < l.getD a 0) ∧ s.m = m.set id (rowB (rowJ l x t j)) ∧ s.t 0 = .slice (some ⟨id, 0, none⟩) L.length fl ∧ s.t 1 = .int .i64 0 ∧ s.t 2 = .int .i64 L.length ∧ s.t 6 = .int .i64 i ∧ s.t 7 = .int .i64 j) (fun s => (intOf (s.t 7)).toNat)
        ⟨i, Nat.le_refl _, fun a h1 h2 => absurd h1 (by omega), by simp only [put_t, put_t', put_m, putT_t, putT_t', putT_m, init_t, init_m, initT_0, initT_1, initT_2, initT_3, initT_4, initT_5, initT_6, initT_7, initT_8, Nat.reduceEqDiff, ↓reduceIte, tm]; rw [← hlen, rowJ_top], by simp only [put_t, put_t', put_m, putT_t, putT_t', putT_m, init_t, init_m, initT_0, initT_1, initT_2, initT_3, initT_4, initT_5, initT_6, initT_7, initT_8, Nat.reduceEqDiff, ↓reduceIte, t0], by simp only [put_t, put_t', put_m, putT_t, putT_t', putT_m, init_t, init_m, initT_0, initT_1, initT_2, initT_3, initT_4, initT_5, initT_6, initT_7, initT_8, Nat.reduceEqDiff, ↓reduceIte, t1], by simp only [put_t, put_t', put_m, putT_t, putT_t', putT_m, init_t, init_m, initT_0, initT_1, initT_2, initT_3, initT_4, initT_5, initT_6, initT_7, initT_8, Nat.reduceEqDiff, ↓reduceIte, t2], by simp only [put_t, put_t', put_m, putT_t, putT_t', putT_m, init_t, init_m, initT_0, initT_1, initT_2, initT_3, initT_4, initT_5, initT_6, initT_7, initT_8, Nat.reduceEqDiff, ↓reduceIte, t6], by simp only [put_t, put_t', put_m, putT_t, putT_t', putT_m, init_t, init_m, initT_0, initT_1, initT_2, initT_3, initT_4, initT_5, initT_6, initT_7, initT_8, Nat.reduceEqDiff, ↓reduceIte, t6]⟩ ?_
      clear tm t0 t1 t2 t6
      rintro s ⟨j, hj, hgt, tm, t0, t1, t2, t6, t7⟩
      have hO : OwnR (m.set id (rowB (rowJ l x t j))) id (rowJ l x t j) := h.set_self
      have hRl : (rowJ l x t j).length = L.length := by rw [rowJ_len (by omega)]; omega
      have fin : (j = 0 ∨ l.getD (j - 1) 0 ≤ x) → rowJ l x t j = insA L (i + 1) ++ L.drop (i + 1) := fun hc => by
        have hp : j = posP l x := posP_uniq (by omega) (fun a ha => by
          rcases hc with hc | hc
          · omega
          · have := ascL_le hasc (j := a) (j - 1 - a) (by omega)
            rw [show a + (j - 1 - a) = j - 1 by omega] at this
            omega) (fun hl => hgt j (Nat.le_refl _) (by omega))
        rw [hS, ← ht]
        unfold rowJ insP
        rw [← hp, List.append_assoc, List.cons_append]
      by_cases hj0 : j = 0
      · subst hj0
        have hz : ¬ ((0 : Int) < ((0 : Nat) : Int)) := by omega
        simp (config := {implicitDefEqProofs := false, maxDischargeDepth := 20}) (disch := first | omega | (simp only [lenE]; done) | (simp only [lenE]; omega) | rfl | (simp only [lenE, markR_len]; done) | (simp only [lenE, markR_len]; omega)) only [runE, mapE, listE, initT_5, initT_6, initT_7, initT_8, resV, oneV, binA, unA, reduceCtorEq, Nat.reduceEqDiff, Nat.reduceAdd, Nat.reduceLT, Nat.reduceLeDiff, Nat.reduceMul, Nat.reduceSub, ↓reduceIte, decide_true, decide_false, Bool.true_eq_false, Bool.false_eq_true, Bool.not_true, Bool.not_false, if_true, if_false, and_true, true_and, memE, celE, w64, Nat.zero_add, Nat.add_zero, Nat.mul_one, putL, and_self, ldn, tm, t0, t1, t2, t6, t7, gt_iff_lt, hz]
        refine ⟨⟨i + 1, by omega, by omega, by rw [fin (.inl rfl)], by simp⟩, ?_⟩
        simp [intOf]; omega
      · obtain ⟨k, hk⟩ : ∃ k, j = k + 1 := ⟨j - 1, by omega⟩
        subst hk
        have hgt0 : (0 : Int) < ((k + 1 : Nat) : Int) := by omega
        have ek : ((k + 1 : Nat) : Int) - 1 = (k : Int) := by omega
        have q1 := iad0 (id := id) (n := L.length) (fl := fl) (z := ((k + 1 : Nat) : Int)) rfl (by omega)
        have q2 := iad0 (id := id) (n := L.length) (fl := fl) (z := (k : Int)) rfl (by omega)
        have r1 := hO.rd' (i := k + 1) (by omega)
        have r2 := hO.rd' (i := k) (by omega)
        rw [rowJ_x (by omega)] at r1
        rw [rowJ_y (by omega)] at r2
        simp (config := {implicitDefEqProofs := false, maxDischargeDepth := 20}) (disch := first | omega | (simp only [lenE]; done) | (simp only [lenE]; omega) | rfl | (simp only [lenE, markR_len]; done) | (simp only [lenE, markR_len]; omega)) only [runE, mapE, listE, initT_5, initT_6, initT_7, initT_8, resV, oneV, binA, unA, reduceCtorEq, Nat.reduceEqDiff, Nat.reduceAdd, Nat.reduceLT, Nat.reduceLeDiff, Nat.reduceMul, Nat.reduceSub, ↓reduceIte, decide_true, decide_false, Bool.true_eq_false, Bool.false_eq_true, Bool.not_true, Bool.not_false, if_true, if_false, and_true, true_and, memE, celE, w64, Nat.zero_add, Nat.add_zero, Nat.mul_one, putL, and_self, ldn, tm, t0, t1, t2, t6, t7, gt_iff_lt, hgt0, ek, q1, q2, r1, r2]
        refine rcallH_rc (cmpLess11_rc _ _ _) ?_
        rintro r new ⟨rfl, rfl⟩
        rw [List.append_nil]
        by_cases hc : x < l.getD k 0
        · have s1 := hO.st (off := k + 1) (x := l.getD k 0) (by omega)
          have hO2 : OwnR ((m.set id (rowB (rowJ l x t (k + 1)))).set id (rowB ((rowJ l x t (k + 1)).set (k + 1) (l.getD k 0)))) id ((rowJ l x t (k + 1)).set (k + 1) (l.getD k 0)) := hO.set_self
          have s2 := hO2.st (off := k) (x := x) (by rw [List.length_set]; omega)
          simp (config := {implicitDefEqProofs := false, maxDischargeDepth := 20}) (disch := first | omega | (simp only [lenE]; done) | (simp only [lenE]; omega) | rfl | (simp only [lenE, markR_len]; done) | (simp only [lenE, markR_len]; omega)) only [runE, mapE, listE, initT_5, initT_6, initT_7, initT_8, resV, oneV, binA, unA, reduceCtorEq, Nat.reduceEqDiff, Nat.reduceAdd, Nat.reduceLT, Nat.reduceLeDiff, Nat.reduceMul, Nat.reduceSub, ↓reduceIte, decide_true, decide_false, Bool.true_eq_false, Bool.false_eq_true, Bool.not_true, Bool.not_false, if_true, if_false, and_true, true_and, memE, celE, w64, Nat.zero_add, Nat.add_zero, Nat.mul_one, putL, and_self, ldn, tm, t0, t1, t2, t6, t7, hc, ek, q1, q2, r1, r2, s1, s2]
          refine ⟨⟨k, by omega, fun a h1 h2 => ?_, ?_, by simp⟩, ?_⟩
          · by_cases e : a = k
            · subst e; exact hc
            · exact hgt a (by omega) h2
          · rw [rowJ_sw (by omega)]; simp
          · simp [intOf]
        · simp (config := {implicitDefEqProofs := false, maxDischargeDepth := 20}) (disch := first | omega | (simp only [lenE]; done) | (simp only [lenE]; omega) | rfl | (simp only [lenE, markR_len]; done) | (simp only [lenE, markR_len]; omega)) only [runE, mapE, listE, initT_5, initT_6, initT_7, initT_8, resV, oneV, binA, unA, reduceCtorEq, Nat.reduceEqDiff, Nat.reduceAdd, Nat.reduceLT, Nat.reduceLeDiff, Nat.reduceMul, Nat.reduceSub, ↓reduceIte, decide_true, decide_false, Bool.true_eq_false, Bool.false_eq_true, Bool.not_true, Bool.not_false, if_true, if_false, and_true, true_and, memE, celE, w64, Nat.zero_add, Nat.add_zero, Nat.mul_one, putL, and_self, ldn, tm, t0, t1, t2, t6, t7, hc]
          refine ⟨⟨i + 1, by omega, by omega, by rw [fin (.inr (by rw [Nat.add_sub_cancel]; omega))], by simp⟩, ?_⟩
          simp [intOf]; omega
    · have hlt' : ¬ ((i : Int) < L.length) := by omega
      obtain rfl : i = L.length := by omega
      simp (config := {implicitDefEqProofs := false, maxDischargeDepth := 20}) (disch := first | omega | (simp only [lenE]; done) | (simp only [lenE]; omega) | rfl | (simp only [lenE, markR_len]; done) | (simp only [lenE, markR_len]; omega)) only [runE, mapE, listE, initT_5, initT_6, initT_7, initT_8, resV, oneV, binA, unA, reduceCtorEq, Nat.reduceEqDiff, Nat.reduceAdd, Nat.reduceLT, Nat.reduceLeDiff, Nat.reduceMul, Nat.reduceSub, ↓reduceIte, decide_true, decide_false, Bool.true_eq_false, Bool.false_eq_true, Bool.not_true, Bool.not_false, if_true, if_false, and_true, true_and, memE, celE, w64, Nat.zero_add, Nat.add_zero, Nat.mul_one, putL, and_self, ldn, tm, t0, t1, t2, t6, hlt']
      rw [List.drop_length, List.append_nil]
end Go.Proofs.Ytjdallbnbjnghaa.Ab
end
section
namespace Go.Proofs.Ytjdallbnbjnghaa.Ab
open Go Go.RowKit
set_option linter.unusedVariables false
set_option linter.unusedSimpArgs false
theorem VL.oneS {ρ : Places} {x : Value} {cs : List Value} (h : VL ρ [x] cs) : ∃ y, cs = [y] ∧ VR ρ x y := by
  obtain ⟨hl, hp⟩ := h
  match cs, hl with
  | [y], _ => exact ⟨y, rfl, hp 0 x y rfl rfl⟩
theorem FnOk.fnS {P : Program} {f : FuncId} {n : Nat} {c : ACode} {res : List ARes} (hf : FnOk P f n c res) : ∃ fn, P.funcs[f]? = some fn ∧ (fn.name == "runtime.NumGoroutine") = false ∧ fn.body.isNone = false := by
  obtain ⟨fn, C, hfn, hname, hb, _⟩ := hf.ok
  exact ⟨fn, hfn, hname, by rw [hb]; rfl⟩
theorem bitsLen_rc (m : Mem) (x : Int) (h0 : 0 ≤ x) (h1 : x ≤ 18446744073709551615) : RC Try.prog 123 [.int .u64 x] m fun r new => (∃ y, r = .int .i64 y) ∧ new = [] := by
  refine ⟨ok_math_bits_Len.fnS, fun ρ w cargs hm ha => ?_⟩
  obtain ⟨y, rfl, hy⟩ := ha.oneS
  cases hy
  refine (Try.bits_Len x w h0 h1).mono ?_
  rintro e w' ⟨rfl, rfl⟩
  exact ⟨.int .i64 _, _, [], [], rfl, ⟨⟨_, rfl⟩, rfl⟩, noRo_nil, by simpa using hm, .int _ _⟩
theorem pdq_ac (m : Mem) (id fl : Nat) (L : List Int) (y : Int) (h : OwnR m id L) (hl : L.length ≤ 12) :
    AC Try.prog 122 [.slice (some ⟨id, 0, none⟩) L.length fl, .int .i64 0, .int .i64 L.length, .int .i64 y] m fun _ m' => m' = m.set id (rowB (insA L L.length)) := by
  refine ac_of_run mixed ok_slices_pdqsortOrdered (by simp) (go_start _ _ _ ?_)
  have hl' : (L.length : Int) ≤ 12 := by omega
  simp (config := {implicitDefEqProofs := false, maxDischargeDepth := 20}) (disch := first | omega | (simp only [lenE]; done) | (simp only [lenE]; omega) | rfl | (simp only [lenE, markR_len]; done) | (simp only [lenE, markR_len]; omega)) only [runE, mapE, listE, initT_5, initT_6, initT_7, initT_8, resV, oneV, binA, unA, reduceCtorEq, Nat.reduceEqDiff, Nat.reduceAdd, Nat.reduceLT, Nat.reduceLeDiff, Nat.reduceMul, Nat.reduceSub, ↓reduceIte, decide_true, decide_false, Bool.true_eq_false, Bool.false_eq_true, Bool.not_true, Bool.not_false, if_true, if_false, and_true, true_and, memE, celE, w64, Nat.zero_add, Nat.add_zero, Nat.mul_one, putL, and_self, ldn, c_slices_pdqsortOrdered, r_slices_pdqsortOrdered]
  refine loop_inv mixed (fun s => s.m = m ∧ s.t 0 = .slice (some ⟨id, 0, none⟩) L.length fl ∧ s.t 1 = .int .i64 0 ∧ s.t 2 = .int .i64 L.length) (fun s => 0) ⟨rfl, rfl, rfl, rfl⟩ ?_
  rintro s ⟨tm, t0, t1, t2⟩
  simp (config := {implicitDefEqProofs := false, maxDischargeDepth := 20}) (disch := first | omega | (simp only [lenE]; done) | (simp only [lenE]; omega) | rfl | (simp only [lenE, markR_len]; done) | (simp only [lenE, markR_len]; omega)) only [runE, mapE, listE, initT_5, initT_6, initT_7, initT_8, resV, oneV, binA, unA, reduceCtorEq, Nat.reduceEqDiff, Nat.reduceAdd, Nat.reduceLT, Nat.reduceLeDiff, Nat.reduceMul, Nat.reduceSub, ↓reduceIte, decide_true, decide_false, Bool.true_eq_false, Bool.false_eq_true, Bool.not_true, Bool.not_false, if_true, if_false, and_true, true_and, memE, celE, w64, Nat.zero_add, Nat.add_zero, Nat.mul_one, putL, and_self, ldn, tm, t0, t1, t2, Int.sub_zero, hl']
  refine callH_ac (insertSort_ac m id fl L h hl) ?_
  rintro r m' rfl
  simp (config := {implicitDefEqProofs := false, maxDischargeDepth := 20}) (disch := first | omega | (simp only [lenE]; done) | (simp only [lenE]; omega) | rfl | (simp only [lenE, markR_len]; done) | (simp only [lenE, markR_len]; omega)) only [runE, mapE, listE, initT_5, initT_6, initT_7, initT_8, resV, oneV, binA, unA, reduceCtorEq, Nat.reduceEqDiff, Nat.reduceAdd, Nat.reduceLT, Nat.reduceLeDiff, Nat.reduceMul, Nat.reduceSub, ↓reduceIte, decide_true, decide_false, Bool.true_eq_false, Bool.false_eq_true, Bool.not_true, Bool.not_false, if_true, if_false, and_true, true_and, memE, celE, w64, Nat.zero_add, Nat.add_zero, Nat.mul_one, putL, and_self, ldn]
theorem sort_ac (m : Mem) (id fl : Nat) (L : List Int) (h : OwnR m id L) (hl : L.length ≤ 12) :
    AC Try.prog 100 [.slice (some ⟨id, 0, none⟩) L.length fl] m fun _ m' => m' = m.set id (rowB (insA L L.length)) := by
  refine ac_of_run mixed ok_slices_Sort (by simp) (go_start _ _ _ ?_)
  have hl' : (L.length : Int) ≤ 12 := by omega
  simp (config := {implicitDefEqProofs := false, maxDischargeDepth := 20}) (disch := first | omega | (simp only [lenE]; done) | (simp only [lenE]; omega) | rfl | (simp only [lenE, markR_len]; done) | (simp only [lenE, markR_len]; omega)) only [runE, mapE, listE, initT_5, initT_6, initT_7, initT_8, resV, oneV, binA, unA, reduceCtorEq, Nat.reduceEqDiff, Nat.reduceAdd, Nat.reduceLT, Nat.reduceLeDiff, Nat.reduceMul, Nat.reduceSub, ↓reduceIte, decide_true, decide_false, Bool.true_eq_false, Bool.false_eq_true, Bool.not_true, Bool.not_false, if_true, if_false, and_true, true_and, memE, celE, w64, Nat.zero_add, Nat.add_zero, Nat.mul_one, putL, and_self, ldn, c_slices_Sort, r_slices_Sort]
  have hw : IntKind.u64.wrap (L.length : Int) = L.length := IntWalk.u64_in _ ⟨by omega, by omega⟩
  refine callH_rc (bitsLen_rc _ _ (by omega) (by omega)) ?_
  rintro r new ⟨⟨y, rfl⟩, rfl⟩
  rw [List.append_nil]
  simp (config := {implicitDefEqProofs := false, maxDischargeDepth := 20}) (disch := first | omega | (simp only [lenE]; done) | (simp only [lenE]; omega) | rfl | (simp only [lenE, markR_len]; done) | (simp only [lenE, markR_len]; omega)) only [runE, mapE, listE, initT_5, initT_6, initT_7, initT_8, resV, oneV, binA, unA, reduceCtorEq, Nat.reduceEqDiff, Nat.reduceAdd, Nat.reduceLT, Nat.reduceLeDiff, Nat.reduceMul, Nat.reduceSub, ↓reduceIte, decide_true, decide_false, Bool.true_eq_false, Bool.false_eq_true, Bool.not_true, Bool.not_false, if_true, if_false, and_true, true_and, memE, celE, w64, Nat.zero_add, Nat.add_zero, Nat.mul_one, putL, and_self, ldn]
  refine callH_ac (pdq_ac m id fl L y h hl) ?_
  rintro r m' rfl
  simp (config := {implicitDefEqProofs := false, maxDischargeDepth := 20}) (disch := first | omega | (simp only [lenE]; done) | (simp only [lenE]; omega) | rfl | (simp only [lenE, markR_len]; done) | (simp only [lenE, markR_len]; omega)) only [runE, mapE, listE, initT_5, initT_6, initT_7, initT_8, resV, oneV, binA, unA, reduceCtorEq, Nat.reduceEqDiff, Nat.reduceAdd, Nat.reduceLT, Nat.reduceLeDiff, Nat.reduceMul, Nat.reduceSub, ↓reduceIte, decide_true, decide_false, Bool.true_eq_false, Bool.false_eq_true, Bool.not_true, Bool.not_false, if_true, if_false, and_true, true_and, memE, celE, w64, Nat.zero_add, Nat.add_zero, Nat.mul_one, putL, and_self, ldn]
def sameB (L : List Pc) : Bool := L.all fun p => p.amount == (L.getD 0 Pc0).amount
def strOk (L : List Pc) : Bool := parB L && sameB L
def arrD (L : List Pc) : List Int := L.map fun p => p.day + p.lead
def strC (L : List Pc) (k : Nat) : Pc := ⟨(L.getD k Pc0).day, (L.getD k Pc0).amount, (insA (arrD L) L.length).getD k 0 - (L.getD k Pc0).day⟩
def strTo (L : List Pc) (n : Nat) : List Pc := (List.range n).map (strC L)
theorem strTo_len (L : List Pc) (n : Nat) : (strTo L n).length = n := by simp [strTo]
theorem strTo_s (L : List Pc) (n : Nat) : strTo L (n + 1) = strTo L n ++ [strC L n] := by simp [strTo, List.range_succ]
def strA (L : List Pc) : List Pc := if strOk L then strTo L L.length else []
theorem map_arr (L : List Pc) : (L.map pcV).map (fun x => (pcOf x).day + (pcOf x).lead) = arrD L := by rw [List.map_map]; rfl
theorem any_other (L : List Pc) : (L.map pcV).any (fun x => (pcOf x).amount != (L.getD 0 Pc0).amount) = !sameB L := by
  rw [List.any_map]
  unfold sameB
  rw [List.not_all_eq_any_not]; rfl
theorem funArr {m : Mem} {L : List Pc} (hG : GoodL L) : FunG m (.func (.func 99) #[] #[]) (fun x : Value => [x]) (· ∈ L.map pcV) (fun x => .int .i64 ((pcOf x).day + (pcOf x).lead)) :=
  ⟨_, _, rfl, fun M _ x hx => by
    obtain ⟨p, hp, rfl⟩ := List.mem_map.1 hx
    obtain ⟨k, hk, rfl⟩ := List.getElem_of_mem hp
    have := hG.all k hk
    rw [List.getD_eq_getElem?_getD, List.getElem?_eq_getElem hk] at this
    exact arrivalOf_rc M _ this⟩
theorem funOther (m : Mem) (b : Nat) (v : Value) (L : List Pc) (h1 : rdc m b 0 = some v) (h : PcsA m v L) :
    FunG m (.func (.func 96) #[] #[.pointer (some ⟨b, 0, none⟩)]) (fun x : Value => [x]) (· ∈ L.map pcV) (fun x => .bool ((pcOf x).amount != (L.getD 0 Pc0).amount)) := by
  refine ⟨_, _, rfl, fun M hM x hx => ?_⟩
  obtain ⟨p, hp, rfl⟩ := List.mem_map.1 hx
  have hpos : 0 < L.length := List.length_pos_of_mem hp
  refine rc_of_run mixed ok_impl_StraightLeads_1 (by simp) (go_start _ _ _ ?_)
  have k1 : rdc M b 0 = some v := hM.1 _ _ _ h1
  have l1 : ∀ new, rdc (roM M ++ new) b 0 = some v := fun new => rdc_ext (by rw [rdc_roM]; exact k1)
  have hA := hM.pcs h
  have hX : Ext M (roM M ++ [⟨.own, 66, [.int .i64 p.day, .int .i64 p.amount, .int .i64 p.lead]⟩]) := (Ext.refl M).one _ _
  have hB := hX.keeps.pcs hA
  have j1 : iadA 3 v (.int .i64 0) = some (pPc v 0) := hB.at_ hpos
  obtain ⟨q0, f0, g0⟩ := hB.fld hpos 1 (by decide)
  replace g0 : ldA (roM M ++ [⟨.own, 66, [.int .i64 p.day, .int .i64 p.amount, .int .i64 p.lead]⟩]) none q0 = some (.int .i64 (L.getD 0 Pc0).amount) := g0
  generalize (L.getD 0 Pc0).amount = y at *
  simp (config := {implicitDefEqProofs := false, maxDischargeDepth := 20}) (disch := first | omega | (simp only [lenE]; done) | (simp only [lenE]; omega) | rfl | (simp only [lenE, markR_len]; done) | (simp only [lenE, markR_len]; omega)) only [runE, mapE, listE, initT_5, initT_6, initT_7, initT_8, resV, oneV, binA, unA, reduceCtorEq, Nat.reduceEqDiff, Nat.reduceAdd, Nat.reduceLT, Nat.reduceLeDiff, Nat.reduceMul, Nat.reduceSub, ↓reduceIte, decide_true, decide_false, Bool.true_eq_false, Bool.false_eq_true, Bool.not_true, Bool.not_false, if_true, if_false, and_true, true_and, memE, celE, w64, Nat.zero_add, Nat.add_zero, Nat.mul_one, putL, and_self, ldn, c_impl_StraightLeads_1, r_impl_StraightLeads_1, pcV, l1, j1, f0, g0]
  exact ext_ansV hX rfl
theorem bsl_pc {m : Mem} {e : TypeId} {a b c : Int} : bslA m e 3 1 [.int .i64 0, .int .i64 0, .int .i64 0] [(0, 3, .agg #[.int .i64 a, .int .i64 b, .int .i64 c])] = some (.slice (some ⟨m.length, 0, none⟩) 1 3, m ++ [⟨.own, e, [.int .i64 a, .int .i64 b, .int .i64 c]⟩]) := rfl
theorem pcsC_sS (L : List Pc) (p : Pc) : pcsC (L ++ [p]) = pcsC L ++ [.int .i64 p.day, .int .i64 p.amount, .int .i64 p.lead] := by simp [pcsC, pcC]
theorem ext_pcs {m M : Mem} {L : List Pc} {id n : Nat} {e : TypeId} {f : Value → Value} (h : Ext m M) (ho : OwnB M id e (pcsC L)) (hid : m.length ≤ id) (hn : n = L.length) (hl : L.length ≤ 1048576) :
    newQ m (AnsO m (PcsO e L) f) (f (.slice (some ⟨id, 0, none⟩) n 3)) M := by
  subst hn
  exact ext_ansO h fun M' hM => ⟨hl, id, 3, rfl, hid, ho.lt, ho.at_ (hM _ hid ho.lt)⟩
theorem insA_bd {L : List Int} {a b : Int} (h : ∀ k, k < L.length → a ≤ L.getD k 0 ∧ L.getD k 0 ≤ b) : ∀ i, i ≤ L.length → ∀ k, k < i → a ≤ (insA L i).getD k 0 ∧ (insA L i).getD k 0 ≤ b
  | 0, _, k, hk => absurd hk (by omega)
  | i + 1, hi, k, hk => by
    have ih := insA_bd h i (by omega)
    have hl := insA_len L i
    have hp := posP_le (insA L i) (L.getD i 0)
    simp only [insA]
    rw [insP_at]
    split
    · exact ih k (by omega)
    · split
      · exact h i (by omega)
      · exact ih (k - 1) (by omega)
theorem arrD_at {L : List Pc} {k : Nat} (h : k < L.length) : (arrD L).getD k 0 = (L.getD k Pc0).day + (L.getD k Pc0).lead := by
  simp [arrD, List.getD_eq_getElem?_getD, List.getElem?_map, h]
theorem arrD_len (L : List Pc) : (arrD L).length = L.length := by simp [arrD]
theorem strBd {L : List Pc} (hG : GoodL L) {k : Nat} (hk : k < L.length) : 1 ≤ (insA (arrD L) L.length).getD k 0 ∧ (insA (arrD L) L.length).getD k 0 ≤ 24 :=
  insA_bd (fun j hj => by
    rw [arrD_len] at hj
    rw [arrD_at hj]
    have := hG.all j hj
    have h1 := this.day
    have h2 := this.lead
    omega) L.length (by rw [arrD_len]; omega) k hk
set_option maxHeartbeats 4000000 in
theorem implStraight_rc (m : Mem) (v : Value) (L : List Pc) (h : PcsA m v L) : RC Try.prog 39 [v] m (AnsO m (PcsO 66 (strA L)) fun v => .tuple #[v, .bool (strOk L)]) := by
  refine rc_of_run mixed ok_impl_StraightLeads (by simp) (go_start _ _ _ ?_)
  have hl := h.len
  obtain ⟨gid, gfl, hv⟩ : ∃ gid gfl, v = .slice (some ⟨gid, 0, none⟩) L.length gfl := by obtain ⟨_, gid, gfl, e, _⟩ := h; exact ⟨_, _, e⟩
  subst hv
  simp (config := {implicitDefEqProofs := false, maxDischargeDepth := 20}) (disch := first | omega | (simp only [lenE]; done) | (simp only [lenE]; omega) | rfl | (simp only [lenE, markR_len]; done) | (simp only [lenE, markR_len]; omega)) only [runE, mapE, listE, initT_5, initT_6, initT_7, initT_8, resV, oneV, binA, unA, reduceCtorEq, Nat.reduceEqDiff, Nat.reduceAdd, Nat.reduceLT, Nat.reduceLeDiff, Nat.reduceMul, Nat.reduceSub, ↓reduceIte, decide_true, decide_false, Bool.true_eq_false, Bool.false_eq_true, Bool.not_true, Bool.not_false, if_true, if_false, and_true, true_and, memE, celE, w64, Nat.zero_add, Nat.add_zero, Nat.mul_one, putL, and_self, ldn, c_impl_StraightLeads, r_impl_StraightLeads]
  obtain ⟨E, hE⟩ : ∃ E, E = roM m ++ [⟨.own, 58, [.slice (some ⟨gid, 0, none⟩) L.length gfl]⟩] := ⟨_, rfl⟩
  have hX : Ext m E := by rw [hE]; exact (Ext.refl m).one _ _
  have b1 : OwnB E m.length 58 [.slice (some ⟨gid, 0, none⟩) L.length gfl] := by rw [hE]; exact OwnB.here (roM_len m).symm
  try rw [← hE]
  clear hE
  have no : ∀ M, Ext m M → strOk L = false → newQ m (AnsO m (PcsO 66 (strA L)) fun v => .tuple #[v, .bool (strOk L)]) (.tuple #[.slice (some ⟨M.length, 0, none⟩) 0 3, .bool false]) (M ++ [⟨.own, 66, []⟩]) := fun M hM hno => by
    have e : strA L = [] := by unfold strA; rw [hno]; rfl
    rw [e, hno]
    exact ext_pcs (f := fun v => .tuple #[v, .bool false]) (hM.one _ _) (OwnB.here rfl) hM.len rfl (by simp)
  try simp (config := {implicitDefEqProofs := false, maxDischargeDepth := 20}) (disch := first | omega | (simp only [lenE]; done) | (simp only [lenE]; omega) | rfl | (simp only [lenE, markR_len]; done) | (simp only [lenE, markR_len]; omega)) only [runE, mapE, listE, initT_5, initT_6, initT_7, initT_8, resV, oneV, binA, unA, reduceCtorEq, Nat.reduceEqDiff, Nat.reduceAdd, Nat.reduceLT, Nat.reduceLeDiff, Nat.reduceMul, Nat.reduceSub, ↓reduceIte, decide_true, decide_false, Bool.true_eq_false, Bool.false_eq_true, Bool.not_true, Bool.not_false, if_true, if_false, and_true, true_and, memE, celE, w64, Nat.zero_add, Nat.add_zero, Nat.mul_one, putL, and_self, ldn, b1.mk1']
  refine callH_rc (areParcels_rc _ _ L (hX.keeps.pcs h)) ?_
  rintro r n1 ⟨rfl, hn1⟩
  obtain ⟨E1, hE1⟩ : ∃ E1, E1 = E ++ n1 := ⟨_, rfl⟩
  have hX1 : Ext m E1 := by rw [hE1]; exact hX.app hn1
  have b2 : OwnB E1 m.length 58 [.slice (some ⟨gid, 0, none⟩) L.length gfl] := by rw [hE1]; exact b1.ext _
  rw [← hE1]
  clear hE1 b1 hX
  cases h1 : parB L with
  | false =>
    simp (config := {implicitDefEqProofs := false, maxDischargeDepth := 20}) (disch := first | omega | (simp only [lenE]; done) | (simp only [lenE]; omega) | rfl | (simp only [lenE, markR_len]; done) | (simp only [lenE, markR_len]; omega)) only [runE, mapE, listE, initT_5, initT_6, initT_7, initT_8, resV, oneV, binA, unA, reduceCtorEq, Nat.reduceEqDiff, Nat.reduceAdd, Nat.reduceLT, Nat.reduceLeDiff, Nat.reduceMul, Nat.reduceSub, ↓reduceIte, decide_true, decide_false, Bool.true_eq_false, Bool.false_eq_true, Bool.not_true, Bool.not_false, if_true, if_false, and_true, true_and, memE, celE, w64, Nat.zero_add, Nat.add_zero, Nat.mul_one, putL, and_self, ldn, bsl_no]
    exact no _ hX1 (by simp [strOk, h1])
  | true =>
  have hG := parB_iff.1 h1
  have hlen := hG.len
  simp (config := {implicitDefEqProofs := false, maxDischargeDepth := 20}) (disch := first | omega | (simp only [lenE]; done) | (simp only [lenE]; omega) | rfl | (simp only [lenE, markR_len]; done) | (simp only [lenE, markR_len]; omega)) only [runE, mapE, listE, initT_5, initT_6, initT_7, initT_8, resV, oneV, binA, unA, reduceCtorEq, Nat.reduceEqDiff, Nat.reduceAdd, Nat.reduceLT, Nat.reduceLeDiff, Nat.reduceMul, Nat.reduceSub, ↓reduceIte, decide_true, decide_false, Bool.true_eq_false, Bool.false_eq_true, Bool.not_true, Bool.not_false, if_true, if_false, and_true, true_and, memE, celE, w64, Nat.zero_add, Nat.add_zero, Nat.mul_one, putL, and_self, ldn, b2.mk1']
  refine callH_rc (containsP_rc _ _ _ _ _ (hX1.keeps.pcs h).el (funOther _ _ _ L b2.mk1' (hX1.keeps.pcs h))) ?_
  rintro r n2 ⟨rfl, hn2⟩
  rw [any_other]
  obtain ⟨E2, hE2⟩ : ∃ E2, E2 = E1 ++ n2 := ⟨_, rfl⟩
  have hX2 : Ext m E2 := by rw [hE2]; exact hX1.app hn2
  have b3 : OwnB E2 m.length 58 [.slice (some ⟨gid, 0, none⟩) L.length gfl] := by rw [hE2]; exact b2.ext _
  rw [← hE2]
  clear hE2 b2 hX1
  cases h2 : sameB L with
  | false =>
    simp (config := {implicitDefEqProofs := false, maxDischargeDepth := 20}) (disch := first | omega | (simp only [lenE]; done) | (simp only [lenE]; omega) | rfl | (simp only [lenE, markR_len]; done) | (simp only [lenE, markR_len]; omega)) only [runE, mapE, listE, initT_5, initT_6, initT_7, initT_8, resV, oneV, binA, unA, reduceCtorEq, Nat.reduceEqDiff, Nat.reduceAdd, Nat.reduceLT, Nat.reduceLeDiff, Nat.reduceMul, Nat.reduceSub, ↓reduceIte, decide_true, decide_false, Bool.true_eq_false, Bool.false_eq_true, Bool.not_true, Bool.not_false, if_true, if_false, and_true, true_and, memE, celE, w64, Nat.zero_add, Nat.add_zero, Nat.mul_one, putL, and_self, ldn, bsl_no, Bool.not_false]
    exact no _ hX2 (by simp [strOk, h2])
  | true =>
  have hok : strOk L = true := by simp [strOk, h1, h2]
  have eS : strA L = strTo L L.length := by unfold strA; rw [hok]; rfl
  rw [eS, hok]
  simp (config := {implicitDefEqProofs := false, maxDischargeDepth := 20}) (disch := first | omega | (simp only [lenE]; done) | (simp only [lenE]; omega) | rfl | (simp only [lenE, markR_len]; done) | (simp only [lenE, markR_len]; omega)) only [runE, mapE, listE, initT_5, initT_6, initT_7, initT_8, resV, oneV, binA, unA, reduceCtorEq, Nat.reduceEqDiff, Nat.reduceAdd, Nat.reduceLT, Nat.reduceLeDiff, Nat.reduceMul, Nat.reduceSub, ↓reduceIte, decide_true, decide_false, Bool.true_eq_false, Bool.false_eq_true, Bool.not_true, Bool.not_false, if_true, if_false, and_true, true_and, memE, celE, w64, Nat.zero_add, Nat.add_zero, Nat.mul_one, putL, and_self, ldn, Bool.not_true, b3.mk1']
  refine callH_rc (eachP_rc _ _ _ _ (fun x => (pcOf x).day + (pcOf x).lead) (ones_pc L) (hX2.keeps.pcs h).el (funArr hG) (by rw [List.length_map]; omega)) ?_
  rintro r n3 hA
  obtain ⟨aid, afl, rfl, haid, hao, hal, hn3⟩ := hA.row
  rw [map_arr] at hao hal
  rw [map_arr]
  obtain ⟨E3, hE3⟩ : ∃ E3, E3 = E2 ++ n3 := ⟨_, rfl⟩
  have hX3 : Ext m E3 := by rw [hE3]; exact hX2.app hn3
  have b4 : OwnB E3 m.length 58 [.slice (some ⟨gid, 0, none⟩) L.length gfl] := by rw [hE3]; exact b3.ext _
  have hL2 := hX2.len
  rw [← hE3] at hao ⊢
  clear hE3 b3 hX2
  have hDl := arrD_len L
  simp (config := {implicitDefEqProofs := false, maxDischargeDepth := 20}) (disch := first | omega | (simp only [lenE]; done) | (simp only [lenE]; omega) | rfl | (simp only [lenE, markR_len]; done) | (simp only [lenE, markR_len]; omega)) only [runE, mapE, listE, initT_5, initT_6, initT_7, initT_8, resV, oneV, binA, unA, reduceCtorEq, Nat.reduceEqDiff, Nat.reduceAdd, Nat.reduceLT, Nat.reduceLeDiff, Nat.reduceMul, Nat.reduceSub, ↓reduceIte, decide_true, decide_false, Bool.true_eq_false, Bool.false_eq_true, Bool.not_true, Bool.not_false, if_true, if_false, and_true, true_and, memE, celE, w64, Nat.zero_add, Nat.add_zero, Nat.mul_one, putL, and_self, ldn]
  refine callH_ac (sort_ac E3 aid afl (arrD L) hao (by omega)) ?_
  rintro r E4 rfl
  have hne : aid ≠ m.length := fun e => by
    subst e
    have h5 : E3[m.length]? = some (rowB (arrD L)) := hao
    have h6 : E3[m.length]? = some ⟨.own, 58, [.slice (some ⟨gid, 0, none⟩) L.length gfl]⟩ := b4
    rw [h5] at h6
    simp [rowB] at h6
  have b5 := b4.set_ne hne (rowB (insA (arrD L) (arrD L).length))
  have hao5 : OwnR (E3.set aid (rowB (insA (arrD L) (arrD L).length))) aid (insA (arrD L) (arrD L).length) := hao.set_self
  have hX5 : Ext m (E3.set aid (rowB (insA (arrD L) (arrD L).length))) := hX3.put (by omega) _ _
  obtain ⟨E5, hE5⟩ : ∃ E5, E5 = E3.set aid (rowB (insA (arrD L) (arrD L).length)) := ⟨_, rfl⟩
  rw [← hE5] at b5 hao5 hX5 ⊢
  clear hE5 b4 hao hX3
  rw [hDl] at hao5 ⊢
  have hSl := insA_len (arrD L) L.length
  simp (config := {implicitDefEqProofs := false, maxDischargeDepth := 20}) (disch := first | omega | (simp only [lenE]; done) | (simp only [lenE]; omega) | rfl | (simp only [lenE, markR_len]; done) | (simp only [lenE, markR_len]; omega)) only [runE, mapE, listE, initT_5, initT_6, initT_7, initT_8, resV, oneV, binA, unA, reduceCtorEq, Nat.reduceEqDiff, Nat.reduceAdd, Nat.reduceLT, Nat.reduceLeDiff, Nat.reduceMul, Nat.reduceSub, ↓reduceIte, decide_true, decide_false, Bool.true_eq_false, Bool.false_eq_true, Bool.not_true, Bool.not_false, if_true, if_false, and_true, true_and, memE, celE, w64, Nat.zero_add, Nat.add_zero, Nat.mul_one, putL, and_self, ldn, bsl_no, b5.mk1', hl]
  try simp (config := {implicitDefEqProofs := false, maxDischargeDepth := 20}) (disch := first | omega | (simp only [lenE]; done) | (simp only [lenE]; omega) | rfl | (simp only [lenE, markR_len]; done) | (simp only [lenE, markR_len]; omega)) only [runE, mapE, listE, initT_5, initT_6, initT_7, initT_8, resV, oneV, binA, unA, reduceCtorEq, Nat.reduceEqDiff, Nat.reduceAdd, Nat.reduceLT, Nat.reduceLeDiff, Nat.reduceMul, Nat.reduceSub, ↓reduceIte, decide_true, decide_false, Bool.true_eq_false, Bool.false_eq_true, Bool.not_true, Bool.not_false, if_true, if_false, and_true, true_and, memE, celE, w64, Nat.zero_add, Nat.add_zero, Nat.mul_one, putL, and_self, ldn, (b5.ext _).mk1', hl]
  refine loop_inv mixed (fun s => ∃ (k : Nat) (M : Mem) (id : Nat), k ≤ L.length ∧ s.m = M ∧ Ext m M ∧ m.length ≤ id ∧ OwnB M id 66 (pcsC (strTo L k)) ∧ OwnR M aid (insA (arrD L) L.length) ∧ s.t 5 = .slice (some ⟨aid, 0, none⟩) L.length afl ∧ s.t 6 = .slice (some ⟨id, 0, none⟩) k 3 ∧ s.t 24 = .slice (some ⟨gid, 0, none⟩) L.length gfl ∧ s.t 25 = .int .i64 L.length ∧ s.t 26 = .int .i64 k) (fun s => L.length - (intOf (s.t 26)).toNat)
    ⟨0, _, _, by omega, rfl, hX5.one _ _, hX5.len, OwnB.here rfl, hao5.ext _, rfl, rfl, rfl, rfl, rfl⟩ ?_
  rintro s ⟨k, M, id, hk, tm, hx, hid, ho, ha, t5, t6, t24, t25, t26⟩
  by_cases hlt : k < L.length
  · have hlt' : (k : Int) < L.length := by omega
    have hM := hx.keeps.pcs h
    obtain ⟨p, hpp⟩ : ∃ p, p = L.getD k Pc0 := ⟨_, rfl⟩
    have hgp : GoodP11 p := hpp ▸ hG.all k hlt
    have gd := hgp.day
    have i1 := hM.at_ hlt
    have i2 := hM.ld hlt
    rw [← hpp] at i2
    have q1 := iad0 (id := aid) (n := L.length) (fl := afl) (z := (k : Int)) rfl hlt
    have q2 := (ha.ext [⟨.own, 66, [.int .i64 p.day, .int .i64 p.amount, .int .i64 p.lead]⟩]).rd' (i := k) (by omega)
    have bd := strBd hG hlt
    have hC : strC L k = ⟨p.day, p.amount, (insA (arrD L) L.length).getD k 0 - p.day⟩ := by rw [hpp]; rfl
    have hTl := strTo_len L k
    generalize (insA (arrD L) L.length).getD k 0 = y at *
    have st2 : stA (M ++ [⟨.own, 66, [.int .i64 p.day, .int .i64 p.amount, .int .i64 p.lead]⟩]) M.length 2 [.int .i64 (y - p.day)] = some (M ++ [⟨.own, 66, [.int .i64 p.day, .int .i64 p.amount, .int .i64 (y - p.day)]⟩]) := by
      rw [(OwnB.here rfl).st (by simp) rfl]; simp [putL]
    have happ := app_back (M := M ++ [⟨.own, 66, [.int .i64 p.day, .int .i64 p.amount, .int .i64 (y - p.day)]⟩]) (id2 := M.length + 1) (e := 66) (sz := 3) (byt := 24) (n := k) (ys := [.int .i64 p.day, .int .i64 p.amount, .int .i64 (y - p.day)]) (ho.ext _) (by simp) (by rw [pcsC_len, hTl]) rfl rfl (by omega) (by omega)
    simp (config := {implicitDefEqProofs := false, maxDischargeDepth := 20}) (disch := first | omega | (simp only [lenE]; done) | (simp only [lenE]; omega) | rfl | (simp only [lenE, markR_len]; done) | (simp only [lenE, markR_len]; omega)) only [runE, mapE, listE, initT_5, initT_6, initT_7, initT_8, resV, oneV, binA, unA, reduceCtorEq, Nat.reduceEqDiff, Nat.reduceAdd, Nat.reduceLT, Nat.reduceLeDiff, Nat.reduceMul, Nat.reduceSub, ↓reduceIte, decide_true, decide_false, Bool.true_eq_false, Bool.false_eq_true, Bool.not_true, Bool.not_false, if_true, if_false, and_true, true_and, memE, celE, w64, Nat.zero_add, Nat.add_zero, Nat.mul_one, putL, and_self, ldn, tm, t5, t6, t24, t25, t26, hlt', i1, i2, pcV, stP_agg3p, q1, q2, st2, bsl_pc, happ]
    have hll := hx.len
    refine ⟨⟨k + 1, _, M.length + 1 + 1, by omega, rfl, (((hx.one _ _).dead hid).one _ _).one _ _, by omega, ?_, ?_, rfl, by simp⟩, ?_⟩
    · rw [strTo_s, pcsC_sS, hC]
      exact OwnB.here (by simp)
    · have hne2 : id ≠ aid := fun e => by
        subst e
        have h5 : M[id]? = some (rowB (insA (arrD L) L.length)) := ha
        have h6 : M[id]? = some ⟨.own, 66, pcsC (strTo L k)⟩ := ho
        rw [h5] at h6
        simp [rowB] at h6
      exact (((ha.ext _).set_ne hne2).ext _).ext _
    · simp [intOf]; omega
  · have hlt' : ¬ ((k : Int) < L.length) := by omega
    obtain rfl : k = L.length := by omega
    simp (config := {implicitDefEqProofs := false, maxDischargeDepth := 20}) (disch := first | omega | (simp only [lenE]; done) | (simp only [lenE]; omega) | rfl | (simp only [lenE, markR_len]; done) | (simp only [lenE, markR_len]; omega)) only [runE, mapE, listE, initT_5, initT_6, initT_7, initT_8, resV, oneV, binA, unA, reduceCtorEq, Nat.reduceEqDiff, Nat.reduceAdd, Nat.reduceLT, Nat.reduceLeDiff, Nat.reduceMul, Nat.reduceSub, ↓reduceIte, decide_true, decide_false, Bool.true_eq_false, Bool.false_eq_true, Bool.not_true, Bool.not_false, if_true, if_false, and_true, true_and, memE, celE, w64, Nat.zero_add, Nat.add_zero, Nat.mul_one, putL, and_self, ldn, tm, t5, t6, t24, t25, t26, hlt']
    exact ext_pcs (f := fun v => .tuple #[v, .bool true]) hx ho hid (by rw [strTo_len]) (by rw [strTo_len]; omega)
end Go.Proofs.Ytjdallbnbjnghaa.Ab
end
section
namespace Go.Proofs.Ytjdallbnbjnghaa.Ab
open Go Go.RowKit
set_option linter.unusedVariables false
set_option linter.unusedSimpArgs false
theorem app_all {M : Mem} {l0 l : List Int} {id : Nat} {v : Value} (h : OwnR M id l0) (hi : IntsA M v l) (hb : l0.length + l.length ≤ 1048576) :
    appP M 3 1 8 (.slice (some ⟨id, 0, none⟩) l0.length 1) v = some (.slice (some ⟨M.length, 0, none⟩) (l0.length + l.length) 1, M.set id deadB ++ [⟨.own, 3, (l0 ++ l).map (Value.int .i64)⟩]) := by
  unfold appP
  rw [hi.src]
  simp only [onesB_ints, if_true, appA, hi.lenOf]
  rw [show M[id]? = some (rowB l0) from h]
  simp only [List.length_map, Nat.mul_one, true_and]
  rw [if_pos (by omega)]
  simp
end Go.Proofs.Ytjdallbnbjnghaa.Ab
end
section
namespace Go.Proofs.Ytjdallbnbjnghaa.Ab
open Go Go.RowKit
set_option linter.unusedVariables false
set_option linter.unusedSimpArgs false
theorem OwnR.pre {M : Mem} {id : Nat} {a b : List Int} (h : OwnR M id (a ++ b)) (hb : a.length ≤ 9223372036854775807) (fl : Nat) : IntsA M (.slice (some ⟨id, 0, none⟩) a.length fl) a := by
  refine IntsA.of_block hb (fun k hk => ?_) ?_
  · rw [Nat.zero_add, h.rd' (by rw [List.length_append]; omega), List.getD_eq_getElem?_getD, List.getElem?_append_left hk, ← List.getD_eq_getElem?_getD]
  · unfold rdl
    rw [show M[id]? = some (rowB (a ++ b)) from h]
    simp [rowB, List.map_append]
theorem slcTo {id n k fl : Nat} (h : k ≤ n) : slcA 1 (.slice (some ⟨id, 0, none⟩) n fl) none (some (.int .i64 (k : Int))) = some (.slice (some ⟨id, 0, none⟩) k fl) := by
  simp [slcA, boundA, h]
theorem slcFrom {id n k fl : Nat} (h : k ≤ n) : slcA 1 (.slice (some ⟨id, 0, none⟩) n fl) (some (.int .i64 (k : Int))) none = some (.slice (some ⟨id, k, none⟩) (n - k) 0) := by
  simp [slcA, boundA, h]
theorem bld_pc (a b c : Int) : bldA [.int .i64 0, .int .i64 0, .int .i64 0] [(0, 1, .int .i64 a), (1, 1, .int .i64 b), (2, 1, .int .i64 c)] = some (.agg #[.int .i64 a, .int .i64 b, .int .i64 c]) := rfl
theorem insM {m Y : Mem} {a c d k i y : Nat} {A B : List Int} {x : Int} (hx : Ext m Y) (ha : m.length < a) (oa : OwnR Y a A) (oc : OwnR Y c [x]) (od : OwnR Y d (A ++ B)) (hne : a ≠ d) (hAl : A.length = k) (hBl : B.length = i - k) (hi : i ≤ 100) (hk : k ≤ i) (hy : y = Y.length) (hb : OwnB Y m.length 66 (pcsC [])) :
    ∃ Y2 Y3, appP Y 3 1 8 (.slice (some ⟨a, 0, none⟩) k 1) (.slice (some ⟨c, 0, none⟩) 1 1) = some (.slice (some ⟨y, 0, none⟩) (k + 1) 1, Y2) ∧ appP Y2 3 1 8 (.slice (some ⟨y, 0, none⟩) (k + 1) 1) (.slice (some ⟨d, k, none⟩) (i - k) 0) = some (.slice (some ⟨y + 1, 0, none⟩) (k + 1 + (i - k)) 1, Y3) ∧
      Ext m Y3 ∧ OwnR Y3 (y + 1) (A ++ [x] ++ B) ∧ OwnB Y3 m.length 66 (pcsC []) ∧ m.length < y + 1 := by
  subst hAl hy
  have ic : IntsA Y (.slice (some ⟨c, 0, none⟩) 1 1) [x] := oc.pre (b := []) (a := [x]) (by simp) 1
  have e65 := app_all oa ic (by simp; omega)
  have o2 : OwnR (Y.set a deadB ++ [⟨.own, 3, (A ++ [x]).map (Value.int .i64)⟩]) Y.length (A ++ [x]) := by
    have := OwnR.at_end (Y.set a deadB) (A ++ [x])
    rwa [List.length_set] at this
  have od2 : OwnR (Y.set a deadB ++ [⟨.own, 3, (A ++ [x]).map (Value.int .i64)⟩]) d (A ++ B) := (od.set_ne hne).ext _
  have hb2 : OwnB (Y.set a deadB ++ [⟨.own, 3, (A ++ [x]).map (Value.int .i64)⟩]) m.length 66 (pcsC []) := (hb.deadP (by omega)).ext _
  have hx2 : Ext m (Y.set a deadB ++ [⟨.own, 3, (A ++ [x]).map (Value.int .i64)⟩]) := (hx.dead (by omega)).one _ _
  have hl := hx.len
  have hd := od.lt
  have L2 : (Y.set a deadB ++ [(⟨.own, 3, (A ++ [x]).map (Value.int .i64)⟩ : Blk)]).length = Y.length + 1 := by simp
  generalize Y.set a deadB ++ [(⟨.own, 3, (A ++ [x]).map (Value.int .i64)⟩ : Blk)] = Y2 at *
  have iB : IntsA Y2 (.slice (some ⟨d, A.length, none⟩) B.length 0) B := od2.intsP (by omega) 0
  have e69 := app_all o2 iB (by simp; omega)
  have el : (A ++ [x]).length = A.length + 1 := by simp
  rw [el] at e69
  have hlt := hb.lt
  refine ⟨Y2, _, e65, by rw [← hBl, ← L2]; exact e69, (hx2.dead (by omega)).one _ _, ?_, (hb2.deadP (by omega)).ext _, by omega⟩
  have := OwnR.at_end (Y2.set Y.length deadB) (A ++ [x] ++ B)
  rwa [List.length_set, L2] at this
set_option maxHeartbeats 4000000 in
theorem specStraight_rc (m : Mem) (v : Value) (L : List Pc) (h : PcsA m v L) : RC Try.prog 40 [v] m (AnsO m (PcsO 66 (strA L)) fun v => .tuple #[v, .bool (strOk L)]) := by
  refine rc_of_run mixed ok_spec_StraightLeads (by simp) (go_start _ _ _ ?_)
  have hl := h.len
  simp (config := {implicitDefEqProofs := false, maxDischargeDepth := 20}) (disch := first | omega | (simp only [lenE]; done) | (simp only [lenE]; omega) | rfl | (simp only [lenE, markR_len]; done) | (simp only [lenE, markR_len]; omega)) only [runE, mapE, listE, initT_5, initT_6, initT_7, initT_8, resV, oneV, binA, unA, reduceCtorEq, Nat.reduceEqDiff, Nat.reduceAdd, Nat.reduceLT, Nat.reduceLeDiff, Nat.reduceMul, Nat.reduceSub, ↓reduceIte, decide_true, decide_false, Bool.true_eq_false, Bool.false_eq_true, Bool.not_true, Bool.not_false, if_true, if_false, and_true, true_and, memE, celE, w64, Nat.zero_add, Nat.add_zero, Nat.mul_one, putL, and_self, ldn, c_spec_StraightLeads, r_spec_StraightLeads, bsl_no]
  obtain ⟨E, hE⟩ : ∃ E, E = roM m ++ [⟨.own, 66, []⟩] ++ [⟨.own, 3, []⟩] := ⟨_, rfl⟩
  have hX : Ext m E := by rw [hE]; exact ((Ext.refl m).one _ _).one _ _
  have b1 : OwnB E m.length 66 (pcsC []) := by rw [hE]; exact (OwnB.here (roM_len m).symm).ext _
  have o1 : OwnR E (m.length + 1) [] := by rw [hE]; exact OwnB.here (by simp [roM_len])
  try rw [← hE]
  clear hE
  have no : ∀ M id, Ext m M → OwnB M id 66 (pcsC []) → m.length ≤ id → strOk L = false → newQ m (AnsO m (PcsO 66 (strA L)) fun v => .tuple #[v, .bool (strOk L)]) (.tuple #[.slice (some ⟨id, 0, none⟩) 0 3, .bool false]) M := fun M id hM hb hid hno => by
    have e : strA L = [] := by unfold strA; rw [hno]; rfl
    rw [e, hno]
    exact ext_pcs (f := fun v => .tuple #[v, .bool false]) hM hb hid rfl (by simp)
  refine callH_rc (l11Parcels_rc _ _ L (hX.keeps.pcs h)) ?_
  rintro r n1 ⟨rfl, hn1⟩
  obtain ⟨E1, hE1⟩ : ∃ E1, E1 = E ++ n1 := ⟨_, rfl⟩
  have hX1 : Ext m E1 := by rw [hE1]; exact hX.app hn1
  have b2 : OwnB E1 m.length 66 (pcsC []) := by rw [hE1]; exact b1.ext _
  have o2 : OwnR E1 (m.length + 1) [] := by rw [hE1]; exact o1.ext _
  rw [← hE1]
  clear hE1 b1 o1 hX
  cases h1 : parB L with
  | false =>
    simp (config := {implicitDefEqProofs := false, maxDischargeDepth := 20}) (disch := first | omega | (simp only [lenE]; done) | (simp only [lenE]; omega) | rfl | (simp only [lenE, markR_len]; done) | (simp only [lenE, markR_len]; omega)) only [runE, mapE, listE, initT_5, initT_6, initT_7, initT_8, resV, oneV, binA, unA, reduceCtorEq, Nat.reduceEqDiff, Nat.reduceAdd, Nat.reduceLT, Nat.reduceLeDiff, Nat.reduceMul, Nat.reduceSub, ↓reduceIte, decide_true, decide_false, Bool.true_eq_false, Bool.false_eq_true, Bool.not_true, Bool.not_false, if_true, if_false, and_true, true_and, memE, celE, w64, Nat.zero_add, Nat.add_zero, Nat.mul_one, putL, and_self, ldn]
    exact no _ _ hX1 b2 (Nat.le_refl _) (by simp [strOk, h1])
  | true =>
  have hG := parB_iff.1 h1
  have hlen := hG.len
  have hDl := arrD_len L
  simp (config := {implicitDefEqProofs := false, maxDischargeDepth := 20}) (disch := first | omega | (simp only [lenE]; done) | (simp only [lenE]; omega) | rfl | (simp only [lenE, markR_len]; done) | (simp only [lenE, markR_len]; omega)) only [runE, mapE, listE, initT_5, initT_6, initT_7, initT_8, resV, oneV, binA, unA, reduceCtorEq, Nat.reduceEqDiff, Nat.reduceAdd, Nat.reduceLT, Nat.reduceLeDiff, Nat.reduceMul, Nat.reduceSub, ↓reduceIte, decide_true, decide_false, Bool.true_eq_false, Bool.false_eq_true, Bool.not_true, Bool.not_false, if_true, if_false, and_true, true_and, memE, celE, w64, Nat.zero_add, Nat.add_zero, Nat.mul_one, putL, and_self, ldn]
  refine loop_inv mixed (fun s => ∃ (i : Nat) (M : Mem) (d : Nat), i ≤ L.length ∧ s.m = M ∧ Ext m M ∧ m.length < d ∧ OwnB M m.length 66 (pcsC []) ∧ OwnR M d (insA (arrD L) i) ∧ s.t 0 = v ∧ s.t 4 = .slice (some ⟨m.length, 0, none⟩) 0 3 ∧ s.t 5 = .slice (some ⟨d, 0, none⟩) i 1 ∧ s.t 6 = .int .i64 i ∧ (∀ j, j < i → (L.getD j Pc0).amount = (L.getD 0 Pc0).amount)) (fun s => L.length - (intOf (s.t 6)).toNat)
    ⟨0, _, m.length + 1, by omega, rfl, hX1, by omega, b2, o2, rfl, rfl, rfl, rfl, fun j hj => absurd hj (by omega)⟩ ?_
  clear b2 o2 hX1
  rintro s ⟨i, M, d, hi, tm, hx, hd, hb, ho, t0, t4, t5, t6, hsame⟩
  by_cases hlt : i < L.length
  · have hlt' : (i : Int) < L.length := by omega
    have hM := hx.keeps.pcs h
    obtain ⟨p, hpp⟩ : ∃ p, p = L.getD i Pc0 := ⟨_, rfl⟩
    have hgp : GoodP11 p := hpp ▸ hG.all i hlt
    have gd := hgp.day
    have gl := hgp.lead
    have i1 := hM.at_ hlt
    have j1 : iadA 3 v (.int .i64 0) = some (pPc v 0) := hM.at_ (k := 0) (by omega)
    obtain ⟨q0, f0, g0⟩ := hM.fld hlt 0 (by decide)
    obtain ⟨q1, f1, g1⟩ := hM.fld hlt 1 (by decide)
    obtain ⟨q2, f2, g2⟩ := hM.fld hlt 2 (by decide)
    obtain ⟨q3, f3, g3⟩ := hM.fld (k := 0) (by omega) 1 (by decide)
    rw [← hpp] at g0 g1 g2
    replace g0 : ldA M none q0 = some (.int .i64 p.day) := g0
    replace g1 : ldA M none q1 = some (.int .i64 p.amount) := g1
    replace g2 : ldA M none q2 = some (.int .i64 p.lead) := g2
    replace g3 : ldA M none q3 = some (.int .i64 (L.getD 0 Pc0).amount) := g3
    obtain ⟨y, hy⟩ : ∃ y, y = (L.getD 0 Pc0).amount := ⟨_, rfl⟩
    rw [← hy] at g3 hsame
    by_cases hpy : p.amount = y
    · have hbn : (p.amount != y) = false := by rw [hpy]; exact bne_self_eq_false _
      obtain ⟨l, hll⟩ : ∃ l, l = insA (arrD L) i := ⟨_, rfl⟩
      have hln : l.length = i := by rw [hll]; exact insA_len _ i
      rw [← hll] at ho
      simp (config := {implicitDefEqProofs := false, maxDischargeDepth := 20}) (disch := first | omega | (simp only [lenE]; done) | (simp only [lenE]; omega) | rfl | (simp only [lenE, markR_len]; done) | (simp only [lenE, markR_len]; omega)) only [runE, mapE, listE, initT_5, initT_6, initT_7, initT_8, resV, oneV, binA, unA, reduceCtorEq, Nat.reduceEqDiff, Nat.reduceAdd, Nat.reduceLT, Nat.reduceLeDiff, Nat.reduceMul, Nat.reduceSub, ↓reduceIte, decide_true, decide_false, Bool.true_eq_false, Bool.false_eq_true, Bool.not_true, Bool.not_false, if_true, if_false, and_true, true_and, memE, celE, w64, Nat.zero_add, Nat.add_zero, Nat.mul_one, putL, and_self, ldn, tm, t0, t4, t5, t6, hl, hlt', i1, j1, f0, f1, f2, f3, g0, g1, g2, g3, hbn]
      refine loop_inv mixed (fun s => ∃ k : Nat, k ≤ i ∧ (∀ a, a < k → l.getD a 0 ≤ p.day + p.lead) ∧ s.m = M ∧ s.t 0 = v ∧ s.t 4 = .slice (some ⟨m.length, 0, none⟩) 0 3 ∧ s.t 5 = .slice (some ⟨d, 0, none⟩) i 1 ∧ s.t 6 = .int .i64 i ∧ s.t 7 = .int .i64 (p.day + p.lead) ∧ s.t 8 = .int .i64 k) (fun s => i - (intOf (s.t 8)).toNat)
        ⟨0, by omega, fun a ha => absurd ha (by omega), by simp only [put_t, put_t', put_m, putT_t, putT_t', putT_m, init_t, init_m, initT_0, initT_1, initT_2, initT_3, initT_4, initT_5, initT_6, initT_7, initT_8, Nat.reduceEqDiff, ↓reduceIte, tm], by simp only [put_t, put_t', put_m, putT_t, putT_t', putT_m, init_t, init_m, initT_0, initT_1, initT_2, initT_3, initT_4, initT_5, initT_6, initT_7, initT_8, Nat.reduceEqDiff, ↓reduceIte, t0], by simp only [put_t, put_t', put_m, putT_t, putT_t', putT_m, init_t, init_m, initT_0, initT_1, initT_2, initT_3, initT_4, initT_5, initT_6, initT_7, initT_8, Nat.reduceEqDiff, ↓reduceIte, t4], by simp only [put_t, put_t', put_m, putT_t, putT_t', putT_m, init_t, init_m, initT_0, initT_1, initT_2, initT_3, initT_4, initT_5, initT_6, initT_7, initT_8, Nat.reduceEqDiff, ↓reduceIte, t5], by simp only [put_t, put_t', put_m, putT_t, putT_t', putT_m, init_t, init_m, initT_0, initT_1, initT_2, initT_3, initT_4, initT_5, initT_6, initT_7, initT_8, Nat.reduceEqDiff, ↓reduceIte, t6], by simp only [put_t, put_t', put_m, putT_t, putT_t', putT_m, init_t, init_m, initT_0, initT_1, initT_2, initT_3, initT_4, initT_5, initT_6, initT_7, initT_8, Nat.reduceEqDiff, ↓reduceIte], by simp only [put_t, put_t', put_m, putT_t, putT_t', putT_m, init_t, init_m, initT_0, initT_1, initT_2, initT_3, initT_4, initT_5, initT_6, initT_7, initT_8, Nat.reduceEqDiff, ↓reduceIte]; simp⟩ ?_
      clear tm t0 t4 t5 t6
      rintro s ⟨k, hk, hle, tm, t0, t4, t5, t6, t7, t8⟩
      obtain ⟨x, hx7⟩ : ∃ x, x = p.day + p.lead := ⟨_, rfl⟩
      rw [← hx7] at t7 hle
      by_cases hgo : k < i ∧ l.getD k 0 ≤ x
      · have hki : (k : Int) < i := by omega
        have r1 := iad0 (id := d) (n := i) (fl := 1) (z := (k : Int)) rfl hgo.1
        have r2 := ho.rd' (i := k) (by omega)
        simp (config := {implicitDefEqProofs := false, maxDischargeDepth := 20}) (disch := first | omega | (simp only [lenE]; done) | (simp only [lenE]; omega) | rfl | (simp only [lenE, markR_len]; done) | (simp only [lenE, markR_len]; omega)) only [runE, mapE, listE, initT_5, initT_6, initT_7, initT_8, resV, oneV, binA, unA, reduceCtorEq, Nat.reduceEqDiff, Nat.reduceAdd, Nat.reduceLT, Nat.reduceLeDiff, Nat.reduceMul, Nat.reduceSub, ↓reduceIte, decide_true, decide_false, Bool.true_eq_false, Bool.false_eq_true, Bool.not_true, Bool.not_false, if_true, if_false, and_true, true_and, memE, celE, w64, Nat.zero_add, Nat.add_zero, Nat.mul_one, putL, and_self, ldn, tm, t0, t4, t5, t6, t7, t8, hki, r1, r2, hgo.2]
        refine ⟨⟨k + 1, by omega, fun a ha => ?_, by rw [hx7], by simp⟩, ?_⟩
        · rw [← hx7]
          by_cases e : a = k
          · subst e; exact hgo.2
          · exact hle a (by omega)
        · simp [intOf]; omega
      · have hkp : k = posP l x := posP_uniq (by omega) hle fun hk2 => by
          have : ¬ (l.getD k 0 ≤ x) := fun h => hgo ⟨by omega, h⟩
          omega
        have hS : insA (arrD L) (i + 1) = l.take k ++ [x] ++ l.drop k := by
          have e : insA (arrD L) (i + 1) = insP l ((arrD L).getD i 0) := by rw [hll]; rfl
          rw [e, arrD_at hlt, ← hpp, ← hx7]
          unfold insP
          rw [← hkp]; simp
        obtain ⟨A, hA⟩ : ∃ A, A = l.take k := ⟨_, rfl⟩
        obtain ⟨B, hB⟩ : ∃ B, B = l.drop k := ⟨_, rfl⟩
        have hAB : l = A ++ B := by rw [hA, hB, List.take_append_drop]
        have hAl : A.length = k := by rw [hA, List.length_take]; omega
        have hBl : B.length = i - k := by rw [hB, List.length_drop]; omega
        rw [← hA, ← hB] at hS
        have hsame' : ∀ j, j < i + 1 → (L.getD j Pc0).amount = y := fun j hj => by
          by_cases e : j = i
          · subst e; rw [← hpp]; exact hpy
          · exact hsame j (by omega)
        have c1 := slcTo (id := d) (n := i) (fl := 1) hk
        have c2 := slcFrom (id := d) (n := i) (fl := 1) hk
        by_cases hki : k < i
        · have hki' : (k : Int) < i := by omega
          have r1 := iad0 (id := d) (n := i) (fl := 1) (z := (k : Int)) rfl hki
          have r2 := ho.rd' (i := k) (by omega)
          have hng : ¬ (l.getD k 0 ≤ x) := fun h => hgo ⟨hki, h⟩
          simp (config := {implicitDefEqProofs := false, maxDischargeDepth := 20}) (disch := first | omega | (simp only [lenE]; done) | (simp only [lenE]; omega) | rfl | (simp only [lenE, markR_len]; done) | (simp only [lenE, markR_len]; omega)) only [runE, mapE, listE, initT_5, initT_6, initT_7, initT_8, resV, oneV, binA, unA, reduceCtorEq, Nat.reduceEqDiff, Nat.reduceAdd, Nat.reduceLT, Nat.reduceLeDiff, Nat.reduceMul, Nat.reduceSub, ↓reduceIte, decide_true, decide_false, Bool.true_eq_false, Bool.false_eq_true, Bool.not_true, Bool.not_false, if_true, if_false, and_true, true_and, memE, celE, w64, Nat.zero_add, Nat.add_zero, Nat.mul_one, putL, and_self, ldn, tm, t0, t4, t5, t6, t7, t8, hki', r1, r2, hng, c1, c2, Option.map_none, bsl_no, bsl_one]
          have hll := hx.len
          have hdl := ho.lt
          rw [hAB] at ho
          have oE : ∀ R, OwnR (M ++ R) d (A ++ B) := fun R => ho.ext R
          refine ⟨⟨?_, ?_⟩, ?_⟩
          · have o0 : OwnR (M ++ [(⟨.own, 3, []⟩ : Blk)]) (M.length) [] := by exact OwnB.here rfl
            have od0 : OwnR (M ++ [(⟨.own, 3, []⟩ : Blk)]) d (A ++ B) := by exact oE _
            have hb0 : OwnB (M ++ [(⟨.own, 3, []⟩ : Blk)]) m.length 66 (pcsC []) := by exact hb.ext _
            have hx0 : Ext m (M ++ [(⟨.own, 3, []⟩ : Blk)]) := by exact hx.one _ _
            have iA : IntsA (M ++ [(⟨.own, 3, []⟩ : Blk)]) (.slice (some ⟨d, 0, none⟩) k 1) A := by rw [← hAl]; exact od0.pre (by omega) 1
            have h62 := app_all (l0 := []) o0 iA (by simp; omega)
            have od1 := od0.set_ne (b := deadB) (show M.length ≠ d by omega)
            have hb1 := hb0.deadP (show M.length ≠ m.length by omega)
            have hx1 := hx0.dead (show m.length ≤ M.length by omega)
            obtain ⟨Z, hZ⟩ : ∃ Z, Z = (M ++ [(⟨.own, 3, []⟩ : Blk)]).set (M.length) deadB ++ [⟨.own, 3, ([] ++ A).map (Value.int .i64)⟩] := ⟨_, rfl⟩
            have LZ : Z.length = M.length + 1 + 1 := by rw [hZ]; simp
            have oa : OwnR Z (M.length + 1) A := by rw [hZ]; exact OwnB.here (by simp)
            have odZ : OwnR Z d (A ++ B) := by rw [hZ]; exact od1.ext _
            have hbZ : OwnB Z m.length 66 (pcsC []) := by rw [hZ]; exact hb1.ext _
            have hxZ : Ext m Z := by rw [hZ]; exact hx1.one _ _
            rw [← hZ] at h62
            have h62b : appP (M ++ [(⟨.own, 3, []⟩ : Blk)]) 3 1 8 (.slice (some ⟨M.length, 0, none⟩) 0 1) (.slice (some ⟨d, 0, none⟩) k 1) = some (.slice (some ⟨M.length + 1, 0, none⟩) k 1, Z) := by rw [show (.slice (some ⟨M.length, 0, none⟩) 0 1 : Value) = .slice (some ⟨M.length, 0, none⟩) ([] : List Int).length 1 from rfl, h62]; simp [hAl]
            clear hZ h62
            obtain ⟨Y2, Y3, h65, h69, hx3, o3, hb3, hy3⟩ := insM (i := i) (y := Z.length + 1) (hxZ.one 3 [.int .i64 x]) (show m.length < M.length + 1 by omega) (oa.ext _) (show OwnR (Z ++ [(⟨.own, 3, [.int .i64 x]⟩ : Blk)]) Z.length [x] from OwnB.here rfl) (odZ.ext _) (show M.length + 1 ≠ d by omega) hAl hBl (by omega) hk (by simp) (hbZ.ext _)
            simp (config := {implicitDefEqProofs := false, maxDischargeDepth := 20}) (disch := first | omega | (simp only [lenE]; done) | (simp only [lenE]; omega) | rfl | (simp only [lenE, markR_len]; done) | (simp only [lenE, markR_len]; omega)) only [runE, mapE, listE, initT_5, initT_6, initT_7, initT_8, resV, oneV, binA, unA, reduceCtorEq, Nat.reduceEqDiff, Nat.reduceAdd, Nat.reduceLT, Nat.reduceLeDiff, Nat.reduceMul, Nat.reduceSub, ↓reduceIte, decide_true, decide_false, Bool.true_eq_false, Bool.false_eq_true, Bool.not_true, Bool.not_false, if_true, if_false, and_true, true_and, memE, celE, w64, Nat.zero_add, Nat.add_zero, Nat.mul_one, putL, and_self, ldn, h62b, bsl_one, h65, h69, t0, t4, t6]
            refine ⟨⟨i + 1, _, _, by omega, rfl, hx3, hy3, hb3, by rw [hS]; exact o3, ?_, by simp, fun j hj => by rw [hsame' j hj, hy]⟩, ?_⟩
            · congr 1; omega
            · simp [intOf]; omega
          · have o0 : OwnR (M ++ [(⟨.own, 3, []⟩ : Blk)] ++ [(⟨.own, 3, [.int .i64 x]⟩ : Blk)]) (M.length) [] := by exact OwnR.ext (show OwnR (M ++ [(⟨.own, 3, []⟩ : Blk)]) M.length [] from OwnB.here rfl) _
            have od0 : OwnR (M ++ [(⟨.own, 3, []⟩ : Blk)] ++ [(⟨.own, 3, [.int .i64 x]⟩ : Blk)]) d (A ++ B) := by exact (oE _).ext _
            have hb0 : OwnB (M ++ [(⟨.own, 3, []⟩ : Blk)] ++ [(⟨.own, 3, [.int .i64 x]⟩ : Blk)]) m.length 66 (pcsC []) := by exact (hb.ext _).ext _
            have hx0 : Ext m (M ++ [(⟨.own, 3, []⟩ : Blk)] ++ [(⟨.own, 3, [.int .i64 x]⟩ : Blk)]) := by exact (hx.one _ _).one _ _
            have ox0 : OwnR (M ++ [(⟨.own, 3, []⟩ : Blk)] ++ [(⟨.own, 3, [.int .i64 x]⟩ : Blk)]) (M.length + 1) [x] := by exact OwnB.here (by simp)
            have iA : IntsA (M ++ [(⟨.own, 3, []⟩ : Blk)] ++ [(⟨.own, 3, [.int .i64 x]⟩ : Blk)]) (.slice (some ⟨d, 0, none⟩) k 1) A := by rw [← hAl]; exact od0.pre (by omega) 1
            have h62 := app_all (l0 := []) o0 iA (by simp; omega)
            have od1 := od0.set_ne (b := deadB) (show M.length ≠ d by omega)
            have hb1 := hb0.deadP (show M.length ≠ m.length by omega)
            have hx1 := hx0.dead (show m.length ≤ M.length by omega)
            have ox1 := ox0.set_ne (b := deadB) (show M.length ≠ M.length + 1 by omega)
            obtain ⟨Z, hZ⟩ : ∃ Z, Z = (M ++ [(⟨.own, 3, []⟩ : Blk)] ++ [(⟨.own, 3, [.int .i64 x]⟩ : Blk)]).set (M.length) deadB ++ [⟨.own, 3, ([] ++ A).map (Value.int .i64)⟩] := ⟨_, rfl⟩
            have LZ : Z.length = M.length + 1 + 1 + 1 := by rw [hZ]; simp
            have oa : OwnR Z (M.length + 1 + 1) A := by rw [hZ]; exact OwnB.here (by simp)
            have odZ : OwnR Z d (A ++ B) := by rw [hZ]; exact od1.ext _
            have hbZ : OwnB Z m.length 66 (pcsC []) := by rw [hZ]; exact hb1.ext _
            have hxZ : Ext m Z := by rw [hZ]; exact hx1.one _ _
            have oxZ : OwnR Z (M.length + 1) [x] := by rw [hZ]; exact ox1.ext _
            rw [← hZ] at h62
            have h62b : appP (M ++ [(⟨.own, 3, []⟩ : Blk)] ++ [(⟨.own, 3, [.int .i64 x]⟩ : Blk)]) 3 1 8 (.slice (some ⟨M.length, 0, none⟩) 0 1) (.slice (some ⟨d, 0, none⟩) k 1) = some (.slice (some ⟨M.length + 1 + 1, 0, none⟩) k 1, Z) := by rw [show (.slice (some ⟨M.length, 0, none⟩) 0 1 : Value) = .slice (some ⟨M.length, 0, none⟩) ([] : List Int).length 1 from rfl, h62]; simp [hAl]
            clear hZ h62
            obtain ⟨Y2, Y3, h65, h69, hx3, o3, hb3, hy3⟩ := insM (i := i) (y := Z.length) hxZ (show m.length < M.length + 1 + 1 by omega) oa oxZ odZ (show M.length + 1 + 1 ≠ d by omega) hAl hBl (by omega) hk rfl hbZ
            simp (config := {implicitDefEqProofs := false, maxDischargeDepth := 20}) (disch := first | omega | (simp only [lenE]; done) | (simp only [lenE]; omega) | rfl | (simp only [lenE, markR_len]; done) | (simp only [lenE, markR_len]; omega)) only [runE, mapE, listE, initT_5, initT_6, initT_7, initT_8, resV, oneV, binA, unA, reduceCtorEq, Nat.reduceEqDiff, Nat.reduceAdd, Nat.reduceLT, Nat.reduceLeDiff, Nat.reduceMul, Nat.reduceSub, ↓reduceIte, decide_true, decide_false, Bool.true_eq_false, Bool.false_eq_true, Bool.not_true, Bool.not_false, if_true, if_false, and_true, true_and, memE, celE, w64, Nat.zero_add, Nat.add_zero, Nat.mul_one, putL, and_self, ldn, h62b, bsl_one, h65, h69, t0, t4, t6]
            refine ⟨⟨i + 1, _, _, by omega, rfl, hx3, hy3, hb3, by rw [hS]; exact o3, ?_, by simp, fun j hj => by rw [hsame' j hj, hy]⟩, ?_⟩
            · congr 1; omega
            · simp [intOf]; omega
          · have o0 : OwnR (M ++ [(⟨.own, 3, [.int .i64 x]⟩ : Blk)] ++ [(⟨.own, 3, []⟩ : Blk)]) (M.length + 1) [] := by exact OwnB.here (by simp)
            have od0 : OwnR (M ++ [(⟨.own, 3, [.int .i64 x]⟩ : Blk)] ++ [(⟨.own, 3, []⟩ : Blk)]) d (A ++ B) := by exact (oE _).ext _
            have hb0 : OwnB (M ++ [(⟨.own, 3, [.int .i64 x]⟩ : Blk)] ++ [(⟨.own, 3, []⟩ : Blk)]) m.length 66 (pcsC []) := by exact (hb.ext _).ext _
            have hx0 : Ext m (M ++ [(⟨.own, 3, [.int .i64 x]⟩ : Blk)] ++ [(⟨.own, 3, []⟩ : Blk)]) := by exact (hx.one _ _).one _ _
            have ox0 : OwnR (M ++ [(⟨.own, 3, [.int .i64 x]⟩ : Blk)] ++ [(⟨.own, 3, []⟩ : Blk)]) (M.length) [x] := by exact OwnR.ext (show OwnR (M ++ [(⟨.own, 3, [.int .i64 x]⟩ : Blk)]) M.length [x] from OwnB.here rfl) _
            have iA : IntsA (M ++ [(⟨.own, 3, [.int .i64 x]⟩ : Blk)] ++ [(⟨.own, 3, []⟩ : Blk)]) (.slice (some ⟨d, 0, none⟩) k 1) A := by rw [← hAl]; exact od0.pre (by omega) 1
            have h62 := app_all (l0 := []) o0 iA (by simp; omega)
            have od1 := od0.set_ne (b := deadB) (show M.length + 1 ≠ d by omega)
            have hb1 := hb0.deadP (show M.length + 1 ≠ m.length by omega)
            have hx1 := hx0.dead (show m.length ≤ M.length + 1 by omega)
            have ox1 := ox0.set_ne (b := deadB) (show M.length + 1 ≠ M.length by omega)
            obtain ⟨Z, hZ⟩ : ∃ Z, Z = (M ++ [(⟨.own, 3, [.int .i64 x]⟩ : Blk)] ++ [(⟨.own, 3, []⟩ : Blk)]).set (M.length + 1) deadB ++ [⟨.own, 3, ([] ++ A).map (Value.int .i64)⟩] := ⟨_, rfl⟩
            have LZ : Z.length = M.length + 1 + 1 + 1 := by rw [hZ]; simp
            have oa : OwnR Z (M.length + 1 + 1) A := by rw [hZ]; exact OwnB.here (by simp)
            have odZ : OwnR Z d (A ++ B) := by rw [hZ]; exact od1.ext _
            have hbZ : OwnB Z m.length 66 (pcsC []) := by rw [hZ]; exact hb1.ext _
            have hxZ : Ext m Z := by rw [hZ]; exact hx1.one _ _
            have oxZ : OwnR Z (M.length) [x] := by rw [hZ]; exact ox1.ext _
            rw [← hZ] at h62
            have h62b : appP (M ++ [(⟨.own, 3, [.int .i64 x]⟩ : Blk)] ++ [(⟨.own, 3, []⟩ : Blk)]) 3 1 8 (.slice (some ⟨M.length + 1, 0, none⟩) 0 1) (.slice (some ⟨d, 0, none⟩) k 1) = some (.slice (some ⟨M.length + 1 + 1, 0, none⟩) k 1, Z) := by rw [show (.slice (some ⟨M.length + 1, 0, none⟩) 0 1 : Value) = .slice (some ⟨M.length + 1, 0, none⟩) ([] : List Int).length 1 from rfl, h62]; simp [hAl]
            clear hZ h62
            obtain ⟨Y2, Y3, h65, h69, hx3, o3, hb3, hy3⟩ := insM (i := i) (y := Z.length) hxZ (show m.length < M.length + 1 + 1 by omega) oa oxZ odZ (show M.length + 1 + 1 ≠ d by omega) hAl hBl (by omega) hk rfl hbZ
            simp (config := {implicitDefEqProofs := false, maxDischargeDepth := 20}) (disch := first | omega | (simp only [lenE]; done) | (simp only [lenE]; omega) | rfl | (simp only [lenE, markR_len]; done) | (simp only [lenE, markR_len]; omega)) only [runE, mapE, listE, initT_5, initT_6, initT_7, initT_8, resV, oneV, binA, unA, reduceCtorEq, Nat.reduceEqDiff, Nat.reduceAdd, Nat.reduceLT, Nat.reduceLeDiff, Nat.reduceMul, Nat.reduceSub, ↓reduceIte, decide_true, decide_false, Bool.true_eq_false, Bool.false_eq_true, Bool.not_true, Bool.not_false, if_true, if_false, and_true, true_and, memE, celE, w64, Nat.zero_add, Nat.add_zero, Nat.mul_one, putL, and_self, ldn, h62b, bsl_one, h65, h69, t0, t4, t6]
            refine ⟨⟨i + 1, _, _, by omega, rfl, hx3, hy3, hb3, by rw [hS]; exact o3, ?_, by simp, fun j hj => by rw [hsame' j hj, hy]⟩, ?_⟩
            · congr 1; omega
            · simp [intOf]; omega
        · have hki' : ¬ ((k : Int) < i) := by omega
          simp (config := {implicitDefEqProofs := false, maxDischargeDepth := 20}) (disch := first | omega | (simp only [lenE]; done) | (simp only [lenE]; omega) | rfl | (simp only [lenE, markR_len]; done) | (simp only [lenE, markR_len]; omega)) only [runE, mapE, listE, initT_5, initT_6, initT_7, initT_8, resV, oneV, binA, unA, reduceCtorEq, Nat.reduceEqDiff, Nat.reduceAdd, Nat.reduceLT, Nat.reduceLeDiff, Nat.reduceMul, Nat.reduceSub, ↓reduceIte, decide_true, decide_false, Bool.true_eq_false, Bool.false_eq_true, Bool.not_true, Bool.not_false, if_true, if_false, and_true, true_and, memE, celE, w64, Nat.zero_add, Nat.add_zero, Nat.mul_one, putL, and_self, ldn, tm, t0, t4, t5, t6, t7, t8, hki', c1, c2, Option.map_none, bsl_no, bsl_one]
          have hll := hx.len
          have hdl := ho.lt
          rw [hAB] at ho
          have oE : ∀ R, OwnR (M ++ R) d (A ++ B) := fun R => ho.ext R
          refine ⟨⟨?_, ?_⟩, ?_⟩
          · have o0 : OwnR (M ++ [(⟨.own, 3, []⟩ : Blk)]) (M.length) [] := by exact OwnB.here rfl
            have od0 : OwnR (M ++ [(⟨.own, 3, []⟩ : Blk)]) d (A ++ B) := by exact oE _
            have hb0 : OwnB (M ++ [(⟨.own, 3, []⟩ : Blk)]) m.length 66 (pcsC []) := by exact hb.ext _
            have hx0 : Ext m (M ++ [(⟨.own, 3, []⟩ : Blk)]) := by exact hx.one _ _
            have iA : IntsA (M ++ [(⟨.own, 3, []⟩ : Blk)]) (.slice (some ⟨d, 0, none⟩) k 1) A := by rw [← hAl]; exact od0.pre (by omega) 1
            have h62 := app_all (l0 := []) o0 iA (by simp; omega)
            have od1 := od0.set_ne (b := deadB) (show M.length ≠ d by omega)
            have hb1 := hb0.deadP (show M.length ≠ m.length by omega)
            have hx1 := hx0.dead (show m.length ≤ M.length by omega)
            obtain ⟨Z, hZ⟩ : ∃ Z, Z = (M ++ [(⟨.own, 3, []⟩ : Blk)]).set (M.length) deadB ++ [⟨.own, 3, ([] ++ A).map (Value.int .i64)⟩] := ⟨_, rfl⟩
            have LZ : Z.length = M.length + 1 + 1 := by rw [hZ]; simp
            have oa : OwnR Z (M.length + 1) A := by rw [hZ]; exact OwnB.here (by simp)
            have odZ : OwnR Z d (A ++ B) := by rw [hZ]; exact od1.ext _
            have hbZ : OwnB Z m.length 66 (pcsC []) := by rw [hZ]; exact hb1.ext _
            have hxZ : Ext m Z := by rw [hZ]; exact hx1.one _ _
            rw [← hZ] at h62
            have h62b : appP (M ++ [(⟨.own, 3, []⟩ : Blk)]) 3 1 8 (.slice (some ⟨M.length, 0, none⟩) 0 1) (.slice (some ⟨d, 0, none⟩) k 1) = some (.slice (some ⟨M.length + 1, 0, none⟩) k 1, Z) := by rw [show (.slice (some ⟨M.length, 0, none⟩) 0 1 : Value) = .slice (some ⟨M.length, 0, none⟩) ([] : List Int).length 1 from rfl, h62]; simp [hAl]
            clear hZ h62
            obtain ⟨Y2, Y3, h65, h69, hx3, o3, hb3, hy3⟩ := insM (i := i) (y := Z.length + 1) (hxZ.one 3 [.int .i64 x]) (show m.length < M.length + 1 by omega) (oa.ext _) (show OwnR (Z ++ [(⟨.own, 3, [.int .i64 x]⟩ : Blk)]) Z.length [x] from OwnB.here rfl) (odZ.ext _) (show M.length + 1 ≠ d by omega) hAl hBl (by omega) hk (by simp) (hbZ.ext _)
            simp (config := {implicitDefEqProofs := false, maxDischargeDepth := 20}) (disch := first | omega | (simp only [lenE]; done) | (simp only [lenE]; omega) | rfl | (simp only [lenE, markR_len]; done) | (simp only [lenE, markR_len]; omega)) only [runE, mapE, listE, initT_5, initT_6, initT_7, initT_8, resV, oneV, binA, unA, reduceCtorEq, Nat.reduceEqDiff, Nat.reduceAdd, Nat.reduceLT, Nat.reduceLeDiff, Nat.reduceMul, Nat.reduceSub, ↓reduceIte, decide_true, decide_false, Bool.true_eq_false, Bool.false_eq_true, Bool.not_true, Bool.not_false, if_true, if_false, and_true, true_and, memE, celE, w64, Nat.zero_add, Nat.add_zero, Nat.mul_one, putL, and_self, ldn, h62b, bsl_one, h65, h69, t0, t4, t6]
            refine ⟨⟨i + 1, _, _, by omega, rfl, hx3, hy3, hb3, by rw [hS]; exact o3, ?_, by simp, fun j hj => by rw [hsame' j hj, hy]⟩, ?_⟩
            · congr 1; omega
            · simp [intOf]; omega
          · have o0 : OwnR (M ++ [(⟨.own, 3, []⟩ : Blk)] ++ [(⟨.own, 3, [.int .i64 x]⟩ : Blk)]) (M.length) [] := by exact OwnR.ext (show OwnR (M ++ [(⟨.own, 3, []⟩ : Blk)]) M.length [] from OwnB.here rfl) _
            have od0 : OwnR (M ++ [(⟨.own, 3, []⟩ : Blk)] ++ [(⟨.own, 3, [.int .i64 x]⟩ : Blk)]) d (A ++ B) := by exact (oE _).ext _
            have hb0 : OwnB (M ++ [(⟨.own, 3, []⟩ : Blk)] ++ [(⟨.own, 3, [.int .i64 x]⟩ : Blk)]) m.length 66 (pcsC []) := by exact (hb.ext _).ext _
            have hx0 : Ext m (M ++ [(⟨.own, 3, []⟩ : Blk)] ++ [(⟨.own, 3, [.int .i64 x]⟩ : Blk)]) := by exact (hx.one _ _).one _ _
            have ox0 : OwnR (M ++ [(⟨.own, 3, []⟩ : Blk)] ++ [(⟨.own, 3, [.int .i64 x]⟩ : Blk)]) (M.length + 1) [x] := by exact OwnB.here (by simp)
            have iA : IntsA (M ++ [(⟨.own, 3, []⟩ : Blk)] ++ [(⟨.own, 3, [.int .i64 x]⟩ : Blk)]) (.slice (some ⟨d, 0, none⟩) k 1) A := by rw [← hAl]; exact od0.pre (by omega) 1
            have h62 := app_all (l0 := []) o0 iA (by simp; omega)
            have od1 := od0.set_ne (b := deadB) (show M.length ≠ d by omega)
            have hb1 := hb0.deadP (show M.length ≠ m.length by omega)
            have hx1 := hx0.dead (show m.length ≤ M.length by omega)
            have ox1 := ox0.set_ne (b := deadB) (show M.length ≠ M.length + 1 by omega)
            obtain ⟨Z, hZ⟩ : ∃ Z, Z = (M ++ [(⟨.own, 3, []⟩ : Blk)] ++ [(⟨.own, 3, [.int .i64 x]⟩ : Blk)]).set (M.length) deadB ++ [⟨.own, 3, ([] ++ A).map (Value.int .i64)⟩] := ⟨_, rfl⟩
            have LZ : Z.length = M.length + 1 + 1 + 1 := by rw [hZ]; simp
            have oa : OwnR Z (M.length + 1 + 1) A := by rw [hZ]; exact OwnB.here (by simp)
            have odZ : OwnR Z d (A ++ B) := by rw [hZ]; exact od1.ext _
            have hbZ : OwnB Z m.length 66 (pcsC []) := by rw [hZ]; exact hb1.ext _
            have hxZ : Ext m Z := by rw [hZ]; exact hx1.one _ _
            have oxZ : OwnR Z (M.length + 1) [x] := by rw [hZ]; exact ox1.ext _
            rw [← hZ] at h62
            have h62b : appP (M ++ [(⟨.own, 3, []⟩ : Blk)] ++ [(⟨.own, 3, [.int .i64 x]⟩ : Blk)]) 3 1 8 (.slice (some ⟨M.length, 0, none⟩) 0 1) (.slice (some ⟨d, 0, none⟩) k 1) = some (.slice (some ⟨M.length + 1 + 1, 0, none⟩) k 1, Z) := by rw [show (.slice (some ⟨M.length, 0, none⟩) 0 1 : Value) = .slice (some ⟨M.length, 0, none⟩) ([] : List Int).length 1 from rfl, h62]; simp [hAl]
            clear hZ h62
            obtain ⟨Y2, Y3, h65, h69, hx3, o3, hb3, hy3⟩ := insM (i := i) (y := Z.length) hxZ (show m.length < M.length + 1 + 1 by omega) oa oxZ odZ (show M.length + 1 + 1 ≠ d by omega) hAl hBl (by omega) hk rfl hbZ
            simp (config := {implicitDefEqProofs := false, maxDischargeDepth := 20}) (disch := first | omega | (simp only [lenE]; done) | (simp only [lenE]; omega) | rfl | (simp only [lenE, markR_len]; done) | (simp only [lenE, markR_len]; omega)) only [runE, mapE, listE, initT_5, initT_6, initT_7, initT_8, resV, oneV, binA, unA, reduceCtorEq, Nat.reduceEqDiff, Nat.reduceAdd, Nat.reduceLT, Nat.reduceLeDiff, Nat.reduceMul, Nat.reduceSub, ↓reduceIte, decide_true, decide_false, Bool.true_eq_false, Bool.false_eq_true, Bool.not_true, Bool.not_false, if_true, if_false, and_true, true_and, memE, celE, w64, Nat.zero_add, Nat.add_zero, Nat.mul_one, putL, and_self, ldn, h62b, bsl_one, h65, h69, t0, t4, t6]
            refine ⟨⟨i + 1, _, _, by omega, rfl, hx3, hy3, hb3, by rw [hS]; exact o3, ?_, by simp, fun j hj => by rw [hsame' j hj, hy]⟩, ?_⟩
            · congr 1; omega
            · simp [intOf]; omega
          · have o0 : OwnR (M ++ [(⟨.own, 3, [.int .i64 x]⟩ : Blk)] ++ [(⟨.own, 3, []⟩ : Blk)]) (M.length + 1) [] := by exact OwnB.here (by simp)
            have od0 : OwnR (M ++ [(⟨.own, 3, [.int .i64 x]⟩ : Blk)] ++ [(⟨.own, 3, []⟩ : Blk)]) d (A ++ B) := by exact (oE _).ext _
            have hb0 : OwnB (M ++ [(⟨.own, 3, [.int .i64 x]⟩ : Blk)] ++ [(⟨.own, 3, []⟩ : Blk)]) m.length 66 (pcsC []) := by exact (hb.ext _).ext _
            have hx0 : Ext m (M ++ [(⟨.own, 3, [.int .i64 x]⟩ : Blk)] ++ [(⟨.own, 3, []⟩ : Blk)]) := by exact (hx.one _ _).one _ _
            have ox0 : OwnR (M ++ [(⟨.own, 3, [.int .i64 x]⟩ : Blk)] ++ [(⟨.own, 3, []⟩ : Blk)]) (M.length) [x] := by exact OwnR.ext (show OwnR (M ++ [(⟨.own, 3, [.int .i64 x]⟩ : Blk)]) M.length [x] from OwnB.here rfl) _
            have iA : IntsA (M ++ [(⟨.own, 3, [.int .i64 x]⟩ : Blk)] ++ [(⟨.own, 3, []⟩ : Blk)]) (.slice (some ⟨d, 0, none⟩) k 1) A := by rw [← hAl]; exact od0.pre (by omega) 1
            have h62 := app_all (l0 := []) o0 iA (by simp; omega)
            have od1 := od0.set_ne (b := deadB) (show M.length + 1 ≠ d by omega)
            have hb1 := hb0.deadP (show M.length + 1 ≠ m.length by omega)
            have hx1 := hx0.dead (show m.length ≤ M.length + 1 by omega)
            have ox1 := ox0.set_ne (b := deadB) (show M.length + 1 ≠ M.length by omega)
            obtain ⟨Z, hZ⟩ : ∃ Z, Z = (M ++ [(⟨.own, 3, [.int .i64 x]⟩ : Blk)] ++ [(⟨.own, 3, []⟩ : Blk)]).set (M.length + 1) deadB ++ [⟨.own, 3, ([] ++ A).map (Value.int .i64)⟩] := ⟨_, rfl⟩
            have LZ : Z.length = M.length + 1 + 1 + 1 := by rw [hZ]; simp
            have oa : OwnR Z (M.length + 1 + 1) A := by rw [hZ]; exact OwnB.here (by simp)
            have odZ : OwnR Z d (A ++ B) := by rw [hZ]; exact od1.ext _
            have hbZ : OwnB Z m.length 66 (pcsC []) := by rw [hZ]; exact hb1.ext _
            have hxZ : Ext m Z := by rw [hZ]; exact hx1.one _ _
            have oxZ : OwnR Z (M.length) [x] := by rw [hZ]; exact ox1.ext _
            rw [← hZ] at h62
            have h62b : appP (M ++ [(⟨.own, 3, [.int .i64 x]⟩ : Blk)] ++ [(⟨.own, 3, []⟩ : Blk)]) 3 1 8 (.slice (some ⟨M.length + 1, 0, none⟩) 0 1) (.slice (some ⟨d, 0, none⟩) k 1) = some (.slice (some ⟨M.length + 1 + 1, 0, none⟩) k 1, Z) := by rw [show (.slice (some ⟨M.length + 1, 0, none⟩) 0 1 : Value) = .slice (some ⟨M.length + 1, 0, none⟩) ([] : List Int).length 1 from rfl, h62]; simp [hAl]
            clear hZ h62
            obtain ⟨Y2, Y3, h65, h69, hx3, o3, hb3, hy3⟩ := insM (i := i) (y := Z.length) hxZ (show m.length < M.length + 1 + 1 by omega) oa oxZ odZ (show M.length + 1 + 1 ≠ d by omega) hAl hBl (by omega) hk rfl hbZ
            simp (config := {implicitDefEqProofs := false, maxDischargeDepth := 20}) (disch := first | omega | (simp only [lenE]; done) | (simp only [lenE]; omega) | rfl | (simp only [lenE, markR_len]; done) | (simp only [lenE, markR_len]; omega)) only [runE, mapE, listE, initT_5, initT_6, initT_7, initT_8, resV, oneV, binA, unA, reduceCtorEq, Nat.reduceEqDiff, Nat.reduceAdd, Nat.reduceLT, Nat.reduceLeDiff, Nat.reduceMul, Nat.reduceSub, ↓reduceIte, decide_true, decide_false, Bool.true_eq_false, Bool.false_eq_true, Bool.not_true, Bool.not_false, if_true, if_false, and_true, true_and, memE, celE, w64, Nat.zero_add, Nat.add_zero, Nat.mul_one, putL, and_self, ldn, h62b, bsl_one, h65, h69, t0, t4, t6]
            refine ⟨⟨i + 1, _, _, by omega, rfl, hx3, hy3, hb3, by rw [hS]; exact o3, ?_, by simp, fun j hj => by rw [hsame' j hj, hy]⟩, ?_⟩
            · congr 1; omega
            · simp [intOf]; omega
    · have hbn : (p.amount != y) = true := by simp [hpy]
      simp (config := {implicitDefEqProofs := false, maxDischargeDepth := 20}) (disch := first | omega | (simp only [lenE]; done) | (simp only [lenE]; omega) | rfl | (simp only [lenE, markR_len]; done) | (simp only [lenE, markR_len]; omega)) only [runE, mapE, listE, initT_5, initT_6, initT_7, initT_8, resV, oneV, binA, unA, reduceCtorEq, Nat.reduceEqDiff, Nat.reduceAdd, Nat.reduceLT, Nat.reduceLeDiff, Nat.reduceMul, Nat.reduceSub, ↓reduceIte, decide_true, decide_false, Bool.true_eq_false, Bool.false_eq_true, Bool.not_true, Bool.not_false, if_true, if_false, and_true, true_and, memE, celE, w64, Nat.zero_add, Nat.add_zero, Nat.mul_one, putL, and_self, ldn, tm, t0, t4, t5, t6, hl, hlt', i1, j1, f1, f3, g1, g3, hbn, bsl_no]
      refine no _ _ (hx.one _ _) (OwnB.here rfl) hx.len ?_
      have : sameB L = false := by
        cases hs : sameB L with
        | false => rfl
        | true =>
          unfold sameB at hs
          rw [List.all_eq_true] at hs
          have := hs (L.getD i Pc0) (by rw [List.getD_eq_getElem?_getD, List.getElem?_eq_getElem hlt]; exact List.getElem_mem hlt)
          rw [← hpp, ← hy] at this
          exact absurd (by simpa using this) hpy
      simp [strOk, this]
  · have hlt' : ¬ ((i : Int) < L.length) := by omega
    obtain rfl : i = L.length := by omega
    have h2 : sameB L = true := by
      unfold sameB
      rw [List.all_eq_true]
      intro p hp
      obtain ⟨k, hk, rfl⟩ := List.getElem_of_mem hp
      have := hsame k hk
      rw [List.getD_eq_getElem?_getD, List.getElem?_eq_getElem hk] at this
      simpa using this
    have hok : strOk L = true := by simp [strOk, h1, h2]
    have eS : strA L = strTo L L.length := by unfold strA; rw [hok]; rfl
    rw [eS, hok]
    have hSl := insA_len (arrD L) L.length
    simp (config := {implicitDefEqProofs := false, maxDischargeDepth := 20}) (disch := first | omega | (simp only [lenE]; done) | (simp only [lenE]; omega) | rfl | (simp only [lenE, markR_len]; done) | (simp only [lenE, markR_len]; omega)) only [runE, mapE, listE, initT_5, initT_6, initT_7, initT_8, resV, oneV, binA, unA, reduceCtorEq, Nat.reduceEqDiff, Nat.reduceAdd, Nat.reduceLT, Nat.reduceLeDiff, Nat.reduceMul, Nat.reduceSub, ↓reduceIte, decide_true, decide_false, Bool.true_eq_false, Bool.false_eq_true, Bool.not_true, Bool.not_false, if_true, if_false, and_true, true_and, memE, celE, w64, Nat.zero_add, Nat.add_zero, Nat.mul_one, putL, and_self, ldn, tm, t0, t4, t5, t6, hl, hlt']
    refine loop_inv mixed (fun s => ∃ (k : Nat) (M : Mem) (id : Nat), k ≤ L.length ∧ s.m = M ∧ Ext m M ∧ m.length ≤ id ∧ OwnB M id 66 (pcsC (strTo L k)) ∧ OwnR M d (insA (arrD L) L.length) ∧ s.t 0 = v ∧ s.t 4 = .slice (some ⟨id, 0, none⟩) k 3 ∧ s.t 5 = .slice (some ⟨d, 0, none⟩) L.length 1 ∧ s.t 9 = .int .i64 k) (fun s => L.length - (intOf (s.t 9)).toNat)
      ⟨0, M, m.length, by omega, by simp only [put_t, put_t', put_m, putT_t, putT_t', putT_m, init_t, init_m, initT_0, initT_1, initT_2, initT_3, initT_4, initT_5, initT_6, initT_7, initT_8, Nat.reduceEqDiff, ↓reduceIte, tm], hx, Nat.le_refl _, hb, ho, by simp only [put_t, put_t', put_m, putT_t, putT_t', putT_m, init_t, init_m, initT_0, initT_1, initT_2, initT_3, initT_4, initT_5, initT_6, initT_7, initT_8, Nat.reduceEqDiff, ↓reduceIte, t0], by simp only [put_t, put_t', put_m, putT_t, putT_t', putT_m, init_t, init_m, initT_0, initT_1, initT_2, initT_3, initT_4, initT_5, initT_6, initT_7, initT_8, Nat.reduceEqDiff, ↓reduceIte, t4], by simp only [put_t, put_t', put_m, putT_t, putT_t', putT_m, init_t, init_m, initT_0, initT_1, initT_2, initT_3, initT_4, initT_5, initT_6, initT_7, initT_8, Nat.reduceEqDiff, ↓reduceIte, t5], by simp only [put_t, put_t', put_m, putT_t, putT_t', putT_m, init_t, init_m, initT_0, initT_1, initT_2, initT_3, initT_4, initT_5, initT_6, initT_7, initT_8, Nat.reduceEqDiff, ↓reduceIte]; simp⟩ ?_
    clear tm t0 t4 t5 t6 hx hb ho
    rintro s ⟨k, M, id, hk, tm, hx, hid, ho, ha, t0, t4, t5, t9⟩
    by_cases hlt : k < L.length
    · have hlt' : (k : Int) < L.length := by omega
      have hM := hx.keeps.pcs h
      obtain ⟨p, hpp⟩ : ∃ p, p = L.getD k Pc0 := ⟨_, rfl⟩
      have hgp : GoodP11 p := hpp ▸ hG.all k hlt
      have gd := hgp.day
      have i1 := hM.at_ hlt
      obtain ⟨q0, f0, g0⟩ := hM.fld hlt 0 (by decide)
      obtain ⟨q1, f1, g1⟩ := hM.fld hlt 1 (by decide)
      rw [← hpp] at g0 g1
      replace g0 : ldA M none q0 = some (.int .i64 p.day) := g0
      replace g1 : ldA M none q1 = some (.int .i64 p.amount) := g1
      have r1 := iad0 (id := d) (n := L.length) (fl := 1) (z := (k : Int)) rfl hlt
      have r2 := ha.rd' (i := k) (by omega)
      have bd := strBd hG hlt
      have hC : strC L k = ⟨p.day, p.amount, (insA (arrD L) L.length).getD k 0 - p.day⟩ := by rw [hpp]; rfl
      have hTl := strTo_len L k
      generalize (insA (arrD L) L.length).getD k 0 = y at *
      have happ := app_back (M := M) (id2 := M.length) (e := 66) (sz := 3) (byt := 24) (n := k) (ys := [.int .i64 p.day, .int .i64 p.amount, .int .i64 (y - p.day)]) ho rfl (by rw [pcsC_len, hTl]) rfl rfl (by omega) (by omega)
      simp (config := {implicitDefEqProofs := false, maxDischargeDepth := 20}) (disch := first | omega | (simp only [lenE]; done) | (simp only [lenE]; omega) | rfl | (simp only [lenE, markR_len]; done) | (simp only [lenE, markR_len]; omega)) only [runE, mapE, listE, initT_5, initT_6, initT_7, initT_8, resV, oneV, binA, unA, reduceCtorEq, Nat.reduceEqDiff, Nat.reduceAdd, Nat.reduceLT, Nat.reduceLeDiff, Nat.reduceMul, Nat.reduceSub, ↓reduceIte, decide_true, decide_false, Bool.true_eq_false, Bool.false_eq_true, Bool.not_true, Bool.not_false, if_true, if_false, and_true, true_and, memE, celE, w64, Nat.zero_add, Nat.add_zero, Nat.mul_one, putL, and_self, ldn, tm, t0, t4, t5, t9, hl, hlt', i1, f0, f1, g0, g1, r1, r2, bld_pc, bsl_pc, happ]
      have hll := hx.len
      refine ⟨⟨k + 1, _, M.length + 1, by omega, rfl, ((hx.dead hid).one _ _).one _ _, by omega, ?_, ?_, rfl, by simp⟩, ?_⟩
      · rw [strTo_s, pcsC_sS, hC]
        exact OwnB.here (by simp)
      · have hne2 : id ≠ d := fun e => by
          subst e
          have h5 : M[id]? = some (rowB (insA (arrD L) L.length)) := ha
          have h6 : M[id]? = some ⟨.own, 66, pcsC (strTo L k)⟩ := ho
          rw [h5] at h6
          simp [rowB] at h6
        exact ((ha.set_ne hne2).ext _).ext _
      · simp [intOf]; omega
    · have hlt' : ¬ ((k : Int) < L.length) := by omega
      obtain rfl : k = L.length := by omega
      simp (config := {implicitDefEqProofs := false, maxDischargeDepth := 20}) (disch := first | omega | (simp only [lenE]; done) | (simp only [lenE]; omega) | rfl | (simp only [lenE, markR_len]; done) | (simp only [lenE, markR_len]; omega)) only [runE, mapE, listE, initT_5, initT_6, initT_7, initT_8, resV, oneV, binA, unA, reduceCtorEq, Nat.reduceEqDiff, Nat.reduceAdd, Nat.reduceLT, Nat.reduceLeDiff, Nat.reduceMul, Nat.reduceSub, ↓reduceIte, decide_true, decide_false, Bool.true_eq_false, Bool.false_eq_true, Bool.not_true, Bool.not_false, if_true, if_false, and_true, true_and, memE, celE, w64, Nat.zero_add, Nat.add_zero, Nat.mul_one, putL, and_self, ldn, tm, t0, t4, t5, t9, hl, hlt']
      exact ext_pcs (f := fun v => .tuple #[v, .bool true]) hx ho hid (by rw [strTo_len]) (by rw [strTo_len]; omega)
end Go.Proofs.Ytjdallbnbjnghaa.Ab
end
section
namespace Go.Proofs.Ytjdallbnbjnghaa.Ab
open Go Go.RowKit
set_option linter.unusedVariables false
set_option linter.unusedSimpArgs false
def cL (C : Nat → Int) (n : Nat) : List Int := (List.range n).map C
theorem cL_len (C : Nat → Int) (n : Nat) : (cL C n).length = n := by simp [cL]
theorem cL_s (C : Nat → Int) (n : Nat) : cL C (n + 1) = cL C n ++ [C n] := by simp [cL, List.range_succ]
theorem cL_at {C : Nat → Int} {n k : Nat} (h : k < n) : (cL C n).getD k 0 = C k := by simp [cL, List.getD_eq_getElem?_getD, h]
def pstk (start : Int) (P asked : List Int) : Nat → Int
  | 0 => start
  | d + 1 => pstk start P asked d + P.getD d 0 - asked.getD d 0
def pstOk (start : Int) (L : List Pc) (asked : List Int) : Bool := (nearB 200 start && parB L) && numsB asked 20 20
def pstA (start : Int) (L : List Pc) (asked : List Int) : List Int := if pstOk start L asked then cL (fun d => pstk start (arrTo L L.length) asked (d + 1)) asked.length else []
theorem cL_cons (C : Nat → Int) (n : Nat) : cL C (n + 1) = [C 0] ++ cL (fun d => C (d + 1)) n := by
  simp only [cL, List.range_succ_eq_map, List.map_cons, List.map_map]; rfl
theorem getD_bd {l : List Int} {a b : Int} (h : ∀ x ∈ l, a ≤ x ∧ x ≤ b) {i : Nat} (hi : i < l.length) : a ≤ l.getD i 0 ∧ l.getD i 0 ≤ b := by
  rw [List.getD_eq_getElem?_getD, List.getElem?_eq_getElem hi]; exact h _ (List.getElem_mem hi)
theorem pstk_bd {start : Int} {L : List Pc} {asked : List Int} (hs : -200 ≤ start ∧ start ≤ 200) (hG : GoodL L) (ha : ∀ x ∈ asked, 0 ≤ x ∧ x ≤ 20) : ∀ d, d ≤ asked.length → -200 - 20 * (d : Int) ≤ pstk start (arrTo L L.length) asked d ∧ pstk start (arrTo L L.length) asked d ≤ 200 + 480 * (d : Int)
  | 0, _ => by simp only [pstk]; omega
  | d + 1, hd => by
    have ih := pstk_bd hs hG ha d (by omega)
    have h1 := arrTo_bd hG L.length (Nat.le_refl _) d
    have h2 := getD_bd ha (i := d) (by omega)
    have h3 := hG.len
    simp only [pstk]
    omega
theorem courseI_rc (m : Mem) (fv : Value) (C : Nat → Int) (n : Nat) (hn : n ≤ 20) (hf : FunG m fv (fun k : Nat => [.int .i64 (C k), .int .i64 k]) (fun k => k < n) (fun k => .tuple #[.int .i64 (C (k + 1)), .bool true])) :
    RC Try.prog 90 [.int .i64 (C 0), .int .i64 n, fv] m fun r new => NoRo new ∧ ∃ id, r = .tuple #[.slice (some ⟨id, 0, none⟩) (n + 1) 1, .bool true] ∧ m.length ≤ id ∧ OwnR (m ++ new) id (cL C (n + 1)) := by
  refine rc_of_run mixed ok_impl_courseOf (by simp) (go_start _ _ _ ?_)
  obtain ⟨g, cap, rfl, hg⟩ := hf
  simp (config := {implicitDefEqProofs := false, maxDischargeDepth := 20}) (disch := first | omega | (simp only [lenE]; done) | (simp only [lenE]; omega) | rfl | (simp only [lenE, markR_len]; done) | (simp only [lenE, markR_len]; omega)) only [runE, mapE, listE, initT_5, initT_6, initT_7, initT_8, resV, oneV, binA, unA, reduceCtorEq, Nat.reduceEqDiff, Nat.reduceAdd, Nat.reduceLT, Nat.reduceLeDiff, Nat.reduceMul, Nat.reduceSub, ↓reduceIte, decide_true, decide_false, Bool.true_eq_false, Bool.false_eq_true, Bool.not_true, Bool.not_false, if_true, if_false, and_true, true_and, memE, celE, w64, Nat.zero_add, Nat.add_zero, Nat.mul_one, putL, and_self, ldn, c_impl_courseOf, r_impl_courseOf, bsl_one]
  refine loop_inv mixed (fun s => ∃ (k : Nat) (M : Mem) (id : Nat), k ≤ n ∧ s.m = M ∧ Ext m M ∧ OwnR M id (cL C (k + 1)) ∧ m.length ≤ id ∧ s.t 2 = .func (.func g) #[] cap ∧ s.t 8 = .slice (some ⟨id, 0, none⟩) (k + 1) 1 ∧ s.t 14 = .int .i64 n ∧ s.t 15 = .int .i64 k) (fun s => n - (intOf (s.t 15)).toNat)
    ⟨0, _, m.length, by omega, rfl, (Ext.refl m).one _ _, by have := OwnR.at_end (roM m) [C 0]; rwa [roM_len] at this, by omega, rfl, rfl, rfl, rfl⟩ ?_
  rintro s ⟨k, M, id, hk, tm, hx, ho, hid, t2, t8, t14, t15⟩
  by_cases hlt : k < n
  · have hlt' : (k : Int) < n := by omega
    have q1 := iad0 (id := id) (n := k + 1) (fl := 1) (z := (k : Int)) rfl (by omega)
    have q2 := ho.rd' (i := k) (by rw [cL_len]; omega)
    rw [cL_at (by omega)] at q2
    simp (config := {implicitDefEqProofs := false, maxDischargeDepth := 20}) (disch := first | omega | (simp only [lenE]; done) | (simp only [lenE]; omega) | rfl | (simp only [lenE, markR_len]; done) | (simp only [lenE, markR_len]; omega)) only [runE, mapE, listE, initT_5, initT_6, initT_7, initT_8, resV, oneV, binA, unA, reduceCtorEq, Nat.reduceEqDiff, Nat.reduceAdd, Nat.reduceLT, Nat.reduceLeDiff, Nat.reduceMul, Nat.reduceSub, ↓reduceIte, decide_true, decide_false, Bool.true_eq_false, Bool.false_eq_true, Bool.not_true, Bool.not_false, if_true, if_false, and_true, true_and, memE, celE, w64, Nat.zero_add, Nat.add_zero, Nat.mul_one, putL, and_self, ldn, tm, t2, t8, t14, t15, hlt', q1, q2]
    refine callH_rc (hg M hx.keeps k hlt) ?_
    intro r new hA
    obtain ⟨hr, hnn⟩ : r = .tuple #[.int .i64 (C (k + 1)), .bool true] ∧ NoRo new := hA
    subst hr
    obtain ⟨M1, hM1⟩ : ∃ M', M' = M ++ new := ⟨_, rfl⟩
    rw [← hM1]
    have hx1 : Ext m M1 := by rw [hM1]; exact hx.app hnn
    have ho1 : OwnR M1 id (cL C (k + 1)) := by rw [hM1]; exact ho.ext _
    clear hM1
    have hul := cL_len C (k + 1)
    have ha := app_num (x := C (k + 1)) (id2 := M1.length) (n := k + 1) ho1 (by omega) rfl (by omega)
    simp (config := {implicitDefEqProofs := false, maxDischargeDepth := 20}) (disch := first | omega | (simp only [lenE]; done) | (simp only [lenE]; omega) | rfl | (simp only [lenE, markR_len]; done) | (simp only [lenE, markR_len]; omega)) only [runE, mapE, listE, initT_5, initT_6, initT_7, initT_8, resV, oneV, binA, unA, reduceCtorEq, Nat.reduceEqDiff, Nat.reduceAdd, Nat.reduceLT, Nat.reduceLeDiff, Nat.reduceMul, Nat.reduceSub, ↓reduceIte, decide_true, decide_false, Bool.true_eq_false, Bool.false_eq_true, Bool.not_true, Bool.not_false, if_true, if_false, and_true, true_and, memE, celE, w64, Nat.zero_add, Nat.add_zero, Nat.mul_one, putL, and_self, ldn, tm, t2, t8, t14, t15, ext_2_0, ext_2_1, bsl_one, ha]
    refine ⟨⟨k + 1, _, M1.length + 1, by omega, rfl, ((hx1.dead hid).one _ _).one _ _, ?_, by have := hx1.len; omega, rfl, by simp⟩, ?_⟩
    · rw [show cL C (k + 1 + 1) = cL C (k + 1) ++ [C (k + 1)] from cL_s C (k + 1)]
      have := OwnR.at_end (M1.set id deadB ++ [⟨.own, 3, [.int .i64 (C (k + 1))]⟩]) (cL C (k + 1) ++ [C (k + 1)])
      simpa using this
    · simp [intOf]; omega
  · have hlt' : ¬ ((k : Int) < n) := by omega
    obtain rfl : k = n := by omega
    simp (config := {implicitDefEqProofs := false, maxDischargeDepth := 20}) (disch := first | omega | (simp only [lenE]; done) | (simp only [lenE]; omega) | rfl | (simp only [lenE, markR_len]; done) | (simp only [lenE, markR_len]; omega)) only [runE, mapE, listE, initT_5, initT_6, initT_7, initT_8, resV, oneV, binA, unA, reduceCtorEq, Nat.reduceEqDiff, Nat.reduceAdd, Nat.reduceLT, Nat.reduceLeDiff, Nat.reduceMul, Nat.reduceSub, ↓reduceIte, decide_true, decide_false, Bool.true_eq_false, Bool.false_eq_true, Bool.not_true, Bool.not_false, if_true, if_false, and_true, true_and, memE, celE, w64, Nat.zero_add, Nat.add_zero, Nat.mul_one, putL, and_self, ldn, tm, t2, t8, t14, t15, hlt']
    obtain ⟨n0, rfl, h0⟩ := hx
    refine ⟨n0, rfl, h0, h0, id, rfl, hid, ?_⟩
    exact ho.backP hid
theorem stockStep (m : Mem) (b1 b2 : Nat) (pv av : Value) (P asked : List Int) (C : Nat → Int) (n : Nat) (h1 : rdc m b1 0 = some pv) (h2 : rdc m b2 0 = some av) (hp : IntsA m pv P) (ha : IntsA m av asked) (hn : n ≤ asked.length) (hn2 : n ≤ P.length)
    (hC : ∀ k, k < n → C (k + 1) = C k + P.getD k 0 - asked.getD k 0) (hb : ∀ k, k < n → (-100000 ≤ C k ∧ C k ≤ 100000) ∧ (0 ≤ P.getD k 0 ∧ P.getD k 0 ≤ 1000) ∧ (0 ≤ asked.getD k 0 ∧ asked.getD k 0 ≤ 20)) :
    FunG m (.func (.func 91) #[] #[.pointer (some ⟨b1, 0, none⟩), .pointer (some ⟨b2, 0, none⟩)]) (fun k : Nat => [.int .i64 (C k), .int .i64 k]) (fun k => k < n) (fun k => .tuple #[.int .i64 (C (k + 1)), .bool true]) := by
  refine ⟨_, _, rfl, fun M hM k hk => ?_⟩
  refine rc_of_run mixed ok_impl_ParcelStocks_1 (by simp) (go_start _ _ _ ?_)
  have k1 := hM.1 _ _ _ h1
  have k2 := hM.1 _ _ _ h2
  have hpM := (hM.ints hp).ro
  have haM := (hM.ints ha).ro
  obtain ⟨c1, c2, c3⟩ := hb k hk
  have p1 := hpM.at_ k (by omega)
  have p2 := hpM.ld k (by omega)
  have a1 := haM.at_ k (by omega)
  have a2 := haM.ld k (by omega)
  obtain ⟨x, hx⟩ : ∃ x, x = P.getD k 0 := ⟨_, rfl⟩
  obtain ⟨y, hy⟩ : ∃ y, y = asked.getD k 0 := ⟨_, rfl⟩
  rw [← hx] at p2 c2
  rw [← hy] at a2 c3
  have hCk := hC k hk
  rw [← hx, ← hy] at hCk
  simp (config := {implicitDefEqProofs := false, maxDischargeDepth := 20}) (disch := first | omega | (simp only [lenE]; done) | (simp only [lenE]; omega) | rfl | (simp only [lenE, markR_len]; done) | (simp only [lenE, markR_len]; omega)) only [runE, mapE, listE, initT_5, initT_6, initT_7, initT_8, resV, oneV, binA, unA, reduceCtorEq, Nat.reduceEqDiff, Nat.reduceAdd, Nat.reduceLT, Nat.reduceLeDiff, Nat.reduceMul, Nat.reduceSub, ↓reduceIte, decide_true, decide_false, Bool.true_eq_false, Bool.false_eq_true, Bool.not_true, Bool.not_false, if_true, if_false, and_true, true_and, memE, celE, w64, Nat.zero_add, Nat.add_zero, Nat.mul_one, putL, and_self, ldn, c_impl_ParcelStocks_1, r_impl_ParcelStocks_1, rdc_roM, k1, k2, p1, p2, a1, a2]
  exact ext_ansV (Ext.refl M) (by rw [hCk])
end Go.Proofs.Ytjdallbnbjnghaa.Ab
end
section
namespace Go.Proofs.Ytjdallbnbjnghaa.Ab
open Go Go.RowKit
set_option linter.unusedVariables false
set_option linter.unusedSimpArgs false
theorem IntsA.slP {m : Mem} {v : Value} {l : List Int} (h : IntsA m v l) : ∃ A n c, v = .slice A n c := by
  rcases h.form with ⟨rfl, _⟩ | ⟨id, off, fl, rfl⟩ <;> exact ⟨_, _, _, rfl⟩
theorem ext_intsP {m M : Mem} {l : List Int} {id : Nat} {pre : List Int} {fl : Nat} {f : Value → Value} {off n : Nat} (h : Ext m M) (ho : OwnR M id (pre ++ l)) (hid : m.length ≤ id) (hl : l.length ≤ 1048576) (hoff : off = pre.length) (hn : n = l.length) :
    newQ m (AnsO m (IntsP l) f) (f (.slice (some ⟨id, off, none⟩) n fl)) M := by
  subst hoff hn
  exact ext_ansO h fun M' hM => ⟨hl, .inr ⟨id, pre, fl, rfl, hid, ho.lt, ho.at_ (hM _ hid ho.lt)⟩⟩
theorem slc1i {id n fl : Nat} (h : 1 ≤ n) : slcA 1 (.slice (some ⟨id, 0, none⟩) n fl) (some (.int .i64 1)) none = some (.slice (some ⟨id, 1, none⟩) (n - 1) 0) := by
  simp [slcA, boundA, h]
theorem pst_no {start : Int} {L : List Pc} {asked : List Int} (h : pstOk start L asked = false) : pstA start L asked = [] := by unfold pstA; rw [h]; rfl
set_option maxHeartbeats 4000000 in
theorem implParcelStocks_rc (m : Mem) (v av : Value) (start : Int) (L : List Pc) (asked : List Int) (h : PcsA m v L) (hA : IntsA m av asked) :
    RC Try.prog 36 [.int .i64 start, v, av] m (AnsO m (IntsP (pstA start L asked)) fun v => .tuple #[v, .bool (pstOk start L asked)]) := by
  refine rc_of_run mixed ok_impl_ParcelStocks (by simp) (go_start _ _ _ ?_)
  obtain ⟨B, jo, co, rfl⟩ := hA.slP
  have hal := hA.len
  simp (config := {implicitDefEqProofs := false, maxDischargeDepth := 20}) (disch := first | omega | (simp only [lenE]; done) | (simp only [lenE]; omega) | rfl | (simp only [lenE, markR_len]; done) | (simp only [lenE, markR_len]; omega)) only [runE, mapE, listE, initT_5, initT_6, initT_7, initT_8, resV, oneV, binA, unA, reduceCtorEq, Nat.reduceEqDiff, Nat.reduceAdd, Nat.reduceLT, Nat.reduceLeDiff, Nat.reduceMul, Nat.reduceSub, ↓reduceIte, decide_true, decide_false, Bool.true_eq_false, Bool.false_eq_true, Bool.not_true, Bool.not_false, if_true, if_false, and_true, true_and, memE, celE, w64, Nat.zero_add, Nat.add_zero, Nat.mul_one, putL, and_self, ldn, c_impl_ParcelStocks, r_impl_ParcelStocks]
  obtain ⟨E, hE⟩ : ∃ E, E = roM m ++ [⟨.own, 24, [.slice B jo co]⟩] := ⟨_, rfl⟩
  have hX : Ext m E := by rw [hE]; exact (Ext.refl m).one _ _
  have LE : E.length = m.length + 1 := by rw [hE]; simp [roM_len]
  have b2 : OwnB E m.length 24 [.slice B jo co] := by rw [hE]; exact OwnB.here (roM_len m).symm
  try rw [← hE]
  clear hE
  have no : ∀ M, Ext m M → pstOk start L asked = false → newQ m (AnsO m (IntsP (pstA start L asked)) fun v => .tuple #[v, .bool (pstOk start L asked)]) (.tuple #[.slice (some ⟨M.length, 0, none⟩) 0 1, .bool false]) (M ++ [⟨.own, 3, []⟩]) := fun M hM hno => by
    rw [pst_no hno, hno]
    exact ext_intsP (f := fun v => .tuple #[v, .bool false]) (pre := []) (hM.one _ _) (OwnB.here rfl) hM.len (by simp) rfl rfl
  refine callH_rc (isStock_rc _ start) ?_
  rintro r new ⟨rfl, rfl⟩
  rw [List.append_nil]
  cases h1 : nearB 200 start with
  | false =>
    simp (config := {implicitDefEqProofs := false, maxDischargeDepth := 20}) (disch := first | omega | (simp only [lenE]; done) | (simp only [lenE]; omega) | rfl | (simp only [lenE, markR_len]; done) | (simp only [lenE, markR_len]; omega)) only [runE, mapE, listE, initT_5, initT_6, initT_7, initT_8, resV, oneV, binA, unA, reduceCtorEq, Nat.reduceEqDiff, Nat.reduceAdd, Nat.reduceLT, Nat.reduceLeDiff, Nat.reduceMul, Nat.reduceSub, ↓reduceIte, decide_true, decide_false, Bool.true_eq_false, Bool.false_eq_true, Bool.not_true, Bool.not_false, if_true, if_false, and_true, true_and, memE, celE, w64, Nat.zero_add, Nat.add_zero, Nat.mul_one, putL, and_self, ldn, bsl_no]
    exact no _ hX (by simp [pstOk, h1])
  | true =>
  simp (config := {implicitDefEqProofs := false, maxDischargeDepth := 20}) (disch := first | omega | (simp only [lenE]; done) | (simp only [lenE]; omega) | rfl | (simp only [lenE, markR_len]; done) | (simp only [lenE, markR_len]; omega)) only [runE, mapE, listE, initT_5, initT_6, initT_7, initT_8, resV, oneV, binA, unA, reduceCtorEq, Nat.reduceEqDiff, Nat.reduceAdd, Nat.reduceLT, Nat.reduceLeDiff, Nat.reduceMul, Nat.reduceSub, ↓reduceIte, decide_true, decide_false, Bool.true_eq_false, Bool.false_eq_true, Bool.not_true, Bool.not_false, if_true, if_false, and_true, true_and, memE, celE, w64, Nat.zero_add, Nat.add_zero, Nat.mul_one, putL, and_self, ldn]
  refine callH_rc (areParcels_rc _ v L (hX.keeps.pcs h)) ?_
  rintro r n1 ⟨rfl, hn1⟩
  obtain ⟨E1, hE1⟩ : ∃ E1, E1 = E ++ n1 := ⟨_, rfl⟩
  have hX1 : Ext m E1 := by rw [hE1]; exact hX.app hn1
  have b21 : OwnB E1 m.length 24 [.slice B jo co] := by rw [hE1]; exact b2.ext _
  rw [← hE1]
  clear hE1 b2 hX LE
  cases h2 : parB L with
  | false =>
    simp (config := {implicitDefEqProofs := false, maxDischargeDepth := 20}) (disch := first | omega | (simp only [lenE]; done) | (simp only [lenE]; omega) | rfl | (simp only [lenE, markR_len]; done) | (simp only [lenE, markR_len]; omega)) only [runE, mapE, listE, initT_5, initT_6, initT_7, initT_8, resV, oneV, binA, unA, reduceCtorEq, Nat.reduceEqDiff, Nat.reduceAdd, Nat.reduceLT, Nat.reduceLeDiff, Nat.reduceMul, Nat.reduceSub, ↓reduceIte, decide_true, decide_false, Bool.true_eq_false, Bool.false_eq_true, Bool.not_true, Bool.not_false, if_true, if_false, and_true, true_and, memE, celE, w64, Nat.zero_add, Nat.add_zero, Nat.mul_one, putL, and_self, ldn, bsl_no]
    exact no _ hX1 (by simp [pstOk, h2])
  | true =>
  simp (config := {implicitDefEqProofs := false, maxDischargeDepth := 20}) (disch := first | omega | (simp only [lenE]; done) | (simp only [lenE]; omega) | rfl | (simp only [lenE, markR_len]; done) | (simp only [lenE, markR_len]; omega)) only [runE, mapE, listE, initT_5, initT_6, initT_7, initT_8, resV, oneV, binA, unA, reduceCtorEq, Nat.reduceEqDiff, Nat.reduceAdd, Nat.reduceLT, Nat.reduceLeDiff, Nat.reduceMul, Nat.reduceSub, ↓reduceIte, decide_true, decide_false, Bool.true_eq_false, Bool.false_eq_true, Bool.not_true, Bool.not_false, if_true, if_false, and_true, true_and, memE, celE, w64, Nat.zero_add, Nat.add_zero, Nat.mul_one, putL, and_self, ldn, b21.mk1']
  refine callH_rc (areAsked_rc _ _ asked (hX1.keeps.ints hA)) ?_
  rintro r n2 ⟨rfl, hn2⟩
  obtain ⟨E2, hE2⟩ : ∃ E2, E2 = E1 ++ n2 := ⟨_, rfl⟩
  have hX2 : Ext m E2 := by rw [hE2]; exact hX1.app hn2
  have b22 : OwnB E2 m.length 24 [.slice B jo co] := by rw [hE2]; exact b21.ext _
  rw [← hE2]
  clear hE2 b21
  cases h3 : numsB asked 20 20 with
  | false =>
    simp (config := {implicitDefEqProofs := false, maxDischargeDepth := 20}) (disch := first | omega | (simp only [lenE]; done) | (simp only [lenE]; omega) | rfl | (simp only [lenE, markR_len]; done) | (simp only [lenE, markR_len]; omega)) only [runE, mapE, listE, initT_5, initT_6, initT_7, initT_8, resV, oneV, binA, unA, reduceCtorEq, Nat.reduceEqDiff, Nat.reduceAdd, Nat.reduceLT, Nat.reduceLeDiff, Nat.reduceMul, Nat.reduceSub, ↓reduceIte, decide_true, decide_false, Bool.true_eq_false, Bool.false_eq_true, Bool.not_true, Bool.not_false, if_true, if_false, and_true, true_and, memE, celE, w64, Nat.zero_add, Nat.add_zero, Nat.mul_one, putL, and_self, ldn, bsl_no]
    exact no _ hX2 (by simp [pstOk, h3])
  | true =>
  have hok : pstOk start L asked = true := by simp [pstOk, h1, h2, h3]
  have hG := parB_iff.1 h2
  have hs := nearB_iff.1 h1
  obtain ⟨ha20, haB⟩ := numsB_iff.1 h3
  have ePA : pstA start L asked = cL (fun d => pstk start (arrTo L L.length) asked (d + 1)) asked.length := by unfold pstA; rw [hok]; rfl
  rw [ePA, hok]
  simp (config := {implicitDefEqProofs := false, maxDischargeDepth := 20}) (disch := first | omega | (simp only [lenE]; done) | (simp only [lenE]; omega) | rfl | (simp only [lenE, markR_len]; done) | (simp only [lenE, markR_len]; omega)) only [runE, mapE, listE, initT_5, initT_6, initT_7, initT_8, resV, oneV, binA, unA, reduceCtorEq, Nat.reduceEqDiff, Nat.reduceAdd, Nat.reduceLT, Nat.reduceLeDiff, Nat.reduceMul, Nat.reduceSub, ↓reduceIte, decide_true, decide_false, Bool.true_eq_false, Bool.false_eq_true, Bool.not_true, Bool.not_false, if_true, if_false, and_true, true_and, memE, celE, w64, Nat.zero_add, Nat.add_zero, Nat.mul_one, putL, and_self, ldn]
  refine callH_rc (arrivalsOf_rc _ v L (hX2.keeps.pcs h) hG) ?_
  rintro r n3 hR
  obtain ⟨pid, pfl, rfl, hpid, hpo, hpl, hn3⟩ := hR.row
  obtain ⟨E3, hE3⟩ : ∃ E3, E3 = E2 ++ n3 := ⟨_, rfl⟩
  have hX3 : Ext m E3 := by rw [hE3]; exact hX2.app hn3
  have b23 : OwnB E3 m.length 24 [.slice B jo co] := by rw [hE3]; exact b22.ext _
  rw [← hE3] at hpo ⊢
  clear hE3 b22
  have hal24 := arrTo_len L L.length
  have hLm := hX3.len
  simp (config := {implicitDefEqProofs := false, maxDischargeDepth := 20}) (disch := first | omega | (simp only [lenE]; done) | (simp only [lenE]; omega) | rfl | (simp only [lenE, markR_len]; done) | (simp only [lenE, markR_len]; omega)) only [runE, mapE, listE, initT_5, initT_6, initT_7, initT_8, resV, oneV, binA, unA, reduceCtorEq, Nat.reduceEqDiff, Nat.reduceAdd, Nat.reduceLT, Nat.reduceLeDiff, Nat.reduceMul, Nat.reduceSub, ↓reduceIte, decide_true, decide_false, Bool.true_eq_false, Bool.false_eq_true, Bool.not_true, Bool.not_false, if_true, if_false, and_true, true_and, memE, celE, w64, Nat.zero_add, Nat.add_zero, Nat.mul_one, putL, and_self, ldn]
  obtain ⟨E4, hE4⟩ : ∃ E4, E4 = E3 ++ [⟨.own, 24, [.slice (some ⟨pid, 0, none⟩) (arrTo L L.length).length pfl]⟩] := ⟨_, rfl⟩
  have hX4 : Ext m E4 := by rw [hE4]; exact hX3.one _ _
  have b24 : OwnB E4 m.length 24 [.slice B jo co] := by rw [hE4]; exact b23.ext _
  have b14 : OwnB E4 E3.length 24 [.slice (some ⟨pid, 0, none⟩) (arrTo L L.length).length pfl] := by rw [hE4]; exact OwnB.here rfl
  have hp4 : IntsA E4 (.slice (some ⟨pid, 0, none⟩) (arrTo L L.length).length pfl) (arrTo L L.length) := by rw [hE4]; exact (hpo.ints (by omega) pfl).ext _
  try rw [← hE4]
  clear hE4
  have ha4 := hX4.keeps.ints hA
  try simp (config := {implicitDefEqProofs := false, maxDischargeDepth := 20}) (disch := first | omega | (simp only [lenE]; done) | (simp only [lenE]; omega) | rfl | (simp only [lenE, markR_len]; done) | (simp only [lenE, markR_len]; omega)) only [runE, mapE, listE, initT_5, initT_6, initT_7, initT_8, resV, oneV, binA, unA, reduceCtorEq, Nat.reduceEqDiff, Nat.reduceAdd, Nat.reduceLT, Nat.reduceLeDiff, Nat.reduceMul, Nat.reduceSub, ↓reduceIte, decide_true, decide_false, Bool.true_eq_false, Bool.false_eq_true, Bool.not_true, Bool.not_false, if_true, if_false, and_true, true_and, memE, celE, w64, Nat.zero_add, Nat.add_zero, Nat.mul_one, putL, and_self, ldn, b24.mk1', hal]
  refine callH_rc (courseI_rc _ _ (pstk start (arrTo L L.length) asked) asked.length ha20 (stockStep E4 E3.length m.length _ _ (arrTo L L.length) asked _ _ b14.mk1' b24.mk1' hp4 ha4 (Nat.le_refl _) (by omega) (fun k hk => rfl) (fun k hk => ?_))) ?_
  · have := pstk_bd hs hG haB k (by omega)
    have h5 := arrTo_bd hG L.length (Nat.le_refl _) k
    have h6 := getD_bd haB hk
    have h7 := hG.len
    exact ⟨⟨by omega, by omega⟩, ⟨by omega, by omega⟩, h6⟩
  · rintro r n5 ⟨hn5, id, rfl, hid, ho⟩
    have hX5 := hX4.app hn5
    have hL4 := hX4.len
    simp (config := {implicitDefEqProofs := false, maxDischargeDepth := 20}) (disch := first | omega | (simp only [lenE]; done) | (simp only [lenE]; omega) | rfl | (simp only [lenE, markR_len]; done) | (simp only [lenE, markR_len]; omega)) only [runE, mapE, listE, initT_5, initT_6, initT_7, initT_8, resV, oneV, binA, unA, reduceCtorEq, Nat.reduceEqDiff, Nat.reduceAdd, Nat.reduceLT, Nat.reduceLeDiff, Nat.reduceMul, Nat.reduceSub, ↓reduceIte, decide_true, decide_false, Bool.true_eq_false, Bool.false_eq_true, Bool.not_true, Bool.not_false, if_true, if_false, and_true, true_and, memE, celE, w64, Nat.zero_add, Nat.add_zero, Nat.mul_one, putL, and_self, ldn, ext_2_0, ext_2_1, slc1i (id := id) (n := asked.length + 1) (fl := 1) (by omega), Option.map_none]
    rw [cL_cons] at ho
    exact ext_intsP (f := fun v => .tuple #[v, .bool true]) (pre := [pstk start (arrTo L L.length) asked 0]) hX5 ho (by omega) (by rw [cL_len]; omega) rfl (by rw [cL_len]; omega)
set_option maxHeartbeats 4000000 in
theorem specParcelStocks_rc (m : Mem) (v av : Value) (start : Int) (L : List Pc) (asked : List Int) (h : PcsA m v L) (hA : IntsA m av asked) :
    RC Try.prog 37 [.int .i64 start, v, av] m (AnsO m (IntsP (pstA start L asked)) fun v => .tuple #[v, .bool (pstOk start L asked)]) := by
  refine rc_of_run mixed ok_spec_ParcelStocks (by simp) (go_start _ _ _ ?_)
  have hal := hA.len
  simp (config := {implicitDefEqProofs := false, maxDischargeDepth := 20}) (disch := first | omega | (simp only [lenE]; done) | (simp only [lenE]; omega) | rfl | (simp only [lenE, markR_len]; done) | (simp only [lenE, markR_len]; omega)) only [runE, mapE, listE, initT_5, initT_6, initT_7, initT_8, resV, oneV, binA, unA, reduceCtorEq, Nat.reduceEqDiff, Nat.reduceAdd, Nat.reduceLT, Nat.reduceLeDiff, Nat.reduceMul, Nat.reduceSub, ↓reduceIte, decide_true, decide_false, Bool.true_eq_false, Bool.false_eq_true, Bool.not_true, Bool.not_false, if_true, if_false, and_true, true_and, memE, celE, w64, Nat.zero_add, Nat.add_zero, Nat.mul_one, putL, and_self, ldn, c_spec_ParcelStocks, r_spec_ParcelStocks, bsl_no]
  obtain ⟨E, hE⟩ : ∃ E, E = roM m ++ [⟨.own, 3, []⟩] := ⟨_, rfl⟩
  have hX : Ext m E := by rw [hE]; exact (Ext.refl m).one _ _
  have o1 : OwnR E m.length [] := by rw [hE]; exact OwnB.here (roM_len m).symm
  try rw [← hE]
  clear hE
  have no : ∀ M, Ext m M → OwnR M m.length [] → pstOk start L asked = false → newQ m (AnsO m (IntsP (pstA start L asked)) fun v => .tuple #[v, .bool (pstOk start L asked)]) (.tuple #[.slice (some ⟨m.length, 0, none⟩) 0 1, .bool false]) M := fun M hM ho hno => by
    rw [pst_no hno, hno]
    exact ext_intsP (f := fun v => .tuple #[v, .bool false]) (pre := []) hM ho (Nat.le_refl _) (by simp) rfl rfl
  refine callH_rc (in11_rc _ start) ?_
  rintro r new ⟨rfl, rfl⟩
  rw [List.append_nil]
  cases h1 : nearB 200 start with
  | false =>
    simp (config := {implicitDefEqProofs := false, maxDischargeDepth := 20}) (disch := first | omega | (simp only [lenE]; done) | (simp only [lenE]; omega) | rfl | (simp only [lenE, markR_len]; done) | (simp only [lenE, markR_len]; omega)) only [runE, mapE, listE, initT_5, initT_6, initT_7, initT_8, resV, oneV, binA, unA, reduceCtorEq, Nat.reduceEqDiff, Nat.reduceAdd, Nat.reduceLT, Nat.reduceLeDiff, Nat.reduceMul, Nat.reduceSub, ↓reduceIte, decide_true, decide_false, Bool.true_eq_false, Bool.false_eq_true, Bool.not_true, Bool.not_false, if_true, if_false, and_true, true_and, memE, celE, w64, Nat.zero_add, Nat.add_zero, Nat.mul_one, putL, and_self, ldn]
    exact no _ hX o1 (by simp [pstOk, h1])
  | true =>
  simp (config := {implicitDefEqProofs := false, maxDischargeDepth := 20}) (disch := first | omega | (simp only [lenE]; done) | (simp only [lenE]; omega) | rfl | (simp only [lenE, markR_len]; done) | (simp only [lenE, markR_len]; omega)) only [runE, mapE, listE, initT_5, initT_6, initT_7, initT_8, resV, oneV, binA, unA, reduceCtorEq, Nat.reduceEqDiff, Nat.reduceAdd, Nat.reduceLT, Nat.reduceLeDiff, Nat.reduceMul, Nat.reduceSub, ↓reduceIte, decide_true, decide_false, Bool.true_eq_false, Bool.false_eq_true, Bool.not_true, Bool.not_false, if_true, if_false, and_true, true_and, memE, celE, w64, Nat.zero_add, Nat.add_zero, Nat.mul_one, putL, and_self, ldn]
  refine callH_rc (l11Parcels_rc _ v L (hX.keeps.pcs h)) ?_
  rintro r n1 ⟨rfl, hn1⟩
  obtain ⟨E1, hE1⟩ : ∃ E1, E1 = E ++ n1 := ⟨_, rfl⟩
  have hX1 : Ext m E1 := by rw [hE1]; exact hX.app hn1
  have o2 : OwnR E1 m.length [] := by rw [hE1]; exact o1.ext _
  rw [← hE1]
  clear hE1 o1 hX
  cases h2 : parB L with
  | false =>
    simp (config := {implicitDefEqProofs := false, maxDischargeDepth := 20}) (disch := first | omega | (simp only [lenE]; done) | (simp only [lenE]; omega) | rfl | (simp only [lenE, markR_len]; done) | (simp only [lenE, markR_len]; omega)) only [runE, mapE, listE, initT_5, initT_6, initT_7, initT_8, resV, oneV, binA, unA, reduceCtorEq, Nat.reduceEqDiff, Nat.reduceAdd, Nat.reduceLT, Nat.reduceLeDiff, Nat.reduceMul, Nat.reduceSub, ↓reduceIte, decide_true, decide_false, Bool.true_eq_false, Bool.false_eq_true, Bool.not_true, Bool.not_false, if_true, if_false, and_true, true_and, memE, celE, w64, Nat.zero_add, Nat.add_zero, Nat.mul_one, putL, and_self, ldn]
    exact no _ hX1 o2 (by simp [pstOk, h2])
  | true =>
  simp (config := {implicitDefEqProofs := false, maxDischargeDepth := 20}) (disch := first | omega | (simp only [lenE]; done) | (simp only [lenE]; omega) | rfl | (simp only [lenE, markR_len]; done) | (simp only [lenE, markR_len]; omega)) only [runE, mapE, listE, initT_5, initT_6, initT_7, initT_8, resV, oneV, binA, unA, reduceCtorEq, Nat.reduceEqDiff, Nat.reduceAdd, Nat.reduceLT, Nat.reduceLeDiff, Nat.reduceMul, Nat.reduceSub, ↓reduceIte, decide_true, decide_false, Bool.true_eq_false, Bool.false_eq_true, Bool.not_true, Bool.not_false, if_true, if_false, and_true, true_and, memE, celE, w64, Nat.zero_add, Nat.add_zero, Nat.mul_one, putL, and_self, ldn]
  refine callH_rc (l11Numbers_rc _ av asked 20 20 20 rfl (hX1.keeps.ints hA)) ?_
  rintro r new ⟨rfl, rfl⟩
  rw [List.append_nil]
  cases h3 : numsB asked 20 20 with
  | false =>
    simp (config := {implicitDefEqProofs := false, maxDischargeDepth := 20}) (disch := first | omega | (simp only [lenE]; done) | (simp only [lenE]; omega) | rfl | (simp only [lenE, markR_len]; done) | (simp only [lenE, markR_len]; omega)) only [runE, mapE, listE, initT_5, initT_6, initT_7, initT_8, resV, oneV, binA, unA, reduceCtorEq, Nat.reduceEqDiff, Nat.reduceAdd, Nat.reduceLT, Nat.reduceLeDiff, Nat.reduceMul, Nat.reduceSub, ↓reduceIte, decide_true, decide_false, Bool.true_eq_false, Bool.false_eq_true, Bool.not_true, Bool.not_false, if_true, if_false, and_true, true_and, memE, celE, w64, Nat.zero_add, Nat.add_zero, Nat.mul_one, putL, and_self, ldn]
    exact no _ hX1 o2 (by simp [pstOk, h3])
  | true =>
  have hok : pstOk start L asked = true := by simp [pstOk, h1, h2, h3]
  have hG := parB_iff.1 h2
  have hs := nearB_iff.1 h1
  obtain ⟨ha20, haB⟩ := numsB_iff.1 h3
  have ePA : pstA start L asked = cL (fun d => pstk start (arrTo L L.length) asked (d + 1)) asked.length := by unfold pstA; rw [hok]; rfl
  rw [ePA, hok]
  simp (config := {implicitDefEqProofs := false, maxDischargeDepth := 20}) (disch := first | omega | (simp only [lenE]; done) | (simp only [lenE]; omega) | rfl | (simp only [lenE, markR_len]; done) | (simp only [lenE, markR_len]; omega)) only [runE, mapE, listE, initT_5, initT_6, initT_7, initT_8, resV, oneV, binA, unA, reduceCtorEq, Nat.reduceEqDiff, Nat.reduceAdd, Nat.reduceLT, Nat.reduceLeDiff, Nat.reduceMul, Nat.reduceSub, ↓reduceIte, decide_true, decide_false, Bool.true_eq_false, Bool.false_eq_true, Bool.not_true, Bool.not_false, if_true, if_false, and_true, true_and, memE, celE, w64, Nat.zero_add, Nat.add_zero, Nat.mul_one, putL, and_self, ldn]
  refine callH_rc (l11Arrivals_rc _ v L (hX1.keeps.pcs h) hG) ?_
  rintro r n3 hR
  obtain ⟨pid, pfl, rfl, hpid, hpo, hpl, hn3⟩ := hR.row
  obtain ⟨E3, hE3⟩ : ∃ E3, E3 = E1 ++ n3 := ⟨_, rfl⟩
  have hX3 : Ext m E3 := by rw [hE3]; exact hX1.app hn3
  have o3 : OwnR E3 m.length [] := by rw [hE3]; exact o2.ext _
  have hL1 := hX1.len
  have hmp : m.length < pid := by have := o2.lt; omega
  rw [← hE3] at hpo ⊢
  clear hE3 o2
  have hal24 := arrTo_len L L.length
  obtain ⟨C, hC⟩ : ∃ C, C = fun d => pstk start (arrTo L L.length) asked (d + 1) := ⟨_, rfl⟩
  rw [← hC]
  simp (config := {implicitDefEqProofs := false, maxDischargeDepth := 20}) (disch := first | omega | (simp only [lenE]; done) | (simp only [lenE]; omega) | rfl | (simp only [lenE, markR_len]; done) | (simp only [lenE, markR_len]; omega)) only [runE, mapE, listE, initT_5, initT_6, initT_7, initT_8, resV, oneV, binA, unA, reduceCtorEq, Nat.reduceEqDiff, Nat.reduceAdd, Nat.reduceLT, Nat.reduceLeDiff, Nat.reduceMul, Nat.reduceSub, ↓reduceIte, decide_true, decide_false, Bool.true_eq_false, Bool.false_eq_true, Bool.not_true, Bool.not_false, if_true, if_false, and_true, true_and, memE, celE, w64, Nat.zero_add, Nat.add_zero, Nat.mul_one, putL, and_self, ldn]
  refine loop_inv mixed (fun s => ∃ (k : Nat) (M : Mem) (id : Nat), k ≤ asked.length ∧ s.m = M ∧ Ext m M ∧ OwnR M id (cL C k) ∧ m.length ≤ id ∧ id ≠ pid ∧ OwnR M pid (arrTo L L.length) ∧ s.t 2 = av ∧ s.t 8 = .slice (some ⟨id, 0, none⟩) k 1 ∧ s.t 9 = .slice (some ⟨pid, 0, none⟩) (arrTo L L.length).length pfl ∧ s.t 10 = .int .i64 (pstk start (arrTo L L.length) asked k) ∧ s.t 11 = .int .i64 k) (fun s => asked.length - (intOf (s.t 11)).toNat)
    ⟨0, _, m.length, by omega, rfl, hX3, o3, Nat.le_refl _, by omega, hpo, rfl, rfl, rfl, rfl, rfl⟩ ?_
  rintro s ⟨k, M, id, hk, tm, hx, ho, hid, hne, hp, t2, t8, t9, t10, t11⟩
  have haM := hx.keeps.ints hA
  by_cases hlt : k < asked.length
  · have hlt' : (k : Int) < asked.length := by omega
    have q1 := iad0 (id := pid) (n := (arrTo L L.length).length) (fl := pfl) (z := (k : Int)) rfl (by omega)
    have q2 := hp.rd' (i := k) (by omega)
    have a1 := haM.at_ k hlt
    have a2 := haM.ld k hlt
    have c1 := pstk_bd hs hG haB k (by omega)
    have c2 := arrTo_bd hG L.length (Nat.le_refl _) k
    have c3 := getD_bd haB hlt
    have c4 := hG.len
    have hul := cL_len C k
    have eC : pstk start (arrTo L L.length) asked k + (arrTo L L.length).getD k 0 - asked.getD k 0 = C k := by rw [hC]; rfl
    have ha := app_num (x := C k) (id2 := M.length) (n := k) ho (by omega) rfl hul.symm
    simp (config := {implicitDefEqProofs := false, maxDischargeDepth := 20}) (disch := first | omega | (simp only [lenE]; done) | (simp only [lenE]; omega) | rfl | (simp only [lenE, markR_len]; done) | (simp only [lenE, markR_len]; omega)) only [runE, mapE, listE, initT_5, initT_6, initT_7, initT_8, resV, oneV, binA, unA, reduceCtorEq, Nat.reduceEqDiff, Nat.reduceAdd, Nat.reduceLT, Nat.reduceLeDiff, Nat.reduceMul, Nat.reduceSub, ↓reduceIte, decide_true, decide_false, Bool.true_eq_false, Bool.false_eq_true, Bool.not_true, Bool.not_false, if_true, if_false, and_true, true_and, memE, celE, w64, Nat.zero_add, Nat.add_zero, Nat.mul_one, putL, and_self, ldn, tm, t2, t8, t9, t10, t11, hal, hlt', q1, q2, a1, a2, eC, bsl_one, ha]
    refine ⟨⟨k + 1, _, M.length + 1, by omega, rfl, ((hx.dead hid).one _ _).one _ _, ?_, by have := hx.len; omega, ?_, ?_, rfl, ?_⟩, ?_⟩
    · rw [cL_s]
      have := OwnR.at_end (M.set id deadB ++ [⟨.own, 3, [.int .i64 (C k)]⟩]) (cL C k ++ [C k])
      simpa using this
    · have := hp.lt; omega
    · exact ((hp.set_ne hne).ext _).ext _
    · rw [hC]; simp
    · simp [intOf]; omega
  · have hlt' : ¬ ((k : Int) < asked.length) := by omega
    obtain rfl : k = asked.length := by omega
    simp (config := {implicitDefEqProofs := false, maxDischargeDepth := 20}) (disch := first | omega | (simp only [lenE]; done) | (simp only [lenE]; omega) | rfl | (simp only [lenE, markR_len]; done) | (simp only [lenE, markR_len]; omega)) only [runE, mapE, listE, initT_5, initT_6, initT_7, initT_8, resV, oneV, binA, unA, reduceCtorEq, Nat.reduceEqDiff, Nat.reduceAdd, Nat.reduceLT, Nat.reduceLeDiff, Nat.reduceMul, Nat.reduceSub, ↓reduceIte, decide_true, decide_false, Bool.true_eq_false, Bool.false_eq_true, Bool.not_true, Bool.not_false, if_true, if_false, and_true, true_and, memE, celE, w64, Nat.zero_add, Nat.add_zero, Nat.mul_one, putL, and_self, ldn, tm, t2, t8, t9, t10, t11, hal, hlt']
    exact ext_intsP (f := fun v => .tuple #[v, .bool true]) (pre := []) hx ho hid (by rw [cL_len]; omega) rfl (by rw [cL_len])
end Go.Proofs.Ytjdallbnbjnghaa.Ab
end
section
namespace Go.Proofs.Ytjdallbnbjnghaa.Ab
open Go Go.RowKit
set_option linter.unusedVariables false
set_option linter.unusedSimpArgs false
theorem specArrivalsOf_rc (m : Mem) (v : Value) (L : List Pc) (h : PcsA m v L) : RC Try.prog 45 [v] m (AnsO m (IntsO (arrA L)) fun v => .tuple #[v, .bool (parB L)]) := by
  refine (?_ : RC Try.prog 45 [v] m (AnsL m (arrA L) (parB L))).mono fun r new h => h.obj
  refine rc_of_run mixed ok_spec_ArrivalsOf (by simp) (go_start _ _ _ ?_)
  simp (config := {implicitDefEqProofs := false, maxDischargeDepth := 20}) (disch := first | omega | (simp only [lenE]; done) | (simp only [lenE]; omega) | rfl | (simp only [lenE, markR_len]; done) | (simp only [lenE, markR_len]; omega)) only [runE, mapE, listE, initT_5, initT_6, initT_7, initT_8, resV, oneV, binA, unA, reduceCtorEq, Nat.reduceEqDiff, Nat.reduceAdd, Nat.reduceLT, Nat.reduceLeDiff, Nat.reduceMul, Nat.reduceSub, ↓reduceIte, decide_true, decide_false, Bool.true_eq_false, Bool.false_eq_true, Bool.not_true, Bool.not_false, if_true, if_false, and_true, true_and, memE, celE, w64, Nat.zero_add, Nat.add_zero, Nat.mul_one, putL, and_self, ldn, c_spec_ArrivalsOf, r_spec_ArrivalsOf]
  refine callH_rc (l11Parcels_rc _ v L h.ro) ?_
  rintro r n1 ⟨rfl, hn1⟩
  have hX := (Ext.refl m).app hn1
  obtain ⟨E0, hE0⟩ : ∃ E0, E0 = roM m ++ n1 := ⟨_, rfl⟩
  rw [← hE0] at hX ⊢
  clear hE0
  unfold arrA
  cases hp : parB L with
  | false =>
    simp (config := {implicitDefEqProofs := false, maxDischargeDepth := 20}) (disch := first | omega | (simp only [lenE]; done) | (simp only [lenE]; omega) | rfl | (simp only [lenE, markR_len]; done) | (simp only [lenE, markR_len]; omega)) only [runE, mapE, listE, initT_5, initT_6, initT_7, initT_8, resV, oneV, binA, unA, reduceCtorEq, Nat.reduceEqDiff, Nat.reduceAdd, Nat.reduceLT, Nat.reduceLeDiff, Nat.reduceMul, Nat.reduceSub, ↓reduceIte, decide_true, decide_false, Bool.true_eq_false, Bool.false_eq_true, Bool.not_true, Bool.not_false, if_true, if_false, and_true, true_and, memE, celE, w64, Nat.zero_add, Nat.add_zero, Nat.mul_one, putL, and_self, ldn, bsl_no]
    exact ext_ansL (hX.one _ _) (OwnB.here rfl) hX.len rfl (by simp)
  | true =>
    simp (config := {implicitDefEqProofs := false, maxDischargeDepth := 20}) (disch := first | omega | (simp only [lenE]; done) | (simp only [lenE]; omega) | rfl | (simp only [lenE, markR_len]; done) | (simp only [lenE, markR_len]; omega)) only [runE, mapE, listE, initT_5, initT_6, initT_7, initT_8, resV, oneV, binA, unA, reduceCtorEq, Nat.reduceEqDiff, Nat.reduceAdd, Nat.reduceLT, Nat.reduceLeDiff, Nat.reduceMul, Nat.reduceSub, ↓reduceIte, decide_true, decide_false, Bool.true_eq_false, Bool.false_eq_true, Bool.not_true, Bool.not_false, if_true, if_false, and_true, true_and, memE, celE, w64, Nat.zero_add, Nat.add_zero, Nat.mul_one, putL, and_self, ldn]
    refine callH_rc (l11Arrivals_rc _ v L (hX.keeps.pcs h) (parB_iff.1 hp)) ?_
    rintro r n2 hA
    obtain ⟨id, fl, rfl, hid, ho, hl, hn2⟩ := hA.row
    simp (config := {implicitDefEqProofs := false, maxDischargeDepth := 20}) (disch := first | omega | (simp only [lenE]; done) | (simp only [lenE]; omega) | rfl | (simp only [lenE, markR_len]; done) | (simp only [lenE, markR_len]; omega)) only [runE, mapE, listE, initT_5, initT_6, initT_7, initT_8, resV, oneV, binA, unA, reduceCtorEq, Nat.reduceEqDiff, Nat.reduceAdd, Nat.reduceLT, Nat.reduceLeDiff, Nat.reduceMul, Nat.reduceSub, ↓reduceIte, decide_true, decide_false, Bool.true_eq_false, Bool.false_eq_true, Bool.not_true, Bool.not_false, if_true, if_false, and_true, true_and, memE, celE, w64, Nat.zero_add, Nat.add_zero, Nat.mul_one, putL, and_self, ldn]
    exact ext_ansL (hX.app hn2) ho (by have := hX.len; omega) rfl hl
theorem implArrivalsOf_rc (m : Mem) (v : Value) (L : List Pc) (h : PcsA m v L) : RC Try.prog 44 [v] m (AnsO m (IntsO (arrA L)) fun v => .tuple #[v, .bool (parB L)]) := by
  refine (?_ : RC Try.prog 44 [v] m (AnsL m (arrA L) (parB L))).mono fun r new h => h.obj
  refine rc_of_run mixed ok_impl_ArrivalsOf (by simp) (go_start _ _ _ ?_)
  simp (config := {implicitDefEqProofs := false, maxDischargeDepth := 20}) (disch := first | omega | (simp only [lenE]; done) | (simp only [lenE]; omega) | rfl | (simp only [lenE, markR_len]; done) | (simp only [lenE, markR_len]; omega)) only [runE, mapE, listE, initT_5, initT_6, initT_7, initT_8, resV, oneV, binA, unA, reduceCtorEq, Nat.reduceEqDiff, Nat.reduceAdd, Nat.reduceLT, Nat.reduceLeDiff, Nat.reduceMul, Nat.reduceSub, ↓reduceIte, decide_true, decide_false, Bool.true_eq_false, Bool.false_eq_true, Bool.not_true, Bool.not_false, if_true, if_false, and_true, true_and, memE, celE, w64, Nat.zero_add, Nat.add_zero, Nat.mul_one, putL, and_self, ldn, c_impl_ArrivalsOf, r_impl_ArrivalsOf]
  refine callH_rc (areParcels_rc _ v L h.ro) ?_
  rintro r n1 ⟨rfl, hn1⟩
  have hX := (Ext.refl m).app hn1
  obtain ⟨E0, hE0⟩ : ∃ E0, E0 = roM m ++ n1 := ⟨_, rfl⟩
  rw [← hE0] at hX ⊢
  clear hE0
  unfold arrA
  cases hp : parB L with
  | false =>
    simp (config := {implicitDefEqProofs := false, maxDischargeDepth := 20}) (disch := first | omega | (simp only [lenE]; done) | (simp only [lenE]; omega) | rfl | (simp only [lenE, markR_len]; done) | (simp only [lenE, markR_len]; omega)) only [runE, mapE, listE, initT_5, initT_6, initT_7, initT_8, resV, oneV, binA, unA, reduceCtorEq, Nat.reduceEqDiff, Nat.reduceAdd, Nat.reduceLT, Nat.reduceLeDiff, Nat.reduceMul, Nat.reduceSub, ↓reduceIte, decide_true, decide_false, Bool.true_eq_false, Bool.false_eq_true, Bool.not_true, Bool.not_false, if_true, if_false, and_true, true_and, memE, celE, w64, Nat.zero_add, Nat.add_zero, Nat.mul_one, putL, and_self, ldn, bsl_no]
    exact ext_ansL (hX.one _ _) (OwnB.here rfl) hX.len rfl (by simp)
  | true =>
    simp (config := {implicitDefEqProofs := false, maxDischargeDepth := 20}) (disch := first | omega | (simp only [lenE]; done) | (simp only [lenE]; omega) | rfl | (simp only [lenE, markR_len]; done) | (simp only [lenE, markR_len]; omega)) only [runE, mapE, listE, initT_5, initT_6, initT_7, initT_8, resV, oneV, binA, unA, reduceCtorEq, Nat.reduceEqDiff, Nat.reduceAdd, Nat.reduceLT, Nat.reduceLeDiff, Nat.reduceMul, Nat.reduceSub, ↓reduceIte, decide_true, decide_false, Bool.true_eq_false, Bool.false_eq_true, Bool.not_true, Bool.not_false, if_true, if_false, and_true, true_and, memE, celE, w64, Nat.zero_add, Nat.add_zero, Nat.mul_one, putL, and_self, ldn]
    refine callH_rc (arrivalsOf_rc _ v L (hX.keeps.pcs h) (parB_iff.1 hp)) ?_
    rintro r n2 hA
    obtain ⟨id, fl, rfl, hid, ho, hl, hn2⟩ := hA.row
    simp (config := {implicitDefEqProofs := false, maxDischargeDepth := 20}) (disch := first | omega | (simp only [lenE]; done) | (simp only [lenE]; omega) | rfl | (simp only [lenE, markR_len]; done) | (simp only [lenE, markR_len]; omega)) only [runE, mapE, listE, initT_5, initT_6, initT_7, initT_8, resV, oneV, binA, unA, reduceCtorEq, Nat.reduceEqDiff, Nat.reduceAdd, Nat.reduceLT, Nat.reduceLeDiff, Nat.reduceMul, Nat.reduceSub, ↓reduceIte, decide_true, decide_false, Bool.true_eq_false, Bool.false_eq_true, Bool.not_true, Bool.not_false, if_true, if_false, and_true, true_and, memE, celE, w64, Nat.zero_add, Nat.add_zero, Nat.mul_one, putL, and_self, ldn]
    exact ext_ansL (hX.app hn2) ho (by have := hX.len; omega) rfl hl
def crossB (p q : Pc) : Bool := decide (p.day < q.day) && decide (q.day + q.lead < p.day + p.lead)
def xIn (L : List Pc) (i : Nat) : Nat → List (Int × Int)
  | 0 => []
  | j + 1 => xIn L i j ++ (if crossB (L.getD i Pc0) (L.getD j Pc0) = true then [((i : Int), (j : Int))] else [])
def xTo (L : List Pc) : Nat → List (Int × Int)
  | 0 => []
  | i + 1 => xTo L i ++ xIn L i L.length
theorem xIn_len (L : List Pc) (i : Nat) : ∀ j, (xIn L i j).length ≤ j
  | 0 => by simp [xIn]
  | j + 1 => by
    have := xIn_len L i j
    simp only [xIn, List.length_append]
    split <;> simp <;> omega
theorem xTo_len (L : List Pc) : ∀ i, (xTo L i).length ≤ i * L.length
  | 0 => by simp [xTo]
  | i + 1 => by
    have h1 := xTo_len L i
    have h2 := xIn_len L i L.length
    simp only [xTo, List.length_append]
    rw [Nat.succ_mul]; omega
theorem xs_bd {L : List Pc} (h : GoodL L) {i j : Nat} (hi : i ≤ L.length) (hj : j ≤ L.length) : (xTo L i ++ xIn L i j).length ≤ 200 := by
  have h1 := xTo_len L i
  have h2 := xIn_len L i j
  have h3 := h.len
  have h4 : i * L.length ≤ 12 * 12 := Nat.mul_le_mul (by omega) (by omega)
  rw [List.length_append]; omega
theorem xTo_bd {L : List Pc} (h : GoodL L) {i : Nat} (hi : i ≤ L.length) : (xTo L i).length ≤ 200 := by
  have := xs_bd h hi (Nat.zero_le _) (j := 0)
  simpa [xIn] using this
theorem xIn_nil {L : List Pc} {i : Nat} : ∀ j, (∀ k, k < j → crossB (L.getD i Pc0) (L.getD k Pc0) = false) → xIn L i j = []
  | 0, _ => rfl
  | j + 1, h => by
    simp only [xIn]
    rw [xIn_nil j fun k hk => h k (by omega), h j (by omega)]; rfl
theorem asc_le {L : List Pc} (h : GoodL L) {j : Nat} : ∀ d, j + d < L.length → (L.getD j Pc0).day ≤ (L.getD (j + d) Pc0).day
  | 0, _ => Int.le_refl _
  | d + 1, hd => Int.le_trans (asc_le h d (by omega)) (h.asc (j + d) (by omega))
theorem xIn_first {L : List Pc} (h : GoodL L) {i : Nat} (hi : i < L.length) : xIn L i (i + 1) = [] :=
  xIn_nil _ fun k hk => by
    have := asc_le h (j := k) (i - k) (by omega)
    rw [show k + (i - k) = i by omega] at this
    unfold crossB
    rw [decide_eq_false (by omega)]; rfl
def crossA (L : List Pc) : List (Int × Int) := if parB L then xTo L L.length else []
theorem bld_pairX (a b : Int) : bldA [.int .i64 0, .int .i64 0] [(0, 1, .int .i64 a), (1, 1, .int .i64 b)] = some (.agg #[.int .i64 a, .int .i64 b]) := rfl
theorem pairsC_sX (L : List (Int × Int)) (p : Int × Int) : pairsC (L ++ [p]) = pairsC L ++ [.int .i64 p.1, .int .i64 p.2] := by simp [pairsC, pairC]
theorem ext_pairsX {m M : Mem} {L : List (Int × Int)} {id n : Nat} {e : TypeId} {f : Value → Value} (h : Ext m M) (ho : OwnB M id e (pairsC L)) (hid : m.length ≤ id) (hn : n = L.length) (hl : L.length ≤ 1048576) :
    newQ m (AnsO m (PairsO e L) f) (f (.slice (some ⟨id, 0, none⟩) n 2)) M := by
  subst hn
  exact ext_ansO h fun M' hM => ⟨hl, id, 2, rfl, hid, ho.lt, ho.at_ (hM _ hid ho.lt)⟩
theorem isCrossed_rc (m : Mem) (p q : Pc) (hp : GoodP11 p) (hq : GoodP11 q) : RC Try.prog 101 [pcV p, pcV q] m (AnsV (.bool (crossB p q))) := by
  refine rc_of_run mixed ok_impl_isCrossed (by simp) (go_start _ _ _ ?_)
  simp (config := {implicitDefEqProofs := false, maxDischargeDepth := 20}) (disch := first | omega | (simp only [lenE]; done) | (simp only [lenE]; omega) | rfl | (simp only [lenE, markR_len]; done) | (simp only [lenE, markR_len]; omega)) only [runE, mapE, listE, initT_5, initT_6, initT_7, initT_8, resV, oneV, binA, unA, reduceCtorEq, Nat.reduceEqDiff, Nat.reduceAdd, Nat.reduceLT, Nat.reduceLeDiff, Nat.reduceMul, Nat.reduceSub, ↓reduceIte, decide_true, decide_false, Bool.true_eq_false, Bool.false_eq_true, Bool.not_true, Bool.not_false, if_true, if_false, and_true, true_and, memE, celE, w64, Nat.zero_add, Nat.add_zero, Nat.mul_one, putL, and_self, ldn, c_impl_isCrossed, r_impl_isCrossed, pcV]
  obtain ⟨E, hE⟩ : ∃ E, E = roM m ++ [⟨.own, 66, [.int .i64 p.day, .int .i64 p.amount, .int .i64 p.lead]⟩] ++ [⟨.own, 66, [.int .i64 q.day, .int .i64 q.amount, .int .i64 q.lead]⟩] := ⟨_, rfl⟩
  have hX : Ext m E := by rw [hE]; exact ((Ext.refl m).one _ _).one _ _
  have b1 : OwnB E m.length 66 [.int .i64 p.day, .int .i64 p.amount, .int .i64 p.lead] := by rw [hE]; exact (OwnB.here (roM_len m).symm).ext _
  have b2 : OwnB E (m.length + 1) 66 [.int .i64 q.day, .int .i64 q.amount, .int .i64 q.lead] := by rw [hE]; exact OwnB.here (by simp [roM_len])
  try rw [← hE]
  clear hE
  by_cases h1 : p.day < q.day
  · try simp (config := {implicitDefEqProofs := false, maxDischargeDepth := 20}) (disch := first | omega | (simp only [lenE]; done) | (simp only [lenE]; omega) | rfl | (simp only [lenE, markR_len]; done) | (simp only [lenE, markR_len]; omega)) only [runE, mapE, listE, initT_5, initT_6, initT_7, initT_8, resV, oneV, binA, unA, reduceCtorEq, Nat.reduceEqDiff, Nat.reduceAdd, Nat.reduceLT, Nat.reduceLeDiff, Nat.reduceMul, Nat.reduceSub, ↓reduceIte, decide_true, decide_false, Bool.true_eq_false, Bool.false_eq_true, Bool.not_true, Bool.not_false, if_true, if_false, and_true, true_and, memE, celE, w64, Nat.zero_add, Nat.add_zero, Nat.mul_one, putL, and_self, ldn, b1.mk3', b2.mk3', h1]
    refine rcallH_rc (arrivalOf_rc _ q hq) ?_
    rintro r n1 ⟨rfl, hn1⟩
    try simp (config := {implicitDefEqProofs := false, maxDischargeDepth := 20}) (disch := first | omega | (simp only [lenE]; done) | (simp only [lenE]; omega) | rfl | (simp only [lenE, markR_len]; done) | (simp only [lenE, markR_len]; omega)) only [runE, mapE, listE, initT_5, initT_6, initT_7, initT_8, resV, oneV, binA, unA, reduceCtorEq, Nat.reduceEqDiff, Nat.reduceAdd, Nat.reduceLT, Nat.reduceLeDiff, Nat.reduceMul, Nat.reduceSub, ↓reduceIte, decide_true, decide_false, Bool.true_eq_false, Bool.false_eq_true, Bool.not_true, Bool.not_false, if_true, if_false, and_true, true_and, memE, celE, w64, Nat.zero_add, Nat.add_zero, Nat.mul_one, putL, and_self, ldn, b1.mk3', b2.mk3', h1]
    refine rcallH_rc (arrivalOf_rc _ p hp) ?_
    rintro r n2 ⟨rfl, hn2⟩
    simp (config := {implicitDefEqProofs := false, maxDischargeDepth := 20}) (disch := first | omega | (simp only [lenE]; done) | (simp only [lenE]; omega) | rfl | (simp only [lenE, markR_len]; done) | (simp only [lenE, markR_len]; omega)) only [runE, mapE, listE, initT_5, initT_6, initT_7, initT_8, resV, oneV, binA, unA, reduceCtorEq, Nat.reduceEqDiff, Nat.reduceAdd, Nat.reduceLT, Nat.reduceLeDiff, Nat.reduceMul, Nat.reduceSub, ↓reduceIte, decide_true, decide_false, Bool.true_eq_false, Bool.false_eq_true, Bool.not_true, Bool.not_false, if_true, if_false, and_true, true_and, memE, celE, w64, Nat.zero_add, Nat.add_zero, Nat.mul_one, putL, and_self, ldn]
    exact ext_ansV ((hX.app hn1).app hn2) (by simp [crossB, h1])
  · try simp (config := {implicitDefEqProofs := false, maxDischargeDepth := 20}) (disch := first | omega | (simp only [lenE]; done) | (simp only [lenE]; omega) | rfl | (simp only [lenE, markR_len]; done) | (simp only [lenE, markR_len]; omega)) only [runE, mapE, listE, initT_5, initT_6, initT_7, initT_8, resV, oneV, binA, unA, reduceCtorEq, Nat.reduceEqDiff, Nat.reduceAdd, Nat.reduceLT, Nat.reduceLeDiff, Nat.reduceMul, Nat.reduceSub, ↓reduceIte, decide_true, decide_false, Bool.true_eq_false, Bool.false_eq_true, Bool.not_true, Bool.not_false, if_true, if_false, and_true, true_and, memE, celE, w64, Nat.zero_add, Nat.add_zero, Nat.mul_one, putL, and_self, ldn, b1.mk3', b2.mk3', h1]
    exact ext_ansV hX (by simp [crossB, h1])
def xAll (L : List Pc) (i j : Nat) : List (Int × Int) := xTo L i ++ xIn L i j
theorem xAll_0 (L : List Pc) (i : Nat) : xAll L i 0 = xTo L i := by simp [xAll, xIn]
theorem xAll_end (L : List Pc) (i : Nat) : xAll L i L.length = xTo L (i + 1) := rfl
theorem xAll_s (L : List Pc) (i j : Nat) : xAll L i (j + 1) = xAll L i j ++ (if crossB (L.getD i Pc0) (L.getD j Pc0) = true then [((i : Int), (j : Int))] else []) := by simp only [xAll, xIn, List.append_assoc]
theorem xAll_bd {L : List Pc} (h : GoodL L) {i j : Nat} (hi : i ≤ L.length) (hj : j ≤ L.length) : (xAll L i j).length ≤ 200 := xs_bd h hi hj
set_option maxHeartbeats 4000000 in
theorem implCrossing_rc (m : Mem) (v : Value) (L : List Pc) (h : PcsA m v L) : RC Try.prog 41 [v] m (AnsO m (PairsO 124 (crossA L)) fun v => .tuple #[v, .bool (parB L)]) := by
  refine rc_of_run mixed ok_impl_CrossingPairs (by simp) (go_start _ _ _ ?_)
  simp (config := {implicitDefEqProofs := false, maxDischargeDepth := 20}) (disch := first | omega | (simp only [lenE]; done) | (simp only [lenE]; omega) | rfl | (simp only [lenE, markR_len]; done) | (simp only [lenE, markR_len]; omega)) only [runE, mapE, listE, initT_5, initT_6, initT_7, initT_8, resV, oneV, binA, unA, reduceCtorEq, Nat.reduceEqDiff, Nat.reduceAdd, Nat.reduceLT, Nat.reduceLeDiff, Nat.reduceMul, Nat.reduceSub, ↓reduceIte, decide_true, decide_false, Bool.true_eq_false, Bool.false_eq_true, Bool.not_true, Bool.not_false, if_true, if_false, and_true, true_and, memE, celE, w64, Nat.zero_add, Nat.add_zero, Nat.mul_one, putL, and_self, ldn, c_impl_CrossingPairs, r_impl_CrossingPairs]
  refine callH_rc (areParcels_rc _ v L h.ro) ?_
  rintro r n1 ⟨rfl, hn1⟩
  have hX := (Ext.refl m).app hn1
  obtain ⟨E0, hE0⟩ : ∃ E0, E0 = roM m ++ n1 := ⟨_, rfl⟩
  rw [← hE0] at hX ⊢
  clear hE0
  unfold crossA
  cases hp : parB L with
  | false =>
    simp (config := {implicitDefEqProofs := false, maxDischargeDepth := 20}) (disch := first | omega | (simp only [lenE]; done) | (simp only [lenE]; omega) | rfl | (simp only [lenE, markR_len]; done) | (simp only [lenE, markR_len]; omega)) only [runE, mapE, listE, initT_5, initT_6, initT_7, initT_8, resV, oneV, binA, unA, reduceCtorEq, Nat.reduceEqDiff, Nat.reduceAdd, Nat.reduceLT, Nat.reduceLeDiff, Nat.reduceMul, Nat.reduceSub, ↓reduceIte, decide_true, decide_false, Bool.true_eq_false, Bool.false_eq_true, Bool.not_true, Bool.not_false, if_true, if_false, and_true, true_and, memE, celE, w64, Nat.zero_add, Nat.add_zero, Nat.mul_one, putL, and_self, ldn, bsl_no]
    exact ext_noPairs (f := fun v => .tuple #[v, .bool false]) hX rfl
  | true =>
  have hG := parB_iff.1 hp
  have hlen := hG.len
  have hl := h.len
  simp (config := {implicitDefEqProofs := false, maxDischargeDepth := 20}) (disch := first | omega | (simp only [lenE]; done) | (simp only [lenE]; omega) | rfl | (simp only [lenE, markR_len]; done) | (simp only [lenE, markR_len]; omega)) only [runE, mapE, listE, initT_5, initT_6, initT_7, initT_8, resV, oneV, binA, unA, reduceCtorEq, Nat.reduceEqDiff, Nat.reduceAdd, Nat.reduceLT, Nat.reduceLeDiff, Nat.reduceMul, Nat.reduceSub, ↓reduceIte, decide_true, decide_false, Bool.true_eq_false, Bool.false_eq_true, Bool.not_true, Bool.not_false, if_true, if_false, and_true, true_and, memE, celE, w64, Nat.zero_add, Nat.add_zero, Nat.mul_one, putL, and_self, ldn, bsl_no, hl]
  refine loop_inv mixed (fun s => ∃ (i : Nat) (M : Mem) (id : Nat), i ≤ L.length ∧ s.m = M ∧ Ext m M ∧ m.length ≤ id ∧ OwnB M id 124 (pairsC (xTo L i)) ∧ s.t 0 = v ∧ s.t 4 = .slice (some ⟨id, 0, none⟩) (xTo L i).length 2 ∧ s.t 14 = v ∧ s.t 15 = .int .i64 L.length ∧ s.t 16 = .int .i64 i) (fun s => L.length - (intOf (s.t 16)).toNat)
    ⟨0, _, _, by omega, rfl, hX.one _ _, hX.len, OwnB.here rfl, rfl, rfl, rfl, rfl, rfl⟩ ?_
  rintro s ⟨i, M, id, hi, tm, hx, hid, ho, t0, t4, t14, t15, t16⟩
  by_cases hlt : i < L.length
  · have hlt' : (i : Int) < L.length := by omega
    have hM := hx.keeps.pcs h
    obtain ⟨p, hpp⟩ : ∃ p, p = L.getD i Pc0 := ⟨_, rfl⟩
    have hgp : GoodP11 p := hpp ▸ hG.all i hlt
    have i1 := hM.at_ hlt
    have i2 := hM.ld hlt
    rw [← hpp] at i2
    simp (config := {implicitDefEqProofs := false, maxDischargeDepth := 20}) (disch := first | omega | (simp only [lenE]; done) | (simp only [lenE]; omega) | rfl | (simp only [lenE, markR_len]; done) | (simp only [lenE, markR_len]; omega)) only [runE, mapE, listE, initT_5, initT_6, initT_7, initT_8, resV, oneV, binA, unA, reduceCtorEq, Nat.reduceEqDiff, Nat.reduceAdd, Nat.reduceLT, Nat.reduceLeDiff, Nat.reduceMul, Nat.reduceSub, ↓reduceIte, decide_true, decide_false, Bool.true_eq_false, Bool.false_eq_true, Bool.not_true, Bool.not_false, if_true, if_false, and_true, true_and, memE, celE, w64, Nat.zero_add, Nat.add_zero, Nat.mul_one, putL, and_self, ldn, tm, t0, t4, t14, t15, t16, hlt', i1, i2, hl, pcV, stP_agg3p]
    have bB : OwnB (M ++ [⟨.own, 66, [.int .i64 p.day, .int .i64 p.amount, .int .i64 p.lead]⟩]) M.length 66 [.int .i64 p.day, .int .i64 p.amount, .int .i64 p.lead] := OwnB.here rfl
    obtain ⟨B, hB⟩ : ∃ B, B = M.length := ⟨_, rfl⟩
    rw [← hB] at bB
    rw [← hB]
    have hBm : m.length ≤ B := by have := hx.len; omega
    refine loop_inv mixed (fun s => ∃ (j : Nat) (M : Mem) (id : Nat), j ≤ L.length ∧ s.m = M ∧ Ext m M ∧ m.length ≤ id ∧ OwnB M B 66 [.int .i64 p.day, .int .i64 p.amount, .int .i64 p.lead] ∧ OwnB M id 124 (pairsC (xAll L i j)) ∧ s.t 0 = v ∧ s.t 4 = .slice (some ⟨id, 0, none⟩) (xAll L i j).length 2 ∧ s.t 5 = .int .i64 i ∧ s.t 6 = .pointer (some ⟨B, 0, none⟩) ∧ s.t 14 = v ∧ s.t 15 = .int .i64 L.length ∧ s.t 16 = .int .i64 i ∧ s.t 21 = v ∧ s.t 22 = .int .i64 L.length ∧ s.t 23 = .int .i64 j) (fun s => L.length - (intOf (s.t 23)).toNat)
      ⟨0, _, id, by omega, rfl, hx.one _ _, hid, bB, by rw [xAll_0]; exact ho.ext _, by simp only [put_t, put_t', put_m, putT_t, putT_t', putT_m, init_t, init_m, initT_0, initT_1, initT_2, initT_3, initT_4, initT_5, initT_6, initT_7, initT_8, Nat.reduceEqDiff, ↓reduceIte, t0], by simp only [put_t, put_t', put_m, putT_t, putT_t', putT_m, init_t, init_m, initT_0, initT_1, initT_2, initT_3, initT_4, initT_5, initT_6, initT_7, initT_8, Nat.reduceEqDiff, ↓reduceIte, t4]; rw [xAll_0], by simp only [put_t, put_t', put_m, putT_t, putT_t', putT_m, init_t, init_m, initT_0, initT_1, initT_2, initT_3, initT_4, initT_5, initT_6, initT_7, initT_8, Nat.reduceEqDiff, ↓reduceIte, t16], by simp only [put_t, put_t', put_m, putT_t, putT_t', putT_m, init_t, init_m, initT_0, initT_1, initT_2, initT_3, initT_4, initT_5, initT_6, initT_7, initT_8, Nat.reduceEqDiff, ↓reduceIte], by simp only [put_t, put_t', put_m, putT_t, putT_t', putT_m, init_t, init_m, initT_0, initT_1, initT_2, initT_3, initT_4, initT_5, initT_6, initT_7, initT_8, Nat.reduceEqDiff, ↓reduceIte, t14], by simp only [put_t, put_t', put_m, putT_t, putT_t', putT_m, init_t, init_m, initT_0, initT_1, initT_2, initT_3, initT_4, initT_5, initT_6, initT_7, initT_8, Nat.reduceEqDiff, ↓reduceIte, t15], by simp only [put_t, put_t', put_m, putT_t, putT_t', putT_m, init_t, init_m, initT_0, initT_1, initT_2, initT_3, initT_4, initT_5, initT_6, initT_7, initT_8, Nat.reduceEqDiff, ↓reduceIte, t16], by simp only [put_t, put_t', put_m, putT_t, putT_t', putT_m, init_t, init_m, initT_0, initT_1, initT_2, initT_3, initT_4, initT_5, initT_6, initT_7, initT_8, Nat.reduceEqDiff, ↓reduceIte], by simp only [put_t, put_t', put_m, putT_t, putT_t', putT_m, init_t, init_m, initT_0, initT_1, initT_2, initT_3, initT_4, initT_5, initT_6, initT_7, initT_8, Nat.reduceEqDiff, ↓reduceIte], by simp only [put_t, put_t', put_m, putT_t, putT_t', putT_m, init_t, init_m, initT_0, initT_1, initT_2, initT_3, initT_4, initT_5, initT_6, initT_7, initT_8, Nat.reduceEqDiff, ↓reduceIte]; simp⟩ ?_
    clear tm t0 t4 t14 t15 t16 hB bB ho hx i1 i2 hM
    rintro s ⟨j, M, id, hj, tm, hx, hid, bB, ho, t0, t4, t5, t6, t14, t15, t16, t21, t22, t23⟩
    by_cases hlj : j < L.length
    · have hlj' : (j : Int) < L.length := by omega
      have hM := hx.keeps.pcs h
      obtain ⟨q, hqq⟩ : ∃ q, q = L.getD j Pc0 := ⟨_, rfl⟩
      have hgq : GoodP11 q := hqq ▸ hG.all j hlj
      have i1 := hM.at_ hlj
      have i2 := hM.ld hlj
      rw [← hqq] at i2
      have hbd := xAll_bd hG hi hj
      have estep : xAll L i (j + 1) = xAll L i j ++ (if crossB p q = true then [((i : Int), (j : Int))] else []) := by rw [hpp, hqq]; exact xAll_s L i j
      simp (config := {implicitDefEqProofs := false, maxDischargeDepth := 20}) (disch := first | omega | (simp only [lenE]; done) | (simp only [lenE]; omega) | rfl | (simp only [lenE, markR_len]; done) | (simp only [lenE, markR_len]; omega)) only [runE, mapE, listE, initT_5, initT_6, initT_7, initT_8, resV, oneV, binA, unA, reduceCtorEq, Nat.reduceEqDiff, Nat.reduceAdd, Nat.reduceLT, Nat.reduceLeDiff, Nat.reduceMul, Nat.reduceSub, ↓reduceIte, decide_true, decide_false, Bool.true_eq_false, Bool.false_eq_true, Bool.not_true, Bool.not_false, if_true, if_false, and_true, true_and, memE, celE, w64, Nat.zero_add, Nat.add_zero, Nat.mul_one, putL, and_self, ldn, tm, t0, t4, t5, t6, t14, t15, t16, t21, t22, t23, hlj', i1, i2, pcV, stP_agg3p, (bB.ext _).mk3', bB.mk3']
      refine callH_rc (isCrossed_rc _ p q hgp hgq) ?_
      rintro r n1 ⟨rfl, hn1⟩
      obtain ⟨E, hE⟩ : ∃ E, E = M ++ [⟨.own, 66, [.int .i64 q.day, .int .i64 q.amount, .int .i64 q.lead]⟩] ++ n1 := ⟨_, rfl⟩
      have hxE : Ext m E := by rw [hE]; exact (hx.one _ _).app hn1
      have bE : OwnB E B 66 [.int .i64 p.day, .int .i64 p.amount, .int .i64 p.lead] := by rw [hE]; exact (bB.ext _).ext _
      have oE : OwnB E id 124 (pairsC (xAll L i j)) := by rw [hE]; exact (ho.ext _).ext _
      rw [← hE]
      clear hE
      cases hc : crossB p q with
      | false =>
        simp (config := {implicitDefEqProofs := false, maxDischargeDepth := 20}) (disch := first | omega | (simp only [lenE]; done) | (simp only [lenE]; omega) | rfl | (simp only [lenE, markR_len]; done) | (simp only [lenE, markR_len]; omega)) only [runE, mapE, listE, initT_5, initT_6, initT_7, initT_8, resV, oneV, binA, unA, reduceCtorEq, Nat.reduceEqDiff, Nat.reduceAdd, Nat.reduceLT, Nat.reduceLeDiff, Nat.reduceMul, Nat.reduceSub, ↓reduceIte, decide_true, decide_false, Bool.true_eq_false, Bool.false_eq_true, Bool.not_true, Bool.not_false, if_true, if_false, and_true, true_and, memE, celE, w64, Nat.zero_add, Nat.add_zero, Nat.mul_one, putL, and_self, ldn, tm, t0, t4, t5, t6, t14, t15, t16, t21, t22, t23]
        rw [hc] at estep
        simp only [Bool.false_eq_true, if_false, List.append_nil] at estep
        refine ⟨⟨j + 1, _, id, by omega, rfl, hxE, hid, bE, by rw [estep]; exact oE, by rw [estep], by simp⟩, ?_⟩
        simp [intOf]; omega
      | true =>
        have happ := app_back (e := 124) (sz := 2) (byt := 16) (n := (xAll L i j).length) (ys := [.int .i64 (i : Int), .int .i64 (j : Int)]) oE rfl (by rw [pairsC_len]) rfl rfl (by omega) (by omega)
        simp (config := {implicitDefEqProofs := false, maxDischargeDepth := 20}) (disch := first | omega | (simp only [lenE]; done) | (simp only [lenE]; omega) | rfl | (simp only [lenE, markR_len]; done) | (simp only [lenE, markR_len]; omega)) only [runE, mapE, listE, initT_5, initT_6, initT_7, initT_8, resV, oneV, binA, unA, reduceCtorEq, Nat.reduceEqDiff, Nat.reduceAdd, Nat.reduceLT, Nat.reduceLeDiff, Nat.reduceMul, Nat.reduceSub, ↓reduceIte, decide_true, decide_false, Bool.true_eq_false, Bool.false_eq_true, Bool.not_true, Bool.not_false, if_true, if_false, and_true, true_and, memE, celE, w64, Nat.zero_add, Nat.add_zero, Nat.mul_one, putL, and_self, ldn, tm, t0, t4, t5, t6, t14, t15, t16, t21, t22, t23, bld_pairX, bsl_pair, happ]
        rw [hc] at estep
        simp only [if_true] at estep
        have hBE := bE.lt
        have hne : id ≠ B := oE.ne bE (by decide)
        refine ⟨⟨j + 1, _, E.length + 1, by omega, rfl, ((hxE.dead hid).one _ _).one _ _, by have := hxE.len; omega, ((bE.deadP hne).ext _).ext _, ?_, ?_, by simp⟩, ?_⟩
        · rw [estep, pairsC_sX]
          exact OwnB.here (by simp)
        · rw [estep]; simp
        · simp [intOf]; omega
    · have hlj' : ¬ ((j : Int) < L.length) := by omega
      obtain rfl : j = L.length := by omega
      simp (config := {implicitDefEqProofs := false, maxDischargeDepth := 20}) (disch := first | omega | (simp only [lenE]; done) | (simp only [lenE]; omega) | rfl | (simp only [lenE, markR_len]; done) | (simp only [lenE, markR_len]; omega)) only [runE, mapE, listE, initT_5, initT_6, initT_7, initT_8, resV, oneV, binA, unA, reduceCtorEq, Nat.reduceEqDiff, Nat.reduceAdd, Nat.reduceLT, Nat.reduceLeDiff, Nat.reduceMul, Nat.reduceSub, ↓reduceIte, decide_true, decide_false, Bool.true_eq_false, Bool.false_eq_true, Bool.not_true, Bool.not_false, if_true, if_false, and_true, true_and, memE, celE, w64, Nat.zero_add, Nat.add_zero, Nat.mul_one, putL, and_self, ldn, tm, t0, t4, t5, t6, t14, t15, t16, t21, t22, t23, hlj']
      rw [xAll_end] at ho
      refine ⟨⟨i + 1, _, id, by omega, rfl, hx, hid, ho, by rw [xAll_end], by simp⟩, ?_⟩
      simp [intOf]; omega
  · have hlt' : ¬ ((i : Int) < L.length) := by omega
    obtain rfl : i = L.length := by omega
    simp (config := {implicitDefEqProofs := false, maxDischargeDepth := 20}) (disch := first | omega | (simp only [lenE]; done) | (simp only [lenE]; omega) | rfl | (simp only [lenE, markR_len]; done) | (simp only [lenE, markR_len]; omega)) only [runE, mapE, listE, initT_5, initT_6, initT_7, initT_8, resV, oneV, binA, unA, reduceCtorEq, Nat.reduceEqDiff, Nat.reduceAdd, Nat.reduceLT, Nat.reduceLeDiff, Nat.reduceMul, Nat.reduceSub, ↓reduceIte, decide_true, decide_false, Bool.true_eq_false, Bool.false_eq_true, Bool.not_true, Bool.not_false, if_true, if_false, and_true, true_and, memE, celE, w64, Nat.zero_add, Nat.add_zero, Nat.mul_one, putL, and_self, ldn, tm, t0, t4, t14, t15, t16, hlt']
    exact ext_pairsX (f := fun v => .tuple #[v, .bool true]) hx ho hid rfl (by have := xTo_bd hG (Nat.le_refl L.length); omega)
end Go.Proofs.Ytjdallbnbjnghaa.Ab
end
