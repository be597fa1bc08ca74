/- Contracts of markets: profits and orders on both sides. -/
import Derived.Test.YtdcheilmjooacaaAbMk2
namespace Go.Proofs.Ytdcheilmjooacaa.Ab
open Go Go.RowKit
set_option linter.unusedVariables false
set_option linter.unusedSimpArgs false

theorem OwnB.mk4 {M : Mem} {id : Nat} {e : TypeId} {a b c d : Value} (h : OwnB M id e [a, b, c, d]) : ldA M (some 4) (.pointer (some ⟨id, 0, none⟩)) = some (.agg #[a, b, c, d]) ∧ rdc M id 0 = some a ∧ rdc M id 1 = some b ∧ rdc M id 2 = some c ∧ rdc M id 3 = some d := by
  unfold OwnB at h
  simp [ldA, rdn, rdc, h]
theorem OwnB.mk3 {M : Mem} {id : Nat} {e : TypeId} {a b c : Value} (h : OwnB M id e [a, b, c]) : ldA M (some 3) (.pointer (some ⟨id, 0, none⟩)) = some (.agg #[a, b, c]) ∧ rdc M id 0 = some a ∧ rdc M id 1 = some b ∧ rdc M id 2 = some c := by
  unfold OwnB at h
  simp [ldA, rdn, rdc, h]
def ordM (k : Mk) (q : Int) : Bool := k.good && inM 8 q
def ordC (k : Mk) (c : Ct) (q : Int) : Bool := bothM k c && inM 8 q
theorem bld_ct0 : bldA [.int .i64 0, .int .i64 0, .int .i64 0] [] = some (.agg #[.int .i64 0, .int .i64 0, .int .i64 0]) := rfl
theorem bld_ct3 (a b c : Int) : bldA [.int .i64 0, .int .i64 0, .int .i64 0] [(0, 1, .int .i64 a), (1, 1, .int .i64 b), (2, 1, .int .i64 c)] = some (.agg #[.int .i64 a, .int .i64 b, .int .i64 c]) := rfl
theorem bld_ct02 (a c : Int) : bldA [.int .i64 0, .int .i64 0, .int .i64 0] [(0, 1, .int .i64 a), (2, 1, .int .i64 c)] = some (.agg #[.int .i64 a, .int .i64 0, .int .i64 c]) := rfl
theorem bld_ct12 (b c : Int) : bldA [.int .i64 0, .int .i64 0, .int .i64 0] [(1, 1, .int .i64 b), (2, 1, .int .i64 c)] = some (.agg #[.int .i64 0, .int .i64 b, .int .i64 c]) := rfl
theorem goodC0 : GoodC ⟨0, 0, 0⟩ := ⟨by decide, by decide, by decide⟩
theorem l10Seller_rc (m : Mem) (v : Value) (k : Mk) (c : Ct) (q : Nat) (h : MkA m v k) (hg : GoodM k) (hc : GoodC c) (hq : q ≤ 8) :
    RC Try.prog 80 [v, ctV c, .int .i64 q] m (AnsV (.int .i64 (selP k c q))) := by
  refine rc_of_run mixed ok_spec_l10Seller (by simp) (go_start _ _ _ ?_)
  obtain ⟨u, rfl, hu⟩ := h.ro
  have pB := pro_bd (c := c) hg hc hq
  obtain ⟨S, hS⟩ : ∃ S, S = sal k.w q := ⟨_, rfl⟩
  obtain ⟨A, hA⟩ : ∃ A, A = tot k.w * (q : Int) := ⟨_, rfl⟩
  rw [← hS, ← hA] at pB
  obtain ⟨b1, b2, b3, b4, b5, b6, b7, b8, b9, b10, b11, b12, b13, b14, b15, b16, b17, b18, b19, b20⟩ := pB
  try simp (config := {implicitDefEqProofs := false, maxDischargeDepth := 20}) (disch := first | omega | (simp only [lenE]; done) | (simp only [lenE]; omega) | rfl | (simp only [lenE, markR_len]; done) | (simp only [lenE, markR_len]; omega)) only [runE, mapE, listE, initT_5, initT_6, initT_7, initT_8, resV, oneV, binA, unA, reduceCtorEq, Nat.reduceEqDiff, Nat.reduceAdd, Nat.reduceLT, Nat.reduceLeDiff, Nat.reduceMul, Nat.reduceSub, ↓reduceIte, decide_true, decide_false, Bool.true_eq_false, Bool.false_eq_true, Bool.not_true, Bool.not_false, if_true, if_false, and_true, true_and, memE, celE, w64, Nat.zero_add, Nat.add_zero, Nat.mul_one, putL, and_self, ldn, c_spec_l10Seller, r_spec_l10Seller, ctV]
  obtain ⟨E, hE⟩ : ∃ M', M' = roM m ++ [⟨.own, 27, [u, .int .i64 k.price, .int .i64 k.make, .int .i64 k.left]⟩] ++ [⟨.own, 34, [.int .i64 c.pay, .int .i64 c.back, .int .i64 c.share]⟩] := ⟨_, rfl⟩
  rw [← hE]
  have hX : Ext m E := by rw [hE]; exact (((Ext.refl m).one _ _).one _ _)
  have LE : E.length = m.length + 2 := by rw [hE]; simp [roM_len]
  have oM : OwnB E (m.length) 27 [u, .int .i64 k.price, .int .i64 k.make, .int .i64 k.left] := by rw [hE]; exact (OwnB.here (by simp [roM_len])).ext _
  have oC : OwnB E (m.length + 1) 34 [.int .i64 c.pay, .int .i64 c.back, .int .i64 c.share] := by rw [hE]; exact (OwnB.here (by simp [roM_len]))
  clear hE
  have oK := hX.ints hu
  have Q1 := fun M hM => l10Sales_rc M (mkV k u) k q hM hg hq
  rw [← hS] at Q1
  have Q2 := fun M hM => l2Sum_rc M u k.w hM fun j hj => m9_small hg j hj
  rw [show sumTo k.w k.w.length = tot k.w from rfl] at Q2
  try simp (config := {implicitDefEqProofs := false, maxDischargeDepth := 20}) (disch := first | omega | (simp only [lenE]; done) | (simp only [lenE]; omega) | rfl | (simp only [lenE, markR_len]; done) | (simp only [lenE, markR_len]; omega)) only [runE, mapE, listE, initT_5, initT_6, initT_7, initT_8, resV, oneV, binA, unA, reduceCtorEq, Nat.reduceEqDiff, Nat.reduceAdd, Nat.reduceLT, Nat.reduceLeDiff, Nat.reduceMul, Nat.reduceSub, ↓reduceIte, decide_true, decide_false, Bool.true_eq_false, Bool.false_eq_true, Bool.not_true, Bool.not_false, if_true, if_false, and_true, true_and, memE, celE, w64, Nat.zero_add, Nat.add_zero, Nat.mul_one, putL, and_self, ldn, oM.mk4, oC.mk3]
  first | refine callH_rc (Q1 _ ⟨u, rfl, hX.ints hu⟩) ?_ | refine rcallH_rc (Q1 _ ⟨u, rfl, hX.ints hu⟩) ?_
  rintro r n1 ⟨rfl, nr1⟩
  obtain ⟨E1, hE1⟩ : ∃ M', M' = E ++ n1 := ⟨_, rfl⟩
  rw [← hE1]
  replace hX : Ext m E1 := by rw [hE1]; exact hX.app nr1
  replace oM := oM.ext n1
  rw [← hE1] at oM
  replace oC := oC.ext n1
  rw [← hE1] at oC
  clear hE1
  try simp (config := {implicitDefEqProofs := false, maxDischargeDepth := 20}) (disch := first | omega | (simp only [lenE]; done) | (simp only [lenE]; omega) | rfl | (simp only [lenE, markR_len]; done) | (simp only [lenE, markR_len]; omega)) only [runE, mapE, listE, initT_5, initT_6, initT_7, initT_8, resV, oneV, binA, unA, reduceCtorEq, Nat.reduceEqDiff, Nat.reduceAdd, Nat.reduceLT, Nat.reduceLeDiff, Nat.reduceMul, Nat.reduceSub, ↓reduceIte, decide_true, decide_false, Bool.true_eq_false, Bool.false_eq_true, Bool.not_true, Bool.not_false, if_true, if_false, and_true, true_and, memE, celE, w64, Nat.zero_add, Nat.add_zero, Nat.mul_one, putL, and_self, ldn, oM.mk4, oC.mk3]
  first | refine callH_rc (Q2 _ (hX.ints hu)) ?_ | refine rcallH_rc (Q2 _ (hX.ints hu)) ?_
  rintro r n2 ⟨rfl, rfl⟩
  try rw [List.append_nil]
  rw [show (.int .i64 (tot k.w) : Value) = .int .i64 (tot k.w) from rfl]
  try simp (config := {implicitDefEqProofs := false, maxDischargeDepth := 20}) (disch := first | omega | (simp only [lenE]; done) | (simp only [lenE]; omega) | rfl | (simp only [lenE, markR_len]; done) | (simp only [lenE, markR_len]; omega)) only [runE, mapE, listE, initT_5, initT_6, initT_7, initT_8, resV, oneV, binA, unA, reduceCtorEq, Nat.reduceEqDiff, Nat.reduceAdd, Nat.reduceLT, Nat.reduceLeDiff, Nat.reduceMul, Nat.reduceSub, ↓reduceIte, decide_true, decide_false, Bool.true_eq_false, Bool.false_eq_true, Bool.not_true, Bool.not_false, if_true, if_false, and_true, true_and, memE, celE, w64, Nat.zero_add, Nat.add_zero, Nat.mul_one, putL, and_self, ldn, ← hA, oM.mk4, oC.mk3]
  exact ext_ansV hX (by rw [selP, hS, hA])
theorem l10Maker_rc (m : Mem) (v : Value) (k : Mk) (c : Ct) (q : Nat) (h : MkA m v k) (hg : GoodM k) (hc : GoodC c) (hq : q ≤ 8) :
    RC Try.prog 83 [v, ctV c, .int .i64 q] m (AnsV (.int .i64 (makP k c q))) := by
  refine rc_of_run mixed ok_spec_l10Maker (by simp) (go_start _ _ _ ?_)
  obtain ⟨u, rfl, hu⟩ := h.ro
  have pB := pro_bd (c := c) hg hc hq
  obtain ⟨S, hS⟩ : ∃ S, S = sal k.w q := ⟨_, rfl⟩
  obtain ⟨A, hA⟩ : ∃ A, A = tot k.w * (q : Int) := ⟨_, rfl⟩
  rw [← hS, ← hA] at pB
  obtain ⟨b1, b2, b3, b4, b5, b6, b7, b8, b9, b10, b11, b12, b13, b14, b15, b16, b17, b18, b19, b20⟩ := pB
  try simp (config := {implicitDefEqProofs := false, maxDischargeDepth := 20}) (disch := first | omega | (simp only [lenE]; done) | (simp only [lenE]; omega) | rfl | (simp only [lenE, markR_len]; done) | (simp only [lenE, markR_len]; omega)) only [runE, mapE, listE, initT_5, initT_6, initT_7, initT_8, resV, oneV, binA, unA, reduceCtorEq, Nat.reduceEqDiff, Nat.reduceAdd, Nat.reduceLT, Nat.reduceLeDiff, Nat.reduceMul, Nat.reduceSub, ↓reduceIte, decide_true, decide_false, Bool.true_eq_false, Bool.false_eq_true, Bool.not_true, Bool.not_false, if_true, if_false, and_true, true_and, memE, celE, w64, Nat.zero_add, Nat.add_zero, Nat.mul_one, putL, and_self, ldn, c_spec_l10Maker, r_spec_l10Maker, ctV]
  obtain ⟨E, hE⟩ : ∃ M', M' = roM m ++ [⟨.own, 27, [u, .int .i64 k.price, .int .i64 k.make, .int .i64 k.left]⟩] ++ [⟨.own, 34, [.int .i64 c.pay, .int .i64 c.back, .int .i64 c.share]⟩] := ⟨_, rfl⟩
  rw [← hE]
  have hX : Ext m E := by rw [hE]; exact (((Ext.refl m).one _ _).one _ _)
  have LE : E.length = m.length + 2 := by rw [hE]; simp [roM_len]
  have oM : OwnB E (m.length) 27 [u, .int .i64 k.price, .int .i64 k.make, .int .i64 k.left] := by rw [hE]; exact (OwnB.here (by simp [roM_len])).ext _
  have oC : OwnB E (m.length + 1) 34 [.int .i64 c.pay, .int .i64 c.back, .int .i64 c.share] := by rw [hE]; exact (OwnB.here (by simp [roM_len]))
  clear hE
  have oK := hX.ints hu
  have Q1 := fun M hM => l10Sales_rc M (mkV k u) k q hM hg hq
  rw [← hS] at Q1
  have Q2 := fun M hM => l2Sum_rc M u k.w hM fun j hj => m9_small hg j hj
  rw [show sumTo k.w k.w.length = tot k.w from rfl] at Q2
  try simp (config := {implicitDefEqProofs := false, maxDischargeDepth := 20}) (disch := first | omega | (simp only [lenE]; done) | (simp only [lenE]; omega) | rfl | (simp only [lenE, markR_len]; done) | (simp only [lenE, markR_len]; omega)) only [runE, mapE, listE, initT_5, initT_6, initT_7, initT_8, resV, oneV, binA, unA, reduceCtorEq, Nat.reduceEqDiff, Nat.reduceAdd, Nat.reduceLT, Nat.reduceLeDiff, Nat.reduceMul, Nat.reduceSub, ↓reduceIte, decide_true, decide_false, Bool.true_eq_false, Bool.false_eq_true, Bool.not_true, Bool.not_false, if_true, if_false, and_true, true_and, memE, celE, w64, Nat.zero_add, Nat.add_zero, Nat.mul_one, putL, and_self, ldn, oM.mk4, oC.mk3]
  first | refine callH_rc (Q1 _ ⟨u, rfl, hX.ints hu⟩) ?_ | refine rcallH_rc (Q1 _ ⟨u, rfl, hX.ints hu⟩) ?_
  rintro r n1 ⟨rfl, nr1⟩
  obtain ⟨E1, hE1⟩ : ∃ M', M' = E ++ n1 := ⟨_, rfl⟩
  rw [← hE1]
  replace hX : Ext m E1 := by rw [hE1]; exact hX.app nr1
  replace oM := oM.ext n1
  rw [← hE1] at oM
  replace oC := oC.ext n1
  rw [← hE1] at oC
  clear hE1
  try simp (config := {implicitDefEqProofs := false, maxDischargeDepth := 20}) (disch := first | omega | (simp only [lenE]; done) | (simp only [lenE]; omega) | rfl | (simp only [lenE, markR_len]; done) | (simp only [lenE, markR_len]; omega)) only [runE, mapE, listE, initT_5, initT_6, initT_7, initT_8, resV, oneV, binA, unA, reduceCtorEq, Nat.reduceEqDiff, Nat.reduceAdd, Nat.reduceLT, Nat.reduceLeDiff, Nat.reduceMul, Nat.reduceSub, ↓reduceIte, decide_true, decide_false, Bool.true_eq_false, Bool.false_eq_true, Bool.not_true, Bool.not_false, if_true, if_false, and_true, true_and, memE, celE, w64, Nat.zero_add, Nat.add_zero, Nat.mul_one, putL, and_self, ldn, oM.mk4, oC.mk3]
  first | refine callH_rc (Q2 _ (hX.ints hu)) ?_ | refine rcallH_rc (Q2 _ (hX.ints hu)) ?_
  rintro r n2 ⟨rfl, rfl⟩
  try rw [List.append_nil]
  rw [show (.int .i64 (tot k.w) : Value) = .int .i64 (tot k.w) from rfl]
  try simp (config := {implicitDefEqProofs := false, maxDischargeDepth := 20}) (disch := first | omega | (simp only [lenE]; done) | (simp only [lenE]; omega) | rfl | (simp only [lenE, markR_len]; done) | (simp only [lenE, markR_len]; omega)) only [runE, mapE, listE, initT_5, initT_6, initT_7, initT_8, resV, oneV, binA, unA, reduceCtorEq, Nat.reduceEqDiff, Nat.reduceAdd, Nat.reduceLT, Nat.reduceLeDiff, Nat.reduceMul, Nat.reduceSub, ↓reduceIte, decide_true, decide_false, Bool.true_eq_false, Bool.false_eq_true, Bool.not_true, Bool.not_false, if_true, if_false, and_true, true_and, memE, celE, w64, Nat.zero_add, Nat.add_zero, Nat.mul_one, putL, and_self, ldn, ← hA, oM.mk4, oC.mk3]
  exact ext_ansV hX (by rw [makP, hS, hA])
theorem l10Joint_rc (m : Mem) (v : Value) (k : Mk) (q : Nat) (h : MkA m v k) (hg : GoodM k) (hq : q ≤ 8) :
    RC Try.prog 84 [v, .int .i64 q] m (AnsV (.int .i64 (joiP k q))) := by
  refine rc_of_run mixed ok_spec_l10Joint (by simp) (go_start _ _ _ ?_)
  obtain ⟨u, rfl, hu⟩ := h.ro
  have pB := pro_bd (c := ⟨0, 0, 0⟩) hg goodC0 hq
  obtain ⟨S, hS⟩ : ∃ S, S = sal k.w q := ⟨_, rfl⟩
  obtain ⟨A, hA⟩ : ∃ A, A = tot k.w * (q : Int) := ⟨_, rfl⟩
  rw [← hS, ← hA] at pB
  obtain ⟨b1, b2, b3, b4, b5, b6, b7, b8, b9, b10, b11, b12, b13, b14, b15, b16, b17, b18, b19, b20⟩ := pB
  try simp (config := {implicitDefEqProofs := false, maxDischargeDepth := 20}) (disch := first | omega | (simp only [lenE]; done) | (simp only [lenE]; omega) | rfl | (simp only [lenE, markR_len]; done) | (simp only [lenE, markR_len]; omega)) only [runE, mapE, listE, initT_5, initT_6, initT_7, initT_8, resV, oneV, binA, unA, reduceCtorEq, Nat.reduceEqDiff, Nat.reduceAdd, Nat.reduceLT, Nat.reduceLeDiff, Nat.reduceMul, Nat.reduceSub, ↓reduceIte, decide_true, decide_false, Bool.true_eq_false, Bool.false_eq_true, Bool.not_true, Bool.not_false, if_true, if_false, and_true, true_and, memE, celE, w64, Nat.zero_add, Nat.add_zero, Nat.mul_one, putL, and_self, ldn, c_spec_l10Joint, r_spec_l10Joint]
  obtain ⟨E, hE⟩ : ∃ M', M' = roM m ++ [⟨.own, 27, [u, .int .i64 k.price, .int .i64 k.make, .int .i64 k.left]⟩] := ⟨_, rfl⟩
  rw [← hE]
  have hX : Ext m E := by rw [hE]; exact ((Ext.refl m).one _ _)
  have LE : E.length = m.length + 1 := by rw [hE]; simp [roM_len]
  have oM : OwnB E (m.length) 27 [u, .int .i64 k.price, .int .i64 k.make, .int .i64 k.left] := by rw [hE]; exact (OwnB.here (by simp [roM_len]))
  clear hE
  have Q1 := fun M hM => l10Sales_rc M (mkV k u) k q hM hg hq
  rw [← hS] at Q1
  have Q2 := fun M hM => l2Sum_rc M u k.w hM fun j hj => m9_small hg j hj
  rw [show sumTo k.w k.w.length = tot k.w from rfl] at Q2
  try simp (config := {implicitDefEqProofs := false, maxDischargeDepth := 20}) (disch := first | omega | (simp only [lenE]; done) | (simp only [lenE]; omega) | rfl | (simp only [lenE, markR_len]; done) | (simp only [lenE, markR_len]; omega)) only [runE, mapE, listE, initT_5, initT_6, initT_7, initT_8, resV, oneV, binA, unA, reduceCtorEq, Nat.reduceEqDiff, Nat.reduceAdd, Nat.reduceLT, Nat.reduceLeDiff, Nat.reduceMul, Nat.reduceSub, ↓reduceIte, decide_true, decide_false, Bool.true_eq_false, Bool.false_eq_true, Bool.not_true, Bool.not_false, if_true, if_false, and_true, true_and, memE, celE, w64, Nat.zero_add, Nat.add_zero, Nat.mul_one, putL, and_self, ldn, oM.mk4]
  first | refine callH_rc (Q1 _ ⟨u, rfl, hX.ints hu⟩) ?_ | refine rcallH_rc (Q1 _ ⟨u, rfl, hX.ints hu⟩) ?_
  rintro r n1 ⟨rfl, nr1⟩
  obtain ⟨E1, hE1⟩ : ∃ M', M' = E ++ n1 := ⟨_, rfl⟩
  rw [← hE1]
  replace hX : Ext m E1 := by rw [hE1]; exact hX.app nr1
  replace oM := oM.ext n1
  rw [← hE1] at oM
  clear hE1
  try simp (config := {implicitDefEqProofs := false, maxDischargeDepth := 20}) (disch := first | omega | (simp only [lenE]; done) | (simp only [lenE]; omega) | rfl | (simp only [lenE, markR_len]; done) | (simp only [lenE, markR_len]; omega)) only [runE, mapE, listE, initT_5, initT_6, initT_7, initT_8, resV, oneV, binA, unA, reduceCtorEq, Nat.reduceEqDiff, Nat.reduceAdd, Nat.reduceLT, Nat.reduceLeDiff, Nat.reduceMul, Nat.reduceSub, ↓reduceIte, decide_true, decide_false, Bool.true_eq_false, Bool.false_eq_true, Bool.not_true, Bool.not_false, if_true, if_false, and_true, true_and, memE, celE, w64, Nat.zero_add, Nat.add_zero, Nat.mul_one, putL, and_self, ldn, oM.mk4]
  first | refine callH_rc (Q2 _ (hX.ints hu)) ?_ | refine rcallH_rc (Q2 _ (hX.ints hu)) ?_
  rintro r n2 ⟨rfl, rfl⟩
  try rw [List.append_nil]
  try simp (config := {implicitDefEqProofs := false, maxDischargeDepth := 20}) (disch := first | omega | (simp only [lenE]; done) | (simp only [lenE]; omega) | rfl | (simp only [lenE, markR_len]; done) | (simp only [lenE, markR_len]; omega)) only [runE, mapE, listE, initT_5, initT_6, initT_7, initT_8, resV, oneV, binA, unA, reduceCtorEq, Nat.reduceEqDiff, Nat.reduceAdd, Nat.reduceLT, Nat.reduceLeDiff, Nat.reduceMul, Nat.reduceSub, ↓reduceIte, decide_true, decide_false, Bool.true_eq_false, Bool.false_eq_true, Bool.not_true, Bool.not_false, if_true, if_false, and_true, true_and, memE, celE, w64, Nat.zero_add, Nat.add_zero, Nat.mul_one, putL, and_self, ldn, ← hA, oM.mk4]
  exact ext_ansV hX (by rw [joiP, hS, hA])
theorem profitsOf_rc (m : Mem) (v : Value) (k : Mk) (c : Ct) (q : Nat) (h : MkA m v k) (hg : GoodM k) (hc : GoodC c) (hq : q ≤ 8) :
    RC Try.prog 82 [v, ctV c, .int .i64 q] m (AnsV (.tuple #[.int .i64 (selP k c q), .int .i64 (makP k c q)])) := by
  refine rc_of_run mixed ok_impl_profitsOf (by simp) (go_start _ _ _ ?_)
  obtain ⟨u, rfl, hu⟩ := h.ro
  have pB := pro_bd (c := c) hg hc hq
  obtain ⟨S, hS⟩ : ∃ S, S = sal k.w q := ⟨_, rfl⟩
  obtain ⟨A, hA⟩ : ∃ A, A = tot k.w * (q : Int) := ⟨_, rfl⟩
  rw [← hS, ← hA] at pB
  obtain ⟨b1, b2, b3, b4, b5, b6, b7, b8, b9, b10, b11, b12, b13, b14, b15, b16, b17, b18, b19, b20⟩ := pB
  try simp (config := {implicitDefEqProofs := false, maxDischargeDepth := 20}) (disch := first | omega | (simp only [lenE]; done) | (simp only [lenE]; omega) | rfl | (simp only [lenE, markR_len]; done) | (simp only [lenE, markR_len]; omega)) only [runE, mapE, listE, initT_5, initT_6, initT_7, initT_8, resV, oneV, binA, unA, reduceCtorEq, Nat.reduceEqDiff, Nat.reduceAdd, Nat.reduceLT, Nat.reduceLeDiff, Nat.reduceMul, Nat.reduceSub, ↓reduceIte, decide_true, decide_false, Bool.true_eq_false, Bool.false_eq_true, Bool.not_true, Bool.not_false, if_true, if_false, and_true, true_and, memE, celE, w64, Nat.zero_add, Nat.add_zero, Nat.mul_one, putL, and_self, ldn, c_impl_profitsOf, r_impl_profitsOf, ctV]
  obtain ⟨E, hE⟩ : ∃ M', M' = roM m ++ [⟨.own, 27, [u, .int .i64 k.price, .int .i64 k.make, .int .i64 k.left]⟩] ++ [⟨.own, 34, [.int .i64 c.pay, .int .i64 c.back, .int .i64 c.share]⟩] := ⟨_, rfl⟩
  rw [← hE]
  have hX : Ext m E := by rw [hE]; exact (((Ext.refl m).one _ _).one _ _)
  have LE : E.length = m.length + 2 := by rw [hE]; simp [roM_len]
  have oM : OwnB E (m.length) 27 [u, .int .i64 k.price, .int .i64 k.make, .int .i64 k.left] := by rw [hE]; exact (OwnB.here (by simp [roM_len])).ext _
  have oC : OwnB E (m.length + 1) 34 [.int .i64 c.pay, .int .i64 c.back, .int .i64 c.share] := by rw [hE]; exact (OwnB.here (by simp [roM_len]))
  clear hE
  have Q1 := fun M hM => salesOf_rc M (mkV k u) k q hM hg hq
  rw [← hS, ← hA] at Q1
  try simp (config := {implicitDefEqProofs := false, maxDischargeDepth := 20}) (disch := first | omega | (simp only [lenE]; done) | (simp only [lenE]; omega) | rfl | (simp only [lenE, markR_len]; done) | (simp only [lenE, markR_len]; omega)) only [runE, mapE, listE, initT_5, initT_6, initT_7, initT_8, resV, oneV, binA, unA, reduceCtorEq, Nat.reduceEqDiff, Nat.reduceAdd, Nat.reduceLT, Nat.reduceLeDiff, Nat.reduceMul, Nat.reduceSub, ↓reduceIte, decide_true, decide_false, Bool.true_eq_false, Bool.false_eq_true, Bool.not_true, Bool.not_false, if_true, if_false, and_true, true_and, memE, celE, w64, Nat.zero_add, Nat.add_zero, Nat.mul_one, putL, and_self, ldn, oM.mk4, oC.mk3]
  first | refine callH_rc (Q1 _ ⟨u, rfl, hX.ints hu⟩) ?_ | refine rcallH_rc (Q1 _ ⟨u, rfl, hX.ints hu⟩) ?_
  rintro r n1 ⟨rfl, nr1⟩
  obtain ⟨E1, hE1⟩ : ∃ M', M' = E ++ n1 := ⟨_, rfl⟩
  rw [← hE1]
  replace hX : Ext m E1 := by rw [hE1]; exact hX.app nr1
  replace oM := oM.ext n1
  rw [← hE1] at oM
  replace oC := oC.ext n1
  rw [← hE1] at oC
  clear hE1
  have e1 : S + (A - S) = A := by omega
  try simp (config := {implicitDefEqProofs := false, maxDischargeDepth := 20}) (disch := first | omega | (simp only [lenE]; done) | (simp only [lenE]; omega) | rfl | (simp only [lenE, markR_len]; done) | (simp only [lenE, markR_len]; omega)) only [runE, mapE, listE, initT_5, initT_6, initT_7, initT_8, resV, oneV, binA, unA, reduceCtorEq, Nat.reduceEqDiff, Nat.reduceAdd, Nat.reduceLT, Nat.reduceLeDiff, Nat.reduceMul, Nat.reduceSub, ↓reduceIte, decide_true, decide_false, Bool.true_eq_false, Bool.false_eq_true, Bool.not_true, Bool.not_false, if_true, if_false, and_true, true_and, memE, celE, w64, Nat.zero_add, Nat.add_zero, Nat.mul_one, putL, and_self, ldn, e1, ext_2_0, ext_2_1, oM.mk4, oC.mk3]
  exact ext_ansV hX (by rw [selP, makP, hS, hA])
theorem jointProfit_rc (m : Mem) (v : Value) (k : Mk) (q : Nat) (h : MkA m v k) (hg : GoodM k) (hq : q ≤ 8) :
    RC Try.prog 85 [v, .int .i64 q] m (AnsV (.int .i64 (joiP k q))) := by
  refine rc_of_run mixed ok_impl_jointProfit (by simp) (go_start _ _ _ ?_)
  obtain ⟨u, rfl, hu⟩ := h.ro
  try simp (config := {implicitDefEqProofs := false, maxDischargeDepth := 20}) (disch := first | omega | (simp only [lenE]; done) | (simp only [lenE]; omega) | rfl | (simp only [lenE, markR_len]; done) | (simp only [lenE, markR_len]; omega)) only [runE, mapE, listE, initT_5, initT_6, initT_7, initT_8, resV, oneV, binA, unA, reduceCtorEq, Nat.reduceEqDiff, Nat.reduceAdd, Nat.reduceLT, Nat.reduceLeDiff, Nat.reduceMul, Nat.reduceSub, ↓reduceIte, decide_true, decide_false, Bool.true_eq_false, Bool.false_eq_true, Bool.not_true, Bool.not_false, if_true, if_false, and_true, true_and, memE, celE, w64, Nat.zero_add, Nat.add_zero, Nat.mul_one, putL, and_self, ldn, c_impl_jointProfit, r_impl_jointProfit]
  obtain ⟨E, hE⟩ : ∃ M', M' = roM m ++ [⟨.own, 27, [u, .int .i64 k.price, .int .i64 k.make, .int .i64 k.left]⟩] := ⟨_, rfl⟩
  rw [← hE]
  have hX : Ext m E := by rw [hE]; exact ((Ext.refl m).one _ _)
  have LE : E.length = m.length + 1 := by rw [hE]; simp [roM_len]
  have oM : OwnB E (m.length) 27 [u, .int .i64 k.price, .int .i64 k.make, .int .i64 k.left] := by rw [hE]; exact (OwnB.here (by simp [roM_len]))
  clear hE
  try simp (config := {implicitDefEqProofs := false, maxDischargeDepth := 20}) (disch := first | omega | (simp only [lenE]; done) | (simp only [lenE]; omega) | rfl | (simp only [lenE, markR_len]; done) | (simp only [lenE, markR_len]; omega)) only [runE, mapE, listE, initT_5, initT_6, initT_7, initT_8, resV, oneV, binA, unA, reduceCtorEq, Nat.reduceEqDiff, Nat.reduceAdd, Nat.reduceLT, Nat.reduceLeDiff, Nat.reduceMul, Nat.reduceSub, ↓reduceIte, decide_true, decide_false, Bool.true_eq_false, Bool.false_eq_true, Bool.not_true, Bool.not_false, if_true, if_false, and_true, true_and, memE, celE, w64, Nat.zero_add, Nat.add_zero, Nat.mul_one, putL, and_self, ldn, bld_ct0, oM.mk4]
  have b1 := sel_bd hg goodC0 hq
  have b2 := mak_bd hg goodC0 hq
  try simp (config := {implicitDefEqProofs := false, maxDischargeDepth := 20}) (disch := first | omega | (simp only [lenE]; done) | (simp only [lenE]; omega) | rfl | (simp only [lenE, markR_len]; done) | (simp only [lenE, markR_len]; omega)) only [runE, mapE, listE, initT_5, initT_6, initT_7, initT_8, resV, oneV, binA, unA, reduceCtorEq, Nat.reduceEqDiff, Nat.reduceAdd, Nat.reduceLT, Nat.reduceLeDiff, Nat.reduceMul, Nat.reduceSub, ↓reduceIte, decide_true, decide_false, Bool.true_eq_false, Bool.false_eq_true, Bool.not_true, Bool.not_false, if_true, if_false, and_true, true_and, memE, celE, w64, Nat.zero_add, Nat.add_zero, Nat.mul_one, putL, and_self, ldn, oM.mk4]
  first | refine callH_rc (profitsOf_rc _ (mkV k u) k ⟨0, 0, 0⟩ q ⟨u, rfl, hX.ints hu⟩ hg goodC0 hq) ?_ | refine rcallH_rc (profitsOf_rc _ (mkV k u) k ⟨0, 0, 0⟩ q ⟨u, rfl, hX.ints hu⟩ hg goodC0 hq) ?_
  rintro r n1 ⟨rfl, nr1⟩
  obtain ⟨E1, hE1⟩ : ∃ M', M' = E ++ n1 := ⟨_, rfl⟩
  rw [← hE1]
  replace hX : Ext m E1 := by rw [hE1]; exact hX.app nr1
  replace oM := oM.ext n1
  rw [← hE1] at oM
  clear hE1
  try simp (config := {implicitDefEqProofs := false, maxDischargeDepth := 20}) (disch := first | omega | (simp only [lenE]; done) | (simp only [lenE]; omega) | rfl | (simp only [lenE, markR_len]; done) | (simp only [lenE, markR_len]; omega)) only [runE, mapE, listE, initT_5, initT_6, initT_7, initT_8, resV, oneV, binA, unA, reduceCtorEq, Nat.reduceEqDiff, Nat.reduceAdd, Nat.reduceLT, Nat.reduceLeDiff, Nat.reduceMul, Nat.reduceSub, ↓reduceIte, decide_true, decide_false, Bool.true_eq_false, Bool.false_eq_true, Bool.not_true, Bool.not_false, if_true, if_false, and_true, true_and, memE, celE, w64, Nat.zero_add, Nat.add_zero, Nat.mul_one, putL, and_self, ldn, ext_2_0, ext_2_1, oM.mk4]
  exact ext_ansV hX (by rw [both_P])
theorem specSalesOf_rc (m : Mem) (v : Value) (k : Mk)  (q : Int) (h : MkA m v k) :
    RC Try.prog 28 [v, .int .i64 q] m (AnsV (.tuple #[.int .i64 (if ordM k q then sal k.w q.toNat else 0), .bool (ordM k q)])) := by
  refine rc_of_run mixed ok_spec_SalesOf (by simp) (go_start _ _ _ ?_)
  obtain ⟨u, rfl, hu⟩ := h.ro
  unfold ordM
  try simp (config := {implicitDefEqProofs := false, maxDischargeDepth := 20}) (disch := first | omega | (simp only [lenE]; done) | (simp only [lenE]; omega) | rfl | (simp only [lenE, markR_len]; done) | (simp only [lenE, markR_len]; omega)) only [runE, mapE, listE, initT_5, initT_6, initT_7, initT_8, resV, oneV, binA, unA, reduceCtorEq, Nat.reduceEqDiff, Nat.reduceAdd, Nat.reduceLT, Nat.reduceLeDiff, Nat.reduceMul, Nat.reduceSub, ↓reduceIte, decide_true, decide_false, Bool.true_eq_false, Bool.false_eq_true, Bool.not_true, Bool.not_false, if_true, if_false, and_true, true_and, memE, celE, w64, Nat.zero_add, Nat.add_zero, Nat.mul_one, putL, and_self, ldn, c_spec_SalesOf, r_spec_SalesOf]
  obtain ⟨E, hE⟩ : ∃ M', M' = roM m ++ [⟨.own, 27, [u, .int .i64 k.price, .int .i64 k.make, .int .i64 k.left]⟩] := ⟨_, rfl⟩
  rw [← hE]
  have hX : Ext m E := by rw [hE]; exact ((Ext.refl m).one _ _)
  have LE : E.length = m.length + 1 := by rw [hE]; simp [roM_len]
  have oM : OwnB E (m.length) 27 [u, .int .i64 k.price, .int .i64 k.make, .int .i64 k.left] := by rw [hE]; exact (OwnB.here (by simp [roM_len]))
  clear hE
  try simp (config := {implicitDefEqProofs := false, maxDischargeDepth := 20}) (disch := first | omega | (simp only [lenE]; done) | (simp only [lenE]; omega) | rfl | (simp only [lenE, markR_len]; done) | (simp only [lenE, markR_len]; omega)) only [runE, mapE, listE, initT_5, initT_6, initT_7, initT_8, resV, oneV, binA, unA, reduceCtorEq, Nat.reduceEqDiff, Nat.reduceAdd, Nat.reduceLT, Nat.reduceLeDiff, Nat.reduceMul, Nat.reduceSub, ↓reduceIte, decide_true, decide_false, Bool.true_eq_false, Bool.false_eq_true, Bool.not_true, Bool.not_false, if_true, if_false, and_true, true_and, memE, celE, w64, Nat.zero_add, Nat.add_zero, Nat.mul_one, putL, and_self, ldn, oM.mk4]
  first | refine callH_rc (l10Market_rc _ _ k ⟨u, rfl, hX.ints hu⟩) ?_ | refine rcallH_rc (l10Market_rc _ _ k ⟨u, rfl, hX.ints hu⟩) ?_
  rintro r n1 ⟨rfl, nr1⟩
  obtain ⟨E1, hE1⟩ : ∃ M', M' = E ++ n1 := ⟨_, rfl⟩
  rw [← hE1]
  replace hX : Ext m E1 := by rw [hE1]; exact hX.app nr1
  replace oM := oM.ext n1
  rw [← hE1] at oM
  clear hE1
  cases g1 : k.good with
  | false =>
    try simp (config := {implicitDefEqProofs := false, maxDischargeDepth := 20}) (disch := first | omega | (simp only [lenE]; done) | (simp only [lenE]; omega) | rfl | (simp only [lenE, markR_len]; done) | (simp only [lenE, markR_len]; omega)) only [runE, mapE, listE, initT_5, initT_6, initT_7, initT_8, resV, oneV, binA, unA, reduceCtorEq, Nat.reduceEqDiff, Nat.reduceAdd, Nat.reduceLT, Nat.reduceLeDiff, Nat.reduceMul, Nat.reduceSub, ↓reduceIte, decide_true, decide_false, Bool.true_eq_false, Bool.false_eq_true, Bool.not_true, Bool.not_false, if_true, if_false, and_true, true_and, memE, celE, w64, Nat.zero_add, Nat.add_zero, Nat.mul_one, putL, and_self, ldn, oM.mk4]
    exact ext_ansV hX (by simp)
  | true =>
  try simp (config := {implicitDefEqProofs := false, maxDischargeDepth := 20}) (disch := first | omega | (simp only [lenE]; done) | (simp only [lenE]; omega) | rfl | (simp only [lenE, markR_len]; done) | (simp only [lenE, markR_len]; omega)) only [runE, mapE, listE, initT_5, initT_6, initT_7, initT_8, resV, oneV, binA, unA, reduceCtorEq, Nat.reduceEqDiff, Nat.reduceAdd, Nat.reduceLT, Nat.reduceLeDiff, Nat.reduceMul, Nat.reduceSub, ↓reduceIte, decide_true, decide_false, Bool.true_eq_false, Bool.false_eq_true, Bool.not_true, Bool.not_false, if_true, if_false, and_true, true_and, memE, celE, w64, Nat.zero_add, Nat.add_zero, Nat.mul_one, putL, and_self, ldn, oM.mk4]
  first | refine callH_rc (l10Order_rc _ q) ?_ | refine rcallH_rc (l10Order_rc _ q) ?_
  rintro r n2 ⟨rfl, rfl⟩
  try rw [List.append_nil]
  cases g2 : inM 8 q with
  | false =>
    try simp (config := {implicitDefEqProofs := false, maxDischargeDepth := 20}) (disch := first | omega | (simp only [lenE]; done) | (simp only [lenE]; omega) | rfl | (simp only [lenE, markR_len]; done) | (simp only [lenE, markR_len]; omega)) only [runE, mapE, listE, initT_5, initT_6, initT_7, initT_8, resV, oneV, binA, unA, reduceCtorEq, Nat.reduceEqDiff, Nat.reduceAdd, Nat.reduceLT, Nat.reduceLeDiff, Nat.reduceMul, Nat.reduceSub, ↓reduceIte, decide_true, decide_false, Bool.true_eq_false, Bool.false_eq_true, Bool.not_true, Bool.not_false, if_true, if_false, and_true, true_and, memE, celE, w64, Nat.zero_add, Nat.add_zero, Nat.mul_one, putL, and_self, ldn, oM.mk4]
    exact ext_ansV hX (by simp)
  | true =>
  try simp (config := {implicitDefEqProofs := false, maxDischargeDepth := 20}) (disch := first | omega | (simp only [lenE]; done) | (simp only [lenE]; omega) | rfl | (simp only [lenE, markR_len]; done) | (simp only [lenE, markR_len]; omega)) only [runE, mapE, listE, initT_5, initT_6, initT_7, initT_8, resV, oneV, binA, unA, reduceCtorEq, Nat.reduceEqDiff, Nat.reduceAdd, Nat.reduceLT, Nat.reduceLeDiff, Nat.reduceMul, Nat.reduceSub, ↓reduceIte, decide_true, decide_false, Bool.true_eq_false, Bool.false_eq_true, Bool.not_true, Bool.not_false, if_true, if_false, and_true, true_and, memE, celE, w64, Nat.zero_add, Nat.add_zero, Nat.mul_one, putL, and_self, ldn, oM.mk4]
  obtain ⟨n, rfl⟩ : ∃ n : Nat, q = n := ⟨q.toNat, by have := inM_iff.1 g2; omega⟩
  have hq : n ≤ 8 := by have := inM_iff.1 g2; omega
  have hg := goodM_iff.1 g1
  first | refine callH_rc (l10Sales_rc _ _ k n ⟨u, rfl, hX.ints hu⟩ hg hq) ?_ | refine rcallH_rc (l10Sales_rc _ _ k n ⟨u, rfl, hX.ints hu⟩ hg hq) ?_
  rintro r n3 ⟨rfl, nr3⟩
  obtain ⟨E3, hE3⟩ : ∃ M', M' = E1 ++ n3 := ⟨_, rfl⟩
  rw [← hE3]
  replace hX : Ext m E3 := by rw [hE3]; exact hX.app nr3
  replace oM := oM.ext n3
  rw [← hE3] at oM
  clear hE3
  try simp (config := {implicitDefEqProofs := false, maxDischargeDepth := 20}) (disch := first | omega | (simp only [lenE]; done) | (simp only [lenE]; omega) | rfl | (simp only [lenE, markR_len]; done) | (simp only [lenE, markR_len]; omega)) only [runE, mapE, listE, initT_5, initT_6, initT_7, initT_8, resV, oneV, binA, unA, reduceCtorEq, Nat.reduceEqDiff, Nat.reduceAdd, Nat.reduceLT, Nat.reduceLeDiff, Nat.reduceMul, Nat.reduceSub, ↓reduceIte, decide_true, decide_false, Bool.true_eq_false, Bool.false_eq_true, Bool.not_true, Bool.not_false, if_true, if_false, and_true, true_and, memE, celE, w64, Nat.zero_add, Nat.add_zero, Nat.mul_one, putL, and_self, ldn, ext_2_0, ext_2_1, oM.mk4]
  exact ext_ansV hX (by simp)
theorem specSellerProfit_rc (m : Mem) (v : Value) (k : Mk) (c : Ct) (q : Int) (h : MkA m v k) :
    RC Try.prog 30 [v, ctV c, .int .i64 q] m (AnsV (.tuple #[.int .i64 (if ordC k c q then selP k c q.toNat else 0), .bool (ordC k c q)])) := by
  refine rc_of_run mixed ok_spec_SellerProfit (by simp) (go_start _ _ _ ?_)
  obtain ⟨u, rfl, hu⟩ := h.ro
  unfold ordC
  try simp (config := {implicitDefEqProofs := false, maxDischargeDepth := 20}) (disch := first | omega | (simp only [lenE]; done) | (simp only [lenE]; omega) | rfl | (simp only [lenE, markR_len]; done) | (simp only [lenE, markR_len]; omega)) only [runE, mapE, listE, initT_5, initT_6, initT_7, initT_8, resV, oneV, binA, unA, reduceCtorEq, Nat.reduceEqDiff, Nat.reduceAdd, Nat.reduceLT, Nat.reduceLeDiff, Nat.reduceMul, Nat.reduceSub, ↓reduceIte, decide_true, decide_false, Bool.true_eq_false, Bool.false_eq_true, Bool.not_true, Bool.not_false, if_true, if_false, and_true, true_and, memE, celE, w64, Nat.zero_add, Nat.add_zero, Nat.mul_one, putL, and_self, ldn, c_spec_SellerProfit, r_spec_SellerProfit, ctV]
  obtain ⟨E, hE⟩ : ∃ M', M' = roM m ++ [⟨.own, 27, [u, .int .i64 k.price, .int .i64 k.make, .int .i64 k.left]⟩] ++ [⟨.own, 34, [.int .i64 c.pay, .int .i64 c.back, .int .i64 c.share]⟩] := ⟨_, rfl⟩
  rw [← hE]
  have hX : Ext m E := by rw [hE]; exact (((Ext.refl m).one _ _).one _ _)
  have LE : E.length = m.length + 2 := by rw [hE]; simp [roM_len]
  have oM : OwnB E (m.length) 27 [u, .int .i64 k.price, .int .i64 k.make, .int .i64 k.left] := by rw [hE]; exact (OwnB.here (by simp [roM_len])).ext _
  have oC : OwnB E (m.length + 1) 34 [.int .i64 c.pay, .int .i64 c.back, .int .i64 c.share] := by rw [hE]; exact (OwnB.here (by simp [roM_len]))
  clear hE
  try simp (config := {implicitDefEqProofs := false, maxDischargeDepth := 20}) (disch := first | omega | (simp only [lenE]; done) | (simp only [lenE]; omega) | rfl | (simp only [lenE, markR_len]; done) | (simp only [lenE, markR_len]; omega)) only [runE, mapE, listE, initT_5, initT_6, initT_7, initT_8, resV, oneV, binA, unA, reduceCtorEq, Nat.reduceEqDiff, Nat.reduceAdd, Nat.reduceLT, Nat.reduceLeDiff, Nat.reduceMul, Nat.reduceSub, ↓reduceIte, decide_true, decide_false, Bool.true_eq_false, Bool.false_eq_true, Bool.not_true, Bool.not_false, if_true, if_false, and_true, true_and, memE, celE, w64, Nat.zero_add, Nat.add_zero, Nat.mul_one, putL, and_self, ldn, oM.mk4, oC.mk3]
  first | refine callH_rc (l10Both_rc _ _ k c ⟨u, rfl, hX.ints hu⟩) ?_ | refine rcallH_rc (l10Both_rc _ _ k c ⟨u, rfl, hX.ints hu⟩) ?_
  rintro r n1 ⟨rfl, nr1⟩
  obtain ⟨E1, hE1⟩ : ∃ M', M' = E ++ n1 := ⟨_, rfl⟩
  rw [← hE1]
  replace hX : Ext m E1 := by rw [hE1]; exact hX.app nr1
  replace oM := oM.ext n1
  rw [← hE1] at oM
  replace oC := oC.ext n1
  rw [← hE1] at oC
  clear hE1
  cases g1 : bothM k c with
  | false =>
    try simp (config := {implicitDefEqProofs := false, maxDischargeDepth := 20}) (disch := first | omega | (simp only [lenE]; done) | (simp only [lenE]; omega) | rfl | (simp only [lenE, markR_len]; done) | (simp only [lenE, markR_len]; omega)) only [runE, mapE, listE, initT_5, initT_6, initT_7, initT_8, resV, oneV, binA, unA, reduceCtorEq, Nat.reduceEqDiff, Nat.reduceAdd, Nat.reduceLT, Nat.reduceLeDiff, Nat.reduceMul, Nat.reduceSub, ↓reduceIte, decide_true, decide_false, Bool.true_eq_false, Bool.false_eq_true, Bool.not_true, Bool.not_false, if_true, if_false, and_true, true_and, memE, celE, w64, Nat.zero_add, Nat.add_zero, Nat.mul_one, putL, and_self, ldn, oM.mk4, oC.mk3]
    exact ext_ansV hX (by simp)
  | true =>
  try simp (config := {implicitDefEqProofs := false, maxDischargeDepth := 20}) (disch := first | omega | (simp only [lenE]; done) | (simp only [lenE]; omega) | rfl | (simp only [lenE, markR_len]; done) | (simp only [lenE, markR_len]; omega)) only [runE, mapE, listE, initT_5, initT_6, initT_7, initT_8, resV, oneV, binA, unA, reduceCtorEq, Nat.reduceEqDiff, Nat.reduceAdd, Nat.reduceLT, Nat.reduceLeDiff, Nat.reduceMul, Nat.reduceSub, ↓reduceIte, decide_true, decide_false, Bool.true_eq_false, Bool.false_eq_true, Bool.not_true, Bool.not_false, if_true, if_false, and_true, true_and, memE, celE, w64, Nat.zero_add, Nat.add_zero, Nat.mul_one, putL, and_self, ldn, oM.mk4, oC.mk3]
  first | refine callH_rc (l10Order_rc _ q) ?_ | refine rcallH_rc (l10Order_rc _ q) ?_
  rintro r n2 ⟨rfl, rfl⟩
  try rw [List.append_nil]
  cases g2 : inM 8 q with
  | false =>
    try simp (config := {implicitDefEqProofs := false, maxDischargeDepth := 20}) (disch := first | omega | (simp only [lenE]; done) | (simp only [lenE]; omega) | rfl | (simp only [lenE, markR_len]; done) | (simp only [lenE, markR_len]; omega)) only [runE, mapE, listE, initT_5, initT_6, initT_7, initT_8, resV, oneV, binA, unA, reduceCtorEq, Nat.reduceEqDiff, Nat.reduceAdd, Nat.reduceLT, Nat.reduceLeDiff, Nat.reduceMul, Nat.reduceSub, ↓reduceIte, decide_true, decide_false, Bool.true_eq_false, Bool.false_eq_true, Bool.not_true, Bool.not_false, if_true, if_false, and_true, true_and, memE, celE, w64, Nat.zero_add, Nat.add_zero, Nat.mul_one, putL, and_self, ldn, oM.mk4, oC.mk3]
    exact ext_ansV hX (by simp)
  | true =>
  try simp (config := {implicitDefEqProofs := false, maxDischargeDepth := 20}) (disch := first | omega | (simp only [lenE]; done) | (simp only [lenE]; omega) | rfl | (simp only [lenE, markR_len]; done) | (simp only [lenE, markR_len]; omega)) only [runE, mapE, listE, initT_5, initT_6, initT_7, initT_8, resV, oneV, binA, unA, reduceCtorEq, Nat.reduceEqDiff, Nat.reduceAdd, Nat.reduceLT, Nat.reduceLeDiff, Nat.reduceMul, Nat.reduceSub, ↓reduceIte, decide_true, decide_false, Bool.true_eq_false, Bool.false_eq_true, Bool.not_true, Bool.not_false, if_true, if_false, and_true, true_and, memE, celE, w64, Nat.zero_add, Nat.add_zero, Nat.mul_one, putL, and_self, ldn, oM.mk4, oC.mk3]
  obtain ⟨n, rfl⟩ : ∃ n : Nat, q = n := ⟨q.toNat, by have := inM_iff.1 g2; omega⟩
  have hq : n ≤ 8 := by have := inM_iff.1 g2; omega
  obtain ⟨hg, hc⟩ := bothM_iff.1 g1
  first | refine callH_rc (l10Seller_rc _ _ k c n ⟨u, rfl, hX.ints hu⟩ hg hc hq) ?_ | refine rcallH_rc (l10Seller_rc _ _ k c n ⟨u, rfl, hX.ints hu⟩ hg hc hq) ?_
  rintro r n3 ⟨rfl, nr3⟩
  obtain ⟨E3, hE3⟩ : ∃ M', M' = E1 ++ n3 := ⟨_, rfl⟩
  rw [← hE3]
  replace hX : Ext m E3 := by rw [hE3]; exact hX.app nr3
  replace oM := oM.ext n3
  rw [← hE3] at oM
  replace oC := oC.ext n3
  rw [← hE3] at oC
  clear hE3
  try simp (config := {implicitDefEqProofs := false, maxDischargeDepth := 20}) (disch := first | omega | (simp only [lenE]; done) | (simp only [lenE]; omega) | rfl | (simp only [lenE, markR_len]; done) | (simp only [lenE, markR_len]; omega)) only [runE, mapE, listE, initT_5, initT_6, initT_7, initT_8, resV, oneV, binA, unA, reduceCtorEq, Nat.reduceEqDiff, Nat.reduceAdd, Nat.reduceLT, Nat.reduceLeDiff, Nat.reduceMul, Nat.reduceSub, ↓reduceIte, decide_true, decide_false, Bool.true_eq_false, Bool.false_eq_true, Bool.not_true, Bool.not_false, if_true, if_false, and_true, true_and, memE, celE, w64, Nat.zero_add, Nat.add_zero, Nat.mul_one, putL, and_self, ldn, ext_2_0, ext_2_1, oM.mk4, oC.mk3]
  exact ext_ansV hX (by simp)
theorem specMakerProfit_rc (m : Mem) (v : Value) (k : Mk) (c : Ct) (q : Int) (h : MkA m v k) :
    RC Try.prog 32 [v, ctV c, .int .i64 q] m (AnsV (.tuple #[.int .i64 (if ordC k c q then makP k c q.toNat else 0), .bool (ordC k c q)])) := by
  refine rc_of_run mixed ok_spec_MakerProfit (by simp) (go_start _ _ _ ?_)
  obtain ⟨u, rfl, hu⟩ := h.ro
  unfold ordC
  try simp (config := {implicitDefEqProofs := false, maxDischargeDepth := 20}) (disch := first | omega | (simp only [lenE]; done) | (simp only [lenE]; omega) | rfl | (simp only [lenE, markR_len]; done) | (simp only [lenE, markR_len]; omega)) only [runE, mapE, listE, initT_5, initT_6, initT_7, initT_8, resV, oneV, binA, unA, reduceCtorEq, Nat.reduceEqDiff, Nat.reduceAdd, Nat.reduceLT, Nat.reduceLeDiff, Nat.reduceMul, Nat.reduceSub, ↓reduceIte, decide_true, decide_false, Bool.true_eq_false, Bool.false_eq_true, Bool.not_true, Bool.not_false, if_true, if_false, and_true, true_and, memE, celE, w64, Nat.zero_add, Nat.add_zero, Nat.mul_one, putL, and_self, ldn, c_spec_MakerProfit, r_spec_MakerProfit, ctV]
  obtain ⟨E, hE⟩ : ∃ M', M' = roM m ++ [⟨.own, 27, [u, .int .i64 k.price, .int .i64 k.make, .int .i64 k.left]⟩] ++ [⟨.own, 34, [.int .i64 c.pay, .int .i64 c.back, .int .i64 c.share]⟩] := ⟨_, rfl⟩
  rw [← hE]
  have hX : Ext m E := by rw [hE]; exact (((Ext.refl m).one _ _).one _ _)
  have LE : E.length = m.length + 2 := by rw [hE]; simp [roM_len]
  have oM : OwnB E (m.length) 27 [u, .int .i64 k.price, .int .i64 k.make, .int .i64 k.left] := by rw [hE]; exact (OwnB.here (by simp [roM_len])).ext _
  have oC : OwnB E (m.length + 1) 34 [.int .i64 c.pay, .int .i64 c.back, .int .i64 c.share] := by rw [hE]; exact (OwnB.here (by simp [roM_len]))
  clear hE
  try simp (config := {implicitDefEqProofs := false, maxDischargeDepth := 20}) (disch := first | omega | (simp only [lenE]; done) | (simp only [lenE]; omega) | rfl | (simp only [lenE, markR_len]; done) | (simp only [lenE, markR_len]; omega)) only [runE, mapE, listE, initT_5, initT_6, initT_7, initT_8, resV, oneV, binA, unA, reduceCtorEq, Nat.reduceEqDiff, Nat.reduceAdd, Nat.reduceLT, Nat.reduceLeDiff, Nat.reduceMul, Nat.reduceSub, ↓reduceIte, decide_true, decide_false, Bool.true_eq_false, Bool.false_eq_true, Bool.not_true, Bool.not_false, if_true, if_false, and_true, true_and, memE, celE, w64, Nat.zero_add, Nat.add_zero, Nat.mul_one, putL, and_self, ldn, oM.mk4, oC.mk3]
  first | refine callH_rc (l10Both_rc _ _ k c ⟨u, rfl, hX.ints hu⟩) ?_ | refine rcallH_rc (l10Both_rc _ _ k c ⟨u, rfl, hX.ints hu⟩) ?_
  rintro r n1 ⟨rfl, nr1⟩
  obtain ⟨E1, hE1⟩ : ∃ M', M' = E ++ n1 := ⟨_, rfl⟩
  rw [← hE1]
  replace hX : Ext m E1 := by rw [hE1]; exact hX.app nr1
  replace oM := oM.ext n1
  rw [← hE1] at oM
  replace oC := oC.ext n1
  rw [← hE1] at oC
  clear hE1
  cases g1 : bothM k c with
  | false =>
    try simp (config := {implicitDefEqProofs := false, maxDischargeDepth := 20}) (disch := first | omega | (simp only [lenE]; done) | (simp only [lenE]; omega) | rfl | (simp only [lenE, markR_len]; done) | (simp only [lenE, markR_len]; omega)) only [runE, mapE, listE, initT_5, initT_6, initT_7, initT_8, resV, oneV, binA, unA, reduceCtorEq, Nat.reduceEqDiff, Nat.reduceAdd, Nat.reduceLT, Nat.reduceLeDiff, Nat.reduceMul, Nat.reduceSub, ↓reduceIte, decide_true, decide_false, Bool.true_eq_false, Bool.false_eq_true, Bool.not_true, Bool.not_false, if_true, if_false, and_true, true_and, memE, celE, w64, Nat.zero_add, Nat.add_zero, Nat.mul_one, putL, and_self, ldn, oM.mk4, oC.mk3]
    exact ext_ansV hX (by simp)
  | true =>
  try simp (config := {implicitDefEqProofs := false, maxDischargeDepth := 20}) (disch := first | omega | (simp only [lenE]; done) | (simp only [lenE]; omega) | rfl | (simp only [lenE, markR_len]; done) | (simp only [lenE, markR_len]; omega)) only [runE, mapE, listE, initT_5, initT_6, initT_7, initT_8, resV, oneV, binA, unA, reduceCtorEq, Nat.reduceEqDiff, Nat.reduceAdd, Nat.reduceLT, Nat.reduceLeDiff, Nat.reduceMul, Nat.reduceSub, ↓reduceIte, decide_true, decide_false, Bool.true_eq_false, Bool.false_eq_true, Bool.not_true, Bool.not_false, if_true, if_false, and_true, true_and, memE, celE, w64, Nat.zero_add, Nat.add_zero, Nat.mul_one, putL, and_self, ldn, oM.mk4, oC.mk3]
  first | refine callH_rc (l10Order_rc _ q) ?_ | refine rcallH_rc (l10Order_rc _ q) ?_
  rintro r n2 ⟨rfl, rfl⟩
  try rw [List.append_nil]
  cases g2 : inM 8 q with
  | false =>
    try simp (config := {implicitDefEqProofs := false, maxDischargeDepth := 20}) (disch := first | omega | (simp only [lenE]; done) | (simp only [lenE]; omega) | rfl | (simp only [lenE, markR_len]; done) | (simp only [lenE, markR_len]; omega)) only [runE, mapE, listE, initT_5, initT_6, initT_7, initT_8, resV, oneV, binA, unA, reduceCtorEq, Nat.reduceEqDiff, Nat.reduceAdd, Nat.reduceLT, Nat.reduceLeDiff, Nat.reduceMul, Nat.reduceSub, ↓reduceIte, decide_true, decide_false, Bool.true_eq_false, Bool.false_eq_true, Bool.not_true, Bool.not_false, if_true, if_false, and_true, true_and, memE, celE, w64, Nat.zero_add, Nat.add_zero, Nat.mul_one, putL, and_self, ldn, oM.mk4, oC.mk3]
    exact ext_ansV hX (by simp)
  | true =>
  try simp (config := {implicitDefEqProofs := false, maxDischargeDepth := 20}) (disch := first | omega | (simp only [lenE]; done) | (simp only [lenE]; omega) | rfl | (simp only [lenE, markR_len]; done) | (simp only [lenE, markR_len]; omega)) only [runE, mapE, listE, initT_5, initT_6, initT_7, initT_8, resV, oneV, binA, unA, reduceCtorEq, Nat.reduceEqDiff, Nat.reduceAdd, Nat.reduceLT, Nat.reduceLeDiff, Nat.reduceMul, Nat.reduceSub, ↓reduceIte, decide_true, decide_false, Bool.true_eq_false, Bool.false_eq_true, Bool.not_true, Bool.not_false, if_true, if_false, and_true, true_and, memE, celE, w64, Nat.zero_add, Nat.add_zero, Nat.mul_one, putL, and_self, ldn, oM.mk4, oC.mk3]
  obtain ⟨n, rfl⟩ : ∃ n : Nat, q = n := ⟨q.toNat, by have := inM_iff.1 g2; omega⟩
  have hq : n ≤ 8 := by have := inM_iff.1 g2; omega
  obtain ⟨hg, hc⟩ := bothM_iff.1 g1
  first | refine callH_rc (l10Maker_rc _ _ k c n ⟨u, rfl, hX.ints hu⟩ hg hc hq) ?_ | refine rcallH_rc (l10Maker_rc _ _ k c n ⟨u, rfl, hX.ints hu⟩ hg hc hq) ?_
  rintro r n3 ⟨rfl, nr3⟩
  obtain ⟨E3, hE3⟩ : ∃ M', M' = E1 ++ n3 := ⟨_, rfl⟩
  rw [← hE3]
  replace hX : Ext m E3 := by rw [hE3]; exact hX.app nr3
  replace oM := oM.ext n3
  rw [← hE3] at oM
  replace oC := oC.ext n3
  rw [← hE3] at oC
  clear hE3
  try simp (config := {implicitDefEqProofs := false, maxDischargeDepth := 20}) (disch := first | omega | (simp only [lenE]; done) | (simp only [lenE]; omega) | rfl | (simp only [lenE, markR_len]; done) | (simp only [lenE, markR_len]; omega)) only [runE, mapE, listE, initT_5, initT_6, initT_7, initT_8, resV, oneV, binA, unA, reduceCtorEq, Nat.reduceEqDiff, Nat.reduceAdd, Nat.reduceLT, Nat.reduceLeDiff, Nat.reduceMul, Nat.reduceSub, ↓reduceIte, decide_true, decide_false, Bool.true_eq_false, Bool.false_eq_true, Bool.not_true, Bool.not_false, if_true, if_false, and_true, true_and, memE, celE, w64, Nat.zero_add, Nat.add_zero, Nat.mul_one, putL, and_self, ldn, ext_2_0, ext_2_1, oM.mk4, oC.mk3]
  exact ext_ansV hX (by simp)
theorem specJointProfit_rc (m : Mem) (v : Value) (k : Mk)  (q : Int) (h : MkA m v k) :
    RC Try.prog 34 [v, .int .i64 q] m (AnsV (.tuple #[.int .i64 (if ordM k q then joiP k q.toNat else 0), .bool (ordM k q)])) := by
  refine rc_of_run mixed ok_spec_JointProfit (by simp) (go_start _ _ _ ?_)
  obtain ⟨u, rfl, hu⟩ := h.ro
  unfold ordM
  try simp (config := {implicitDefEqProofs := false, maxDischargeDepth := 20}) (disch := first | omega | (simp only [lenE]; done) | (simp only [lenE]; omega) | rfl | (simp only [lenE, markR_len]; done) | (simp only [lenE, markR_len]; omega)) only [runE, mapE, listE, initT_5, initT_6, initT_7, initT_8, resV, oneV, binA, unA, reduceCtorEq, Nat.reduceEqDiff, Nat.reduceAdd, Nat.reduceLT, Nat.reduceLeDiff, Nat.reduceMul, Nat.reduceSub, ↓reduceIte, decide_true, decide_false, Bool.true_eq_false, Bool.false_eq_true, Bool.not_true, Bool.not_false, if_true, if_false, and_true, true_and, memE, celE, w64, Nat.zero_add, Nat.add_zero, Nat.mul_one, putL, and_self, ldn, c_spec_JointProfit, r_spec_JointProfit]
  obtain ⟨E, hE⟩ : ∃ M', M' = roM m ++ [⟨.own, 27, [u, .int .i64 k.price, .int .i64 k.make, .int .i64 k.left]⟩] := ⟨_, rfl⟩
  rw [← hE]
  have hX : Ext m E := by rw [hE]; exact ((Ext.refl m).one _ _)
  have LE : E.length = m.length + 1 := by rw [hE]; simp [roM_len]
  have oM : OwnB E (m.length) 27 [u, .int .i64 k.price, .int .i64 k.make, .int .i64 k.left] := by rw [hE]; exact (OwnB.here (by simp [roM_len]))
  clear hE
  try simp (config := {implicitDefEqProofs := false, maxDischargeDepth := 20}) (disch := first | omega | (simp only [lenE]; done) | (simp only [lenE]; omega) | rfl | (simp only [lenE, markR_len]; done) | (simp only [lenE, markR_len]; omega)) only [runE, mapE, listE, initT_5, initT_6, initT_7, initT_8, resV, oneV, binA, unA, reduceCtorEq, Nat.reduceEqDiff, Nat.reduceAdd, Nat.reduceLT, Nat.reduceLeDiff, Nat.reduceMul, Nat.reduceSub, ↓reduceIte, decide_true, decide_false, Bool.true_eq_false, Bool.false_eq_true, Bool.not_true, Bool.not_false, if_true, if_false, and_true, true_and, memE, celE, w64, Nat.zero_add, Nat.add_zero, Nat.mul_one, putL, and_self, ldn, oM.mk4]
  first | refine callH_rc (l10Market_rc _ _ k ⟨u, rfl, hX.ints hu⟩) ?_ | refine rcallH_rc (l10Market_rc _ _ k ⟨u, rfl, hX.ints hu⟩) ?_
  rintro r n1 ⟨rfl, nr1⟩
  obtain ⟨E1, hE1⟩ : ∃ M', M' = E ++ n1 := ⟨_, rfl⟩
  rw [← hE1]
  replace hX : Ext m E1 := by rw [hE1]; exact hX.app nr1
  replace oM := oM.ext n1
  rw [← hE1] at oM
  clear hE1
  cases g1 : k.good with
  | false =>
    try simp (config := {implicitDefEqProofs := false, maxDischargeDepth := 20}) (disch := first | omega | (simp only [lenE]; done) | (simp only [lenE]; omega) | rfl | (simp only [lenE, markR_len]; done) | (simp only [lenE, markR_len]; omega)) only [runE, mapE, listE, initT_5, initT_6, initT_7, initT_8, resV, oneV, binA, unA, reduceCtorEq, Nat.reduceEqDiff, Nat.reduceAdd, Nat.reduceLT, Nat.reduceLeDiff, Nat.reduceMul, Nat.reduceSub, ↓reduceIte, decide_true, decide_false, Bool.true_eq_false, Bool.false_eq_true, Bool.not_true, Bool.not_false, if_true, if_false, and_true, true_and, memE, celE, w64, Nat.zero_add, Nat.add_zero, Nat.mul_one, putL, and_self, ldn, oM.mk4]
    exact ext_ansV hX (by simp)
  | true =>
  try simp (config := {implicitDefEqProofs := false, maxDischargeDepth := 20}) (disch := first | omega | (simp only [lenE]; done) | (simp only [lenE]; omega) | rfl | (simp only [lenE, markR_len]; done) | (simp only [lenE, markR_len]; omega)) only [runE, mapE, listE, initT_5, initT_6, initT_7, initT_8, resV, oneV, binA, unA, reduceCtorEq, Nat.reduceEqDiff, Nat.reduceAdd, Nat.reduceLT, Nat.reduceLeDiff, Nat.reduceMul, Nat.reduceSub, ↓reduceIte, decide_true, decide_false, Bool.true_eq_false, Bool.false_eq_true, Bool.not_true, Bool.not_false, if_true, if_false, and_true, true_and, memE, celE, w64, Nat.zero_add, Nat.add_zero, Nat.mul_one, putL, and_self, ldn, oM.mk4]
  first | refine callH_rc (l10Order_rc _ q) ?_ | refine rcallH_rc (l10Order_rc _ q) ?_
  rintro r n2 ⟨rfl, rfl⟩
  try rw [List.append_nil]
  cases g2 : inM 8 q with
  | false =>
    try simp (config := {implicitDefEqProofs := false, maxDischargeDepth := 20}) (disch := first | omega | (simp only [lenE]; done) | (simp only [lenE]; omega) | rfl | (simp only [lenE, markR_len]; done) | (simp only [lenE, markR_len]; omega)) only [runE, mapE, listE, initT_5, initT_6, initT_7, initT_8, resV, oneV, binA, unA, reduceCtorEq, Nat.reduceEqDiff, Nat.reduceAdd, Nat.reduceLT, Nat.reduceLeDiff, Nat.reduceMul, Nat.reduceSub, ↓reduceIte, decide_true, decide_false, Bool.true_eq_false, Bool.false_eq_true, Bool.not_true, Bool.not_false, if_true, if_false, and_true, true_and, memE, celE, w64, Nat.zero_add, Nat.add_zero, Nat.mul_one, putL, and_self, ldn, oM.mk4]
    exact ext_ansV hX (by simp)
  | true =>
  try simp (config := {implicitDefEqProofs := false, maxDischargeDepth := 20}) (disch := first | omega | (simp only [lenE]; done) | (simp only [lenE]; omega) | rfl | (simp only [lenE, markR_len]; done) | (simp only [lenE, markR_len]; omega)) only [runE, mapE, listE, initT_5, initT_6, initT_7, initT_8, resV, oneV, binA, unA, reduceCtorEq, Nat.reduceEqDiff, Nat.reduceAdd, Nat.reduceLT, Nat.reduceLeDiff, Nat.reduceMul, Nat.reduceSub, ↓reduceIte, decide_true, decide_false, Bool.true_eq_false, Bool.false_eq_true, Bool.not_true, Bool.not_false, if_true, if_false, and_true, true_and, memE, celE, w64, Nat.zero_add, Nat.add_zero, Nat.mul_one, putL, and_self, ldn, oM.mk4]
  obtain ⟨n, rfl⟩ : ∃ n : Nat, q = n := ⟨q.toNat, by have := inM_iff.1 g2; omega⟩
  have hq : n ≤ 8 := by have := inM_iff.1 g2; omega
  have hg := goodM_iff.1 g1
  first | refine callH_rc (l10Joint_rc _ _ k n ⟨u, rfl, hX.ints hu⟩ hg hq) ?_ | refine rcallH_rc (l10Joint_rc _ _ k n ⟨u, rfl, hX.ints hu⟩ hg hq) ?_
  rintro r n3 ⟨rfl, nr3⟩
  obtain ⟨E3, hE3⟩ : ∃ M', M' = E1 ++ n3 := ⟨_, rfl⟩
  rw [← hE3]
  replace hX : Ext m E3 := by rw [hE3]; exact hX.app nr3
  replace oM := oM.ext n3
  rw [← hE3] at oM
  clear hE3
  try simp (config := {implicitDefEqProofs := false, maxDischargeDepth := 20}) (disch := first | omega | (simp only [lenE]; done) | (simp only [lenE]; omega) | rfl | (simp only [lenE, markR_len]; done) | (simp only [lenE, markR_len]; omega)) only [runE, mapE, listE, initT_5, initT_6, initT_7, initT_8, resV, oneV, binA, unA, reduceCtorEq, Nat.reduceEqDiff, Nat.reduceAdd, Nat.reduceLT, Nat.reduceLeDiff, Nat.reduceMul, Nat.reduceSub, ↓reduceIte, decide_true, decide_false, Bool.true_eq_false, Bool.false_eq_true, Bool.not_true, Bool.not_false, if_true, if_false, and_true, true_and, memE, celE, w64, Nat.zero_add, Nat.add_zero, Nat.mul_one, putL, and_self, ldn, ext_2_0, ext_2_1, oM.mk4]
  exact ext_ansV hX (by simp)
theorem implSalesOf_rc (m : Mem) (v : Value) (k : Mk)  (q : Int) (h : MkA m v k) :
    RC Try.prog 29 [v, .int .i64 q] m (AnsV (.tuple #[.int .i64 (if ordM k q then sal k.w q.toNat else 0), .bool (ordM k q)])) := by
  refine rc_of_run mixed ok_impl_SalesOf (by simp) (go_start _ _ _ ?_)
  obtain ⟨u, rfl, hu⟩ := h.ro
  unfold ordM
  try simp (config := {implicitDefEqProofs := false, maxDischargeDepth := 20}) (disch := first | omega | (simp only [lenE]; done) | (simp only [lenE]; omega) | rfl | (simp only [lenE, markR_len]; done) | (simp only [lenE, markR_len]; omega)) only [runE, mapE, listE, initT_5, initT_6, initT_7, initT_8, resV, oneV, binA, unA, reduceCtorEq, Nat.reduceEqDiff, Nat.reduceAdd, Nat.reduceLT, Nat.reduceLeDiff, Nat.reduceMul, Nat.reduceSub, ↓reduceIte, decide_true, decide_false, Bool.true_eq_false, Bool.false_eq_true, Bool.not_true, Bool.not_false, if_true, if_false, and_true, true_and, memE, celE, w64, Nat.zero_add, Nat.add_zero, Nat.mul_one, putL, and_self, ldn, c_impl_SalesOf, r_impl_SalesOf]
  obtain ⟨E, hE⟩ : ∃ M', M' = roM m ++ [⟨.own, 27, [u, .int .i64 k.price, .int .i64 k.make, .int .i64 k.left]⟩] := ⟨_, rfl⟩
  rw [← hE]
  have hX : Ext m E := by rw [hE]; exact ((Ext.refl m).one _ _)
  have LE : E.length = m.length + 1 := by rw [hE]; simp [roM_len]
  have oM : OwnB E (m.length) 27 [u, .int .i64 k.price, .int .i64 k.make, .int .i64 k.left] := by rw [hE]; exact (OwnB.here (by simp [roM_len]))
  clear hE
  try simp (config := {implicitDefEqProofs := false, maxDischargeDepth := 20}) (disch := first | omega | (simp only [lenE]; done) | (simp only [lenE]; omega) | rfl | (simp only [lenE, markR_len]; done) | (simp only [lenE, markR_len]; omega)) only [runE, mapE, listE, initT_5, initT_6, initT_7, initT_8, resV, oneV, binA, unA, reduceCtorEq, Nat.reduceEqDiff, Nat.reduceAdd, Nat.reduceLT, Nat.reduceLeDiff, Nat.reduceMul, Nat.reduceSub, ↓reduceIte, decide_true, decide_false, Bool.true_eq_false, Bool.false_eq_true, Bool.not_true, Bool.not_false, if_true, if_false, and_true, true_and, memE, celE, w64, Nat.zero_add, Nat.add_zero, Nat.mul_one, putL, and_self, ldn, oM.mk4]
  first | refine callH_rc (implIsMarket_rc _ _ k ⟨u, rfl, hX.ints hu⟩) ?_ | refine rcallH_rc (implIsMarket_rc _ _ k ⟨u, rfl, hX.ints hu⟩) ?_
  rintro r n1 ⟨rfl, nr1⟩
  obtain ⟨E1, hE1⟩ : ∃ M', M' = E ++ n1 := ⟨_, rfl⟩
  rw [← hE1]
  replace hX : Ext m E1 := by rw [hE1]; exact hX.app nr1
  replace oM := oM.ext n1
  rw [← hE1] at oM
  clear hE1
  cases g1 : k.good with
  | false =>
    try simp (config := {implicitDefEqProofs := false, maxDischargeDepth := 20}) (disch := first | omega | (simp only [lenE]; done) | (simp only [lenE]; omega) | rfl | (simp only [lenE, markR_len]; done) | (simp only [lenE, markR_len]; omega)) only [runE, mapE, listE, initT_5, initT_6, initT_7, initT_8, resV, oneV, binA, unA, reduceCtorEq, Nat.reduceEqDiff, Nat.reduceAdd, Nat.reduceLT, Nat.reduceLeDiff, Nat.reduceMul, Nat.reduceSub, ↓reduceIte, decide_true, decide_false, Bool.true_eq_false, Bool.false_eq_true, Bool.not_true, Bool.not_false, if_true, if_false, and_true, true_and, memE, celE, w64, Nat.zero_add, Nat.add_zero, Nat.mul_one, putL, and_self, ldn, oM.mk4]
    exact ext_ansV hX (by simp)
  | true =>
  try simp (config := {implicitDefEqProofs := false, maxDischargeDepth := 20}) (disch := first | omega | (simp only [lenE]; done) | (simp only [lenE]; omega) | rfl | (simp only [lenE, markR_len]; done) | (simp only [lenE, markR_len]; omega)) only [runE, mapE, listE, initT_5, initT_6, initT_7, initT_8, resV, oneV, binA, unA, reduceCtorEq, Nat.reduceEqDiff, Nat.reduceAdd, Nat.reduceLT, Nat.reduceLeDiff, Nat.reduceMul, Nat.reduceSub, ↓reduceIte, decide_true, decide_false, Bool.true_eq_false, Bool.false_eq_true, Bool.not_true, Bool.not_false, if_true, if_false, and_true, true_and, memE, celE, w64, Nat.zero_add, Nat.add_zero, Nat.mul_one, putL, and_self, ldn, oM.mk4]
  first | refine callH_rc (isSalesOrder_rc _ q) ?_ | refine rcallH_rc (isSalesOrder_rc _ q) ?_
  rintro r n2 ⟨rfl, rfl⟩
  try rw [List.append_nil]
  cases g2 : inM 8 q with
  | false =>
    try simp (config := {implicitDefEqProofs := false, maxDischargeDepth := 20}) (disch := first | omega | (simp only [lenE]; done) | (simp only [lenE]; omega) | rfl | (simp only [lenE, markR_len]; done) | (simp only [lenE, markR_len]; omega)) only [runE, mapE, listE, initT_5, initT_6, initT_7, initT_8, resV, oneV, binA, unA, reduceCtorEq, Nat.reduceEqDiff, Nat.reduceAdd, Nat.reduceLT, Nat.reduceLeDiff, Nat.reduceMul, Nat.reduceSub, ↓reduceIte, decide_true, decide_false, Bool.true_eq_false, Bool.false_eq_true, Bool.not_true, Bool.not_false, if_true, if_false, and_true, true_and, memE, celE, w64, Nat.zero_add, Nat.add_zero, Nat.mul_one, putL, and_self, ldn, oM.mk4]
    exact ext_ansV hX (by simp)
  | true =>
  try simp (config := {implicitDefEqProofs := false, maxDischargeDepth := 20}) (disch := first | omega | (simp only [lenE]; done) | (simp only [lenE]; omega) | rfl | (simp only [lenE, markR_len]; done) | (simp only [lenE, markR_len]; omega)) only [runE, mapE, listE, initT_5, initT_6, initT_7, initT_8, resV, oneV, binA, unA, reduceCtorEq, Nat.reduceEqDiff, Nat.reduceAdd, Nat.reduceLT, Nat.reduceLeDiff, Nat.reduceMul, Nat.reduceSub, ↓reduceIte, decide_true, decide_false, Bool.true_eq_false, Bool.false_eq_true, Bool.not_true, Bool.not_false, if_true, if_false, and_true, true_and, memE, celE, w64, Nat.zero_add, Nat.add_zero, Nat.mul_one, putL, and_self, ldn, oM.mk4]
  obtain ⟨n, rfl⟩ : ∃ n : Nat, q = n := ⟨q.toNat, by have := inM_iff.1 g2; omega⟩
  have hq : n ≤ 8 := by have := inM_iff.1 g2; omega
  have hg := goodM_iff.1 g1
  first | refine callH_rc (salesOf_rc _ _ k n ⟨u, rfl, hX.ints hu⟩ hg hq) ?_ | refine rcallH_rc (salesOf_rc _ _ k n ⟨u, rfl, hX.ints hu⟩ hg hq) ?_
  rintro r n3 ⟨rfl, nr3⟩
  obtain ⟨E3, hE3⟩ : ∃ M', M' = E1 ++ n3 := ⟨_, rfl⟩
  rw [← hE3]
  replace hX : Ext m E3 := by rw [hE3]; exact hX.app nr3
  replace oM := oM.ext n3
  rw [← hE3] at oM
  clear hE3
  try simp (config := {implicitDefEqProofs := false, maxDischargeDepth := 20}) (disch := first | omega | (simp only [lenE]; done) | (simp only [lenE]; omega) | rfl | (simp only [lenE, markR_len]; done) | (simp only [lenE, markR_len]; omega)) only [runE, mapE, listE, initT_5, initT_6, initT_7, initT_8, resV, oneV, binA, unA, reduceCtorEq, Nat.reduceEqDiff, Nat.reduceAdd, Nat.reduceLT, Nat.reduceLeDiff, Nat.reduceMul, Nat.reduceSub, ↓reduceIte, decide_true, decide_false, Bool.true_eq_false, Bool.false_eq_true, Bool.not_true, Bool.not_false, if_true, if_false, and_true, true_and, memE, celE, w64, Nat.zero_add, Nat.add_zero, Nat.mul_one, putL, and_self, ldn, ext_2_0, ext_2_1, oM.mk4]
  exact ext_ansV hX (by simp)
theorem implSellerProfit_rc (m : Mem) (v : Value) (k : Mk) (c : Ct) (q : Int) (h : MkA m v k) :
    RC Try.prog 31 [v, ctV c, .int .i64 q] m (AnsV (.tuple #[.int .i64 (if ordC k c q then selP k c q.toNat else 0), .bool (ordC k c q)])) := by
  refine rc_of_run mixed ok_impl_SellerProfit (by simp) (go_start _ _ _ ?_)
  obtain ⟨u, rfl, hu⟩ := h.ro
  unfold ordC
  try simp (config := {implicitDefEqProofs := false, maxDischargeDepth := 20}) (disch := first | omega | (simp only [lenE]; done) | (simp only [lenE]; omega) | rfl | (simp only [lenE, markR_len]; done) | (simp only [lenE, markR_len]; omega)) only [runE, mapE, listE, initT_5, initT_6, initT_7, initT_8, resV, oneV, binA, unA, reduceCtorEq, Nat.reduceEqDiff, Nat.reduceAdd, Nat.reduceLT, Nat.reduceLeDiff, Nat.reduceMul, Nat.reduceSub, ↓reduceIte, decide_true, decide_false, Bool.true_eq_false, Bool.false_eq_true, Bool.not_true, Bool.not_false, if_true, if_false, and_true, true_and, memE, celE, w64, Nat.zero_add, Nat.add_zero, Nat.mul_one, putL, and_self, ldn, c_impl_SellerProfit, r_impl_SellerProfit, ctV]
  obtain ⟨E, hE⟩ : ∃ M', M' = roM m ++ [⟨.own, 27, [u, .int .i64 k.price, .int .i64 k.make, .int .i64 k.left]⟩] ++ [⟨.own, 34, [.int .i64 c.pay, .int .i64 c.back, .int .i64 c.share]⟩] := ⟨_, rfl⟩
  rw [← hE]
  have hX : Ext m E := by rw [hE]; exact (((Ext.refl m).one _ _).one _ _)
  have LE : E.length = m.length + 2 := by rw [hE]; simp [roM_len]
  have oM : OwnB E (m.length) 27 [u, .int .i64 k.price, .int .i64 k.make, .int .i64 k.left] := by rw [hE]; exact (OwnB.here (by simp [roM_len])).ext _
  have oC : OwnB E (m.length + 1) 34 [.int .i64 c.pay, .int .i64 c.back, .int .i64 c.share] := by rw [hE]; exact (OwnB.here (by simp [roM_len]))
  clear hE
  try simp (config := {implicitDefEqProofs := false, maxDischargeDepth := 20}) (disch := first | omega | (simp only [lenE]; done) | (simp only [lenE]; omega) | rfl | (simp only [lenE, markR_len]; done) | (simp only [lenE, markR_len]; omega)) only [runE, mapE, listE, initT_5, initT_6, initT_7, initT_8, resV, oneV, binA, unA, reduceCtorEq, Nat.reduceEqDiff, Nat.reduceAdd, Nat.reduceLT, Nat.reduceLeDiff, Nat.reduceMul, Nat.reduceSub, ↓reduceIte, decide_true, decide_false, Bool.true_eq_false, Bool.false_eq_true, Bool.not_true, Bool.not_false, if_true, if_false, and_true, true_and, memE, celE, w64, Nat.zero_add, Nat.add_zero, Nat.mul_one, putL, and_self, ldn, oM.mk4, oC.mk3]
  first | refine callH_rc (isAgreed_rc _ _ k c ⟨u, rfl, hX.ints hu⟩) ?_ | refine rcallH_rc (isAgreed_rc _ _ k c ⟨u, rfl, hX.ints hu⟩) ?_
  rintro r n1 ⟨rfl, nr1⟩
  obtain ⟨E1, hE1⟩ : ∃ M', M' = E ++ n1 := ⟨_, rfl⟩
  rw [← hE1]
  replace hX : Ext m E1 := by rw [hE1]; exact hX.app nr1
  replace oM := oM.ext n1
  rw [← hE1] at oM
  replace oC := oC.ext n1
  rw [← hE1] at oC
  clear hE1
  cases g1 : bothM k c with
  | false =>
    try simp (config := {implicitDefEqProofs := false, maxDischargeDepth := 20}) (disch := first | omega | (simp only [lenE]; done) | (simp only [lenE]; omega) | rfl | (simp only [lenE, markR_len]; done) | (simp only [lenE, markR_len]; omega)) only [runE, mapE, listE, initT_5, initT_6, initT_7, initT_8, resV, oneV, binA, unA, reduceCtorEq, Nat.reduceEqDiff, Nat.reduceAdd, Nat.reduceLT, Nat.reduceLeDiff, Nat.reduceMul, Nat.reduceSub, ↓reduceIte, decide_true, decide_false, Bool.true_eq_false, Bool.false_eq_true, Bool.not_true, Bool.not_false, if_true, if_false, and_true, true_and, memE, celE, w64, Nat.zero_add, Nat.add_zero, Nat.mul_one, putL, and_self, ldn, oM.mk4, oC.mk3]
    exact ext_ansV hX (by simp)
  | true =>
  try simp (config := {implicitDefEqProofs := false, maxDischargeDepth := 20}) (disch := first | omega | (simp only [lenE]; done) | (simp only [lenE]; omega) | rfl | (simp only [lenE, markR_len]; done) | (simp only [lenE, markR_len]; omega)) only [runE, mapE, listE, initT_5, initT_6, initT_7, initT_8, resV, oneV, binA, unA, reduceCtorEq, Nat.reduceEqDiff, Nat.reduceAdd, Nat.reduceLT, Nat.reduceLeDiff, Nat.reduceMul, Nat.reduceSub, ↓reduceIte, decide_true, decide_false, Bool.true_eq_false, Bool.false_eq_true, Bool.not_true, Bool.not_false, if_true, if_false, and_true, true_and, memE, celE, w64, Nat.zero_add, Nat.add_zero, Nat.mul_one, putL, and_self, ldn, oM.mk4, oC.mk3]
  first | refine callH_rc (isSalesOrder_rc _ q) ?_ | refine rcallH_rc (isSalesOrder_rc _ q) ?_
  rintro r n2 ⟨rfl, rfl⟩
  try rw [List.append_nil]
  cases g2 : inM 8 q with
  | false =>
    try simp (config := {implicitDefEqProofs := false, maxDischargeDepth := 20}) (disch := first | omega | (simp only [lenE]; done) | (simp only [lenE]; omega) | rfl | (simp only [lenE, markR_len]; done) | (simp only [lenE, markR_len]; omega)) only [runE, mapE, listE, initT_5, initT_6, initT_7, initT_8, resV, oneV, binA, unA, reduceCtorEq, Nat.reduceEqDiff, Nat.reduceAdd, Nat.reduceLT, Nat.reduceLeDiff, Nat.reduceMul, Nat.reduceSub, ↓reduceIte, decide_true, decide_false, Bool.true_eq_false, Bool.false_eq_true, Bool.not_true, Bool.not_false, if_true, if_false, and_true, true_and, memE, celE, w64, Nat.zero_add, Nat.add_zero, Nat.mul_one, putL, and_self, ldn, oM.mk4, oC.mk3]
    exact ext_ansV hX (by simp)
  | true =>
  try simp (config := {implicitDefEqProofs := false, maxDischargeDepth := 20}) (disch := first | omega | (simp only [lenE]; done) | (simp only [lenE]; omega) | rfl | (simp only [lenE, markR_len]; done) | (simp only [lenE, markR_len]; omega)) only [runE, mapE, listE, initT_5, initT_6, initT_7, initT_8, resV, oneV, binA, unA, reduceCtorEq, Nat.reduceEqDiff, Nat.reduceAdd, Nat.reduceLT, Nat.reduceLeDiff, Nat.reduceMul, Nat.reduceSub, ↓reduceIte, decide_true, decide_false, Bool.true_eq_false, Bool.false_eq_true, Bool.not_true, Bool.not_false, if_true, if_false, and_true, true_and, memE, celE, w64, Nat.zero_add, Nat.add_zero, Nat.mul_one, putL, and_self, ldn, oM.mk4, oC.mk3]
  obtain ⟨n, rfl⟩ : ∃ n : Nat, q = n := ⟨q.toNat, by have := inM_iff.1 g2; omega⟩
  have hq : n ≤ 8 := by have := inM_iff.1 g2; omega
  obtain ⟨hg, hc⟩ := bothM_iff.1 g1
  first | refine callH_rc (profitsOf_rc _ _ k c n ⟨u, rfl, hX.ints hu⟩ hg hc hq) ?_ | refine rcallH_rc (profitsOf_rc _ _ k c n ⟨u, rfl, hX.ints hu⟩ hg hc hq) ?_
  rintro r n3 ⟨rfl, nr3⟩
  obtain ⟨E3, hE3⟩ : ∃ M', M' = E1 ++ n3 := ⟨_, rfl⟩
  rw [← hE3]
  replace hX : Ext m E3 := by rw [hE3]; exact hX.app nr3
  replace oM := oM.ext n3
  rw [← hE3] at oM
  replace oC := oC.ext n3
  rw [← hE3] at oC
  clear hE3
  try simp (config := {implicitDefEqProofs := false, maxDischargeDepth := 20}) (disch := first | omega | (simp only [lenE]; done) | (simp only [lenE]; omega) | rfl | (simp only [lenE, markR_len]; done) | (simp only [lenE, markR_len]; omega)) only [runE, mapE, listE, initT_5, initT_6, initT_7, initT_8, resV, oneV, binA, unA, reduceCtorEq, Nat.reduceEqDiff, Nat.reduceAdd, Nat.reduceLT, Nat.reduceLeDiff, Nat.reduceMul, Nat.reduceSub, ↓reduceIte, decide_true, decide_false, Bool.true_eq_false, Bool.false_eq_true, Bool.not_true, Bool.not_false, if_true, if_false, and_true, true_and, memE, celE, w64, Nat.zero_add, Nat.add_zero, Nat.mul_one, putL, and_self, ldn, ext_2_0, ext_2_1, oM.mk4, oC.mk3]
  exact ext_ansV hX (by simp)
theorem implMakerProfit_rc (m : Mem) (v : Value) (k : Mk) (c : Ct) (q : Int) (h : MkA m v k) :
    RC Try.prog 33 [v, ctV c, .int .i64 q] m (AnsV (.tuple #[.int .i64 (if ordC k c q then makP k c q.toNat else 0), .bool (ordC k c q)])) := by
  refine rc_of_run mixed ok_impl_MakerProfit (by simp) (go_start _ _ _ ?_)
  obtain ⟨u, rfl, hu⟩ := h.ro
  unfold ordC
  try simp (config := {implicitDefEqProofs := false, maxDischargeDepth := 20}) (disch := first | omega | (simp only [lenE]; done) | (simp only [lenE]; omega) | rfl | (simp only [lenE, markR_len]; done) | (simp only [lenE, markR_len]; omega)) only [runE, mapE, listE, initT_5, initT_6, initT_7, initT_8, resV, oneV, binA, unA, reduceCtorEq, Nat.reduceEqDiff, Nat.reduceAdd, Nat.reduceLT, Nat.reduceLeDiff, Nat.reduceMul, Nat.reduceSub, ↓reduceIte, decide_true, decide_false, Bool.true_eq_false, Bool.false_eq_true, Bool.not_true, Bool.not_false, if_true, if_false, and_true, true_and, memE, celE, w64, Nat.zero_add, Nat.add_zero, Nat.mul_one, putL, and_self, ldn, c_impl_MakerProfit, r_impl_MakerProfit, ctV]
  obtain ⟨E, hE⟩ : ∃ M', M' = roM m ++ [⟨.own, 27, [u, .int .i64 k.price, .int .i64 k.make, .int .i64 k.left]⟩] ++ [⟨.own, 34, [.int .i64 c.pay, .int .i64 c.back, .int .i64 c.share]⟩] := ⟨_, rfl⟩
  rw [← hE]
  have hX : Ext m E := by rw [hE]; exact (((Ext.refl m).one _ _).one _ _)
  have LE : E.length = m.length + 2 := by rw [hE]; simp [roM_len]
  have oM : OwnB E (m.length) 27 [u, .int .i64 k.price, .int .i64 k.make, .int .i64 k.left] := by rw [hE]; exact (OwnB.here (by simp [roM_len])).ext _
  have oC : OwnB E (m.length + 1) 34 [.int .i64 c.pay, .int .i64 c.back, .int .i64 c.share] := by rw [hE]; exact (OwnB.here (by simp [roM_len]))
  clear hE
  try simp (config := {implicitDefEqProofs := false, maxDischargeDepth := 20}) (disch := first | omega | (simp only [lenE]; done) | (simp only [lenE]; omega) | rfl | (simp only [lenE, markR_len]; done) | (simp only [lenE, markR_len]; omega)) only [runE, mapE, listE, initT_5, initT_6, initT_7, initT_8, resV, oneV, binA, unA, reduceCtorEq, Nat.reduceEqDiff, Nat.reduceAdd, Nat.reduceLT, Nat.reduceLeDiff, Nat.reduceMul, Nat.reduceSub, ↓reduceIte, decide_true, decide_false, Bool.true_eq_false, Bool.false_eq_true, Bool.not_true, Bool.not_false, if_true, if_false, and_true, true_and, memE, celE, w64, Nat.zero_add, Nat.add_zero, Nat.mul_one, putL, and_self, ldn, oM.mk4, oC.mk3]
  first | refine callH_rc (isAgreed_rc _ _ k c ⟨u, rfl, hX.ints hu⟩) ?_ | refine rcallH_rc (isAgreed_rc _ _ k c ⟨u, rfl, hX.ints hu⟩) ?_
  rintro r n1 ⟨rfl, nr1⟩
  obtain ⟨E1, hE1⟩ : ∃ M', M' = E ++ n1 := ⟨_, rfl⟩
  rw [← hE1]
  replace hX : Ext m E1 := by rw [hE1]; exact hX.app nr1
  replace oM := oM.ext n1
  rw [← hE1] at oM
  replace oC := oC.ext n1
  rw [← hE1] at oC
  clear hE1
  cases g1 : bothM k c with
  | false =>
    try simp (config := {implicitDefEqProofs := false, maxDischargeDepth := 20}) (disch := first | omega | (simp only [lenE]; done) | (simp only [lenE]; omega) | rfl | (simp only [lenE, markR_len]; done) | (simp only [lenE, markR_len]; omega)) only [runE, mapE, listE, initT_5, initT_6, initT_7, initT_8, resV, oneV, binA, unA, reduceCtorEq, Nat.reduceEqDiff, Nat.reduceAdd, Nat.reduceLT, Nat.reduceLeDiff, Nat.reduceMul, Nat.reduceSub, ↓reduceIte, decide_true, decide_false, Bool.true_eq_false, Bool.false_eq_true, Bool.not_true, Bool.not_false, if_true, if_false, and_true, true_and, memE, celE, w64, Nat.zero_add, Nat.add_zero, Nat.mul_one, putL, and_self, ldn, oM.mk4, oC.mk3]
    exact ext_ansV hX (by simp)
  | true =>
  try simp (config := {implicitDefEqProofs := false, maxDischargeDepth := 20}) (disch := first | omega | (simp only [lenE]; done) | (simp only [lenE]; omega) | rfl | (simp only [lenE, markR_len]; done) | (simp only [lenE, markR_len]; omega)) only [runE, mapE, listE, initT_5, initT_6, initT_7, initT_8, resV, oneV, binA, unA, reduceCtorEq, Nat.reduceEqDiff, Nat.reduceAdd, Nat.reduceLT, Nat.reduceLeDiff, Nat.reduceMul, Nat.reduceSub, ↓reduceIte, decide_true, decide_false, Bool.true_eq_false, Bool.false_eq_true, Bool.not_true, Bool.not_false, if_true, if_false, and_true, true_and, memE, celE, w64, Nat.zero_add, Nat.add_zero, Nat.mul_one, putL, and_self, ldn, oM.mk4, oC.mk3]
  first | refine callH_rc (isSalesOrder_rc _ q) ?_ | refine rcallH_rc (isSalesOrder_rc _ q) ?_
  rintro r n2 ⟨rfl, rfl⟩
  try rw [List.append_nil]
  cases g2 : inM 8 q with
  | false =>
    try simp (config := {implicitDefEqProofs := false, maxDischargeDepth := 20}) (disch := first | omega | (simp only [lenE]; done) | (simp only [lenE]; omega) | rfl | (simp only [lenE, markR_len]; done) | (simp only [lenE, markR_len]; omega)) only [runE, mapE, listE, initT_5, initT_6, initT_7, initT_8, resV, oneV, binA, unA, reduceCtorEq, Nat.reduceEqDiff, Nat.reduceAdd, Nat.reduceLT, Nat.reduceLeDiff, Nat.reduceMul, Nat.reduceSub, ↓reduceIte, decide_true, decide_false, Bool.true_eq_false, Bool.false_eq_true, Bool.not_true, Bool.not_false, if_true, if_false, and_true, true_and, memE, celE, w64, Nat.zero_add, Nat.add_zero, Nat.mul_one, putL, and_self, ldn, oM.mk4, oC.mk3]
    exact ext_ansV hX (by simp)
  | true =>
  try simp (config := {implicitDefEqProofs := false, maxDischargeDepth := 20}) (disch := first | omega | (simp only [lenE]; done) | (simp only [lenE]; omega) | rfl | (simp only [lenE, markR_len]; done) | (simp only [lenE, markR_len]; omega)) only [runE, mapE, listE, initT_5, initT_6, initT_7, initT_8, resV, oneV, binA, unA, reduceCtorEq, Nat.reduceEqDiff, Nat.reduceAdd, Nat.reduceLT, Nat.reduceLeDiff, Nat.reduceMul, Nat.reduceSub, ↓reduceIte, decide_true, decide_false, Bool.true_eq_false, Bool.false_eq_true, Bool.not_true, Bool.not_false, if_true, if_false, and_true, true_and, memE, celE, w64, Nat.zero_add, Nat.add_zero, Nat.mul_one, putL, and_self, ldn, oM.mk4, oC.mk3]
  obtain ⟨n, rfl⟩ : ∃ n : Nat, q = n := ⟨q.toNat, by have := inM_iff.1 g2; omega⟩
  have hq : n ≤ 8 := by have := inM_iff.1 g2; omega
  obtain ⟨hg, hc⟩ := bothM_iff.1 g1
  first | refine callH_rc (profitsOf_rc _ _ k c n ⟨u, rfl, hX.ints hu⟩ hg hc hq) ?_ | refine rcallH_rc (profitsOf_rc _ _ k c n ⟨u, rfl, hX.ints hu⟩ hg hc hq) ?_
  rintro r n3 ⟨rfl, nr3⟩
  obtain ⟨E3, hE3⟩ : ∃ M', M' = E1 ++ n3 := ⟨_, rfl⟩
  rw [← hE3]
  replace hX : Ext m E3 := by rw [hE3]; exact hX.app nr3
  replace oM := oM.ext n3
  rw [← hE3] at oM
  replace oC := oC.ext n3
  rw [← hE3] at oC
  clear hE3
  try simp (config := {implicitDefEqProofs := false, maxDischargeDepth := 20}) (disch := first | omega | (simp only [lenE]; done) | (simp only [lenE]; omega) | rfl | (simp only [lenE, markR_len]; done) | (simp only [lenE, markR_len]; omega)) only [runE, mapE, listE, initT_5, initT_6, initT_7, initT_8, resV, oneV, binA, unA, reduceCtorEq, Nat.reduceEqDiff, Nat.reduceAdd, Nat.reduceLT, Nat.reduceLeDiff, Nat.reduceMul, Nat.reduceSub, ↓reduceIte, decide_true, decide_false, Bool.true_eq_false, Bool.false_eq_true, Bool.not_true, Bool.not_false, if_true, if_false, and_true, true_and, memE, celE, w64, Nat.zero_add, Nat.add_zero, Nat.mul_one, putL, and_self, ldn, ext_2_0, ext_2_1, oM.mk4, oC.mk3]
  exact ext_ansV hX (by simp)
theorem implJointProfit_rc (m : Mem) (v : Value) (k : Mk)  (q : Int) (h : MkA m v k) :
    RC Try.prog 35 [v, .int .i64 q] m (AnsV (.tuple #[.int .i64 (if ordM k q then joiP k q.toNat else 0), .bool (ordM k q)])) := by
  refine rc_of_run mixed ok_impl_JointProfit (by simp) (go_start _ _ _ ?_)
  obtain ⟨u, rfl, hu⟩ := h.ro
  unfold ordM
  try simp (config := {implicitDefEqProofs := false, maxDischargeDepth := 20}) (disch := first | omega | (simp only [lenE]; done) | (simp only [lenE]; omega) | rfl | (simp only [lenE, markR_len]; done) | (simp only [lenE, markR_len]; omega)) only [runE, mapE, listE, initT_5, initT_6, initT_7, initT_8, resV, oneV, binA, unA, reduceCtorEq, Nat.reduceEqDiff, Nat.reduceAdd, Nat.reduceLT, Nat.reduceLeDiff, Nat.reduceMul, Nat.reduceSub, ↓reduceIte, decide_true, decide_false, Bool.true_eq_false, Bool.false_eq_true, Bool.not_true, Bool.not_false, if_true, if_false, and_true, true_and, memE, celE, w64, Nat.zero_add, Nat.add_zero, Nat.mul_one, putL, and_self, ldn, c_impl_JointProfit, r_impl_JointProfit]
  obtain ⟨E, hE⟩ : ∃ M', M' = roM m ++ [⟨.own, 27, [u, .int .i64 k.price, .int .i64 k.make, .int .i64 k.left]⟩] := ⟨_, rfl⟩
  rw [← hE]
  have hX : Ext m E := by rw [hE]; exact ((Ext.refl m).one _ _)
  have LE : E.length = m.length + 1 := by rw [hE]; simp [roM_len]
  have oM : OwnB E (m.length) 27 [u, .int .i64 k.price, .int .i64 k.make, .int .i64 k.left] := by rw [hE]; exact (OwnB.here (by simp [roM_len]))
  clear hE
  try simp (config := {implicitDefEqProofs := false, maxDischargeDepth := 20}) (disch := first | omega | (simp only [lenE]; done) | (simp only [lenE]; omega) | rfl | (simp only [lenE, markR_len]; done) | (simp only [lenE, markR_len]; omega)) only [runE, mapE, listE, initT_5, initT_6, initT_7, initT_8, resV, oneV, binA, unA, reduceCtorEq, Nat.reduceEqDiff, Nat.reduceAdd, Nat.reduceLT, Nat.reduceLeDiff, Nat.reduceMul, Nat.reduceSub, ↓reduceIte, decide_true, decide_false, Bool.true_eq_false, Bool.false_eq_true, Bool.not_true, Bool.not_false, if_true, if_false, and_true, true_and, memE, celE, w64, Nat.zero_add, Nat.add_zero, Nat.mul_one, putL, and_self, ldn, oM.mk4]
  first | refine callH_rc (implIsMarket_rc _ _ k ⟨u, rfl, hX.ints hu⟩) ?_ | refine rcallH_rc (implIsMarket_rc _ _ k ⟨u, rfl, hX.ints hu⟩) ?_
  rintro r n1 ⟨rfl, nr1⟩
  obtain ⟨E1, hE1⟩ : ∃ M', M' = E ++ n1 := ⟨_, rfl⟩
  rw [← hE1]
  replace hX : Ext m E1 := by rw [hE1]; exact hX.app nr1
  replace oM := oM.ext n1
  rw [← hE1] at oM
  clear hE1
  cases g1 : k.good with
  | false =>
    try simp (config := {implicitDefEqProofs := false, maxDischargeDepth := 20}) (disch := first | omega | (simp only [lenE]; done) | (simp only [lenE]; omega) | rfl | (simp only [lenE, markR_len]; done) | (simp only [lenE, markR_len]; omega)) only [runE, mapE, listE, initT_5, initT_6, initT_7, initT_8, resV, oneV, binA, unA, reduceCtorEq, Nat.reduceEqDiff, Nat.reduceAdd, Nat.reduceLT, Nat.reduceLeDiff, Nat.reduceMul, Nat.reduceSub, ↓reduceIte, decide_true, decide_false, Bool.true_eq_false, Bool.false_eq_true, Bool.not_true, Bool.not_false, if_true, if_false, and_true, true_and, memE, celE, w64, Nat.zero_add, Nat.add_zero, Nat.mul_one, putL, and_self, ldn, oM.mk4]
    exact ext_ansV hX (by simp)
  | true =>
  try simp (config := {implicitDefEqProofs := false, maxDischargeDepth := 20}) (disch := first | omega | (simp only [lenE]; done) | (simp only [lenE]; omega) | rfl | (simp only [lenE, markR_len]; done) | (simp only [lenE, markR_len]; omega)) only [runE, mapE, listE, initT_5, initT_6, initT_7, initT_8, resV, oneV, binA, unA, reduceCtorEq, Nat.reduceEqDiff, Nat.reduceAdd, Nat.reduceLT, Nat.reduceLeDiff, Nat.reduceMul, Nat.reduceSub, ↓reduceIte, decide_true, decide_false, Bool.true_eq_false, Bool.false_eq_true, Bool.not_true, Bool.not_false, if_true, if_false, and_true, true_and, memE, celE, w64, Nat.zero_add, Nat.add_zero, Nat.mul_one, putL, and_self, ldn, oM.mk4]
  first | refine callH_rc (isSalesOrder_rc _ q) ?_ | refine rcallH_rc (isSalesOrder_rc _ q) ?_
  rintro r n2 ⟨rfl, rfl⟩
  try rw [List.append_nil]
  cases g2 : inM 8 q with
  | false =>
    try simp (config := {implicitDefEqProofs := false, maxDischargeDepth := 20}) (disch := first | omega | (simp only [lenE]; done) | (simp only [lenE]; omega) | rfl | (simp only [lenE, markR_len]; done) | (simp only [lenE, markR_len]; omega)) only [runE, mapE, listE, initT_5, initT_6, initT_7, initT_8, resV, oneV, binA, unA, reduceCtorEq, Nat.reduceEqDiff, Nat.reduceAdd, Nat.reduceLT, Nat.reduceLeDiff, Nat.reduceMul, Nat.reduceSub, ↓reduceIte, decide_true, decide_false, Bool.true_eq_false, Bool.false_eq_true, Bool.not_true, Bool.not_false, if_true, if_false, and_true, true_and, memE, celE, w64, Nat.zero_add, Nat.add_zero, Nat.mul_one, putL, and_self, ldn, oM.mk4]
    exact ext_ansV hX (by simp)
  | true =>
  try simp (config := {implicitDefEqProofs := false, maxDischargeDepth := 20}) (disch := first | omega | (simp only [lenE]; done) | (simp only [lenE]; omega) | rfl | (simp only [lenE, markR_len]; done) | (simp only [lenE, markR_len]; omega)) only [runE, mapE, listE, initT_5, initT_6, initT_7, initT_8, resV, oneV, binA, unA, reduceCtorEq, Nat.reduceEqDiff, Nat.reduceAdd, Nat.reduceLT, Nat.reduceLeDiff, Nat.reduceMul, Nat.reduceSub, ↓reduceIte, decide_true, decide_false, Bool.true_eq_false, Bool.false_eq_true, Bool.not_true, Bool.not_false, if_true, if_false, and_true, true_and, memE, celE, w64, Nat.zero_add, Nat.add_zero, Nat.mul_one, putL, and_self, ldn, oM.mk4]
  obtain ⟨n, rfl⟩ : ∃ n : Nat, q = n := ⟨q.toNat, by have := inM_iff.1 g2; omega⟩
  have hq : n ≤ 8 := by have := inM_iff.1 g2; omega
  have hg := goodM_iff.1 g1
  first | refine callH_rc (jointProfit_rc _ _ k n ⟨u, rfl, hX.ints hu⟩ hg hq) ?_ | refine rcallH_rc (jointProfit_rc _ _ k n ⟨u, rfl, hX.ints hu⟩ hg hq) ?_
  rintro r n3 ⟨rfl, nr3⟩
  obtain ⟨E3, hE3⟩ : ∃ M', M' = E1 ++ n3 := ⟨_, rfl⟩
  rw [← hE3]
  replace hX : Ext m E3 := by rw [hE3]; exact hX.app nr3
  replace oM := oM.ext n3
  rw [← hE3] at oM
  clear hE3
  try simp (config := {implicitDefEqProofs := false, maxDischargeDepth := 20}) (disch := first | omega | (simp only [lenE]; done) | (simp only [lenE]; omega) | rfl | (simp only [lenE, markR_len]; done) | (simp only [lenE, markR_len]; omega)) only [runE, mapE, listE, initT_5, initT_6, initT_7, initT_8, resV, oneV, binA, unA, reduceCtorEq, Nat.reduceEqDiff, Nat.reduceAdd, Nat.reduceLT, Nat.reduceLeDiff, Nat.reduceMul, Nat.reduceSub, ↓reduceIte, decide_true, decide_false, Bool.true_eq_false, Bool.false_eq_true, Bool.not_true, Bool.not_false, if_true, if_false, and_true, true_and, memE, celE, w64, Nat.zero_add, Nat.add_zero, Nat.mul_one, putL, and_self, ldn, ext_2_0, ext_2_1, oM.mk4]
  exact ext_ansV hX (by simp)
end Go.Proofs.Ytdcheilmjooacaa.Ab
