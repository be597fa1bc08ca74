/- Shelves: issues, and what they leave. -/
import Derived.Test.YtihjcjhnkpkomaaAbSh1
import Derived.Test.YtihjcjhnkpkomaaAbClone
import Derived.Test.YtihjcjhnkpkomaaAbTbl
import Derived.Test.YtihjcjhnkpkomaaAbBox
namespace Go.Proofs.Ytihjcjhnkpkomaa.Ab
open Go Go.RowKit
set_option linter.unusedVariables false
set_option linter.unusedSimpArgs false

theorem bld9 (a b c d e u v w x y : Value) : bldA [a, b, c, d, e] [(0, 5, .agg #[u, v, w, x, y])] = some (.agg #[u, v, w, x, y]) := rfl
theorem stP_agg5' (m : Mem) (id off : Nat) (u v w x y : Value) : stP m 5 (.pointer (some ⟨id, off, none⟩)) (.agg #[u, v, w, x, y]) = stA m id off [u, v, w, x, y] := rfl
theorem OwnB.ld5' {M : Mem} {id : Nat} {e : TypeId} {a b c d f : Value} (h : OwnB M id e [a, b, c, d, f]) : ldA M (some 5) (.pointer (some ⟨id, 0, none⟩)) = some (.agg #[a, b, c, d, f]) := by
  exact BoxA.ld5 ⟨e, h⟩
/-- A shelf whose lists are rows of its own. -/
def LeftR (m : Mem) (s : Sh) (A N : List Int) (M : Mem) (r : Value) : Prop :=
  ∃ ia ib fa fb, ia ≠ ib ∧ m.length ≤ ia ∧ m.length ≤ ib ∧ r = shV s (.slice (some ⟨ia, 0, none⟩) A.length fa) (.slice (some ⟨ib, 0, none⟩) N.length fb) ∧ OwnR M ia A ∧ OwnR M ib N
def AnsLeft (m : Mem) (s : Sh) (A N : List Int) (r : Value) (new : Mem) : Prop := NoRo new ∧ LeftR m s A N (m ++ new) r
theorem LeftR.swap {m n0 : Mem} {s : Sh} {A N : List Int} {r : Value} (h : LeftR m s A N (roM m ++ n0) r) : LeftR m s A N (m ++ n0) r := by
  obtain ⟨ia, ib, fa, fb, hne, h1, h2, rfl, ha, hb⟩ := h
  refine ⟨ia, ib, fa, fb, hne, h1, h2, rfl, ha.at_ ?_, hb.at_ ?_⟩
  · rw [List.getElem?_append_right h1, List.getElem?_append_right (by rw [roM_len]; exact h1), roM_len]
  · rw [List.getElem?_append_right h2, List.getElem?_append_right (by rw [roM_len]; exact h2), roM_len]
theorem ext_left {m M : Mem} {s : Sh} {A N : List Int} {r : Value} (h : Ext m M) (hl : LeftR m s A N M r) : newQ m (AnsLeft m s A N) r M := by
  obtain ⟨n0, rfl, h0⟩ := h
  exact ⟨n0, rfl, h0, h0, hl.swap⟩
theorem copyOf_rc (m : Mem) (v : Value) (s : Sh) (h : ShA m v s) (l1 : s.arr.length ≤ 1048576) (l2 : s.need.length ≤ 1048576) :
    RC Try.prog 102 [v] m (AnsLeft m s s.arr s.need) := by
  refine rc_of_run mixed ok_impl_copyOf (by simp) (go_start _ _ _ ?_)
  obtain ⟨a, b, rfl, ha, hb⟩ := h.ro
  simp (config := {implicitDefEqProofs := false, maxDischargeDepth := 20}) (disch := first | omega | (simp only [lenE]; done) | (simp only [lenE]; omega) | rfl | (simp only [lenE, markR_len]; done) | (simp only [lenE, markR_len]; omega)) only [runE, mapE, listE, initT_5, initT_6, initT_7, initT_8, resV, oneV, binA, unA, reduceCtorEq, Nat.reduceEqDiff, Nat.reduceAdd, Nat.reduceLT, Nat.reduceLeDiff, Nat.reduceMul, Nat.reduceSub, ↓reduceIte, decide_true, decide_false, Bool.true_eq_false, Bool.false_eq_true, Bool.not_true, Bool.not_false, if_true, if_false, and_true, true_and, memE, celE, w64, Nat.zero_add, Nat.add_zero, Nat.mul_one, putL, and_self, ldn, c_impl_copyOf, r_impl_copyOf]
  obtain ⟨M0, hM0⟩ : ∃ M0, M0 = roM m ++ [⟨.own, 27, [.int .i64 s.life, a, b, .int .i64 s.waste, .int .i64 s.lost]⟩] ++ [⟨.own, 27, [.int .i64 0, .slice none 0 0, .slice none 0 0, .int .i64 0, .int .i64 0]⟩] := ⟨_, rfl⟩
  rw [← hM0]
  have hX : Ext m M0 := by rw [hM0]; exact ((Ext.refl m).one _ _).one _ _
  have o1 : OwnB M0 m.length 27 [.int .i64 s.life, a, b, .int .i64 s.waste, .int .i64 s.lost] := by rw [hM0]; exact (OwnB.here (by simp [roM_len])).ext _
  have o2 : OwnB M0 (m.length + 1) 27 [.int .i64 0, .slice none 0 0, .slice none 0 0, .int .i64 0, .int .i64 0] := by rw [hM0]; exact OwnB.here (by simp [roM_len])
  have hl0 := o2.lt
  refine rcallH_rc (clone_rc _ a s.arr (hX.ints ha) l1) ?_
  intro r n1 hA
  obtain ⟨ia, fa, rfl, ga, oa, -, nr1⟩ := hA.row
  replace hX := hX.app nr1
  replace o1 := o1.ext n1
  replace o2 := o2.ext n1
  obtain ⟨M1, hM1⟩ : ∃ M1, M1 = M0 ++ n1 := ⟨_, rfl⟩
  rw [← hM1] at hX o1 o2 oa ⊢
  simp (config := {implicitDefEqProofs := false, maxDischargeDepth := 20}) (disch := first | omega | (simp only [lenE]; done) | (simp only [lenE]; omega) | rfl | (simp only [lenE, markR_len]; done) | (simp only [lenE, markR_len]; omega)) only [runE, mapE, listE, initT_5, initT_6, initT_7, initT_8, resV, oneV, binA, unA, reduceCtorEq, Nat.reduceEqDiff, Nat.reduceAdd, Nat.reduceLT, Nat.reduceLeDiff, Nat.reduceMul, Nat.reduceSub, ↓reduceIte, decide_true, decide_false, Bool.true_eq_false, Bool.false_eq_true, Bool.not_true, Bool.not_false, if_true, if_false, and_true, true_and, memE, celE, w64, Nat.zero_add, Nat.add_zero, Nat.mul_one, putL, and_self, ldn, o1.rd]
  refine rcallH_rc (clone_rc _ b s.need (hX.ints hb) l2) ?_
  intro r n2 hB
  obtain ⟨ib, fb, rfl, gb, ob, -, nr2⟩ := hB.row
  replace hX := hX.app nr2
  replace o1 := o1.ext n2
  replace o2 := o2.ext n2
  have ol := oa.lt
  replace oa := oa.ext n2
  obtain ⟨M2, hM2⟩ : ∃ M2, M2 = M1 ++ n2 := ⟨_, rfl⟩
  rw [← hM2] at hX o1 o2 oa ob ⊢
  have s1 := o1.st (off := 1) (vs := [.slice (some ⟨ia, 0, none⟩) s.arr.length fa]) (by simp) rfl
  simp (config := {implicitDefEqProofs := false, maxDischargeDepth := 20}) (disch := first | omega | (simp only [lenE]; done) | (simp only [lenE]; omega) | rfl | (simp only [lenE, markR_len]; done) | (simp only [lenE, markR_len]; omega)) only [runE, mapE, listE, initT_5, initT_6, initT_7, initT_8, resV, oneV, binA, unA, reduceCtorEq, Nat.reduceEqDiff, Nat.reduceAdd, Nat.reduceLT, Nat.reduceLeDiff, Nat.reduceMul, Nat.reduceSub, ↓reduceIte, decide_true, decide_false, Bool.true_eq_false, Bool.false_eq_true, Bool.not_true, Bool.not_false, if_true, if_false, and_true, true_and, memE, celE, w64, Nat.zero_add, Nat.add_zero, Nat.mul_one, putL, and_self, ldn, s1]
  have q1 := o1.set_self 27 [.int .i64 s.life, .slice (some ⟨ia, 0, none⟩) s.arr.length fa, b, .int .i64 s.waste, .int .i64 s.lost]
  have q2 := o2.set_ne (id := m.length) (by omega) ⟨.own, 27, [.int .i64 s.life, .slice (some ⟨ia, 0, none⟩) s.arr.length fa, b, .int .i64 s.waste, .int .i64 s.lost]⟩
  have qa : OwnR (M2.set m.length ⟨.own, 27, [.int .i64 s.life, .slice (some ⟨ia, 0, none⟩) s.arr.length fa, b, .int .i64 s.waste, .int .i64 s.lost]⟩) ia s.arr := OwnR.at_ oa (by rw [List.getElem?_set_ne (by omega)])
  have qb : OwnR (M2.set m.length ⟨.own, 27, [.int .i64 s.life, .slice (some ⟨ia, 0, none⟩) s.arr.length fa, b, .int .i64 s.waste, .int .i64 s.lost]⟩) ib s.need := OwnR.at_ ob (by rw [List.getElem?_set_ne (by omega)])
  have qX := hX.put (id := m.length) (by omega) 27 [.int .i64 s.life, .slice (some ⟨ia, 0, none⟩) s.arr.length fa, b, .int .i64 s.waste, .int .i64 s.lost]
  obtain ⟨M3, hM3⟩ : ∃ M3, M3 = M2.set m.length ⟨.own, 27, [.int .i64 s.life, .slice (some ⟨ia, 0, none⟩) s.arr.length fa, b, .int .i64 s.waste, .int .i64 s.lost]⟩ := ⟨_, rfl⟩
  rw [← hM3] at q1 q2 qa qb qX ⊢
  have s2 := q1.st (off := 2) (vs := [.slice (some ⟨ib, 0, none⟩) s.need.length fb]) (by simp) rfl
  simp (config := {implicitDefEqProofs := false, maxDischargeDepth := 20}) (disch := first | omega | (simp only [lenE]; done) | (simp only [lenE]; omega) | rfl | (simp only [lenE, markR_len]; done) | (simp only [lenE, markR_len]; omega)) only [runE, mapE, listE, initT_5, initT_6, initT_7, initT_8, resV, oneV, binA, unA, reduceCtorEq, Nat.reduceEqDiff, Nat.reduceAdd, Nat.reduceLT, Nat.reduceLeDiff, Nat.reduceMul, Nat.reduceSub, ↓reduceIte, decide_true, decide_false, Bool.true_eq_false, Bool.false_eq_true, Bool.not_true, Bool.not_false, if_true, if_false, and_true, true_and, memE, celE, w64, Nat.zero_add, Nat.add_zero, Nat.mul_one, putL, and_self, ldn, s2]
  have r1 := q1.set_self 27 [.int .i64 s.life, .slice (some ⟨ia, 0, none⟩) s.arr.length fa, .slice (some ⟨ib, 0, none⟩) s.need.length fb, .int .i64 s.waste, .int .i64 s.lost]
  have r2 := q2.set_ne (id := m.length) (by omega) ⟨.own, 27, [.int .i64 s.life, .slice (some ⟨ia, 0, none⟩) s.arr.length fa, .slice (some ⟨ib, 0, none⟩) s.need.length fb, .int .i64 s.waste, .int .i64 s.lost]⟩
  have ra : OwnR (M3.set m.length ⟨.own, 27, [.int .i64 s.life, .slice (some ⟨ia, 0, none⟩) s.arr.length fa, .slice (some ⟨ib, 0, none⟩) s.need.length fb, .int .i64 s.waste, .int .i64 s.lost]⟩) ia s.arr := OwnR.at_ qa (by rw [List.getElem?_set_ne (by omega)])
  have rb : OwnR (M3.set m.length ⟨.own, 27, [.int .i64 s.life, .slice (some ⟨ia, 0, none⟩) s.arr.length fa, .slice (some ⟨ib, 0, none⟩) s.need.length fb, .int .i64 s.waste, .int .i64 s.lost]⟩) ib s.need := OwnR.at_ qb (by rw [List.getElem?_set_ne (by omega)])
  have rX := qX.put (id := m.length) (by omega) 27 [.int .i64 s.life, .slice (some ⟨ia, 0, none⟩) s.arr.length fa, .slice (some ⟨ib, 0, none⟩) s.need.length fb, .int .i64 s.waste, .int .i64 s.lost]
  obtain ⟨M4, hM4⟩ : ∃ M4, M4 = M3.set m.length ⟨.own, 27, [.int .i64 s.life, .slice (some ⟨ia, 0, none⟩) s.arr.length fa, .slice (some ⟨ib, 0, none⟩) s.need.length fb, .int .i64 s.waste, .int .i64 s.lost]⟩ := ⟨_, rfl⟩
  rw [← hM4] at r1 r2 ra rb rX ⊢
  have s3 := r2.st (off := 0) (vs := [.int .i64 s.life, .slice (some ⟨ia, 0, none⟩) s.arr.length fa, .slice (some ⟨ib, 0, none⟩) s.need.length fb, .int .i64 s.waste, .int .i64 s.lost]) (by simp) rfl
  have u2 := r2.set_self 27 [.int .i64 s.life, .slice (some ⟨ia, 0, none⟩) s.arr.length fa, .slice (some ⟨ib, 0, none⟩) s.need.length fb, .int .i64 s.waste, .int .i64 s.lost]
  simp (config := {implicitDefEqProofs := false, maxDischargeDepth := 20}) (disch := first | omega | (simp only [lenE]; done) | (simp only [lenE]; omega) | rfl | (simp only [lenE, markR_len]; done) | (simp only [lenE, markR_len]; omega)) only [runE, mapE, listE, initT_5, initT_6, initT_7, initT_8, resV, oneV, binA, unA, reduceCtorEq, Nat.reduceEqDiff, Nat.reduceAdd, Nat.reduceLT, Nat.reduceLeDiff, Nat.reduceMul, Nat.reduceSub, ↓reduceIte, decide_true, decide_false, Bool.true_eq_false, Bool.false_eq_true, Bool.not_true, Bool.not_false, if_true, if_false, and_true, true_and, memE, celE, w64, Nat.zero_add, Nat.add_zero, Nat.mul_one, putL, and_self, ldn, r1.rd, stP_agg5', s3, u2.rd]
  refine ext_left (rX.put (by omega) _ _) ⟨ia, ib, fa, fb, by omega, by omega, by omega, rfl, OwnR.at_ ra ?_, OwnR.at_ rb ?_⟩
  · rw [List.getElem?_set_ne (by omega)]
  · rw [List.getElem?_set_ne (by omega)]
theorem mostUnits_rc (m : Mem) (s : Sh) (a b : Value) (A N : List Int) (f t : Nat) (ha : IntsA m a A) (hb : IntsA m b N) (hf : f < A.length) (ht : t < N.length) (h1 : f ≤ 100) (hl : 0 ≤ s.life ∧ s.life ≤ 8) :
    RC Try.prog 103 [shV s a b, .agg #[.int .i64 (t : Int), .int .i64 (f : Int)]] m (AnsV (.int .i64 (most9 s.life A N t f))) := by
  refine rc_of_run mixed ok_impl_mostUnits (by simp) (go_start _ _ _ ?_)
  have ha' := ha.ro
  have hb' := hb.ro
  have hX := ((Ext.refl m).one 27 [.int .i64 s.life, a, b, .int .i64 s.waste, .int .i64 s.lost]).one 97 [.int .i64 (t : Int), .int .i64 (f : Int)]
  have xa := hX.ints ha'
  have xb := hX.ints hb'
  simp (config := {implicitDefEqProofs := false, maxDischargeDepth := 20}) (disch := first | omega | (simp only [lenE]; done) | (simp only [lenE]; omega) | rfl | (simp only [lenE, markR_len]; done) | (simp only [lenE, markR_len]; omega)) only [runE, mapE, listE, initT_5, initT_6, initT_7, initT_8, resV, oneV, binA, unA, reduceCtorEq, Nat.reduceEqDiff, Nat.reduceAdd, Nat.reduceLT, Nat.reduceLeDiff, Nat.reduceMul, Nat.reduceSub, ↓reduceIte, decide_true, decide_false, Bool.true_eq_false, Bool.false_eq_true, Bool.not_true, Bool.not_false, if_true, if_false, and_true, true_and, memE, celE, w64, Nat.zero_add, Nat.add_zero, Nat.mul_one, putL, and_self, ldn, c_impl_mostUnits, r_impl_mostUnits]
  refine callH_rc (isFresh_rc _ f t _ h1 hl) ?_
  rintro r new ⟨rfl, rfl⟩
  unfold most9
  cases hu : usB s.life f t with
  | false =>
    simp (config := {implicitDefEqProofs := false, maxDischargeDepth := 20}) (disch := first | omega | (simp only [lenE]; done) | (simp only [lenE]; omega) | rfl | (simp only [lenE, markR_len]; done) | (simp only [lenE, markR_len]; omega)) only [runE, mapE, listE, initT_5, initT_6, initT_7, initT_8, resV, oneV, binA, unA, reduceCtorEq, Nat.reduceEqDiff, Nat.reduceAdd, Nat.reduceLT, Nat.reduceLeDiff, Nat.reduceMul, Nat.reduceSub, ↓reduceIte, decide_true, decide_false, Bool.true_eq_false, Bool.false_eq_true, Bool.not_true, Bool.not_false, if_true, if_false, and_true, true_and, memE, celE, w64, Nat.zero_add, Nat.add_zero, Nat.mul_one, putL, and_self, ldn]
    exact ext_ansV hX rfl
  | true =>
    simp (config := {implicitDefEqProofs := false, maxDischargeDepth := 20}) (disch := first | omega | (simp only [lenE]; done) | (simp only [lenE]; omega) | rfl | (simp only [lenE, markR_len]; done) | (simp only [lenE, markR_len]; omega)) only [runE, mapE, listE, initT_5, initT_6, initT_7, initT_8, resV, oneV, binA, unA, reduceCtorEq, Nat.reduceEqDiff, Nat.reduceAdd, Nat.reduceLT, Nat.reduceLeDiff, Nat.reduceMul, Nat.reduceSub, ↓reduceIte, decide_true, decide_false, Bool.true_eq_false, Bool.false_eq_true, Bool.not_true, Bool.not_false, if_true, if_false, and_true, true_and, memE, celE, w64, Nat.zero_add, Nat.add_zero, Nat.mul_one, putL, and_self, ldn, ha'.at_ f hf, xa.ld f hf, hb'.at_ t ht, xb.ld t ht]
    refine ext_ansV hX ?_
    rfl
theorem takeUnits_ac (M : Mem) (s : Sh) (ia ib fa fb : Nat) (A N : List Int) (f t : Nat) (u : Int) (ha : OwnR M ia A) (hb : OwnR M ib N) (hne : ia ≠ ib) (hf : f < A.length) (ht : t < N.length) (b1 : 0 ≤ A.getD f 0 ∧ A.getD f 0 ≤ 20) (b2 : 0 ≤ N.getD t 0 ∧ N.getD t 0 ≤ 20) (hu : -20 ≤ u ∧ u ≤ 20) :
    AC Try.prog 104 [shV s (.slice (some ⟨ia, 0, none⟩) A.length fa) (.slice (some ⟨ib, 0, none⟩) N.length fb), .agg #[.int .i64 (t : Int), .int .i64 (f : Int)], .int .i64 u] M fun r M' =>
      ∃ R, NoRo R ∧ M' = (M.set ia (Ab.rowB (A.set f (A.getD f 0 - u)))).set ib (Ab.rowB (N.set t (N.getD t 0 - u))) ++ R := by
  refine ac_of_run mixed ok_impl_takeUnits (by simp) (go_start _ _ _ ?_)
  obtain ⟨R, hR⟩ : ∃ R : Mem, R = [⟨.own, 27, [.int .i64 s.life, .slice (some ⟨ia, 0, none⟩) A.length fa, .slice (some ⟨ib, 0, none⟩) N.length fb, .int .i64 s.waste, .int .i64 s.lost]⟩] ++ [⟨.own, 97, [.int .i64 (t : Int), .int .i64 (f : Int)]⟩] := ⟨_, rfl⟩
  have nr : NoRo R := by rw [hR]; exact noRo_app (noRo_own noRo_nil) (noRo_own noRo_nil)
  have ia0 : iadA 1 (.slice (some ⟨ia, 0, none⟩) A.length fa) (.int .i64 (f : Int)) = some (.pointer (some ⟨ia, f, none⟩)) := iad0 rfl hf
  have ib0 : iadA 1 (.slice (some ⟨ib, 0, none⟩) N.length fb) (.int .i64 (t : Int)) = some (.pointer (some ⟨ib, t, none⟩)) := iad0 rfl ht
  obtain ⟨M1, hM1⟩ : ∃ M1, M1 = M ++ R := ⟨_, rfl⟩
  have eM : M1 = M ++ [⟨.own, 27, [.int .i64 s.life, .slice (some ⟨ia, 0, none⟩) A.length fa, .slice (some ⟨ib, 0, none⟩) N.length fb, .int .i64 s.waste, .int .i64 s.lost]⟩] ++ [⟨.own, 97, [.int .i64 (t : Int), .int .i64 (f : Int)]⟩] := by rw [hM1, hR, List.append_assoc]
  have oa : OwnR M1 ia A := by rw [hM1]; exact ha.ext _
  have ob : OwnR M1 ib N := by rw [hM1]; exact hb.ext _
  have o1 : OwnB M1 M.length 27 [.int .i64 s.life, .slice (some ⟨ia, 0, none⟩) A.length fa, .slice (some ⟨ib, 0, none⟩) N.length fb, .int .i64 s.waste, .int .i64 s.lost] := by rw [eM]; exact (OwnB.here rfl).ext _
  have o2 : OwnB M1 (M.length + 1) 97 [.int .i64 (t : Int), .int .i64 (f : Int)] := by rw [eM]; exact OwnB.here (by simp)
  have la := ha.lt
  have lb := hb.lt
  have ka := oa.rd' (i := f) hf
  have sa := oa.st (off := f) (x := A.getD f 0 - u) hf
  have oa2 := oa.set_self (L' := A.set f (A.getD f 0 - u))
  have ob2 : OwnR (M1.set ia (Ab.rowB (A.set f (A.getD f 0 - u)))) ib N := ob.set_ne hne
  have o12 := o1.set_ne (id := ia) (by omega) (Ab.rowB (A.set f (A.getD f 0 - u)))
  have o22 := o2.set_ne (id := ia) (by omega) (Ab.rowB (A.set f (A.getD f 0 - u)))
  have kb := ob2.rd' (i := t) ht
  have sb := ob2.st (off := t) (x := N.getD t 0 - u) ht
  simp (config := {implicitDefEqProofs := false, maxDischargeDepth := 20}) (disch := first | omega | (simp only [lenE]; done) | (simp only [lenE]; omega) | rfl | (simp only [lenE, markR_len]; done) | (simp only [lenE, markR_len]; omega)) only [runE, mapE, listE, initT_5, initT_6, initT_7, initT_8, resV, oneV, binA, unA, reduceCtorEq, Nat.reduceEqDiff, Nat.reduceAdd, Nat.reduceLT, Nat.reduceLeDiff, Nat.reduceMul, Nat.reduceSub, ↓reduceIte, decide_true, decide_false, Bool.true_eq_false, Bool.false_eq_true, Bool.not_true, Bool.not_false, if_true, if_false, and_true, true_and, memE, celE, w64, Nat.zero_add, Nat.add_zero, Nat.mul_one, putL, and_self, ldn, c_impl_takeUnits, r_impl_takeUnits]
  rw [← eM]
  simp (config := {implicitDefEqProofs := false, maxDischargeDepth := 20}) (disch := first | omega | (simp only [lenE]; done) | (simp only [lenE]; omega) | rfl | (simp only [lenE, markR_len]; done) | (simp only [lenE, markR_len]; omega)) only [runE, mapE, listE, initT_5, initT_6, initT_7, initT_8, resV, oneV, binA, unA, reduceCtorEq, Nat.reduceEqDiff, Nat.reduceAdd, Nat.reduceLT, Nat.reduceLeDiff, Nat.reduceMul, Nat.reduceSub, ↓reduceIte, decide_true, decide_false, Bool.true_eq_false, Bool.false_eq_true, Bool.not_true, Bool.not_false, if_true, if_false, and_true, true_and, memE, celE, w64, Nat.zero_add, Nat.add_zero, Nat.mul_one, putL, and_self, ldn, ia0, ka, o1.rd, o2.rd, sa]
  obtain ⟨M2, hM2⟩ : ∃ M2, M2 = M1.set ia (Ab.rowB (A.set f (A.getD f 0 - u))) := ⟨_, rfl⟩
  rw [← hM2] at o12 o22 kb sb ⊢
  simp (config := {implicitDefEqProofs := false, maxDischargeDepth := 20}) (disch := first | omega | (simp only [lenE]; done) | (simp only [lenE]; omega) | rfl | (simp only [lenE, markR_len]; done) | (simp only [lenE, markR_len]; omega)) only [runE, mapE, listE, initT_5, initT_6, initT_7, initT_8, resV, oneV, binA, unA, reduceCtorEq, Nat.reduceEqDiff, Nat.reduceAdd, Nat.reduceLT, Nat.reduceLeDiff, Nat.reduceMul, Nat.reduceSub, ↓reduceIte, decide_true, decide_false, Bool.true_eq_false, Bool.false_eq_true, Bool.not_true, Bool.not_false, if_true, if_false, and_true, true_and, memE, celE, w64, Nat.zero_add, Nat.add_zero, Nat.mul_one, putL, and_self, ldn, ib0, kb, o12.rd, o22.rd, sb]
  refine ⟨R, nr, ?_⟩
  rw [hM2, hM1, List.set_append_left _ _ la, List.set_append_left _ _ (by rw [List.length_set]; exact lb)]
theorem TabA.rowAt {m M : Mem} {vt : Value} {T : List (List Int)} (h : TabA m vt T) (hX : Ext m M) {t : Nat} (ht : t < T.length) : ∃ w, ldA M none (pAt vt t) = some w ∧ IntsA (roM m) w (T.getD t []) := by
  obtain ⟨n0, rfl, _⟩ := hX
  obtain ⟨w, h1, h2⟩ := h.ro.ld t ht
  exact ⟨w, ldA_ext h1, h2⟩
theorem bld0 (a b c d e : Value) : bldA [a, b, c, d, e] [] = some (.agg #[a, b, c, d, e]) := rfl
theorem bld2u (a b : Value) (u v : Int) : bldA [a, b] [(0, 1, .int .i64 u), (1, 1, .int .i64 v)] = some (.agg #[.int .i64 u, .int .i64 v]) := rfl
theorem stP_agg2u (m : Mem) (id off : Nat) (u v : Value) : stP m 2 (.pointer (some ⟨id, off, none⟩)) (.agg #[u, v]) = stA m id off [u, v] := rfl
theorem OwnB.ld2' {M : Mem} {id : Nat} {e : TypeId} {a b : Value} (h : OwnB M id e [a, b]) : ldA M (some 2) (.pointer (some ⟨id, 0, none⟩)) = some (.agg #[a, b]) := by
  exact BoxA.ld2 ⟨e, h⟩
def noShV : Value := .agg #[.int .i64 0, .slice none 0 0, .slice none 0 0, .int .i64 0, .int .i64 0]
/-- What rows leave, as an answer. -/
def AnsLB (m : Mem) (s : Sh) (b : Bool) (A N : List Int) (r : Value) (new : Mem) : Prop :=
  NoRo new ∧ ((b = false ∧ r = .tuple #[noShV, .bool false]) ∨ (b = true ∧ ∃ v, r = .tuple #[v, .bool true] ∧ LeftR m s A N (m ++ new) v))
theorem ext_noLB {m M : Mem} {s : Sh} {b : Bool} {A N : List Int} (h : Ext m M) (hb : b = false) : newQ m (AnsLB m s b A N) (.tuple #[noShV, .bool false]) M := by
  obtain ⟨n0, rfl, h0⟩ := h
  exact ⟨n0, rfl, h0, h0, .inl ⟨hb, rfl⟩⟩
theorem ext_yesLB {m M : Mem} {s : Sh} {b : Bool} {A N : List Int} {v : Value} (h : Ext m M) (hb : b = true) (hl : LeftR m s A N M v) : newQ m (AnsLB m s b A N) (.tuple #[v, .bool true]) M := by
  obtain ⟨n0, rfl, h0⟩ := h
  exact ⟨n0, rfl, h0, h0, .inr ⟨hb, v, rfl, hl.swap⟩⟩
theorem leftBehind_rc (m : Mem) (v vt : Value) (s : Sh) (T : List (List Int)) (h : ShA m v s) (hT : TabA m vt T) (hg : GoodSh s) (hn : T.length ≤ s.need.length) :
    RC Try.prog 77 [v, vt] m (AnsLB m s (decide (irows s T T.length)) (leftArr s T T.length) (leftNeed s T T.length)) := by
  refine rc_of_run mixed ok_impl_leftBehind (by simp) (go_start _ _ _ ?_)
  obtain ⟨a, b, rfl, ha, hb⟩ := h.ro
  have hla := hg.la
  have n8 := hg.n8
  have hX := ((Ext.refl m).one 27 [.int .i64 s.life, a, b, .int .i64 s.waste, .int .i64 s.lost]).one 27 [.int .i64 0, .slice none 0 0, .slice none 0 0, .int .i64 0, .int .i64 0]
  have o1 : OwnB (roM m ++ [⟨.own, 27, [.int .i64 s.life, a, b, .int .i64 s.waste, .int .i64 s.lost]⟩] ++ [⟨.own, 27, [.int .i64 0, .slice none 0 0, .slice none 0 0, .int .i64 0, .int .i64 0]⟩]) m.length 27 [.int .i64 s.life, a, b, .int .i64 s.waste, .int .i64 s.lost] := (OwnB.here (by simp [roM_len])).ext _
  have o2 : OwnB (roM m ++ [⟨.own, 27, [.int .i64 s.life, a, b, .int .i64 s.waste, .int .i64 s.lost]⟩] ++ [⟨.own, 27, [.int .i64 0, .slice none 0 0, .slice none 0 0, .int .i64 0, .int .i64 0]⟩]) (m.length + 1) 27 [.int .i64 0, .slice none 0 0, .slice none 0 0, .int .i64 0, .int .i64 0] := OwnB.here (by simp [roM_len])
  simp (config := {implicitDefEqProofs := false, maxDischargeDepth := 20}) (disch := first | omega | (simp only [lenE]; done) | (simp only [lenE]; omega) | rfl | (simp only [lenE, markR_len]; done) | (simp only [lenE, markR_len]; omega)) only [runE, mapE, listE, initT_5, initT_6, initT_7, initT_8, resV, oneV, binA, unA, reduceCtorEq, Nat.reduceEqDiff, Nat.reduceAdd, Nat.reduceLT, Nat.reduceLeDiff, Nat.reduceMul, Nat.reduceSub, ↓reduceIte, decide_true, decide_false, Bool.true_eq_false, Bool.false_eq_true, Bool.not_true, Bool.not_false, if_true, if_false, and_true, true_and, memE, celE, w64, Nat.zero_add, Nat.add_zero, Nat.mul_one, putL, and_self, ldn, c_impl_leftBehind, r_impl_leftBehind]
  obtain ⟨M0, hM0⟩ : ∃ M0, M0 = roM m ++ [⟨.own, 27, [.int .i64 s.life, a, b, .int .i64 s.waste, .int .i64 s.lost]⟩] ++ [⟨.own, 27, [.int .i64 0, .slice none 0 0, .slice none 0 0, .int .i64 0, .int .i64 0]⟩] := ⟨_, rfl⟩
  rw [← hM0] at hX o1 o2 ⊢
  have hl0 := o2.lt
  refine callH_rc (copyOf_rc _ _ s (ShA.mk (hX.ints ha) (hX.ints hb)) (by omega) (by omega)) ?_
  rintro r n1 ⟨nr1, ia, ib, fa, fb, hne, ga, gb, rfl, oa, ob⟩
  replace hX := hX.app nr1
  replace o1 := o1.ext n1
  replace o2 := o2.ext n1
  obtain ⟨M1, hM1⟩ : ∃ M1, M1 = M0 ++ n1 := ⟨_, rfl⟩
  rw [← hM1] at hX o1 o2 oa ob ⊢
  have la := oa.lt
  have lb := ob.lt
  simp (config := {implicitDefEqProofs := false, maxDischargeDepth := 20}) (disch := first | omega | (simp only [lenE]; done) | (simp only [lenE]; omega) | rfl | (simp only [lenE, markR_len]; done) | (simp only [lenE, markR_len]; omega)) only [runE, mapE, listE, initT_5, initT_6, initT_7, initT_8, resV, oneV, binA, unA, reduceCtorEq, Nat.reduceEqDiff, Nat.reduceAdd, Nat.reduceLT, Nat.reduceLeDiff, Nat.reduceMul, Nat.reduceSub, ↓reduceIte, decide_true, decide_false, Bool.true_eq_false, Bool.false_eq_true, Bool.not_true, Bool.not_false, if_true, if_false, and_true, true_and, memE, celE, w64, Nat.zero_add, Nat.add_zero, Nat.mul_one, putL, and_self, ldn, stP_agg5', hT.ro.len]
  have hb1 : OwnB (M1 ++ [⟨.own, 27, [.int .i64 s.life, .slice (some ⟨ia, 0, none⟩) s.arr.length fa, .slice (some ⟨ib, 0, none⟩) s.need.length fb, .int .i64 s.waste, .int .i64 s.lost]⟩]) M1.length 27 [.int .i64 s.life, .slice (some ⟨ia, 0, none⟩) s.arr.length fa, .slice (some ⟨ib, 0, none⟩) s.need.length fb, .int .i64 s.waste, .int .i64 s.lost] := OwnB.here rfl
  obtain ⟨lf, hlf⟩ : ∃ lf, lf = M1.length := ⟨_, rfl⟩
  refine loop_inv mixed (fun s' => ∃ (t : Nat) (M : Mem) (A N : List Int), t ≤ T.length ∧ s'.m = M ∧ Ext m M ∧ OwnB M m.length 27 [.int .i64 s.life, a, b, .int .i64 s.waste, .int .i64 s.lost] ∧ OwnB M (m.length + 1) 27 [.int .i64 0, .slice none 0 0, .slice none 0 0, .int .i64 0, .int .i64 0] ∧
      OwnB M lf 27 [.int .i64 s.life, .slice (some ⟨ia, 0, none⟩) s.need.length fa, .slice (some ⟨ib, 0, none⟩) s.need.length fb, .int .i64 s.waste, .int .i64 s.lost] ∧ OwnR M ia A ∧ OwnR M ib N ∧ LeftAt s T t 0 A N ∧
      s'.t 2 = .pointer (some ⟨m.length, 0, none⟩) ∧ s'.t 4 = .pointer (some ⟨m.length + 1, 0, none⟩) ∧ s'.t 6 = .pointer (some ⟨lf, 0, none⟩) ∧ s'.t 14 = vt ∧ s'.t 15 = .int .i64 (T.length : Int) ∧ s'.t 16 = .int .i64 (t : Int)) (fun s' => T.length - (intOf (s'.t 16)).toNat)
    ⟨0, _, s.arr, s.need, by omega, rfl, hX.one _ _, o1.ext _, o2.ext _, by rw [hlf, ← hla]; rw [← hla] at hb1; exact hb1, oa.ext _, ob.ext _, LeftAt.zero hg, rfl, rfl, by rw [hlf]; rfl, rfl, rfl, rfl⟩ ?_
  rintro s' ⟨t, M, A, N, ht, tm, hX, o1, o2, o3, oa, ob, hL, t2, t4, t6, t14, t15, t16⟩
  by_cases hlt : t < T.length
  · have hlt' : (t : Int) < T.length := by omega
    obtain ⟨w, w1, w2⟩ := hT.rowAt hX hlt
    have wl := (hX.ints w2).len
    by_cases hrow : (T.getD t []).length = s.need.length
    · have hrow' : (((T.getD t []).length : Int) != (s.arr.length : Int)) = false := by rw [hrow, hla]; exact bne_self_eq_false _
      simp (config := {implicitDefEqProofs := false, maxDischargeDepth := 20}) (disch := first | omega | (simp only [lenE]; done) | (simp only [lenE]; omega) | rfl | (simp only [lenE, markR_len]; done) | (simp only [lenE, markR_len]; omega)) only [runE, mapE, listE, initT_5, initT_6, initT_7, initT_8, resV, oneV, binA, unA, reduceCtorEq, Nat.reduceEqDiff, Nat.reduceAdd, Nat.reduceLT, Nat.reduceLeDiff, Nat.reduceMul, Nat.reduceSub, ↓reduceIte, decide_true, decide_false, Bool.true_eq_false, Bool.false_eq_true, Bool.not_true, Bool.not_false, if_true, if_false, and_true, true_and, memE, celE, w64, Nat.zero_add, Nat.add_zero, Nat.mul_one, putL, and_self, ldn, tm, t2, t4, t6, t14, t15, t16, hlt', hT.at_ t hlt, w1, wl, o1.rd, (hX.ints ha).len, hrow']
      clear hb1
      refine loop_inv mixed (fun s' => ∃ (j : Nat) (M : Mem) (A N : List Int), j ≤ (T.getD t []).length ∧ s'.m = M ∧ Ext m M ∧ OwnB M m.length 27 [.int .i64 s.life, a, b, .int .i64 s.waste, .int .i64 s.lost] ∧ OwnB M (m.length + 1) 27 [.int .i64 0, .slice none 0 0, .slice none 0 0, .int .i64 0, .int .i64 0] ∧
          OwnB M lf 27 [.int .i64 s.life, .slice (some ⟨ia, 0, none⟩) s.need.length fa, .slice (some ⟨ib, 0, none⟩) s.need.length fb, .int .i64 s.waste, .int .i64 s.lost] ∧ OwnR M ia A ∧ OwnR M ib N ∧ LeftAt s T t j A N ∧
          s'.t 2 = .pointer (some ⟨m.length, 0, none⟩) ∧ s'.t 4 = .pointer (some ⟨m.length + 1, 0, none⟩) ∧ s'.t 6 = .pointer (some ⟨lf, 0, none⟩) ∧ s'.t 7 = .int .i64 (t : Int) ∧ s'.t 14 = vt ∧ s'.t 15 = .int .i64 (T.length : Int) ∧ s'.t 16 = .int .i64 (t : Int) ∧ s'.t 28 = w ∧ s'.t 29 = .int .i64 ((T.getD t []).length : Int) ∧ s'.t 30 = .int .i64 (j : Int)) (fun s' => s.need.length - (intOf (s'.t 30)).toNat)
        ⟨0, M, A, N, by omega, tm, hX, o1, o2, o3, oa, ob, hL, t2, t4, t6, rfl, t14, t15, t16, rfl, rfl, rfl⟩ ?_
      clear tm hX o1 o2 o3 oa ob hL w1 wl
      rintro s' ⟨j, M, A, N, hj, tm, hX, o1, o2, o3, oa, ob, hL, t2, t4, t6, t7, t14, t15, t16, t28, t29, t30⟩
      by_cases hjt : j < (T.getD t []).length
      · have hjt' : (j : Int) < (T.getD t []).length := by omega
        have wi := hX.ints w2
        have lA := hL.la
        have lN := hL.ln
        simp (config := {implicitDefEqProofs := false, maxDischargeDepth := 20}) (disch := first | omega | (simp only [lenE]; done) | (simp only [lenE]; omega) | rfl | (simp only [lenE, markR_len]; done) | (simp only [lenE, markR_len]; omega)) only [runE, mapE, listE, initT_5, initT_6, initT_7, initT_8, resV, oneV, binA, unA, reduceCtorEq, Nat.reduceEqDiff, Nat.reduceAdd, Nat.reduceLT, Nat.reduceLeDiff, Nat.reduceMul, Nat.reduceSub, ↓reduceIte, decide_true, decide_false, Bool.true_eq_false, Bool.false_eq_true, Bool.not_true, Bool.not_false, if_true, if_false, and_true, true_and, memE, celE, w64, Nat.zero_add, Nat.add_zero, Nat.mul_one, putL, and_self, ldn, tm, t2, t4, t6, t7, t14, t15, t16, t28, t29, t30, hjt', wi.at_ j hjt, wi.ld j hjt, bld2u, stP_agg2u, (o3.ext [⟨.own, 97, [.int .i64 (t : Int), .int .i64 (j : Int)]⟩]).rd]
        have hXe := hX.one 97 [.int .i64 (t : Int), .int .i64 (j : Int)]
        have oae := oa.ext [⟨.own, 97, [.int .i64 (t : Int), .int .i64 (j : Int)]⟩]
        have obe := ob.ext [⟨.own, 97, [.int .i64 (t : Int), .int .i64 (j : Int)]⟩]
        have o1e := o1.ext [⟨.own, 97, [.int .i64 (t : Int), .int .i64 (j : Int)]⟩]
        have o2e := o2.ext [⟨.own, 97, [.int .i64 (t : Int), .int .i64 (j : Int)]⟩]
        have o3e := o3.ext [⟨.own, 97, [.int .i64 (t : Int), .int .i64 (j : Int)]⟩]
        have oue : OwnB (M ++ [⟨.own, 97, [.int .i64 (t : Int), .int .i64 (j : Int)]⟩]) M.length 97 [.int .i64 (t : Int), .int .i64 (j : Int)] := OwnB.here rfl
        obtain ⟨M2, hM2⟩ : ∃ M2, M2 = M ++ [⟨.own, 97, [.int .i64 (t : Int), .int .i64 (j : Int)]⟩] := ⟨_, rfl⟩
        rw [← hM2] at hXe oae obe o1e o2e o3e oue ⊢
        have hlM := hX.len
        have iA := oae.ints (by omega) fa
        have iN := obe.ints (by omega) fb
        rw [lA] at iA
        rw [lN] at iN
        refine callH_rc (mostUnits_rc M2 s _ _ A N j t iA iN (by omega) (by omega) (by omega) ⟨by have := hg.l1; omega, hg.l8⟩) ?_
        rintro r n2 ⟨rfl, nr2⟩
        simp (config := {implicitDefEqProofs := false, maxDischargeDepth := 20}) (disch := first | omega | (simp only [lenE]; done) | (simp only [lenE]; omega) | rfl | (simp only [lenE, markR_len]; done) | (simp only [lenE, markR_len]; omega)) only [runE, mapE, listE, initT_5, initT_6, initT_7, initT_8, resV, oneV, binA, unA, reduceCtorEq, Nat.reduceEqDiff, Nat.reduceAdd, Nat.reduceLT, Nat.reduceLeDiff, Nat.reduceMul, Nat.reduceSub, ↓reduceIte, decide_true, decide_false, Bool.true_eq_false, Bool.false_eq_true, Bool.not_true, Bool.not_false, if_true, if_false, and_true, true_and, memE, celE, w64, Nat.zero_add, Nat.add_zero, Nat.mul_one, putL, and_self, ldn]
        refine callH_rc (isWithin_rc _ _ _) ?_
        rintro r new ⟨rfl, rfl⟩
        cases hw : inB (most9 s.life A N t j) ((T.getD t []).getD j 0) with
        | false =>
          have st2 := (o2e.ext n2).st (off := 0) (vs := [.int .i64 0, .slice none 0 0, .slice none 0 0, .int .i64 0, .int .i64 0]) (by simp) rfl
          have se2 := (o2e.ext n2).set_self 27 [.int .i64 0, .slice none 0 0, .slice none 0 0, .int .i64 0, .int .i64 0]
          simp (config := {implicitDefEqProofs := false, maxDischargeDepth := 20}) (disch := first | omega | (simp only [lenE]; done) | (simp only [lenE]; omega) | rfl | (simp only [lenE, markR_len]; done) | (simp only [lenE, markR_len]; omega)) only [runE, mapE, listE, initT_5, initT_6, initT_7, initT_8, resV, oneV, binA, unA, reduceCtorEq, Nat.reduceEqDiff, Nat.reduceAdd, Nat.reduceLT, Nat.reduceLeDiff, Nat.reduceMul, Nat.reduceSub, ↓reduceIte, decide_true, decide_false, Bool.true_eq_false, Bool.false_eq_true, Bool.not_true, Bool.not_false, if_true, if_false, and_true, true_and, memE, celE, w64, Nat.zero_add, Nat.add_zero, Nat.mul_one, putL, and_self, ldn, t4, bld0, stP_agg5', st2, se2.rd]
          refine ext_noLB ((hXe.app nr2).put (by omega) _ _) ?_
          refine decide_eq_false (hL.bad (by omega) (by omega) hlt hrow fun hc => ?_)
          have := inB_iff.2 hc
          rw [hw] at this; cases this
        | true =>
          have hw' := inB_iff.1 hw
          have ba := hL.a0 j (by omega)
          have bn := hL.n0 t (by omega)
          have hm20 : most9 s.life A N t j ≤ 20 := by
            unfold most9; split <;> omega
          simp (config := {implicitDefEqProofs := false, maxDischargeDepth := 20}) (disch := first | omega | (simp only [lenE]; done) | (simp only [lenE]; omega) | rfl | (simp only [lenE, markR_len]; done) | (simp only [lenE, markR_len]; omega)) only [runE, mapE, listE, initT_5, initT_6, initT_7, initT_8, resV, oneV, binA, unA, reduceCtorEq, Nat.reduceEqDiff, Nat.reduceAdd, Nat.reduceLT, Nat.reduceLeDiff, Nat.reduceMul, Nat.reduceSub, ↓reduceIte, decide_true, decide_false, Bool.true_eq_false, Bool.false_eq_true, Bool.not_true, Bool.not_false, if_true, if_false, and_true, true_and, memE, celE, w64, Nat.zero_add, Nat.add_zero, Nat.mul_one, putL, and_self, ldn, t6, t7, (o3e.ext n2).rd, (oue.ext n2).rd]
          have tk := takeUnits_ac (M2 ++ n2) s ia ib fa fb A N j t ((T.getD t []).getD j 0) (oae.ext n2) (obe.ext n2) hne (by omega) (by omega) ba bn ⟨by omega, by omega⟩
          rw [lA, lN] at tk
          refine callH_ac tk ?_
          rintro r M3 ⟨R, nrR, rfl⟩
          have la2 := (oae.ext n2).lt
          have lb2 := (obe.ext n2).lt
          have hX3 := hXe.app nr2
          obtain ⟨M3, hM3⟩ : ∃ M3, M3 = M2 ++ n2 := ⟨_, rfl⟩
          have o13 := o1e.ext n2
          have o23 := o2e.ext n2
          have o33 := o3e.ext n2
          have oa3 := oae.ext n2
          have ob3 := obe.ext n2
          rw [← hM3] at o13 o23 o33 oa3 ob3 hX3 la2 lb2 ⊢
          simp (config := {implicitDefEqProofs := false, maxDischargeDepth := 20}) (disch := first | omega | (simp only [lenE]; done) | (simp only [lenE]; omega) | rfl | (simp only [lenE, markR_len]; done) | (simp only [lenE, markR_len]; omega)) only [runE, mapE, listE, initT_5, initT_6, initT_7, initT_8, resV, oneV, binA, unA, reduceCtorEq, Nat.reduceEqDiff, Nat.reduceAdd, Nat.reduceLT, Nat.reduceLeDiff, Nat.reduceMul, Nat.reduceSub, ↓reduceIte, decide_true, decide_false, Bool.true_eq_false, Bool.false_eq_true, Bool.not_true, Bool.not_false, if_true, if_false, and_true, true_and, memE, celE, w64, Nat.zero_add, Nat.add_zero, Nat.mul_one, putL, and_self, ldn, tm, t2, t4, t6, t7, t14, t15, t16, t28, t29, t30]
          refine ⟨⟨j + 1, _, _, _, by omega, rfl, ((hX3.put (by omega) _ _).put (by omega) _ _).app nrR, ?_, ?_, ?_, ?_, ?_, hL.next (by omega) (by omega) hrow hw'.1 hw'.2, by simp⟩, ?_⟩
          · exact ((o13.set_ne (by omega) _).set_ne (by omega) _).ext _
          · exact ((o23.set_ne (by omega) _).set_ne (by omega) _).ext _
          · exact ((o33.set_ne (by omega) _).set_ne (by omega) _).ext _
          · exact (OwnR.set_ne oa3.set_self (Ne.symm hne)).ext _
          · exact (OwnR.set_self (ob3.set_ne hne)).ext _
          · simp [intOf]; omega
      · have ej : j = s.need.length := by omega
        have hjt' : ¬ ((j : Int) < (T.getD t []).length) := by omega
        simp (config := {implicitDefEqProofs := false, maxDischargeDepth := 20}) (disch := first | omega | (simp only [lenE]; done) | (simp only [lenE]; omega) | rfl | (simp only [lenE, markR_len]; done) | (simp only [lenE, markR_len]; omega)) only [runE, mapE, listE, initT_5, initT_6, initT_7, initT_8, resV, oneV, binA, unA, reduceCtorEq, Nat.reduceEqDiff, Nat.reduceAdd, Nat.reduceLT, Nat.reduceLeDiff, Nat.reduceMul, Nat.reduceSub, ↓reduceIte, decide_true, decide_false, Bool.true_eq_false, Bool.false_eq_true, Bool.not_true, Bool.not_false, if_true, if_false, and_true, true_and, memE, celE, w64, Nat.zero_add, Nat.add_zero, Nat.mul_one, putL, and_self, ldn, tm, t2, t4, t6, t7, t14, t15, t16, t28, t29, t30, hjt']
        subst ej
        refine ⟨⟨t + 1, M, A, N, by omega, rfl, hX, o1, o2, o3, oa, ob, hL.row (by omega) hrow, by simp⟩, ?_⟩
        simp [intOf]; omega
    · have hrow' : (((T.getD t []).length : Int) != (s.arr.length : Int)) = true := by rw [bne_iff_ne]; omega
      have st2 := o2.st (off := 0) (vs := [.int .i64 0, .slice none 0 0, .slice none 0 0, .int .i64 0, .int .i64 0]) (by simp) rfl
      have se2 := o2.set_self 27 [.int .i64 0, .slice none 0 0, .slice none 0 0, .int .i64 0, .int .i64 0]
      simp (config := {implicitDefEqProofs := false, maxDischargeDepth := 20}) (disch := first | omega | (simp only [lenE]; done) | (simp only [lenE]; omega) | rfl | (simp only [lenE, markR_len]; done) | (simp only [lenE, markR_len]; omega)) only [runE, mapE, listE, initT_5, initT_6, initT_7, initT_8, resV, oneV, binA, unA, reduceCtorEq, Nat.reduceEqDiff, Nat.reduceAdd, Nat.reduceLT, Nat.reduceLeDiff, Nat.reduceMul, Nat.reduceSub, ↓reduceIte, decide_true, decide_false, Bool.true_eq_false, Bool.false_eq_true, Bool.not_true, Bool.not_false, if_true, if_false, and_true, true_and, memE, celE, w64, Nat.zero_add, Nat.add_zero, Nat.mul_one, putL, and_self, ldn, tm, t2, t4, t6, t14, t15, t16, hlt', hT.at_ t hlt, w1, wl, o1.rd, (hX.ints ha).len, hrow', bld0, stP_agg5', st2, se2.rd]
      refine ext_noLB (hX.put (by omega) _ _) ?_
      exact decide_eq_false (bad_len hlt hrow)
  · have e : t = T.length := by omega
    subst e
    have hlt' : ¬ (((T.length : Nat) : Int) < T.length) := by omega
    obtain ⟨d1, d2, d3⟩ := hL.done
    have st2 := o2.st (off := 0) (vs := [.int .i64 s.life, .slice (some ⟨ia, 0, none⟩) s.need.length fa, .slice (some ⟨ib, 0, none⟩) s.need.length fb, .int .i64 s.waste, .int .i64 s.lost]) (by simp) rfl
    have se2 := o2.set_self 27 [.int .i64 s.life, .slice (some ⟨ia, 0, none⟩) s.need.length fa, .slice (some ⟨ib, 0, none⟩) s.need.length fb, .int .i64 s.waste, .int .i64 s.lost]
    simp (config := {implicitDefEqProofs := false, maxDischargeDepth := 20}) (disch := first | omega | (simp only [lenE]; done) | (simp only [lenE]; omega) | rfl | (simp only [lenE, markR_len]; done) | (simp only [lenE, markR_len]; omega)) only [runE, mapE, listE, initT_5, initT_6, initT_7, initT_8, resV, oneV, binA, unA, reduceCtorEq, Nat.reduceEqDiff, Nat.reduceAdd, Nat.reduceLT, Nat.reduceLeDiff, Nat.reduceMul, Nat.reduceSub, ↓reduceIte, decide_true, decide_false, Bool.true_eq_false, Bool.false_eq_true, Bool.not_true, Bool.not_false, if_true, if_false, and_true, true_and, memE, celE, w64, Nat.zero_add, Nat.add_zero, Nat.mul_one, putL, and_self, ldn, tm, t2, t4, t6, t14, t15, t16, hlt', o3.rd, stP_agg5', st2, se2.rd]
    refine ext_yesLB (hX.put (by omega) _ _) (decide_eq_true d1) ⟨ia, ib, fa, fb, hne, by omega, by omega, ?_, ?_, ?_⟩
    · rw [← d2, ← d3, hL.la, hL.ln]
    · rw [← d2]; exact oa.at_ (by rw [List.getElem?_set_ne (by omega)])
    · rw [← d3]; exact ob.at_ (by rw [List.getElem?_set_ne (by omega)])
theorem leftOf_rc (m : Mem) (v vt : Value) (s : Sh) (T : List (List Int)) (h : ShA m v s) (hT : TabA m vt T) :
    RC Try.prog 65 [v, vt] m (AnsLB m s (two9 s T) (leftArr s T T.length) (leftNeed s T T.length)) := by
  refine rc_of_run mixed ok_impl_leftOf (by simp) (go_start _ _ _ ?_)
  obtain ⟨a, b, rfl, ha, hb⟩ := h.ro
  have hX := ((Ext.refl m).one 27 [.int .i64 s.life, a, b, .int .i64 s.waste, .int .i64 s.lost]).one 27 [.int .i64 0, .slice none 0 0, .slice none 0 0, .int .i64 0, .int .i64 0]
  have o1 : OwnB (roM m ++ [⟨.own, 27, [.int .i64 s.life, a, b, .int .i64 s.waste, .int .i64 s.lost]⟩] ++ [⟨.own, 27, [.int .i64 0, .slice none 0 0, .slice none 0 0, .int .i64 0, .int .i64 0]⟩]) m.length 27 [.int .i64 s.life, a, b, .int .i64 s.waste, .int .i64 s.lost] := (OwnB.here (by simp [roM_len])).ext _
  have o2 : OwnB (roM m ++ [⟨.own, 27, [.int .i64 s.life, a, b, .int .i64 s.waste, .int .i64 s.lost]⟩] ++ [⟨.own, 27, [.int .i64 0, .slice none 0 0, .slice none 0 0, .int .i64 0, .int .i64 0]⟩]) (m.length + 1) 27 [.int .i64 0, .slice none 0 0, .slice none 0 0, .int .i64 0, .int .i64 0] := OwnB.here (by simp [roM_len])
  simp (config := {implicitDefEqProofs := false, maxDischargeDepth := 20}) (disch := first | omega | (simp only [lenE]; done) | (simp only [lenE]; omega) | rfl | (simp only [lenE, markR_len]; done) | (simp only [lenE, markR_len]; omega)) only [runE, mapE, listE, initT_5, initT_6, initT_7, initT_8, resV, oneV, binA, unA, reduceCtorEq, Nat.reduceEqDiff, Nat.reduceAdd, Nat.reduceLT, Nat.reduceLeDiff, Nat.reduceMul, Nat.reduceSub, ↓reduceIte, decide_true, decide_false, Bool.true_eq_false, Bool.false_eq_true, Bool.not_true, Bool.not_false, if_true, if_false, and_true, true_and, memE, celE, w64, Nat.zero_add, Nat.add_zero, Nat.mul_one, putL, and_self, ldn, c_impl_leftOf, r_impl_leftOf]
  obtain ⟨M0, hM0⟩ : ∃ M0, M0 = roM m ++ [⟨.own, 27, [.int .i64 s.life, a, b, .int .i64 s.waste, .int .i64 s.lost]⟩] ++ [⟨.own, 27, [.int .i64 0, .slice none 0 0, .slice none 0 0, .int .i64 0, .int .i64 0]⟩] := ⟨_, rfl⟩
  rw [← hM0] at hX o1 o2 ⊢
  have hl0 := o2.lt
  refine callH_rc (implIsShelf_rc _ _ s (ShA.mk (hX.ints ha) (hX.ints hb))) ?_
  rintro r n1 ⟨rfl, nr1⟩
  replace hX := hX.app nr1
  replace o1 := o1.ext n1
  replace o2 := o2.ext n1
  obtain ⟨M1, hM1⟩ : ∃ M1, M1 = M0 ++ n1 := ⟨_, rfl⟩
  rw [← hM1] at hX o1 o2 ⊢
  have st2 := o2.st (off := 0) (vs := [.int .i64 0, .slice none 0 0, .slice none 0 0, .int .i64 0, .int .i64 0]) (by simp) rfl
  have se2 := o2.set_self 27 [.int .i64 0, .slice none 0 0, .slice none 0 0, .int .i64 0, .int .i64 0]
  cases hg : s.good with
  | false =>
    simp (config := {implicitDefEqProofs := false, maxDischargeDepth := 20}) (disch := first | omega | (simp only [lenE]; done) | (simp only [lenE]; omega) | rfl | (simp only [lenE, markR_len]; done) | (simp only [lenE, markR_len]; omega)) only [runE, mapE, listE, initT_5, initT_6, initT_7, initT_8, resV, oneV, binA, unA, reduceCtorEq, Nat.reduceEqDiff, Nat.reduceAdd, Nat.reduceLT, Nat.reduceLeDiff, Nat.reduceMul, Nat.reduceSub, ↓reduceIte, decide_true, decide_false, Bool.true_eq_false, Bool.false_eq_true, Bool.not_true, Bool.not_false, if_true, if_false, and_true, true_and, memE, celE, w64, Nat.zero_add, Nat.add_zero, Nat.mul_one, putL, and_self, ldn, bld0, stP_agg5', st2, se2.rd]
    refine ext_noLB (hX.put (by omega) _ _) ?_
    unfold two9; rw [hg]; rfl
  | true =>
  have gd := goodSh_iff.1 hg
  by_cases hl : T.length = s.need.length
  · have hl' : ((T.length : Int) != (s.need.length : Int)) = false := by rw [hl]; exact bne_self_eq_false _
    simp (config := {implicitDefEqProofs := false, maxDischargeDepth := 20}) (disch := first | omega | (simp only [lenE]; done) | (simp only [lenE]; omega) | rfl | (simp only [lenE, markR_len]; done) | (simp only [lenE, markR_len]; omega)) only [runE, mapE, listE, initT_5, initT_6, initT_7, initT_8, resV, oneV, binA, unA, reduceCtorEq, Nat.reduceEqDiff, Nat.reduceAdd, Nat.reduceLT, Nat.reduceLeDiff, Nat.reduceMul, Nat.reduceSub, ↓reduceIte, decide_true, decide_false, Bool.true_eq_false, Bool.false_eq_true, Bool.not_true, Bool.not_false, if_true, if_false, and_true, true_and, memE, celE, w64, Nat.zero_add, Nat.add_zero, Nat.mul_one, putL, and_self, ldn, hT.ro.len, o1.rd, (hX.ints hb).len, hl']
    refine callH_rc (leftBehind_rc _ _ vt s T (ShA.mk (hX.ints ha) (hX.ints hb)) (TabA.xt hT hX) gd (by omega)) ?_
    have e2 : two9 s T = decide (irows s T T.length) := by
      simp only [two9, Sh.issB, hg, Bool.true_and, hl, true_and]
    rintro r n2 ⟨nr2, ⟨hb1, rfl⟩ | ⟨hb1, w, rfl, ia, ib, fa, fb, hne, ga, gb, rfl, oa, ob⟩⟩
    · have st3 := (o2.ext n2).st (off := 0) (vs := [.int .i64 0, .slice none 0 0, .slice none 0 0, .int .i64 0, .int .i64 0]) (by simp) rfl
      have se3 := (o2.ext n2).set_self 27 [.int .i64 0, .slice none 0 0, .slice none 0 0, .int .i64 0, .int .i64 0]
      simp (config := {implicitDefEqProofs := false, maxDischargeDepth := 20}) (disch := first | omega | (simp only [lenE]; done) | (simp only [lenE]; omega) | rfl | (simp only [lenE, markR_len]; done) | (simp only [lenE, markR_len]; omega)) only [runE, mapE, listE, initT_5, initT_6, initT_7, initT_8, resV, oneV, binA, unA, reduceCtorEq, Nat.reduceEqDiff, Nat.reduceAdd, Nat.reduceLT, Nat.reduceLeDiff, Nat.reduceMul, Nat.reduceSub, ↓reduceIte, decide_true, decide_false, Bool.true_eq_false, Bool.false_eq_true, Bool.not_true, Bool.not_false, if_true, if_false, and_true, true_and, memE, celE, w64, Nat.zero_add, Nat.add_zero, Nat.mul_one, putL, and_self, ldn, ext_2_0, ext_2_1, noShV, stP_agg5', st3, se3.rd]
      exact ext_noLB ((hX.app nr2).put (by omega) _ _) (by rw [e2]; exact hb1)
    · have hl1 := hX.len
      have st3 := (o2.ext n2).st (off := 0) (vs := [.int .i64 s.life, .slice (some ⟨ia, 0, none⟩) (leftArr s T T.length).length fa, .slice (some ⟨ib, 0, none⟩) (leftNeed s T T.length).length fb, .int .i64 s.waste, .int .i64 s.lost]) (by simp) rfl
      have se3 := (o2.ext n2).set_self 27 [.int .i64 s.life, .slice (some ⟨ia, 0, none⟩) (leftArr s T T.length).length fa, .slice (some ⟨ib, 0, none⟩) (leftNeed s T T.length).length fb, .int .i64 s.waste, .int .i64 s.lost]
      have l2 := o2.lt
      simp (config := {implicitDefEqProofs := false, maxDischargeDepth := 20}) (disch := first | omega | (simp only [lenE]; done) | (simp only [lenE]; omega) | rfl | (simp only [lenE, markR_len]; done) | (simp only [lenE, markR_len]; omega)) only [runE, mapE, listE, initT_5, initT_6, initT_7, initT_8, resV, oneV, binA, unA, reduceCtorEq, Nat.reduceEqDiff, Nat.reduceAdd, Nat.reduceLT, Nat.reduceLeDiff, Nat.reduceMul, Nat.reduceSub, ↓reduceIte, decide_true, decide_false, Bool.true_eq_false, Bool.false_eq_true, Bool.not_true, Bool.not_false, if_true, if_false, and_true, true_and, memE, celE, w64, Nat.zero_add, Nat.add_zero, Nat.mul_one, putL, and_self, ldn, ext_2_0, ext_2_1, stP_agg5', st3, se3.rd]
      exact ext_yesLB ((hX.app nr2).put (by omega) _ _) (by rw [e2]; exact hb1) ⟨ia, ib, fa, fb, hne, by omega, by omega, rfl, oa.at_ (by rw [List.getElem?_set_ne (by omega)]), ob.at_ (by rw [List.getElem?_set_ne (by omega)])⟩
  · have hl' : ((T.length : Int) != (s.need.length : Int)) = true := by rw [bne_iff_ne]; omega
    simp (config := {implicitDefEqProofs := false, maxDischargeDepth := 20}) (disch := first | omega | (simp only [lenE]; done) | (simp only [lenE]; omega) | rfl | (simp only [lenE, markR_len]; done) | (simp only [lenE, markR_len]; omega)) only [runE, mapE, listE, initT_5, initT_6, initT_7, initT_8, resV, oneV, binA, unA, reduceCtorEq, Nat.reduceEqDiff, Nat.reduceAdd, Nat.reduceLT, Nat.reduceLeDiff, Nat.reduceMul, Nat.reduceSub, ↓reduceIte, decide_true, decide_false, Bool.true_eq_false, Bool.false_eq_true, Bool.not_true, Bool.not_false, if_true, if_false, and_true, true_and, memE, celE, w64, Nat.zero_add, Nat.add_zero, Nat.mul_one, putL, and_self, ldn, hT.ro.len, o1.rd, (hX.ints hb).len, hl', bld0, stP_agg5', st2, se2.rd]
    refine ext_noLB (hX.put (by omega) _ _) ?_
    simp [two9, Sh.issB, hl]
theorem implIsIssue_rc (m : Mem) (v vt : Value) (s : Sh) (T : List (List Int)) (h : ShA m v s) (hT : TabA m vt T) :
    RC Try.prog 24 [v, vt] m (AnsV (.tuple #[.bool (two9 s T), .bool s.good])) := by
  refine rc_of_run mixed ok_impl_IsIssue (by simp) (go_start _ _ _ ?_)
  obtain ⟨a, b, rfl, ha, hb⟩ := h.ro
  have hX := (Ext.refl m).one 27 [.int .i64 s.life, a, b, .int .i64 s.waste, .int .i64 s.lost]
  simp (config := {implicitDefEqProofs := false, maxDischargeDepth := 20}) (disch := first | omega | (simp only [lenE]; done) | (simp only [lenE]; omega) | rfl | (simp only [lenE, markR_len]; done) | (simp only [lenE, markR_len]; omega)) only [runE, mapE, listE, initT_5, initT_6, initT_7, initT_8, resV, oneV, binA, unA, reduceCtorEq, Nat.reduceEqDiff, Nat.reduceAdd, Nat.reduceLT, Nat.reduceLeDiff, Nat.reduceMul, Nat.reduceSub, ↓reduceIte, decide_true, decide_false, Bool.true_eq_false, Bool.false_eq_true, Bool.not_true, Bool.not_false, if_true, if_false, and_true, true_and, memE, celE, w64, Nat.zero_add, Nat.add_zero, Nat.mul_one, putL, and_self, ldn, c_impl_IsIssue, r_impl_IsIssue]
  obtain ⟨M0, hM0⟩ : ∃ M0, M0 = roM m ++ [⟨.own, 27, [.int .i64 s.life, a, b, .int .i64 s.waste, .int .i64 s.lost]⟩] := ⟨_, rfl⟩
  have o1 : OwnB M0 m.length 27 [.int .i64 s.life, a, b, .int .i64 s.waste, .int .i64 s.lost] := by rw [hM0]; exact OwnB.here (by simp [roM_len])
  rw [← hM0] at hX ⊢
  refine callH_rc (implIsShelf_rc _ _ s (ShA.mk (hX.ints ha) (hX.ints hb))) ?_
  rintro r n1 ⟨rfl, nr1⟩
  cases hg : s.good with
  | false =>
    simp (config := {implicitDefEqProofs := false, maxDischargeDepth := 20}) (disch := first | omega | (simp only [lenE]; done) | (simp only [lenE]; omega) | rfl | (simp only [lenE, markR_len]; done) | (simp only [lenE, markR_len]; omega)) only [runE, mapE, listE, initT_5, initT_6, initT_7, initT_8, resV, oneV, binA, unA, reduceCtorEq, Nat.reduceEqDiff, Nat.reduceAdd, Nat.reduceLT, Nat.reduceLeDiff, Nat.reduceMul, Nat.reduceSub, ↓reduceIte, decide_true, decide_false, Bool.true_eq_false, Bool.false_eq_true, Bool.not_true, Bool.not_false, if_true, if_false, and_true, true_and, memE, celE, w64, Nat.zero_add, Nat.add_zero, Nat.mul_one, putL, and_self, ldn]
    refine ext_ansV (hX.app nr1) ?_
    simp [two9, hg]
  | true =>
    simp (config := {implicitDefEqProofs := false, maxDischargeDepth := 20}) (disch := first | omega | (simp only [lenE]; done) | (simp only [lenE]; omega) | rfl | (simp only [lenE, markR_len]; done) | (simp only [lenE, markR_len]; omega)) only [runE, mapE, listE, initT_5, initT_6, initT_7, initT_8, resV, oneV, binA, unA, reduceCtorEq, Nat.reduceEqDiff, Nat.reduceAdd, Nat.reduceLT, Nat.reduceLeDiff, Nat.reduceMul, Nat.reduceSub, ↓reduceIte, decide_true, decide_false, Bool.true_eq_false, Bool.false_eq_true, Bool.not_true, Bool.not_false, if_true, if_false, and_true, true_and, memE, celE, w64, Nat.zero_add, Nat.add_zero, Nat.mul_one, putL, and_self, ldn, (o1.ext n1).rd]
    refine callH_rc (leftOf_rc _ _ vt s T (ShA.mk ((hX.app nr1).ints ha) ((hX.app nr1).ints hb)) (TabA.xt hT (hX.app nr1))) ?_
    rintro r n2 ⟨nr2, ⟨hb1, rfl⟩ | ⟨hb1, w, rfl, ia, ib, fa, fb, hne, ga, gb, rfl, oa, ob⟩⟩
    · simp (config := {implicitDefEqProofs := false, maxDischargeDepth := 20}) (disch := first | omega | (simp only [lenE]; done) | (simp only [lenE]; omega) | rfl | (simp only [lenE, markR_len]; done) | (simp only [lenE, markR_len]; omega)) only [runE, mapE, listE, initT_5, initT_6, initT_7, initT_8, resV, oneV, binA, unA, reduceCtorEq, Nat.reduceEqDiff, Nat.reduceAdd, Nat.reduceLT, Nat.reduceLeDiff, Nat.reduceMul, Nat.reduceSub, ↓reduceIte, decide_true, decide_false, Bool.true_eq_false, Bool.false_eq_true, Bool.not_true, Bool.not_false, if_true, if_false, and_true, true_and, memE, celE, w64, Nat.zero_add, Nat.add_zero, Nat.mul_one, putL, and_self, ldn, ext_2_0, ext_2_1, noShV, stP_agg5']
      exact ext_ansV (((hX.app nr1).app nr2).one _ _) (by rw [hb1])
    · simp (config := {implicitDefEqProofs := false, maxDischargeDepth := 20}) (disch := first | omega | (simp only [lenE]; done) | (simp only [lenE]; omega) | rfl | (simp only [lenE, markR_len]; done) | (simp only [lenE, markR_len]; omega)) only [runE, mapE, listE, initT_5, initT_6, initT_7, initT_8, resV, oneV, binA, unA, reduceCtorEq, Nat.reduceEqDiff, Nat.reduceAdd, Nat.reduceLT, Nat.reduceLeDiff, Nat.reduceMul, Nat.reduceSub, ↓reduceIte, decide_true, decide_false, Bool.true_eq_false, Bool.false_eq_true, Bool.not_true, Bool.not_false, if_true, if_false, and_true, true_and, memE, celE, w64, Nat.zero_add, Nat.add_zero, Nat.mul_one, putL, and_self, ldn, ext_2_0, ext_2_1, stP_agg5']
      exact ext_ansV (((hX.app nr1).app nr2).one _ _) (by rw [hb1])
end Go.Proofs.Ytihjcjhnkpkomaa.Ab
