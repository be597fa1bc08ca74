/- What is chosen through an interface: bestChoice; BestCycle and PowerCycle. -/
import Derived.Test.YtmjnjhdacliieaaAbCy3
namespace Go.Proofs.Ytmjnjhdacliieaa.Ab
open Go Go.RowKit
set_option linter.unusedVariables false
set_option linter.unusedSimpArgs false
set_option maxRecDepth 10000

theorem cells_ifc (t : TypeId) (v : Value) : (Value.iface t v).cells = #[.iface t v] := rfl
theorem onesB_ifc (t : TypeId) (v : Value) (vs : List Value) : onesB (.iface t v :: vs) = onesB vs := rfl
/-- What has choices and their costs. -/
structure Pace (m : Mem) (x : Value) (l : List Int) (cost : Int → Int × Int) : Prop where
  ifc : ∃ t v, x = .iface t v
  ch : ∃ f r, invA Try.prog "loop.example/g01111/impl.choices" x = some (f, r) ∧ ∀ M, Sees m M → RC Try.prog f [r] M (fun v new => NoRo new ∧ IntsA (M ++ new) v l)
  co : ∃ f r, invA Try.prog "loop.example/g01111/impl.costOf" x = some (f, r) ∧ ∀ M c, Sees m M → c ∈ l → RC Try.prog f [r, .int .i64 c] M (AnsV (frV (cost c)))
  fit : ∀ c ∈ l, Fit (cost c)
theorem ansO_ints {m : Mem} {l : List Int} {r : Value} {new : Mem} (h : AnsO m (IntsO l) id r new) : NoRo new ∧ IntsA (m ++ new) r l := by
  obtain ⟨hn, v, rfl, hA⟩ := h
  exact ⟨hn, hA.now.in⟩
theorem pickCmp_rc (m M : Mem) (x : Value) (l : List Int) (cost : Int → Int × Int) (id : Nat) (h : Pace m x l cost) (hs : Sees m M) (hx : rdc M id 0 = some x) (a b : Int) (ha : a ∈ l) (hb : b ∈ l) :
    RC Try.prog 105 [.int .i64 a, .int .i64 b, .pointer (some ⟨id, 0, none⟩)] M (AnsV (.int .i64 (cmpF (cost a) (cost b)))) := by
  refine rc_of_run mixed ok_impl_bestChoice_1 (by simp) (go_start _ _ _ ?_)
  obtain ⟨f, r, hinv, hco⟩ := h.co
  have hx' : rdc (roM M) id 0 = some x := (rdc_roM M id 0).trans hx
  have hX := Ext.refl M
  simp (config := {implicitDefEqProofs := false, maxDischargeDepth := 20}) (disch := first | omega | (simp only [lenE]; done) | (simp only [lenE]; omega) | rfl | (simp only [lenE, markR_len]; done) | (simp only [lenE, markR_len]; omega)) only [runE, mapE, listE, initT_5, initT_6, initT_7, initT_8, resV, oneV, binA, unA, reduceCtorEq, Nat.reduceEqDiff, Nat.reduceAdd, Nat.reduceLT, Nat.reduceLeDiff, Nat.reduceMul, Nat.reduceSub, ↓reduceIte, decide_true, decide_false, Bool.true_eq_false, Bool.false_eq_true, Bool.not_true, Bool.not_false, if_true, if_false, and_true, true_and, memE, celE, w64, Nat.zero_add, Nat.add_zero, Nat.mul_one, putL, and_self, ldn, c_impl_bestChoice_1, r_impl_bestChoice_1, hx', hinv]
  refine rcallH_rc (hco _ a (hs.trans (Sees.ext hX)) ha) ?_
  rintro r new ⟨rfl, nrn⟩
  have hx2 := hX.app nrn
  have hr2 := hx2.rd hx
  simp (config := {implicitDefEqProofs := false, maxDischargeDepth := 20}) (disch := first | omega | (simp only [lenE]; done) | (simp only [lenE]; omega) | rfl | (simp only [lenE, markR_len]; done) | (simp only [lenE, markR_len]; omega)) only [runE, mapE, listE, initT_5, initT_6, initT_7, initT_8, resV, oneV, binA, unA, reduceCtorEq, Nat.reduceEqDiff, Nat.reduceAdd, Nat.reduceLT, Nat.reduceLeDiff, Nat.reduceMul, Nat.reduceSub, ↓reduceIte, decide_true, decide_false, Bool.true_eq_false, Bool.false_eq_true, Bool.not_true, Bool.not_false, if_true, if_false, and_true, true_and, memE, celE, w64, Nat.zero_add, Nat.add_zero, Nat.mul_one, putL, and_self, ldn, hr2, hinv]
  refine rcallH_rc (hco _ b (hs.trans (Sees.ext hx2)) hb) ?_
  rintro r new2 ⟨rfl, nrn2⟩
  have hx3 := hx2.app nrn2
  simp (config := {implicitDefEqProofs := false, maxDischargeDepth := 20}) (disch := first | omega | (simp only [lenE]; done) | (simp only [lenE]; omega) | rfl | (simp only [lenE, markR_len]; done) | (simp only [lenE, markR_len]; omega)) only [runE, mapE, listE, initT_5, initT_6, initT_7, initT_8, resV, oneV, binA, unA, reduceCtorEq, Nat.reduceEqDiff, Nat.reduceAdd, Nat.reduceLT, Nat.reduceLeDiff, Nat.reduceMul, Nat.reduceSub, ↓reduceIte, decide_true, decide_false, Bool.true_eq_false, Bool.false_eq_true, Bool.not_true, Bool.not_false, if_true, if_false, and_true, true_and, memE, celE, w64, Nat.zero_add, Nat.add_zero, Nat.mul_one, putL, and_self, ldn]
  refine rcallH_rc (cmpFr_rc _ (cost a) (cost b) (h.fit a ha) (h.fit b hb)) ?_
  rintro r new3 ⟨rfl, nrn3⟩
  simp (config := {implicitDefEqProofs := false, maxDischargeDepth := 20}) (disch := first | omega | (simp only [lenE]; done) | (simp only [lenE]; omega) | rfl | (simp only [lenE, markR_len]; done) | (simp only [lenE, markR_len]; omega)) only [runE, mapE, listE, initT_5, initT_6, initT_7, initT_8, resV, oneV, binA, unA, reduceCtorEq, Nat.reduceEqDiff, Nat.reduceAdd, Nat.reduceLT, Nat.reduceLeDiff, Nat.reduceMul, Nat.reduceSub, ↓reduceIte, decide_true, decide_false, Bool.true_eq_false, Bool.false_eq_true, Bool.not_true, Bool.not_false, if_true, if_false, and_true, true_and, memE, celE, w64, Nat.zero_add, Nat.add_zero, Nat.mul_one, putL, and_self, ldn]
  exact ext_ansV (hx3.app nrn3) rfl
/-- The first choice with the least cost. -/
def pickOf (cost : Int → Int × Int) (l : List Int) : Int := bestIn (fun a b => lessF (cost a) (cost b)) (l.drop 1) (l.getD 0 0)
theorem bestChoice_rc (m : Mem) (x : Value) (l : List Int) (cost : Int → Int × Int) (h : Pace m x l cost) :
    RC Try.prog 68 [x] m (AnsV (.tuple #[.int .i64 (pickOf cost l), .bool (decide (0 < l.length))])) := by
  refine rc_of_run mixed ok_impl_bestChoice (by simp) (go_start _ _ _ ?_)
  obtain ⟨t, v, hxe⟩ := h.ifc
  obtain ⟨f, r, hinv, hch⟩ := h.ch
  subst hxe
  simp (config := {implicitDefEqProofs := false, maxDischargeDepth := 20}) (disch := first | omega | (simp only [lenE]; done) | (simp only [lenE]; omega) | rfl | (simp only [lenE, markR_len]; done) | (simp only [lenE, markR_len]; omega)) only [runE, mapE, listE, initT_5, initT_6, initT_7, initT_8, resV, oneV, binA, unA, reduceCtorEq, Nat.reduceEqDiff, Nat.reduceAdd, Nat.reduceLT, Nat.reduceLeDiff, Nat.reduceMul, Nat.reduceSub, ↓reduceIte, decide_true, decide_false, Bool.true_eq_false, Bool.false_eq_true, Bool.not_true, Bool.not_false, if_true, if_false, and_true, true_and, memE, celE, w64, Nat.zero_add, Nat.add_zero, Nat.mul_one, putL, and_self, ldn, c_impl_bestChoice, r_impl_bestChoice, cells_ifc]
  obtain ⟨E, hE⟩ : ∃ M, M = roM m ++ [⟨.own, 109, [.iface t v]⟩] := ⟨_, rfl⟩
  rw [← hE]
  have hX : Ext m E := by rw [hE]; exact (Ext.refl m).one _ _
  have o0 : OwnB E m.length 109 [.iface t v] := by rw [hE]; exact OwnB.here (roM_len m).symm
  clear hE
  have hrd := o0.rd 0
  simp only [List.getElem?_cons_zero] at hrd
  simp (config := {implicitDefEqProofs := false, maxDischargeDepth := 20}) (disch := first | omega | (simp only [lenE]; done) | (simp only [lenE]; omega) | rfl | (simp only [lenE, markR_len]; done) | (simp only [lenE, markR_len]; omega)) only [runE, mapE, listE, initT_5, initT_6, initT_7, initT_8, resV, oneV, binA, unA, reduceCtorEq, Nat.reduceEqDiff, Nat.reduceAdd, Nat.reduceLT, Nat.reduceLeDiff, Nat.reduceMul, Nat.reduceSub, ↓reduceIte, decide_true, decide_false, Bool.true_eq_false, Bool.false_eq_true, Bool.not_true, Bool.not_false, if_true, if_false, and_true, true_and, memE, celE, w64, Nat.zero_add, Nat.add_zero, Nat.mul_one, putL, and_self, ldn, hrd, hinv]
  refine rcallH_rc (hch E (Sees.ext hX)) ?_
  rintro r new ⟨nrn, hI⟩
  have hl := hI.len
  have hX2 := hX.app nrn
  by_cases h0 : 0 < l.length
  · have hne : ((l.length : Int) == 0) = false := by rw [beq_eq_false_iff_ne]; omega
    simp (config := {implicitDefEqProofs := false, maxDischargeDepth := 20}) (disch := first | omega | (simp only [lenE]; done) | (simp only [lenE]; omega) | rfl | (simp only [lenE, markR_len]; done) | (simp only [lenE, markR_len]; omega)) only [runE, mapE, listE, initT_5, initT_6, initT_7, initT_8, resV, oneV, binA, unA, reduceCtorEq, Nat.reduceEqDiff, Nat.reduceAdd, Nat.reduceLT, Nat.reduceLeDiff, Nat.reduceMul, Nat.reduceSub, ↓reduceIte, decide_true, decide_false, Bool.true_eq_false, Bool.false_eq_true, Bool.not_true, Bool.not_false, if_true, if_false, and_true, true_and, memE, celE, w64, Nat.zero_add, Nat.add_zero, Nat.mul_one, putL, and_self, ldn, hl, hne, id_eq]
    have hc : CmpA (E ++ new) (.func (.func 105) #[] #[.pointer (some ⟨m.length, 0, none⟩)]) l (fun a b => cmpF (cost a) (cost b)) :=
      ⟨_, _, rfl, fun M a b hM ha hb => pickCmp_rc m M (.iface t v) l cost m.length h ((Sees.ext hX2).trans hM) (hM.rdc ((o0.ext new).rd 0)) a b ha hb⟩
    refine callH_rc (minFunc_rc _ _ _ l _ hI h0 hc) ?_
    rintro r new2 ⟨rfl, nrn2⟩
    have e : bestIn (fun a b => decide (cmpF (cost a) (cost b) < 0)) (l.drop 1) (l.getD 0 0) = pickOf cost l := by
      unfold pickOf
      congr 1
      funext a b
      exact cmpF_neg _ _
    rw [e]
    obtain ⟨q, hq⟩ : ∃ q, q = pickOf cost l := ⟨_, rfl⟩
    rw [← hq, decide_eq_true h0]
    simp (config := {implicitDefEqProofs := false, maxDischargeDepth := 20}) (disch := first | omega | (simp only [lenE]; done) | (simp only [lenE]; omega) | rfl | (simp only [lenE, markR_len]; done) | (simp only [lenE, markR_len]; omega)) only [runE, mapE, listE, initT_5, initT_6, initT_7, initT_8, resV, oneV, binA, unA, reduceCtorEq, Nat.reduceEqDiff, Nat.reduceAdd, Nat.reduceLT, Nat.reduceLeDiff, Nat.reduceMul, Nat.reduceSub, ↓reduceIte, decide_true, decide_false, Bool.true_eq_false, Bool.false_eq_true, Bool.not_true, Bool.not_false, if_true, if_false, and_true, true_and, memE, celE, w64, Nat.zero_add, Nat.add_zero, Nat.mul_one, putL, and_self, ldn]
    exact ext_ansV (hX2.app nrn2) rfl
  · have e : l = [] := List.eq_nil_of_length_eq_zero (by omega)
    subst e
    simp (config := {implicitDefEqProofs := false, maxDischargeDepth := 20}) (disch := first | omega | (simp only [lenE]; done) | (simp only [lenE]; omega) | rfl | (simp only [lenE, markR_len]; done) | (simp only [lenE, markR_len]; omega)) only [runE, mapE, listE, initT_5, initT_6, initT_7, initT_8, resV, oneV, binA, unA, reduceCtorEq, Nat.reduceEqDiff, Nat.reduceAdd, Nat.reduceLT, Nat.reduceLeDiff, Nat.reduceMul, Nat.reduceSub, ↓reduceIte, decide_true, decide_false, Bool.true_eq_false, Bool.false_eq_true, Bool.not_true, Bool.not_false, if_true, if_false, and_true, true_and, memE, celE, w64, Nat.zero_add, Nat.add_zero, Nat.mul_one, putL, and_self, ldn, hl, id_eq, show ((((([] : List Int).length : Nat)) : Int) == 0) = true by rfl, List.length_nil, show ((((0 : Nat)) : Int) == 0) = true by rfl, show (((0 : Int)) == 0) = true by rfl]
    exact ext_ansV hX2 rfl
theorem countsUpTo_rc (m : Mem) (n : Nat) (hn : n ≤ 100000) : RC Try.prog 113 [.int .i64 (n : Int)] m (AnsO m (IntsO (upFrom 1 n)) id) := by
  refine rc_of_run mixed ok_impl_countsUpTo (by simp) (go_start _ _ _ ?_)
  simp (config := {implicitDefEqProofs := false, maxDischargeDepth := 20}) (disch := first | omega | (simp only [lenE]; done) | (simp only [lenE]; omega) | rfl | (simp only [lenE, markR_len]; done) | (simp only [lenE, markR_len]; omega)) only [runE, mapE, listE, initT_5, initT_6, initT_7, initT_8, resV, oneV, binA, unA, reduceCtorEq, Nat.reduceEqDiff, Nat.reduceAdd, Nat.reduceLT, Nat.reduceLeDiff, Nat.reduceMul, Nat.reduceSub, ↓reduceIte, decide_true, decide_false, Bool.true_eq_false, Bool.false_eq_true, Bool.not_true, Bool.not_false, if_true, if_false, and_true, true_and, memE, celE, w64, Nat.zero_add, Nat.add_zero, Nat.mul_one, putL, and_self, ldn, c_impl_countsUpTo, r_impl_countsUpTo, bsl_none]
  refine loop_inv mixed (fun s => ∃ (k : Nat) (M : Mem) (id : Nat), k ≤ n ∧ s.m = M ∧ Ext m M ∧ m.length ≤ id ∧ OwnR M id (upFrom 1 k) ∧ s.t 3 = .slice (some ⟨id, 0, none⟩) k 1 ∧ s.t 6 = .int .i64 (n : Int) ∧ s.t 7 = .int .i64 (k : Int)) (fun s => n - (intOf (s.t 7)).toNat)
    ⟨0, _, m.length, by omega, rfl, (Ext.refl m).one _ _, Nat.le_refl _, by exact OwnR.here (roM m) [] m.length (roM_len m).symm, by first | rfl | simp [roM_len], rfl, rfl⟩ ?_
  rintro s ⟨k, M, id, hk, tm, hX, hid, ho, t3, t6, t7⟩
  by_cases hkn : k < n
  · have hlt : (k : Int) < n := by omega
    have hap := app_num (x := (k : Int) + 1) ho (by rw [upFrom_len]; omega) rfl (upFrom_len 1 k).symm
    have e : upFrom 1 (k + 1) = upFrom 1 k ++ [(k : Int) + 1] := by rw [upFrom_snoc, Int.add_comm]
    rw [← e] at hap
    simp (config := {implicitDefEqProofs := false, maxDischargeDepth := 20}) (disch := first | omega | (simp only [lenE]; done) | (simp only [lenE]; omega) | rfl | (simp only [lenE, markR_len]; done) | (simp only [lenE, markR_len]; omega)) only [runE, mapE, listE, initT_5, initT_6, initT_7, initT_8, resV, oneV, binA, unA, reduceCtorEq, Nat.reduceEqDiff, Nat.reduceAdd, Nat.reduceLT, Nat.reduceLeDiff, Nat.reduceMul, Nat.reduceSub, ↓reduceIte, decide_true, decide_false, Bool.true_eq_false, Bool.false_eq_true, Bool.not_true, Bool.not_false, if_true, if_false, and_true, true_and, memE, celE, w64, Nat.zero_add, Nat.add_zero, Nat.mul_one, putL, and_self, ldn, tm, t3, t6, t7, hlt, bsl_one, hap]
    refine ⟨⟨k + 1, _, _, by omega, rfl, ((hX.dead hid).one _ _).one _ _, ?_, OwnR.here _ _ _ ?_, rfl, by simp⟩, ?_⟩
    · have := hX.len; omega
    · simp
    · simp [intOf]; omega
  · have hlt : ¬ ((k : Int) < n) := by omega
    have e : k = n := by omega
    subst e
    simp (config := {implicitDefEqProofs := false, maxDischargeDepth := 20}) (disch := first | omega | (simp only [lenE]; done) | (simp only [lenE]; omega) | rfl | (simp only [lenE, markR_len]; done) | (simp only [lenE, markR_len]; omega)) only [runE, mapE, listE, initT_5, initT_6, initT_7, initT_8, resV, oneV, binA, unA, reduceCtorEq, Nat.reduceEqDiff, Nat.reduceAdd, Nat.reduceLT, Nat.reduceLeDiff, Nat.reduceMul, Nat.reduceSub, ↓reduceIte, decide_true, decide_false, Bool.true_eq_false, Bool.false_eq_true, Bool.not_true, Bool.not_false, if_true, if_false, and_true, true_and, memE, celE, w64, Nat.zero_add, Nat.add_zero, Nat.mul_one, putL, and_self, ldn, tm, t3, t6, t7, hlt]
    refine ext_ansO (f := _root_.id) hX fun M' hM => ⟨by rw [upFrom_len]; omega, id, 1, by rw [upFrom_len], hid, ho.lt, ho.at_ (hM _ hid ho.lt)⟩
theorem powers_rc (m : Mem) (x : Value) (hx : x.cells.toList.length = 5) : RC Try.prog 148 [x] m (AnsO m (IntsO [1, 2, 4, 8, 16, 32, 64]) id) := by
  refine rc_of_run mixed ok_impl_doubled__choices (by simp) (go_start _ _ _ ?_)
  simp (config := {implicitDefEqProofs := false, maxDischargeDepth := 20}) (disch := first | omega | (simp only [lenE]; done) | (simp only [lenE]; omega) | rfl | (simp only [lenE, markR_len]; done) | (simp only [lenE, markR_len]; omega)) only [runE, mapE, listE, initT_5, initT_6, initT_7, initT_8, resV, oneV, binA, unA, reduceCtorEq, Nat.reduceEqDiff, Nat.reduceAdd, Nat.reduceLT, Nat.reduceLeDiff, Nat.reduceMul, Nat.reduceSub, ↓reduceIte, decide_true, decide_false, Bool.true_eq_false, Bool.false_eq_true, Bool.not_true, Bool.not_false, if_true, if_false, and_true, true_and, memE, celE, w64, Nat.zero_add, Nat.add_zero, Nat.mul_one, putL, and_self, ldn, c_impl_doubled__choices, r_impl_doubled__choices, bsl_none]
  have hX0 : Ext m (roM m ++ [⟨.own, 74, x.cells.toList⟩]) := (Ext.refl m).one _ _
  obtain ⟨E, hE⟩ : ∃ M, M = roM m ++ [⟨.own, 74, x.cells.toList⟩] := ⟨_, rfl⟩
  rw [← hE] at hX0 ⊢
  have hEl : E.length = m.length + 1 := by rw [hE]; simp [roM_len]
  clear hE
  have facts : ∀ k : Nat, k < 7 → 1 ≤ ([1, 2, 4, 8, 16, 32, 64, 128] : List Int).getD k 0 ∧ ([1, 2, 4, 8, 16, 32, 64, 128] : List Int).getD k 0 ≤ 64 ∧ ([1, 2, 4, 8, 16, 32, 64, 128] : List Int).getD (k + 1) 0 = ([1, 2, 4, 8, 16, 32, 64, 128] : List Int).getD k 0 * 2 ∧ ([1, 2, 4, 8, 16, 32, 64] : List Int).take (k + 1) = ([1, 2, 4, 8, 16, 32, 64] : List Int).take k ++ [([1, 2, 4, 8, 16, 32, 64, 128] : List Int).getD k 0] ∧ (([1, 2, 4, 8, 16, 32, 64] : List Int).take k).length = k := by decide
  refine loop_inv mixed (fun s => ∃ (k : Nat) (M : Mem) (id : Nat), k ≤ 7 ∧ s.m = M ∧ Ext m M ∧ m.length ≤ id ∧ OwnR M id (([1, 2, 4, 8, 16, 32, 64] : List Int).take k) ∧ s.t 3 = .slice (some ⟨id, 0, none⟩) k 1 ∧ s.t 4 = .int .i64 (([1, 2, 4, 8, 16, 32, 64, 128] : List Int).getD k 0)) (fun s => 128 - (intOf (s.t 4)).toNat)
    ⟨0, _, m.length + 1, by omega, rfl, hX0.one _ _, by omega, by exact OwnR.here E [] (m.length + 1) hEl.symm, by first | rfl | simp [hEl], rfl⟩ ?_
  rintro s ⟨k, M, id, hk, tm, hX, hid, ho, t3, t4⟩
  by_cases hk7 : k < 7
  · obtain ⟨f1, f2, f3, f4, f5⟩ := facts k hk7
    generalize ([1, 2, 4, 8, 16, 32, 64, 128] : List Int).getD k 0 = q at *
    have hap := app_num (x := q) ho (by omega) rfl f5.symm
    rw [← f4] at hap
    simp (config := {implicitDefEqProofs := false, maxDischargeDepth := 20}) (disch := first | omega | (simp only [lenE]; done) | (simp only [lenE]; omega) | rfl | (simp only [lenE, markR_len]; done) | (simp only [lenE, markR_len]; omega)) only [runE, mapE, listE, initT_5, initT_6, initT_7, initT_8, resV, oneV, binA, unA, reduceCtorEq, Nat.reduceEqDiff, Nat.reduceAdd, Nat.reduceLT, Nat.reduceLeDiff, Nat.reduceMul, Nat.reduceSub, ↓reduceIte, decide_true, decide_false, Bool.true_eq_false, Bool.false_eq_true, Bool.not_true, Bool.not_false, if_true, if_false, and_true, true_and, memE, celE, w64, Nat.zero_add, Nat.add_zero, Nat.mul_one, putL, and_self, ldn, tm, t3, t4, f2, bsl_one, hap]
    refine ⟨⟨k + 1, _, _, by omega, rfl, ((hX.dead hid).one _ _).one _ _, ?_, OwnR.here _ _ _ ?_, rfl, by rw [f3]⟩, ?_⟩
    · have := hX.len; omega
    · simp
    · simp [intOf]; omega
  · have e : k = 7 := by omega
    subst e
    simp only [List.getD_cons_zero, List.getD_cons_succ] at t4
    simp (config := {implicitDefEqProofs := false, maxDischargeDepth := 20}) (disch := first | omega | (simp only [lenE]; done) | (simp only [lenE]; omega) | rfl | (simp only [lenE, markR_len]; done) | (simp only [lenE, markR_len]; omega)) only [runE, mapE, listE, initT_5, initT_6, initT_7, initT_8, resV, oneV, binA, unA, reduceCtorEq, Nat.reduceEqDiff, Nat.reduceAdd, Nat.reduceLT, Nat.reduceLeDiff, Nat.reduceMul, Nat.reduceSub, ↓reduceIte, decide_true, decide_false, Bool.true_eq_false, Bool.false_eq_true, Bool.not_true, Bool.not_false, if_true, if_false, and_true, true_and, memE, celE, w64, Nat.zero_add, Nat.add_zero, Nat.mul_one, putL, and_self, ldn, tm, t3, t4, show ((128 : Int) ≤ 64) = False by simp]
    refine ext_ansO (f := _root_.id) hX fun M' hM => ⟨by decide, id, 1, rfl, hid, ho.lt, ho.at_ (hM _ hid ho.lt)⟩
end Go.Proofs.Ytmjnjhdacliieaa.Ab
