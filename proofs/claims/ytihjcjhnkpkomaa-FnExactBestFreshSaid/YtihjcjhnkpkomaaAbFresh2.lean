/- Fresh costs: the least rate, by the program. -/
import Derived.Test.YtihjcjhnkpkomaaAbFresh1
namespace Go.Proofs.Ytihjcjhnkpkomaa.Ab
open Go Go.RowKit
set_option linter.unusedVariables false
set_option linter.unusedSimpArgs false

/-- The least of the first k+1 numbers. -/
def minI (l : List Int) : Nat → Int
  | 0 => l.getD 0 0
  | k + 1 => min (minI l k) (l.getD (k + 1) 0)
theorem slMin_rc (m : Mem) (v : Value) (l : List Int) (h : IntsA m v l) (h0 : 0 < l.length) (hb : l.length ≤ 1000) : RC Try.prog 120 [v] m (AnsV (.int .i64 (minI l (l.length - 1)))) := by
  refine rc_of_run mixed ok_slices_Min (by simp) (go_start _ _ _ ?_)
  have hv := h.ro
  have hl1 : ¬ ((l.length : Int) < 1) := by omega
  have a0 := hv.at_ 0 h0
  have z0 : ((0 : Nat) : Int) = 0 := rfl
  rw [z0] at a0
  simp (config := {implicitDefEqProofs := false, maxDischargeDepth := 20}) (disch := first | omega | (simp only [lenE]; done) | (simp only [lenE]; omega) | rfl | (simp only [lenE, markR_len]; done) | (simp only [lenE, markR_len]; omega)) only [runE, mapE, listE, initT_5, initT_6, initT_7, initT_8, resV, oneV, binA, unA, reduceCtorEq, Nat.reduceEqDiff, Nat.reduceAdd, Nat.reduceLT, Nat.reduceLeDiff, Nat.reduceMul, Nat.reduceSub, ↓reduceIte, decide_true, decide_false, Bool.true_eq_false, Bool.false_eq_true, Bool.not_true, Bool.not_false, if_true, if_false, and_true, true_and, memE, celE, w64, Nat.zero_add, Nat.add_zero, Nat.mul_one, putL, and_self, ldn, c_slices_Min, r_slices_Min, hv.len, hl1, a0, hv.ld 0 h0]
  refine loop_inv mixed (fun s => ∃ i : Nat, i + 1 ≤ l.length ∧ s.m = roM m ∧ s.t 0 = v ∧ s.t 3 = .int .i64 (minI l i) ∧ s.t 4 = .int .i64 ((i : Int) + 1)) (fun s => l.length - (intOf (s.t 4)).toNat)
    ⟨0, by omega, rfl, rfl, rfl, rfl⟩ ?_
  rintro s ⟨i, hk, tm, t0, t3, t4⟩
  by_cases hlt : i + 1 < l.length
  · have hlt' : (i : Int) + 1 < l.length := by omega
    have ai := hv.at_ (i + 1) hlt
    rw [show (((i + 1 : Nat)) : Int) = (i : Int) + 1 by omega] at ai
    simp (config := {implicitDefEqProofs := false, maxDischargeDepth := 20}) (disch := first | omega | (simp only [lenE]; done) | (simp only [lenE]; omega) | rfl | (simp only [lenE, markR_len]; done) | (simp only [lenE, markR_len]; omega)) only [runE, mapE, listE, initT_5, initT_6, initT_7, initT_8, resV, oneV, binA, unA, reduceCtorEq, Nat.reduceEqDiff, Nat.reduceAdd, Nat.reduceLT, Nat.reduceLeDiff, Nat.reduceMul, Nat.reduceSub, ↓reduceIte, decide_true, decide_false, Bool.true_eq_false, Bool.false_eq_true, Bool.not_true, Bool.not_false, if_true, if_false, and_true, true_and, memE, celE, w64, Nat.zero_add, Nat.add_zero, Nat.mul_one, putL, and_self, ldn, tm, t0, t3, t4, hv.len, hlt', ai, hv.ld (i + 1) hlt]
    refine ⟨⟨i + 1, by omega, by rw [minI], by simp⟩, ?_⟩
    simp [intOf]; omega
  · have hlt' : ¬ ((i : Int) + 1 < l.length) := by omega
    have e : i = l.length - 1 := by omega
    simp (config := {implicitDefEqProofs := false, maxDischargeDepth := 20}) (disch := first | omega | (simp only [lenE]; done) | (simp only [lenE]; omega) | rfl | (simp only [lenE, markR_len]; done) | (simp only [lenE, markR_len]; omega)) only [runE, mapE, listE, initT_5, initT_6, initT_7, initT_8, resV, oneV, binA, unA, reduceCtorEq, Nat.reduceEqDiff, Nat.reduceAdd, Nat.reduceLT, Nat.reduceLeDiff, Nat.reduceMul, Nat.reduceSub, ↓reduceIte, decide_true, decide_false, Bool.true_eq_false, Bool.false_eq_true, Bool.not_true, Bool.not_false, if_true, if_false, and_true, true_and, memE, celE, w64, Nat.zero_add, Nat.add_zero, Nat.mul_one, putL, and_self, ldn, tm, t0, t3, t4, hv.len, hlt']
    exact ext_ansV (Ext.refl m) (by rw [← e])
/-- The rates from the first i orders. -/
def frL (k : Cs) (life : Int) (ps : List Int) (t : Nat) : Nat → List Int
  | 0 => []
  | i + 1 => if freshB life (ps.getD i 0) t then frL k life ps t i ++ [rateF k (ps.getD i 0).toNat t] else frL k life ps t i
theorem frL_len (k : Cs) (life : Int) (ps : List Int) (t i : Nat) : (frL k life ps t i).length ≤ i := by
  induction i with
  | zero => simp [frL]
  | succ i ih =>
    rw [frL]
    split
    · simp; omega
    · omega
theorem minI_app (l : List Int) (x : Int) : ∀ j, j < l.length → minI (l ++ [x]) j = minI l j := by
  intro j
  induction j with
  | zero => intro h; simp only [minI]; rw [List.getD_eq_getElem?_getD, List.getElem?_append_left h, ← List.getD_eq_getElem?_getD]
  | succ j ih =>
    intro h
    simp only [minI]
    rw [ih (by omega), List.getD_eq_getElem?_getD, List.getElem?_append_left h, ← List.getD_eq_getElem?_getD]
theorem minI_snoc (l : List Int) (x : Int) : minI (l ++ [x]) l.length = if l.length = 0 then x else min (minI l (l.length - 1)) x := by
  cases hn : l.length with
  | zero =>
    have : l = [] := List.length_eq_zero_iff.1 hn
    subst this
    rfl
  | succ n =>
    rw [if_neg (by omega), minI, minI_app _ _ _ (by omega)]
    congr 1
    rw [List.getD_eq_getElem?_getD, List.getElem?_append_right (by omega), hn]
    simp
theorem frL_min (k : Cs) (life : Int) (ps : List Int) (t : Nat) : ∀ i, frTo k life ps t i = if (frL k life ps t i).length = 0 then none else some (minI (frL k life ps t i) ((frL k life ps t i).length - 1)) := by
  intro i
  induction i with
  | zero => rfl
  | succ i ih =>
    cases hf : freshB life (ps.getD i 0) t with
    | false =>
      rw [frTo_no hf, ih]
      have : frL k life ps t (i + 1) = frL k life ps t i := by rw [frL, hf]; rfl
      rw [this]
    | true =>
      have : frL k life ps t (i + 1) = frL k life ps t i ++ [rateF k (ps.getD i 0).toNat t] := by rw [frL, if_pos hf]
      rw [frTo_yes hf, this, List.length_append, List.length_singleton, if_neg (by omega), Nat.add_sub_cancel, minI_snoc, ih]
      by_cases h0 : (frL k life ps t i).length = 0
      · rw [if_pos h0, if_pos h0]
      · rw [if_neg h0, if_neg h0]
theorem freshRate_rc (m : Mem) (v u : Value) (k : Cs) (life : Int) (ps : List Int) (t : Nat) (h : CaseA m v k) (hu : IntsA m u ps) (hg : Good k) (hr : Rising ps k.need.length) (hl : 1 ≤ life ∧ life ≤ 8) (ht : t < k.need.length) :
    RC Try.prog 111 [v, .int .i64 life, u, .int .i64 (t : Int)] m (AnsV (.tuple #[.int .i64 ((frate k life ps t).getD 0), .bool (frate k life ps t).isSome])) := by
  refine rc_of_run mixed ok_impl_freshRate (by simp) (go_start _ _ _ ?_)
  obtain ⟨v1, v2, v3, v4, rfl, h1, h2, h3, h4⟩ := h.ro.ok
  have hu' := hu.ro
  have h8 := hg.n8
  have sl := hr.len
  have hX := ((Ext.refl m).one 57 [v1, v2, v3, v4]).one 3 []
  simp (config := {implicitDefEqProofs := false, maxDischargeDepth := 20}) (disch := first | omega | (simp only [lenE]; done) | (simp only [lenE]; omega) | rfl | (simp only [lenE, markR_len]; done) | (simp only [lenE, markR_len]; omega)) only [runE, mapE, listE, initT_5, initT_6, initT_7, initT_8, resV, oneV, binA, unA, reduceCtorEq, Nat.reduceEqDiff, Nat.reduceAdd, Nat.reduceLT, Nat.reduceLeDiff, Nat.reduceMul, Nat.reduceSub, ↓reduceIte, decide_true, decide_false, Bool.true_eq_false, Bool.false_eq_true, Bool.not_true, Bool.not_false, if_true, if_false, and_true, true_and, memE, celE, w64, Nat.zero_add, Nat.add_zero, Nat.mul_one, putL, and_self, ldn, c_impl_freshRate, r_impl_freshRate, bsl_no, hu'.len]
  obtain ⟨M0, hM0⟩ : ∃ M0, M0 = roM m ++ [⟨.own, 57, [v1, v2, v3, v4]⟩] ++ [⟨.own, 3, []⟩] := ⟨_, rfl⟩
  have o1 : OwnB M0 m.length 57 [v1, v2, v3, v4] := by rw [hM0]; exact (OwnB.here (by simp [roM_len])).ext _
  have r1 : OwnR M0 (m.length + 1) [] := by rw [hM0]; exact OwnR.end' (l := []) (by simp [roM_len])
  rw [← hM0] at hX ⊢
  refine loop_inv mixed (fun s => ∃ (i : Nat) (M : Mem) (id : Nat), i ≤ ps.length ∧ s.m = M ∧ Ext m M ∧ OwnB M m.length 57 [v1, v2, v3, v4] ∧ m.length < id ∧ OwnR M id (frL k life ps t i) ∧ s.t 1 = .int .i64 life ∧ s.t 3 = .int .i64 (t : Int) ∧ s.t 4 = .pointer (some ⟨m.length, 0, none⟩) ∧ s.t 10 = .slice (some ⟨id, 0, none⟩) (frL k life ps t i).length 1 ∧ s.t 14 = u ∧ s.t 15 = .int .i64 (ps.length : Int) ∧ s.t 16 = .int .i64 (i : Int)) (fun s => ps.length - (intOf (s.t 16)).toNat)
    ⟨0, M0, m.length + 1, by omega, (by first | rfl | simp only [put_t, put_t', put_m, putT_t, putT_t', putT_m, init_t, init_m, initT_0, initT_1, initT_2, initT_3, initT_4, initT_5, initT_6, initT_7, initT_8, Nat.reduceEqDiff, ↓reduceIte]), hX, o1, by omega, r1, rfl, rfl, rfl, rfl, rfl, rfl, rfl⟩ ?_
  clear hX o1 hM0 r1
  rintro s ⟨i, M, id, hk, tm, hX, o1, hid, r1, t1, t3, t4, t10, t14, t15, t16⟩
  have ub := hX.ints hu'
  have ml := o1.lt
  have idl := r1.lt
  have fl := frL_len k life ps t i
  by_cases hlt : i < ps.length
  · have hlt' : (i : Int) < ps.length := by omega
    have b0 := hr.bd i hlt
    simp (config := {implicitDefEqProofs := false, maxDischargeDepth := 20}) (disch := first | omega | (simp only [lenE]; done) | (simp only [lenE]; omega) | rfl | (simp only [lenE, markR_len]; done) | (simp only [lenE, markR_len]; omega)) only [runE, mapE, listE, initT_5, initT_6, initT_7, initT_8, resV, oneV, binA, unA, reduceCtorEq, Nat.reduceEqDiff, Nat.reduceAdd, Nat.reduceLT, Nat.reduceLeDiff, Nat.reduceMul, Nat.reduceSub, ↓reduceIte, decide_true, decide_false, Bool.true_eq_false, Bool.false_eq_true, Bool.not_true, Bool.not_false, if_true, if_false, and_true, true_and, memE, celE, w64, Nat.zero_add, Nat.add_zero, Nat.mul_one, putL, and_self, ldn, tm, t1, t3, t4, t10, t14, t15, t16, hlt', ub.at_ i hlt, ub.ld i hlt]
    refine callH_rc (freshAt_rc M (ps.getD i 0) (t : Int) life ⟨by omega, by omega⟩ ⟨by omega, by omega⟩) ?_
    rintro r new ⟨rfl, rfl⟩
    rw [List.append_nil]
    cases hf : freshB life (ps.getD i 0) t with
    | false =>
      have e : frL k life ps t (i + 1) = frL k life ps t i := by rw [frL, hf]; rfl
      simp (config := {implicitDefEqProofs := false, maxDischargeDepth := 20}) (disch := first | omega | (simp only [lenE]; done) | (simp only [lenE]; omega) | rfl | (simp only [lenE, markR_len]; done) | (simp only [lenE, markR_len]; omega)) only [runE, mapE, listE, initT_5, initT_6, initT_7, initT_8, resV, oneV, binA, unA, reduceCtorEq, Nat.reduceEqDiff, Nat.reduceAdd, Nat.reduceLT, Nat.reduceLeDiff, Nat.reduceMul, Nat.reduceSub, ↓reduceIte, decide_true, decide_false, Bool.true_eq_false, Bool.false_eq_true, Bool.not_true, Bool.not_false, if_true, if_false, and_true, true_and, memE, celE, w64, Nat.zero_add, Nat.add_zero, Nat.mul_one, putL, and_self, ldn, t1, t3, t4, t10, t14, t15, t16]
      refine ⟨⟨i + 1, M, id, by omega, by first | exact tm | rfl, hX, o1, hid, by rw [e]; exact r1, by rw [e], by simp⟩, ?_⟩
      simp [intOf]; omega
    | true =>
      have e : frL k life ps t (i + 1) = frL k life ps t i ++ [rateF k (ps.getD i 0).toNat t] := by rw [frL, if_pos hf]
      obtain ⟨u1, u2, u3⟩ := fr_use hr hlt hf
      have KR := rateFrom_rc M (.agg #[v1, v2, v3, v4]) k (ps.getD i 0).toNat t ⟨v1, v2, v3, v4, rfl, hX.ints h1, hX.ints h2, hX.ints h3, hX.ints h4⟩ hg u2 u1 (by omega)
      rw [← u3] at KR
      simp (config := {implicitDefEqProofs := false, maxDischargeDepth := 20}) (disch := first | omega | (simp only [lenE]; done) | (simp only [lenE]; omega) | rfl | (simp only [lenE, markR_len]; done) | (simp only [lenE, markR_len]; omega)) only [runE, mapE, listE, initT_5, initT_6, initT_7, initT_8, resV, oneV, binA, unA, reduceCtorEq, Nat.reduceEqDiff, Nat.reduceAdd, Nat.reduceLT, Nat.reduceLeDiff, Nat.reduceMul, Nat.reduceSub, ↓reduceIte, decide_true, decide_false, Bool.true_eq_false, Bool.false_eq_true, Bool.not_true, Bool.not_false, if_true, if_false, and_true, true_and, memE, celE, w64, Nat.zero_add, Nat.add_zero, Nat.mul_one, putL, and_self, ldn, t1, t3, t4, t10, t14, t15, t16, o1.rd]
      refine callH_rc KR ?_
      rintro r n2 ⟨rfl, nr2⟩
      have r2 := r1.ext n2
      have o2 := o1.ext n2
      have hX2 := hX.app nr2
      obtain ⟨M2, hM2⟩ : ∃ M2, M2 = M ++ n2 := ⟨_, rfl⟩
      have m2l : M.length ≤ M2.length := by rw [hM2]; simp
      rw [← hM2] at r2 o2 hX2 ⊢
      have happ := app_num (x := rateF k (ps.getD i 0).toNat t) (id2 := M2.length) (n := (frL k life ps t i).length) r2 (by omega) rfl rfl
      simp (config := {implicitDefEqProofs := false, maxDischargeDepth := 20}) (disch := first | omega | (simp only [lenE]; done) | (simp only [lenE]; omega) | rfl | (simp only [lenE, markR_len]; done) | (simp only [lenE, markR_len]; omega)) only [runE, mapE, listE, initT_5, initT_6, initT_7, initT_8, resV, oneV, binA, unA, reduceCtorEq, Nat.reduceEqDiff, Nat.reduceAdd, Nat.reduceLT, Nat.reduceLeDiff, Nat.reduceMul, Nat.reduceSub, ↓reduceIte, decide_true, decide_false, Bool.true_eq_false, Bool.false_eq_true, Bool.not_true, Bool.not_false, if_true, if_false, and_true, true_and, memE, celE, w64, Nat.zero_add, Nat.add_zero, Nat.mul_one, putL, and_self, ldn, t1, t3, t4, t10, t14, t15, t16, bsl_one, happ]
      refine ⟨⟨i + 1, _, M2.length + 1, by omega, rfl, ((hX2.dead (by omega)).one _ _).one _ _, o2.at_ (same_gen (by omega) r2.lt), by omega, ?_, by rw [e]; simp, by simp⟩, ?_⟩
      · rw [e]
        exact OwnB.here (by simp)
      · simp [intOf]; omega
  · have hlt' : ¬ ((i : Int) < ps.length) := by omega
    have e : i = ps.length := by omega
    subst e
    have hm := frL_min k life ps t ps.length
    have hfr : frate k life ps t = frTo k life ps t ps.length := rfl
    rw [hfr, hm]
    by_cases h0 : (frL k life ps t ps.length).length = 0
    · have h0' : (((frL k life ps t ps.length).length : Int) == 0) = true := by rw [h0]; rfl
      simp (config := {implicitDefEqProofs := false, maxDischargeDepth := 20}) (disch := first | omega | (simp only [lenE]; done) | (simp only [lenE]; omega) | rfl | (simp only [lenE, markR_len]; done) | (simp only [lenE, markR_len]; omega)) only [runE, mapE, listE, initT_5, initT_6, initT_7, initT_8, resV, oneV, binA, unA, reduceCtorEq, Nat.reduceEqDiff, Nat.reduceAdd, Nat.reduceLT, Nat.reduceLeDiff, Nat.reduceMul, Nat.reduceSub, ↓reduceIte, decide_true, decide_false, Bool.true_eq_false, Bool.false_eq_true, Bool.not_true, Bool.not_false, if_true, if_false, and_true, true_and, memE, celE, w64, Nat.zero_add, Nat.add_zero, Nat.mul_one, putL, and_self, ldn, tm, t1, t3, t4, t10, t14, t15, t16, hlt', h0']
      exact ext_ansV hX (by rw [if_pos h0]; rfl)
    · have h0' : (((frL k life ps t ps.length).length : Int) == 0) = false := by rw [beq_eq_false_iff_ne]; omega
      simp (config := {implicitDefEqProofs := false, maxDischargeDepth := 20}) (disch := first | omega | (simp only [lenE]; done) | (simp only [lenE]; omega) | rfl | (simp only [lenE, markR_len]; done) | (simp only [lenE, markR_len]; omega)) only [runE, mapE, listE, initT_5, initT_6, initT_7, initT_8, resV, oneV, binA, unA, reduceCtorEq, Nat.reduceEqDiff, Nat.reduceAdd, Nat.reduceLT, Nat.reduceLeDiff, Nat.reduceMul, Nat.reduceSub, ↓reduceIte, decide_true, decide_false, Bool.true_eq_false, Bool.false_eq_true, Bool.not_true, Bool.not_false, if_true, if_false, and_true, true_and, memE, celE, w64, Nat.zero_add, Nat.add_zero, Nat.mul_one, putL, and_self, ldn, tm, t1, t3, t4, t10, t14, t15, t16, hlt', h0']
      refine callH_rc (slMin_rc M _ (frL k life ps t ps.length) (r1.ints (by omega) 1) (by omega) (by omega)) ?_
      rintro r n2 ⟨rfl, nr2⟩
      simp (config := {implicitDefEqProofs := false, maxDischargeDepth := 20}) (disch := first | omega | (simp only [lenE]; done) | (simp only [lenE]; omega) | rfl | (simp only [lenE, markR_len]; done) | (simp only [lenE, markR_len]; omega)) only [runE, mapE, listE, initT_5, initT_6, initT_7, initT_8, resV, oneV, binA, unA, reduceCtorEq, Nat.reduceEqDiff, Nat.reduceAdd, Nat.reduceLT, Nat.reduceLeDiff, Nat.reduceMul, Nat.reduceSub, ↓reduceIte, decide_true, decide_false, Bool.true_eq_false, Bool.false_eq_true, Bool.not_true, Bool.not_false, if_true, if_false, and_true, true_and, memE, celE, w64, Nat.zero_add, Nat.add_zero, Nat.mul_one, putL, and_self, ldn]
      exact ext_ansV (hX.app nr2) (by rw [if_neg h0]; rfl)
end Go.Proofs.Ytihjcjhnkpkomaa.Ab
