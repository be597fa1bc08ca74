/- Fresh costs: rates within a life, by both programs. -/
import Derived.Test.YtihjcjhnkpkomaaAbSh1
import Derived.Test.YtihjcjhnkpkomaaAbAsc
import Derived.Test.YtihjcjhnkpkomaaAbRate
namespace Go.Proofs.Ytihjcjhnkpkomaa.Ab
open Go Go.RowKit
set_option linter.unusedVariables false
set_option linter.unusedSimpArgs false

/-- Units of an order can be used in a period. -/
def freshB (life p t : Int) : Bool := decide (p ≤ t) && decide (t < p + life)
/-- The least rate from the first i orders. -/
def frTo (k : Cs) (life : Int) (ps : List Int) (t : Nat) : Nat → Option Int
  | 0 => none
  | i + 1 => if freshB life (ps.getD i 0) t then some (match frTo k life ps t i with | none => rateF k (ps.getD i 0).toNat t | some b => min b (rateF k (ps.getD i 0).toNat t)) else frTo k life ps t i
def frate (k : Cs) (life : Int) (ps : List Int) (t : Nat) : Option Int := frTo k life ps t ps.length
theorem fr_use {life : Int} {ps : List Int} {n t i : Nat} (hr : Rising ps n) (hi : i < ps.length) (h : freshB life (ps.getD i 0) t = true) : (ps.getD i 0).toNat ≤ t ∧ (ps.getD i 0).toNat < n ∧ ps.getD i 0 = ((ps.getD i 0).toNat : Int) := by
  have b := hr.bd i hi
  unfold freshB at h
  rw [Bool.and_eq_true, decide_eq_true_eq, decide_eq_true_eq] at h
  omega
theorem frTo_bd {k : Cs} (hg : Good k) {life : Int} {ps : List Int} {t : Nat} (hr : Rising ps k.need.length) (ht : t < k.need.length) : ∀ i, i ≤ ps.length → ∀ x, frTo k life ps t i = some x → 0 ≤ x ∧ x ≤ 81 := by
  intro i
  induction i with
  | zero => intro _ x hx; cases hx
  | succ i ih =>
    intro hi x hx
    have h8 := hg.n8
    rw [frTo] at hx
    by_cases hu : freshB life (ps.getD i 0) t = true
    · rw [if_pos hu] at hx
      obtain ⟨u1, u2, u3⟩ := fr_use hr (by omega) hu
      have rb := rateF_in hg u1 (by omega)
      injection hx with hx
      cases hf : frTo k life ps t i with
      | none => rw [hf] at hx; simp only at hx; omega
      | some b =>
        rw [hf] at hx
        have := ih (by omega) b hf
        simp only at hx
        omega
    · rw [if_neg hu] at hx
      exact ih (by omega) x hx
theorem frTo_no {k : Cs} {life : Int} {ps : List Int} {t i : Nat} (h : freshB life (ps.getD i 0) t = false) : frTo k life ps t (i + 1) = frTo k life ps t i := by rw [frTo, h]; rfl
theorem frTo_yes {k : Cs} {life : Int} {ps : List Int} {t i : Nat} (h : freshB life (ps.getD i 0) t = true) : frTo k life ps t (i + 1) = some (match frTo k life ps t i with | none => rateF k (ps.getD i 0).toNat t | some b => min b (rateF k (ps.getD i 0).toNat t)) := by rw [frTo, if_pos h]
theorem freshAt_rc (m : Mem) (p t life : Int) (hp : 0 ≤ p ∧ p ≤ 100) (hl : 0 ≤ life ∧ life ≤ 8) : RC Try.prog 106 [.int .i64 p, .int .i64 t, .int .i64 life] m fun r new => r = .bool (freshB life p t) ∧ new = [] := by
  refine rc_of_run mixed ok_impl_isFresh (by simp) (go_start _ _ _ ?_)
  unfold freshB
  by_cases g : p ≤ t
  · simp (config := {implicitDefEqProofs := false, maxDischargeDepth := 20}) (disch := first | omega | (simp only [lenE]; done) | (simp only [lenE]; omega) | rfl | (simp only [lenE, markR_len]; done) | (simp only [lenE, markR_len]; omega)) only [runE, mapE, listE, initT_5, initT_6, initT_7, initT_8, resV, oneV, binA, unA, reduceCtorEq, Nat.reduceEqDiff, Nat.reduceAdd, Nat.reduceLT, Nat.reduceLeDiff, Nat.reduceMul, Nat.reduceSub, ↓reduceIte, decide_true, decide_false, Bool.true_eq_false, Bool.false_eq_true, Bool.not_true, Bool.not_false, if_true, if_false, and_true, true_and, memE, celE, w64, Nat.zero_add, Nat.add_zero, Nat.mul_one, putL, and_self, ldn, c_impl_isFresh, r_impl_isFresh, g]
    exact newQ_nil ⟨by simp, rfl⟩
  · simp (config := {implicitDefEqProofs := false, maxDischargeDepth := 20}) (disch := first | omega | (simp only [lenE]; done) | (simp only [lenE]; omega) | rfl | (simp only [lenE, markR_len]; done) | (simp only [lenE, markR_len]; omega)) only [runE, mapE, listE, initT_5, initT_6, initT_7, initT_8, resV, oneV, binA, unA, reduceCtorEq, Nat.reduceEqDiff, Nat.reduceAdd, Nat.reduceLT, Nat.reduceLeDiff, Nat.reduceMul, Nat.reduceSub, ↓reduceIte, decide_true, decide_false, Bool.true_eq_false, Bool.false_eq_true, Bool.not_true, Bool.not_false, if_true, if_false, and_true, true_and, memE, celE, w64, Nat.zero_add, Nat.add_zero, Nat.mul_one, putL, and_self, ldn, c_impl_isFresh, r_impl_isFresh, g]
    exact newQ_nil ⟨by simp [g], rfl⟩
theorem l9Rate_rc (m : Mem) (v u : Value) (k : Cs) (life : Int) (ps : List Int) (t : Nat) (h : CaseA m v k) (hu : IntsA m u ps) (hg : Good k) (hr : Rising ps k.need.length) (hl : 1 ≤ life ∧ life ≤ 8) (ht : t < k.need.length) :
    RC Try.prog 110 [v, .int .i64 life, u, .int .i64 (t : Int)] m (AnsV (.int .i64 ((frate k life ps t).getD (-1)))) := by
  refine rc_of_run mixed ok_spec_l9Rate (by simp) (go_start _ _ _ ?_)
  obtain ⟨v1, v2, v3, v4, rfl, h1, h2, h3, h4⟩ := h.ro.ok
  have hu' := hu.ro
  have h8 := hg.n8
  have hX := (Ext.refl m).one 57 [v1, v2, v3, v4]
  have hbd := frTo_bd hg (life := life) hr ht
  have sl := hr.len
  simp (config := {implicitDefEqProofs := false, maxDischargeDepth := 20}) (disch := first | omega | (simp only [lenE]; done) | (simp only [lenE]; omega) | rfl | (simp only [lenE, markR_len]; done) | (simp only [lenE, markR_len]; omega)) only [runE, mapE, listE, initT_5, initT_6, initT_7, initT_8, resV, oneV, binA, unA, reduceCtorEq, Nat.reduceEqDiff, Nat.reduceAdd, Nat.reduceLT, Nat.reduceLeDiff, Nat.reduceMul, Nat.reduceSub, ↓reduceIte, decide_true, decide_false, Bool.true_eq_false, Bool.false_eq_true, Bool.not_true, Bool.not_false, if_true, if_false, and_true, true_and, memE, celE, w64, Nat.zero_add, Nat.add_zero, Nat.mul_one, putL, and_self, ldn, c_spec_l9Rate, r_spec_l9Rate]
  obtain ⟨M0, hM0⟩ : ∃ M0, M0 = roM m ++ [⟨.own, 57, [v1, v2, v3, v4]⟩] := ⟨_, rfl⟩
  have o1 : M0[m.length]? = some ⟨.own, 57, [v1, v2, v3, v4]⟩ := by rw [hM0]; simp [roM_len]
  have rdx : ∀ (M : Mem), M[m.length]? = some ⟨.own, 57, [v1, v2, v3, v4]⟩ → ∀ j, rdc M m.length j = [v1, v2, v3, v4][j]? := fun M h j => OwnB.rd (e := 57) h j
  rw [← hM0] at hX ⊢
  refine loop_inv mixed (fun s => ∃ (i : Nat) (M : Mem), i ≤ ps.length ∧ s.m = M ∧ Ext m M ∧ M[m.length]? = some ⟨.own, 57, [v1, v2, v3, v4]⟩ ∧ s.t 1 = .int .i64 life ∧ s.t 2 = u ∧ s.t 3 = .int .i64 (t : Int) ∧ s.t 4 = .pointer (some ⟨m.length, 0, none⟩) ∧ s.t 9 = .int .i64 ((frTo k life ps t i).getD (-1)) ∧ s.t 10 = .int .i64 (i : Int)) (fun s => ps.length - (intOf (s.t 10)).toNat)
    ⟨0, M0, by omega, (by first | rfl | simp only [put_t, put_t', put_m, putT_t, putT_t', putT_m, init_t, init_m, initT_0, initT_1, initT_2, initT_3, initT_4, initT_5, initT_6, initT_7, initT_8, Nat.reduceEqDiff, ↓reduceIte]), hX, o1, rfl, rfl, rfl, rfl, rfl, rfl⟩ ?_
  clear hX o1 hM0
  rintro s ⟨i, M, hk, tm, hX, o1, t1, t2, t3, t4, t9, t10⟩
  have ub := hX.ints hu'
  have ml : m.length < M.length := (List.getElem?_eq_some_iff.1 o1).1
  by_cases hlt : i < ps.length
  · have hlt' : (i : Int) < ps.length := by omega
    have b0 := hr.bd i hlt
    have hi := hbd i (by omega)
    cases hf : freshB life (ps.getD i 0) t with
    | false =>
      have e := frTo_no (k := k) hf
      have hf' := hf
      unfold freshB at hf'
      by_cases g : ps.getD i 0 ≤ t
      · have g2 : ¬ ((t : Int) < ps.getD i 0 + life) := by
          intro h9; rw [decide_eq_true g, decide_eq_true h9] at hf'; cases hf'
        simp (config := {implicitDefEqProofs := false, maxDischargeDepth := 20}) (disch := first | omega | (simp only [lenE]; done) | (simp only [lenE]; omega) | rfl | (simp only [lenE, markR_len]; done) | (simp only [lenE, markR_len]; omega)) only [runE, mapE, listE, initT_5, initT_6, initT_7, initT_8, resV, oneV, binA, unA, reduceCtorEq, Nat.reduceEqDiff, Nat.reduceAdd, Nat.reduceLT, Nat.reduceLeDiff, Nat.reduceMul, Nat.reduceSub, ↓reduceIte, decide_true, decide_false, Bool.true_eq_false, Bool.false_eq_true, Bool.not_true, Bool.not_false, if_true, if_false, and_true, true_and, memE, celE, w64, Nat.zero_add, Nat.add_zero, Nat.mul_one, putL, and_self, ldn, tm, t1, t2, t3, t4, t9, t10, ub.len, hlt', ub.at_ i hlt, ub.ld i hlt, g, g2]
        refine ⟨⟨i + 1, M, by omega, rfl, hX, o1, by rw [e], by simp⟩, ?_⟩
        simp [intOf]; omega
      · simp (config := {implicitDefEqProofs := false, maxDischargeDepth := 20}) (disch := first | omega | (simp only [lenE]; done) | (simp only [lenE]; omega) | rfl | (simp only [lenE, markR_len]; done) | (simp only [lenE, markR_len]; omega)) only [runE, mapE, listE, initT_5, initT_6, initT_7, initT_8, resV, oneV, binA, unA, reduceCtorEq, Nat.reduceEqDiff, Nat.reduceAdd, Nat.reduceLT, Nat.reduceLeDiff, Nat.reduceMul, Nat.reduceSub, ↓reduceIte, decide_true, decide_false, Bool.true_eq_false, Bool.false_eq_true, Bool.not_true, Bool.not_false, if_true, if_false, and_true, true_and, memE, celE, w64, Nat.zero_add, Nat.add_zero, Nat.mul_one, putL, and_self, ldn, tm, t1, t2, t3, t4, t9, t10, ub.len, hlt', ub.at_ i hlt, ub.ld i hlt, g]
        refine ⟨⟨i + 1, M, by omega, rfl, hX, o1, by rw [e], by simp⟩, ?_⟩
        simp [intOf]; omega
    | true =>
      have e := frTo_yes (k := k) hf
      obtain ⟨u1, u2, u3⟩ := fr_use hr hlt hf
      have hf' := hf
      unfold freshB at hf'
      rw [Bool.and_eq_true, decide_eq_true_eq, decide_eq_true_eq] at hf'
      obtain ⟨g, g2⟩ := hf'
      have rb := rateF_in hg u1 (by omega)
      have KR := l3Rate_rc M _ k (ps.getD i 0).toNat t ⟨v1, v2, v3, v4, rfl, hX.ints h1, hX.ints h2, hX.ints h3, hX.ints h4⟩ hg u2 u1 (by omega)
      rw [← u3] at KR
      simp (config := {implicitDefEqProofs := false, maxDischargeDepth := 20}) (disch := first | omega | (simp only [lenE]; done) | (simp only [lenE]; omega) | rfl | (simp only [lenE, markR_len]; done) | (simp only [lenE, markR_len]; omega)) only [runE, mapE, listE, initT_5, initT_6, initT_7, initT_8, resV, oneV, binA, unA, reduceCtorEq, Nat.reduceEqDiff, Nat.reduceAdd, Nat.reduceLT, Nat.reduceLeDiff, Nat.reduceMul, Nat.reduceSub, ↓reduceIte, decide_true, decide_false, Bool.true_eq_false, Bool.false_eq_true, Bool.not_true, Bool.not_false, if_true, if_false, and_true, true_and, memE, celE, w64, Nat.zero_add, Nat.add_zero, Nat.mul_one, putL, and_self, ldn, tm, t1, t2, t3, t4, t9, t10, ub.len, hlt', ub.at_ i hlt, ub.ld i hlt, g, g2, rdx M o1]
      refine callH_rc KR ?_
      rintro r n2 ⟨rfl, nr2⟩
      obtain ⟨rt, hrt⟩ : ∃ rt, rt = rateF k (ps.getD i 0).toNat t := ⟨_, rfl⟩
      rw [← hrt] at rb e ⊢
      have o2 : (M ++ n2)[m.length]? = some ⟨.own, 57, [v1, v2, v3, v4]⟩ := by rw [List.getElem?_append_left ml]; exact o1
      cases hq : frTo k life ps t i with
      | none =>
        rw [hq] at t9 e
        have hneg : ((-1 : Int) < 0) := by omega
        simp (config := {implicitDefEqProofs := false, maxDischargeDepth := 20}) (disch := first | omega | (simp only [lenE]; done) | (simp only [lenE]; omega) | rfl | (simp only [lenE, markR_len]; done) | (simp only [lenE, markR_len]; omega)) only [runE, mapE, listE, initT_5, initT_6, initT_7, initT_8, resV, oneV, binA, unA, reduceCtorEq, Nat.reduceEqDiff, Nat.reduceAdd, Nat.reduceLT, Nat.reduceLeDiff, Nat.reduceMul, Nat.reduceSub, ↓reduceIte, decide_true, decide_false, Bool.true_eq_false, Bool.false_eq_true, Bool.not_true, Bool.not_false, if_true, if_false, and_true, true_and, memE, celE, w64, Nat.zero_add, Nat.add_zero, Nat.mul_one, putL, and_self, ldn, t1, t2, t3, t4, t9, t10, Option.getD_none, show ((-1 : Int) < 0) = True by simp, goG_undef]
        refine ⟨⟨i + 1, M ++ n2, by omega, rfl, hX.app nr2, o2, by rw [e]; rfl, by simp⟩, ?_⟩
        simp [intOf]; omega
      | some b =>
        rw [hq] at t9 e
        have bb := hi b hq
        have hneg : ¬ (b < 0) := by omega
        by_cases hlt2 : rt < b
        · simp (config := {implicitDefEqProofs := false, maxDischargeDepth := 20}) (disch := first | omega | (simp only [lenE]; done) | (simp only [lenE]; omega) | rfl | (simp only [lenE, markR_len]; done) | (simp only [lenE, markR_len]; omega)) only [runE, mapE, listE, initT_5, initT_6, initT_7, initT_8, resV, oneV, binA, unA, reduceCtorEq, Nat.reduceEqDiff, Nat.reduceAdd, Nat.reduceLT, Nat.reduceLeDiff, Nat.reduceMul, Nat.reduceSub, ↓reduceIte, decide_true, decide_false, Bool.true_eq_false, Bool.false_eq_true, Bool.not_true, Bool.not_false, if_true, if_false, and_true, true_and, memE, celE, w64, Nat.zero_add, Nat.add_zero, Nat.mul_one, putL, and_self, ldn, t1, t2, t3, t4, t9, t10, Option.getD_some, hneg, hlt2, goG_undef]
          refine ⟨⟨i + 1, M ++ n2, by omega, rfl, hX.app nr2, o2, by rw [e]; simp only [Option.getD_some]; congr 1; omega, by simp⟩, ?_⟩
          simp [intOf]; omega
        · simp (config := {implicitDefEqProofs := false, maxDischargeDepth := 20}) (disch := first | omega | (simp only [lenE]; done) | (simp only [lenE]; omega) | rfl | (simp only [lenE, markR_len]; done) | (simp only [lenE, markR_len]; omega)) only [runE, mapE, listE, initT_5, initT_6, initT_7, initT_8, resV, oneV, binA, unA, reduceCtorEq, Nat.reduceEqDiff, Nat.reduceAdd, Nat.reduceLT, Nat.reduceLeDiff, Nat.reduceMul, Nat.reduceSub, ↓reduceIte, decide_true, decide_false, Bool.true_eq_false, Bool.false_eq_true, Bool.not_true, Bool.not_false, if_true, if_false, and_true, true_and, memE, celE, w64, Nat.zero_add, Nat.add_zero, Nat.mul_one, putL, and_self, ldn, t1, t2, t3, t4, t9, t10, Option.getD_some, hneg, hlt2, goG_undef]
          refine ⟨⟨i + 1, M ++ n2, by omega, rfl, hX.app nr2, o2, by rw [e]; simp only [Option.getD_some]; congr 1; omega, by simp⟩, ?_⟩
          simp [intOf]; omega
  · have hlt' : ¬ ((i : Int) < ps.length) := by omega
    have e : i = ps.length := by omega
    subst e
    simp (config := {implicitDefEqProofs := false, maxDischargeDepth := 20}) (disch := first | omega | (simp only [lenE]; done) | (simp only [lenE]; omega) | rfl | (simp only [lenE, markR_len]; done) | (simp only [lenE, markR_len]; omega)) only [runE, mapE, listE, initT_5, initT_6, initT_7, initT_8, resV, oneV, binA, unA, reduceCtorEq, Nat.reduceEqDiff, Nat.reduceAdd, Nat.reduceLT, Nat.reduceLeDiff, Nat.reduceMul, Nat.reduceSub, ↓reduceIte, decide_true, decide_false, Bool.true_eq_false, Bool.false_eq_true, Bool.not_true, Bool.not_false, if_true, if_false, and_true, true_and, memE, celE, w64, Nat.zero_add, Nat.add_zero, Nat.mul_one, putL, and_self, ldn, tm, t1, t2, t3, t4, t9, t10, ub.len, hlt']
    exact ext_ansV hX rfl
end Go.Proofs.Ytihjcjhnkpkomaa.Ab
