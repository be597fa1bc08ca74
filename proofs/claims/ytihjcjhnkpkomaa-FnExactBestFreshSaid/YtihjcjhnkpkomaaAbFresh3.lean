/- Fresh costs: the cost of order periods, by both programs; FreshCost. -/
import Derived.Test.YtihjcjhnkpkomaaAbFresh2
namespace Go.Proofs.Ytihjcjhnkpkomaa.Ab
open Go Go.RowKit
set_option linter.unusedVariables false
set_option linter.unusedSimpArgs false

def setS (k : Cs) (ps : List Int) : Nat → Int
  | 0 => 0
  | i + 1 => setS k ps i + k.setup.getD (ps.getD i 0).toNat 0
def fcTo (k : Cs) (life : Int) (ps : List Int) : Nat → Int
  | 0 => 0
  | t + 1 => fcTo k life ps t + k.need.getD t 0 * (frate k life ps t).getD 0
def fcOk (k : Cs) (life : Int) (ps : List Int) : Nat → Bool
  | 0 => true
  | t + 1 => fcOk k life ps t && (decide (k.need.getD t 0 ≤ 0) || (frate k life ps t).isSome)
def freshC (k : Cs) (life : Int) (ps : List Int) : Option Int := if fcOk k life ps k.need.length then some (setS k ps ps.length + fcTo k life ps k.need.length) else none
theorem setS_bd {k : Cs} (hg : Good k) (ps : List Int) (i : Nat) : 0 ≤ setS k ps i ∧ setS k ps i ≤ 99 * i := by
  induction i with
  | zero => simp [setS]
  | succ i ih =>
    have := getD_bound (m := 99) (by omega) hg.setup (ps.getD i 0).toNat
    simp only [setS]; omega
theorem frate_bd {k : Cs} (hg : Good k) {life : Int} {ps : List Int} {t : Nat} (hr : Rising ps k.need.length) (ht : t < k.need.length) : 0 ≤ (frate k life ps t).getD 0 ∧ (frate k life ps t).getD 0 ≤ 81 := by
  cases h : frate k life ps t with
  | none => simp
  | some x => exact frTo_bd hg hr ht ps.length (Nat.le_refl _) x h
theorem fc_one {k : Cs} (hg : Good k) {life : Int} {ps : List Int} {t : Nat} (hr : Rising ps k.need.length) (ht : t < k.need.length) : 0 ≤ k.need.getD t 0 * (frate k life ps t).getD 0 ∧ k.need.getD t 0 * (frate k life ps t).getD 0 ≤ 1620 := by
  have h1 := getD_bound (m := 20) (by omega) hg.need t
  have h2 := frate_bd hg (life := life) hr ht
  have := mul_bound h1.1 h1.2 h2.1 h2.2
  omega
theorem fcTo_bd {k : Cs} (hg : Good k) {life : Int} {ps : List Int} (hr : Rising ps k.need.length) (t : Nat) (ht : t ≤ k.need.length) : 0 ≤ fcTo k life ps t ∧ fcTo k life ps t ≤ 1620 * t := by
  induction t with
  | zero => simp [fcTo]
  | succ t ih =>
    have := ih (by omega)
    have := fc_one hg (life := life) hr (t := t) (by omega)
    simp only [fcTo]; omega
theorem fcOk_no {k : Cs} {life : Int} {ps : List Int} {t : Nat} (h : fcOk k life ps t = false) : ∀ d, fcOk k life ps (t + d) = false := by
  intro d
  induction d with
  | zero => exact h
  | succ d ih => rw [← Nat.add_assoc, fcOk, ih]; rfl
theorem freshC_no {k : Cs} {life : Int} {ps : List Int} {t : Nat} (ht : t < k.need.length) (hn : 0 < k.need.getD t 0) (hf : frate k life ps t = none) : freshC k life ps = none := by
  have h1 : fcOk k life ps (t + 1) = false := by
    rw [fcOk, hf]
    have : decide (k.need.getD t 0 ≤ 0) = false := decide_eq_false (by omega)
    rw [this]; simp
  have := fcOk_no h1 (k.need.length - (t + 1))
  rw [show t + 1 + (k.need.length - (t + 1)) = k.need.length by omega] at this
  unfold freshC
  rw [this]; rfl
theorem l9Fresh_rc (m : Mem) (v u : Value) (k : Cs) (life : Int) (ps : List Int) (h : CaseA m v k) (hu : IntsA m u ps) (hg : Good k) (hr : Rising ps k.need.length) (hl : 1 ≤ life ∧ life ≤ 8) :
    RC Try.prog 88 [v, .int .i64 life, u] m (AnsV (.int .i64 ((freshC k life ps).getD (-1)))) := by
  refine rc_of_run mixed ok_spec_l9Fresh (by simp) (go_start _ _ _ ?_)
  obtain ⟨v1, v2, v3, v4, rfl, h1, h2, h3, h4⟩ := h.ro.ok
  have hu' := hu.ro
  have h8 := hg.n8
  have ls := hg.ls
  have sl := hr.len
  have hX := (Ext.refl m).one 57 [v1, v2, v3, v4]
  simp (config := {implicitDefEqProofs := false, maxDischargeDepth := 20}) (disch := first | omega | (simp only [lenE]; done) | (simp only [lenE]; omega) | rfl | (simp only [lenE, markR_len]; done) | (simp only [lenE, markR_len]; omega)) only [runE, mapE, listE, initT_5, initT_6, initT_7, initT_8, resV, oneV, binA, unA, reduceCtorEq, Nat.reduceEqDiff, Nat.reduceAdd, Nat.reduceLT, Nat.reduceLeDiff, Nat.reduceMul, Nat.reduceSub, ↓reduceIte, decide_true, decide_false, Bool.true_eq_false, Bool.false_eq_true, Bool.not_true, Bool.not_false, if_true, if_false, and_true, true_and, memE, celE, w64, Nat.zero_add, Nat.add_zero, Nat.mul_one, putL, and_self, ldn, c_spec_l9Fresh, r_spec_l9Fresh]
  obtain ⟨M0, hM0⟩ : ∃ M0, M0 = roM m ++ [⟨.own, 57, [v1, v2, v3, v4]⟩] := ⟨_, rfl⟩
  have o1 : OwnB M0 m.length 57 [v1, v2, v3, v4] := by rw [hM0]; exact OwnB.here (by simp [roM_len])
  rw [← hM0] at hX ⊢
  have ub := hX.ints hu'
  have sb := hX.ints h2
  have sbd := setS_bd hg ps
  refine loop_inv mixed (fun s => ∃ i : Nat, i ≤ ps.length ∧ s.m = M0 ∧ s.t 1 = .int .i64 life ∧ s.t 2 = u ∧ s.t 3 = .pointer (some ⟨m.length, 0, none⟩) ∧ s.t 7 = .int .i64 (setS k ps i) ∧ s.t 8 = .int .i64 (i : Int)) (fun s => ps.length - (intOf (s.t 8)).toNat)
    ⟨0, by omega, (by first | rfl | simp only [put_t, put_t', put_m, putT_t, putT_t', putT_m, init_t, init_m, initT_0, initT_1, initT_2, initT_3, initT_4, initT_5, initT_6, initT_7, initT_8, Nat.reduceEqDiff, ↓reduceIte]), rfl, rfl, rfl, rfl, rfl⟩ ?_
  rintro s ⟨i, hk, tm, t1, t2, t3, t7, t8⟩
  by_cases hlt : i < ps.length
  · have hlt' : (i : Int) < ps.length := by omega
    have b0 := hr.bd i hlt
    obtain ⟨p, hp⟩ : ∃ p : Nat, ps.getD i 0 = (p : Int) := ⟨(ps.getD i 0).toNat, by omega⟩
    have ld := ub.ld i hlt
    rw [hp] at ld
    have w1 := sbd i
    have w2 := getD_bound (m := 99) (by omega) hg.setup p
    simp (config := {implicitDefEqProofs := false, maxDischargeDepth := 20}) (disch := first | omega | (simp only [lenE]; done) | (simp only [lenE]; omega) | rfl | (simp only [lenE, markR_len]; done) | (simp only [lenE, markR_len]; omega)) only [runE, mapE, listE, initT_5, initT_6, initT_7, initT_8, resV, oneV, binA, unA, reduceCtorEq, Nat.reduceEqDiff, Nat.reduceAdd, Nat.reduceLT, Nat.reduceLeDiff, Nat.reduceMul, Nat.reduceSub, ↓reduceIte, decide_true, decide_false, Bool.true_eq_false, Bool.false_eq_true, Bool.not_true, Bool.not_false, if_true, if_false, and_true, true_and, memE, celE, w64, Nat.zero_add, Nat.add_zero, Nat.mul_one, putL, and_self, ldn, tm, t1, t2, t3, t7, t8, ub.len, hlt', ub.at_ i hlt, ld, o1.rd, sb.at_ p (by omega), sb.ld p (by omega)]
    refine ⟨⟨i + 1, by omega, by rw [setS, hp, Int.toNat_natCast], by simp⟩, ?_⟩
    simp [intOf]; omega
  · have hlt' : ¬ ((i : Int) < ps.length) := by omega
    have e : i = ps.length := by omega
    subst e
    have w1 := sbd ps.length
    simp (config := {implicitDefEqProofs := false, maxDischargeDepth := 20}) (disch := first | omega | (simp only [lenE]; done) | (simp only [lenE]; omega) | rfl | (simp only [lenE, markR_len]; done) | (simp only [lenE, markR_len]; omega)) only [runE, mapE, listE, initT_5, initT_6, initT_7, initT_8, resV, oneV, binA, unA, reduceCtorEq, Nat.reduceEqDiff, Nat.reduceAdd, Nat.reduceLT, Nat.reduceLeDiff, Nat.reduceMul, Nat.reduceSub, ↓reduceIte, decide_true, decide_false, Bool.true_eq_false, Bool.false_eq_true, Bool.not_true, Bool.not_false, if_true, if_false, and_true, true_and, memE, celE, w64, Nat.zero_add, Nat.add_zero, Nat.mul_one, putL, and_self, ldn, tm, t1, t2, t3, t7, t8, ub.len, hlt']
    refine loop_inv mixed (fun s => ∃ (t : Nat) (M : Mem), t ≤ k.need.length ∧ s.m = M ∧ Ext m M ∧ OwnB M m.length 57 [v1, v2, v3, v4] ∧ fcOk k life ps t = true ∧ s.t 1 = .int .i64 life ∧ s.t 2 = u ∧ s.t 3 = .pointer (some ⟨m.length, 0, none⟩) ∧ s.t 7 = .int .i64 (setS k ps ps.length + fcTo k life ps t) ∧ s.t 9 = .int .i64 (t : Int)) (fun s => k.need.length - (intOf (s.t 9)).toNat)
      ⟨0, M0, by omega, (by first | exact tm | rfl), hX, o1, rfl, (by first | exact t1 | simp only [put_t, put_t', put_m, putT_t, putT_t', putT_m, init_t, init_m, initT_0, initT_1, initT_2, initT_3, initT_4, initT_5, initT_6, initT_7, initT_8, Nat.reduceEqDiff, ↓reduceIte, t1]), (by first | exact t2 | simp only [put_t, put_t', put_m, putT_t, putT_t', putT_m, init_t, init_m, initT_0, initT_1, initT_2, initT_3, initT_4, initT_5, initT_6, initT_7, initT_8, Nat.reduceEqDiff, ↓reduceIte, t2]), (by first | exact t3 | simp only [put_t, put_t', put_m, putT_t, putT_t', putT_m, init_t, init_m, initT_0, initT_1, initT_2, initT_3, initT_4, initT_5, initT_6, initT_7, initT_8, Nat.reduceEqDiff, ↓reduceIte, t3]), (by simp only [put_t, put_t', put_m, putT_t, putT_t', putT_m, init_t, init_m, initT_0, initT_1, initT_2, initT_3, initT_4, initT_5, initT_6, initT_7, initT_8, Nat.reduceEqDiff, ↓reduceIte, t7]; simp [fcTo]), rfl⟩ ?_
    clear tm t1 t2 t3 t7 t8 ub sb o1 hX hM0
    rintro s ⟨t, M, ht, tm, hX, o1, hok, t1, t2, t3, t7, t9⟩
    have nb := hX.ints h1
    have ub := hX.ints hu'
    have w2 := fcTo_bd hg (life := life) hr t ht
    by_cases htl : t < k.need.length
    · have htl' : (t : Int) < k.need.length := by omega
      have w3 := fc_one hg (life := life) hr htl
      have nn := getD_bound (m := 20) (by omega) hg.need t
      simp (config := {implicitDefEqProofs := false, maxDischargeDepth := 20}) (disch := first | omega | (simp only [lenE]; done) | (simp only [lenE]; omega) | rfl | (simp only [lenE, markR_len]; done) | (simp only [lenE, markR_len]; omega)) only [runE, mapE, listE, initT_5, initT_6, initT_7, initT_8, resV, oneV, binA, unA, reduceCtorEq, Nat.reduceEqDiff, Nat.reduceAdd, Nat.reduceLT, Nat.reduceLeDiff, Nat.reduceMul, Nat.reduceSub, ↓reduceIte, decide_true, decide_false, Bool.true_eq_false, Bool.false_eq_true, Bool.not_true, Bool.not_false, if_true, if_false, and_true, true_and, memE, celE, w64, Nat.zero_add, Nat.add_zero, Nat.mul_one, putL, and_self, ldn, tm, t1, t2, t3, t7, t9, o1.rd, nb.len, htl']
      refine callH_rc (l9Rate_rc M _ u k life ps t ⟨v1, v2, v3, v4, rfl, nb, hX.ints h2, hX.ints h3, hX.ints h4⟩ ub hg hr hl htl) ?_
      rintro r n2 ⟨rfl, nr2⟩
      have o2 := o1.ext n2
      have nb2 := nb.ext n2
      have hX2 := hX.app nr2
      obtain ⟨M2, hM2⟩ : ∃ M2, M2 = M ++ n2 := ⟨_, rfl⟩
      rw [← hM2] at o2 nb2 hX2 ⊢
      have fin : fcOk k life ps (t + 1) = true → k.need.getD t 0 * (frate k life ps t).getD 0 = 0 ∨ True := fun _ => .inr trivial
      by_cases hn : 0 < k.need.getD t 0
      · cases hf : frate k life ps t with
        | none =>
          simp (config := {implicitDefEqProofs := false, maxDischargeDepth := 20}) (disch := first | omega | (simp only [lenE]; done) | (simp only [lenE]; omega) | rfl | (simp only [lenE, markR_len]; done) | (simp only [lenE, markR_len]; omega)) only [runE, mapE, listE, initT_5, initT_6, initT_7, initT_8, resV, oneV, binA, unA, reduceCtorEq, Nat.reduceEqDiff, Nat.reduceAdd, Nat.reduceLT, Nat.reduceLeDiff, Nat.reduceMul, Nat.reduceSub, ↓reduceIte, decide_true, decide_false, Bool.true_eq_false, Bool.false_eq_true, Bool.not_true, Bool.not_false, if_true, if_false, and_true, true_and, memE, celE, w64, Nat.zero_add, Nat.add_zero, Nat.mul_one, putL, and_self, ldn, t1, t2, t3, t7, t9, o2.rd, nb2.at_ t htl, nb2.ld t htl, hn, gt_iff_lt, Option.getD_none, show ((-1 : Int) < 0) = True by simp]
          exact ext_ansV hX2 (by rw [freshC_no htl hn hf]; rfl)
        | some x =>
          have xb := frate_bd hg (life := life) hr htl
          rw [hf] at xb w3
          simp only [Option.getD_some] at xb w3
          have hx0 : ¬ (x < 0) := by omega
          simp (config := {implicitDefEqProofs := false, maxDischargeDepth := 20}) (disch := first | omega | (simp only [lenE]; done) | (simp only [lenE]; omega) | rfl | (simp only [lenE, markR_len]; done) | (simp only [lenE, markR_len]; omega)) only [runE, mapE, listE, initT_5, initT_6, initT_7, initT_8, resV, oneV, binA, unA, reduceCtorEq, Nat.reduceEqDiff, Nat.reduceAdd, Nat.reduceLT, Nat.reduceLeDiff, Nat.reduceMul, Nat.reduceSub, ↓reduceIte, decide_true, decide_false, Bool.true_eq_false, Bool.false_eq_true, Bool.not_true, Bool.not_false, if_true, if_false, and_true, true_and, memE, celE, w64, Nat.zero_add, Nat.add_zero, Nat.mul_one, putL, and_self, ldn, t1, t2, t3, t7, t9, o2.rd, nb2.at_ t htl, nb2.ld t htl, hn, gt_iff_lt, Option.getD_some, hx0]
          refine ⟨⟨t + 1, M2, by omega, rfl, hX2, o2, by rw [fcOk, hok, hf]; simp, by rw [fcTo, hf]; simp only [Option.getD_some]; congr 1; omega, by simp⟩, ?_⟩
          simp [intOf]; omega
      · have hz : k.need.getD t 0 = 0 := by omega
        simp (config := {implicitDefEqProofs := false, maxDischargeDepth := 20}) (disch := first | omega | (simp only [lenE]; done) | (simp only [lenE]; omega) | rfl | (simp only [lenE, markR_len]; done) | (simp only [lenE, markR_len]; omega)) only [runE, mapE, listE, initT_5, initT_6, initT_7, initT_8, resV, oneV, binA, unA, reduceCtorEq, Nat.reduceEqDiff, Nat.reduceAdd, Nat.reduceLT, Nat.reduceLeDiff, Nat.reduceMul, Nat.reduceSub, ↓reduceIte, decide_true, decide_false, Bool.true_eq_false, Bool.false_eq_true, Bool.not_true, Bool.not_false, if_true, if_false, and_true, true_and, memE, celE, w64, Nat.zero_add, Nat.add_zero, Nat.mul_one, putL, and_self, ldn, t1, t2, t3, t7, t9, o2.rd, nb2.at_ t htl, nb2.ld t htl, hn, gt_iff_lt, goG_undef]
        refine ⟨⟨t + 1, M2, by omega, rfl, hX2, o2, by rw [fcOk, hok, hz]; simp, by rw [fcTo, hz]; congr 1; omega, by simp⟩, ?_⟩
        simp [intOf]; omega
    · have htl' : ¬ ((t : Int) < k.need.length) := by omega
      have e : t = k.need.length := by omega
      subst e
      simp (config := {implicitDefEqProofs := false, maxDischargeDepth := 20}) (disch := first | omega | (simp only [lenE]; done) | (simp only [lenE]; omega) | rfl | (simp only [lenE, markR_len]; done) | (simp only [lenE, markR_len]; omega)) only [runE, mapE, listE, initT_5, initT_6, initT_7, initT_8, resV, oneV, binA, unA, reduceCtorEq, Nat.reduceEqDiff, Nat.reduceAdd, Nat.reduceLT, Nat.reduceLeDiff, Nat.reduceMul, Nat.reduceSub, ↓reduceIte, decide_true, decide_false, Bool.true_eq_false, Bool.false_eq_true, Bool.not_true, Bool.not_false, if_true, if_false, and_true, true_and, memE, celE, w64, Nat.zero_add, Nat.add_zero, Nat.mul_one, putL, and_self, ldn, tm, t1, t2, t3, t7, t9, o1.rd, nb.len, htl']
      exact ext_ansV hX (by unfold freshC; rw [hok, if_pos rfl]; rfl)
theorem freshCost_rc (m : Mem) (v u : Value) (k : Cs) (life : Int) (ps : List Int) (h : CaseA m v k) (hu : IntsA m u ps) (hg : Good k) (hr : Rising ps k.need.length) (hl : 1 ≤ life ∧ life ≤ 8) :
    RC Try.prog 90 [v, .int .i64 life, u] m (AnsV (.tuple #[.int .i64 ((freshC k life ps).getD 0), .bool (freshC k life ps).isSome])) := by
  refine rc_of_run mixed ok_impl_freshCost (by simp) (go_start _ _ _ ?_)
  obtain ⟨v1, v2, v3, v4, rfl, h1, h2, h3, h4⟩ := h.ro.ok
  have hu' := hu.ro
  have h8 := hg.n8
  have ls := hg.ls
  have sl := hr.len
  have hX := (Ext.refl m).one 57 [v1, v2, v3, v4]
  simp (config := {implicitDefEqProofs := false, maxDischargeDepth := 20}) (disch := first | omega | (simp only [lenE]; done) | (simp only [lenE]; omega) | rfl | (simp only [lenE, markR_len]; done) | (simp only [lenE, markR_len]; omega)) only [runE, mapE, listE, initT_5, initT_6, initT_7, initT_8, resV, oneV, binA, unA, reduceCtorEq, Nat.reduceEqDiff, Nat.reduceAdd, Nat.reduceLT, Nat.reduceLeDiff, Nat.reduceMul, Nat.reduceSub, ↓reduceIte, decide_true, decide_false, Bool.true_eq_false, Bool.false_eq_true, Bool.not_true, Bool.not_false, if_true, if_false, and_true, true_and, memE, celE, w64, Nat.zero_add, Nat.add_zero, Nat.mul_one, putL, and_self, ldn, c_impl_freshCost, r_impl_freshCost, hu'.len]
  obtain ⟨M0, hM0⟩ : ∃ M0, M0 = roM m ++ [⟨.own, 57, [v1, v2, v3, v4]⟩] := ⟨_, rfl⟩
  have o1 : OwnB M0 m.length 57 [v1, v2, v3, v4] := by rw [hM0]; exact OwnB.here (by simp [roM_len])
  rw [← hM0] at hX ⊢
  have ub := hX.ints hu'
  have sb := hX.ints h2
  have nb := hX.ints h1
  have sbd := setS_bd hg ps
  refine loop_inv mixed (fun s => ∃ i : Nat, i ≤ ps.length ∧ s.m = M0 ∧ s.t 1 = .int .i64 life ∧ s.t 2 = u ∧ s.t 3 = .pointer (some ⟨m.length, 0, none⟩) ∧ s.t 8 = .int .i64 (setS k ps i) ∧ s.t 15 = u ∧ s.t 16 = .int .i64 (ps.length : Int) ∧ s.t 17 = .int .i64 (i : Int)) (fun s => ps.length - (intOf (s.t 17)).toNat)
    ⟨0, by omega, (by first | rfl | simp only [put_t, put_t', put_m, putT_t, putT_t', putT_m, init_t, init_m, initT_0, initT_1, initT_2, initT_3, initT_4, initT_5, initT_6, initT_7, initT_8, Nat.reduceEqDiff, ↓reduceIte]), rfl, rfl, rfl, rfl, rfl, rfl, rfl⟩ ?_
  rintro s ⟨i, hk, tm, t1, t2, t3, t8, t15, t16, t17⟩
  by_cases hlt : i < ps.length
  · have hlt' : (i : Int) < ps.length := by omega
    have b0 := hr.bd i hlt
    obtain ⟨p, hp⟩ : ∃ p : Nat, ps.getD i 0 = (p : Int) := ⟨(ps.getD i 0).toNat, by omega⟩
    have ld := ub.ld i hlt
    rw [hp] at ld
    have w1 := sbd i
    have w2 := getD_bound (m := 99) (by omega) hg.setup p
    simp (config := {implicitDefEqProofs := false, maxDischargeDepth := 20}) (disch := first | omega | (simp only [lenE]; done) | (simp only [lenE]; omega) | rfl | (simp only [lenE, markR_len]; done) | (simp only [lenE, markR_len]; omega)) only [runE, mapE, listE, initT_5, initT_6, initT_7, initT_8, resV, oneV, binA, unA, reduceCtorEq, Nat.reduceEqDiff, Nat.reduceAdd, Nat.reduceLT, Nat.reduceLeDiff, Nat.reduceMul, Nat.reduceSub, ↓reduceIte, decide_true, decide_false, Bool.true_eq_false, Bool.false_eq_true, Bool.not_true, Bool.not_false, if_true, if_false, and_true, true_and, memE, celE, w64, Nat.zero_add, Nat.add_zero, Nat.mul_one, putL, and_self, ldn, tm, t1, t2, t3, t8, t15, t16, t17, hlt', ub.at_ i hlt, ld, o1.rd, sb.at_ p (by omega), sb.ld p (by omega)]
    refine ⟨⟨i + 1, by omega, by rw [setS, hp, Int.toNat_natCast], by simp⟩, ?_⟩
    simp [intOf]; omega
  · have hlt' : ¬ ((i : Int) < ps.length) := by omega
    have e : i = ps.length := by omega
    subst e
    have w1 := sbd ps.length
    simp (config := {implicitDefEqProofs := false, maxDischargeDepth := 20}) (disch := first | omega | (simp only [lenE]; done) | (simp only [lenE]; omega) | rfl | (simp only [lenE, markR_len]; done) | (simp only [lenE, markR_len]; omega)) only [runE, mapE, listE, initT_5, initT_6, initT_7, initT_8, resV, oneV, binA, unA, reduceCtorEq, Nat.reduceEqDiff, Nat.reduceAdd, Nat.reduceLT, Nat.reduceLeDiff, Nat.reduceMul, Nat.reduceSub, ↓reduceIte, decide_true, decide_false, Bool.true_eq_false, Bool.false_eq_true, Bool.not_true, Bool.not_false, if_true, if_false, and_true, true_and, memE, celE, w64, Nat.zero_add, Nat.add_zero, Nat.mul_one, putL, and_self, ldn, tm, t1, t2, t3, t8, t15, t16, t17, hlt', o1.rd, nb.len]
    refine loop_inv mixed (fun s => ∃ (t : Nat) (M : Mem), t ≤ k.need.length ∧ s.m = M ∧ Ext m M ∧ OwnB M m.length 57 [v1, v2, v3, v4] ∧ fcOk k life ps t = true ∧ s.t 1 = .int .i64 life ∧ s.t 2 = u ∧ s.t 3 = .pointer (some ⟨m.length, 0, none⟩) ∧ s.t 8 = .int .i64 (setS k ps ps.length + fcTo k life ps t) ∧ s.t 30 = v1 ∧ s.t 31 = .int .i64 (k.need.length : Int) ∧ s.t 32 = .int .i64 (t : Int)) (fun s => k.need.length - (intOf (s.t 32)).toNat)
      ⟨0, M0, by omega, (by first | exact tm | rfl), hX, o1, rfl, (by first | exact t1 | simp only [put_t, put_t', put_m, putT_t, putT_t', putT_m, init_t, init_m, initT_0, initT_1, initT_2, initT_3, initT_4, initT_5, initT_6, initT_7, initT_8, Nat.reduceEqDiff, ↓reduceIte, t1]), (by first | exact t2 | simp only [put_t, put_t', put_m, putT_t, putT_t', putT_m, init_t, init_m, initT_0, initT_1, initT_2, initT_3, initT_4, initT_5, initT_6, initT_7, initT_8, Nat.reduceEqDiff, ↓reduceIte, t2]), (by first | exact t3 | simp only [put_t, put_t', put_m, putT_t, putT_t', putT_m, init_t, init_m, initT_0, initT_1, initT_2, initT_3, initT_4, initT_5, initT_6, initT_7, initT_8, Nat.reduceEqDiff, ↓reduceIte, t3]), (by simp only [put_t, put_t', put_m, putT_t, putT_t', putT_m, init_t, init_m, initT_0, initT_1, initT_2, initT_3, initT_4, initT_5, initT_6, initT_7, initT_8, Nat.reduceEqDiff, ↓reduceIte, t8]; simp [fcTo]), rfl, rfl, rfl⟩ ?_
    clear tm t1 t2 t3 t8 t15 t16 t17 ub sb o1 hX hM0 nb
    rintro s ⟨t, M, ht, tm, hX, o1, hok, t1, t2, t3, t8, t30, t31, t32⟩
    have nb := hX.ints h1
    have ub := hX.ints hu'
    have w2 := fcTo_bd hg (life := life) hr t ht
    by_cases htl : t < k.need.length
    · have htl' : (t : Int) < k.need.length := by omega
      have w3 := fc_one hg (life := life) hr htl
      have nn := getD_bound (m := 20) (by omega) hg.need t
      simp (config := {implicitDefEqProofs := false, maxDischargeDepth := 20}) (disch := first | omega | (simp only [lenE]; done) | (simp only [lenE]; omega) | rfl | (simp only [lenE, markR_len]; done) | (simp only [lenE, markR_len]; omega)) only [runE, mapE, listE, initT_5, initT_6, initT_7, initT_8, resV, oneV, binA, unA, reduceCtorEq, Nat.reduceEqDiff, Nat.reduceAdd, Nat.reduceLT, Nat.reduceLeDiff, Nat.reduceMul, Nat.reduceSub, ↓reduceIte, decide_true, decide_false, Bool.true_eq_false, Bool.false_eq_true, Bool.not_true, Bool.not_false, if_true, if_false, and_true, true_and, memE, celE, w64, Nat.zero_add, Nat.add_zero, Nat.mul_one, putL, and_self, ldn, tm, t1, t2, t3, t8, t30, t31, t32, htl', nb.at_ t htl, nb.ld t htl, o1.rd]
      refine callH_rc (freshRate_rc M _ u k life ps t ⟨v1, v2, v3, v4, rfl, nb, hX.ints h2, hX.ints h3, hX.ints h4⟩ ub hg hr hl htl) ?_
      rintro r n2 ⟨rfl, nr2⟩
      have o2 := o1.ext n2
      have hX2 := hX.app nr2
      obtain ⟨M2, hM2⟩ : ∃ M2, M2 = M ++ n2 := ⟨_, rfl⟩
      rw [← hM2] at o2 hX2 ⊢
      by_cases hn : 0 < k.need.getD t 0
      · cases hf : frate k life ps t with
        | none =>
          simp (config := {implicitDefEqProofs := false, maxDischargeDepth := 20}) (disch := first | omega | (simp only [lenE]; done) | (simp only [lenE]; omega) | rfl | (simp only [lenE, markR_len]; done) | (simp only [lenE, markR_len]; omega)) only [runE, mapE, listE, initT_5, initT_6, initT_7, initT_8, resV, oneV, binA, unA, reduceCtorEq, Nat.reduceEqDiff, Nat.reduceAdd, Nat.reduceLT, Nat.reduceLeDiff, Nat.reduceMul, Nat.reduceSub, ↓reduceIte, decide_true, decide_false, Bool.true_eq_false, Bool.false_eq_true, Bool.not_true, Bool.not_false, if_true, if_false, and_true, true_and, memE, celE, w64, Nat.zero_add, Nat.add_zero, Nat.mul_one, putL, and_self, ldn, t1, t2, t3, t8, t30, t31, t32, ext_2_0, ext_2_1, hn, gt_iff_lt, Option.getD_none, Option.isSome_none]
          exact ext_ansV hX2 (by rw [freshC_no htl hn hf]; rfl)
        | some x =>
          have xb := frate_bd hg (life := life) hr htl
          rw [hf] at xb w3
          simp only [Option.getD_some] at xb w3
          simp (config := {implicitDefEqProofs := false, maxDischargeDepth := 20}) (disch := first | omega | (simp only [lenE]; done) | (simp only [lenE]; omega) | rfl | (simp only [lenE, markR_len]; done) | (simp only [lenE, markR_len]; omega)) only [runE, mapE, listE, initT_5, initT_6, initT_7, initT_8, resV, oneV, binA, unA, reduceCtorEq, Nat.reduceEqDiff, Nat.reduceAdd, Nat.reduceLT, Nat.reduceLeDiff, Nat.reduceMul, Nat.reduceSub, ↓reduceIte, decide_true, decide_false, Bool.true_eq_false, Bool.false_eq_true, Bool.not_true, Bool.not_false, if_true, if_false, and_true, true_and, memE, celE, w64, Nat.zero_add, Nat.add_zero, Nat.mul_one, putL, and_self, ldn, t1, t2, t3, t8, t30, t31, t32, ext_2_0, ext_2_1, hn, gt_iff_lt, Option.getD_some, Option.isSome_some]
          refine ⟨⟨t + 1, M2, by omega, rfl, hX2, o2, by rw [fcOk, hok, hf]; simp, by rw [fcTo, hf]; simp only [Option.getD_some]; congr 1; omega, by simp⟩, ?_⟩
          simp [intOf]; omega
      · have hz : k.need.getD t 0 = 0 := by omega
        obtain ⟨x, hx⟩ : ∃ x, x = (frate k life ps t).getD 0 := ⟨_, rfl⟩
        rw [← hx] at w3 ⊢
        simp (config := {implicitDefEqProofs := false, maxDischargeDepth := 20}) (disch := first | omega | (simp only [lenE]; done) | (simp only [lenE]; omega) | rfl | (simp only [lenE, markR_len]; done) | (simp only [lenE, markR_len]; omega)) only [runE, mapE, listE, initT_5, initT_6, initT_7, initT_8, resV, oneV, binA, unA, reduceCtorEq, Nat.reduceEqDiff, Nat.reduceAdd, Nat.reduceLT, Nat.reduceLeDiff, Nat.reduceMul, Nat.reduceSub, ↓reduceIte, decide_true, decide_false, Bool.true_eq_false, Bool.false_eq_true, Bool.not_true, Bool.not_false, if_true, if_false, and_true, true_and, memE, celE, w64, Nat.zero_add, Nat.add_zero, Nat.mul_one, putL, and_self, ldn, t1, t2, t3, t8, t30, t31, t32, ext_2_0, ext_2_1, hn, gt_iff_lt, goG_undef]
        refine ⟨⟨t + 1, M2, by omega, rfl, hX2, o2, by rw [fcOk, hok, hz]; simp, by rw [fcTo, ← hx]; congr 1; omega, by simp⟩, ?_⟩
        simp [intOf]; omega
    · have htl' : ¬ ((t : Int) < k.need.length) := by omega
      have e : t = k.need.length := by omega
      subst e
      simp (config := {implicitDefEqProofs := false, maxDischargeDepth := 20}) (disch := first | omega | (simp only [lenE]; done) | (simp only [lenE]; omega) | rfl | (simp only [lenE, markR_len]; done) | (simp only [lenE, markR_len]; omega)) only [runE, mapE, listE, initT_5, initT_6, initT_7, initT_8, resV, oneV, binA, unA, reduceCtorEq, Nat.reduceEqDiff, Nat.reduceAdd, Nat.reduceLT, Nat.reduceLeDiff, Nat.reduceMul, Nat.reduceSub, ↓reduceIte, decide_true, decide_false, Bool.true_eq_false, Bool.false_eq_true, Bool.not_true, Bool.not_false, if_true, if_false, and_true, true_and, memE, celE, w64, Nat.zero_add, Nat.add_zero, Nat.mul_one, putL, and_self, ldn, tm, t1, t2, t3, t8, t30, t31, t32, htl']
      exact ext_ansV hX (by unfold freshC; rw [hok, if_pos rfl]; rfl)
end Go.Proofs.Ytihjcjhnkpkomaa.Ab
