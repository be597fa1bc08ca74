/- Shelves: lost bounds. -/
import Derived.Test.YtihjcjhnkpkomaaAbSh1
import Derived.Test.YtihjcjhnkpkomaaAbAsc
namespace Go.Proofs.Ytihjcjhnkpkomaa.Ab
open Go Go.RowKit
set_option linter.unusedVariables false
set_option linter.unusedSimpArgs false

/-- Units that arrived in a period can be used in one of a set. -/
def usI (life : Int) (f : Nat) (t : Int) : Bool := decide ((f : Int) ≤ t) && decide (t < f + life)
def useAny (s : Sh) (set : List Int) (f : Nat) : Bool := set.any (usI s.life f)
def needS (s : Sh) (set : List Int) : Nat → Int
  | 0 => 0
  | k + 1 => needS s set k + s.need.getD (set.getD k 0).toNat 0
def subA (s : Sh) (set : List Int) : Nat → Int
  | 0 => 0
  | f + 1 => subA s set f + if useAny s set f then s.arr.getD f 0 else 0
def boundV (s : Sh) (set : List Int) : Int := needS s set set.length - subA s set s.arr.length
theorem needS_bd {s : Sh} (hg : GoodSh s) {set : List Int} (hr : Rising set s.need.length) (k : Nat) (hk : k ≤ set.length) : 0 ≤ needS s set k ∧ needS s set k ≤ 20 * k := by
  induction k with
  | zero => simp [needS]
  | succ k ih =>
    have := ih (by omega)
    have b := hr.bd k (by omega)
    have := memD9 hg.need (k := (set.getD k 0).toNat) (by omega)
    simp only [needS]; omega
theorem subA_bd {s : Sh} (hg : GoodSh s) (set : List Int) (k : Nat) (hk : k ≤ s.arr.length) : 0 ≤ subA s set k ∧ subA s set k ≤ 20 * k := by
  induction k with
  | zero => simp [subA]
  | succ k ih =>
    have := ih (by omega)
    have := memD9 hg.arr (k := k) (by omega)
    simp only [subA]
    split <;> omega
def lboundOk (s : Sh) (set : List Int) : Bool := s.good && risB set s.need.length
def lboundA (s : Sh) (set : List Int) : Int := if lboundOk s set then boundV s set else 0
/-- The first j of a set. -/
def anyTo (s : Sh) (set : List Int) (f : Nat) : Nat → Bool
  | 0 => false
  | j + 1 => anyTo s set f j || usI s.life f (set.getD j 0)
theorem anyTo_all (s : Sh) (set : List Int) (f : Nat) : anyTo s set f set.length = useAny s set f := by
  have : ∀ j, j ≤ set.length → anyTo s set f j = (set.take j).any (usI s.life f) := by
    intro j
    induction j with
    | zero => intro _; rfl
    | succ j ih =>
      intro hj
      rw [take_next (by omega), List.any_append, anyTo, ih (by omega)]
      simp
  rw [this _ (Nat.le_refl _), List.take_length, useAny]
theorem usable9_rc (m : Mem) (v : Value) (s : Sh) (f : Nat) (t : Int) (h : ShA m v s) (hf : f ≤ 100) (hl : 0 ≤ s.life ∧ s.life ≤ 8) : RC Try.prog 99 [v, .int .i64 (f : Int), .int .i64 t] m (AnsV (.bool (usI s.life f t))) := by
  refine rc_of_run mixed ok_spec_l9Usable (by simp) (go_start _ _ _ ?_)
  obtain ⟨a, b, rfl, ha, hb⟩ := h.ro
  unfold usI
  by_cases g : (f : Int) ≤ t
  · simp (config := {implicitDefEqProofs := false, maxDischargeDepth := 20}) (disch := first | omega | (simp only [lenE]; done) | (simp only [lenE]; omega) | rfl | (simp only [lenE, markR_len]; done) | (simp only [lenE, markR_len]; omega)) only [runE, mapE, listE, initT_5, initT_6, initT_7, initT_8, resV, oneV, binA, unA, reduceCtorEq, Nat.reduceEqDiff, Nat.reduceAdd, Nat.reduceLT, Nat.reduceLeDiff, Nat.reduceMul, Nat.reduceSub, ↓reduceIte, decide_true, decide_false, Bool.true_eq_false, Bool.false_eq_true, Bool.not_true, Bool.not_false, if_true, if_false, and_true, true_and, memE, celE, w64, Nat.zero_add, Nat.add_zero, Nat.mul_one, putL, and_self, ldn, c_spec_l9Usable, r_spec_l9Usable, g]
    try simp only [List.append_assoc, List.cons_append, List.nil_append, List.append_nil]
    exact ⟨_, rfl, by (repeat (first | exact noRo_nil | assumption | apply noRo_own | apply noRo_dead | apply noRo_app)), by simp, by (repeat (first | exact noRo_nil | assumption | apply noRo_own | apply noRo_dead | apply noRo_app))⟩
  · simp (config := {implicitDefEqProofs := false, maxDischargeDepth := 20}) (disch := first | omega | (simp only [lenE]; done) | (simp only [lenE]; omega) | rfl | (simp only [lenE, markR_len]; done) | (simp only [lenE, markR_len]; omega)) only [runE, mapE, listE, initT_5, initT_6, initT_7, initT_8, resV, oneV, binA, unA, reduceCtorEq, Nat.reduceEqDiff, Nat.reduceAdd, Nat.reduceLT, Nat.reduceLeDiff, Nat.reduceMul, Nat.reduceSub, ↓reduceIte, decide_true, decide_false, Bool.true_eq_false, Bool.false_eq_true, Bool.not_true, Bool.not_false, if_true, if_false, and_true, true_and, memE, celE, w64, Nat.zero_add, Nat.add_zero, Nat.mul_one, putL, and_self, ldn, c_spec_l9Usable, r_spec_l9Usable, g]
    try simp only [List.append_assoc, List.cons_append, List.nil_append, List.append_nil]
    exact ⟨_, rfl, by (repeat (first | exact noRo_nil | assumption | apply noRo_own | apply noRo_dead | apply noRo_app)), by simp [g], by (repeat (first | exact noRo_nil | assumption | apply noRo_own | apply noRo_dead | apply noRo_app))⟩
theorem isFresh9_rc (m : Mem) (f : Nat) (t life : Int) (hf : f ≤ 100) (hl : 0 ≤ life ∧ life ≤ 8) : RC Try.prog 106 [.int .i64 (f : Int), .int .i64 t, .int .i64 life] m fun r new => r = .bool (usI life f t) ∧ new = [] := by
  refine rc_of_run mixed ok_impl_isFresh (by simp) (go_start _ _ _ ?_)
  unfold usI
  by_cases g : (f : Int) ≤ t
  · simp (config := {implicitDefEqProofs := false, maxDischargeDepth := 20}) (disch := first | omega | (simp only [lenE]; done) | (simp only [lenE]; omega) | rfl | (simp only [lenE, markR_len]; done) | (simp only [lenE, markR_len]; omega)) only [runE, mapE, listE, initT_5, initT_6, initT_7, initT_8, resV, oneV, binA, unA, reduceCtorEq, Nat.reduceEqDiff, Nat.reduceAdd, Nat.reduceLT, Nat.reduceLeDiff, Nat.reduceMul, Nat.reduceSub, ↓reduceIte, decide_true, decide_false, Bool.true_eq_false, Bool.false_eq_true, Bool.not_true, Bool.not_false, if_true, if_false, and_true, true_and, memE, celE, w64, Nat.zero_add, Nat.add_zero, Nat.mul_one, putL, and_self, ldn, c_impl_isFresh, r_impl_isFresh, g]
    exact newQ_nil ⟨by simp, rfl⟩
  · simp (config := {implicitDefEqProofs := false, maxDischargeDepth := 20}) (disch := first | omega | (simp only [lenE]; done) | (simp only [lenE]; omega) | rfl | (simp only [lenE, markR_len]; done) | (simp only [lenE, markR_len]; omega)) only [runE, mapE, listE, initT_5, initT_6, initT_7, initT_8, resV, oneV, binA, unA, reduceCtorEq, Nat.reduceEqDiff, Nat.reduceAdd, Nat.reduceLT, Nat.reduceLeDiff, Nat.reduceMul, Nat.reduceSub, ↓reduceIte, decide_true, decide_false, Bool.true_eq_false, Bool.false_eq_true, Bool.not_true, Bool.not_false, if_true, if_false, and_true, true_and, memE, celE, w64, Nat.zero_add, Nat.add_zero, Nat.mul_one, putL, and_self, ldn, c_impl_isFresh, r_impl_isFresh, g]
    exact newQ_nil ⟨by simp [g], rfl⟩
theorem fresh_test (m : Mem) (i1 i2 : Nat) (f : Nat) (life : Int) (h1 : rdc m i1 0 = some (.int .i64 (f : Int))) (h2 : rdc m i2 0 = some (.int .i64 life)) (hf : f ≤ 100) (hl : 0 ≤ life ∧ life ≤ 8) :
    TestA m (.func (.func 105) #[] #[.pointer (some ⟨i1, 0, none⟩), .pointer (some ⟨i2, 0, none⟩)]) (usI life f) := by
  refine ⟨_, _, rfl, fun x m' hm => ?_⟩
  refine rc_of_run mixed ok_impl_lostBound_1 (by simp) (go_start _ _ _ ?_)
  have h1' : rdc (roM m') i1 0 = some (.int .i64 (f : Int)) := by rw [rdc_roM]; exact hm _ _ _ h1
  have h2' : rdc (roM m') i2 0 = some (.int .i64 life) := by rw [rdc_roM]; exact hm _ _ _ h2
  simp (config := {implicitDefEqProofs := false, maxDischargeDepth := 20}) (disch := first | omega | (simp only [lenE]; done) | (simp only [lenE]; omega) | rfl | (simp only [lenE, markR_len]; done) | (simp only [lenE, markR_len]; omega)) only [runE, mapE, listE, initT_5, initT_6, initT_7, initT_8, resV, oneV, binA, unA, reduceCtorEq, Nat.reduceEqDiff, Nat.reduceAdd, Nat.reduceLT, Nat.reduceLeDiff, Nat.reduceMul, Nat.reduceSub, ↓reduceIte, decide_true, decide_false, Bool.true_eq_false, Bool.false_eq_true, Bool.not_true, Bool.not_false, if_true, if_false, and_true, true_and, memE, celE, w64, Nat.zero_add, Nat.add_zero, Nat.mul_one, putL, and_self, ldn, c_impl_lostBound_1, r_impl_lostBound_1, h1', h2']
  refine callH_rc (isFresh9_rc _ f x life hf hl) ?_
  rintro r new ⟨rfl, rfl⟩
  simp (config := {implicitDefEqProofs := false, maxDischargeDepth := 20}) (disch := first | omega | (simp only [lenE]; done) | (simp only [lenE]; omega) | rfl | (simp only [lenE, markR_len]; done) | (simp only [lenE, markR_len]; omega)) only [runE, mapE, listE, initT_5, initT_6, initT_7, initT_8, resV, oneV, binA, unA, reduceCtorEq, Nat.reduceEqDiff, Nat.reduceAdd, Nat.reduceLT, Nat.reduceLeDiff, Nat.reduceMul, Nat.reduceSub, ↓reduceIte, decide_true, decide_false, Bool.true_eq_false, Bool.false_eq_true, Bool.not_true, Bool.not_false, if_true, if_false, and_true, true_and, memE, celE, w64, Nat.zero_add, Nat.add_zero, Nat.mul_one, putL, and_self, ldn]
  exact newQ_nil ⟨rfl, rfl⟩
theorem l9Bound_rc (m : Mem) (v u : Value) (s : Sh) (set : List Int) (h : ShA m v s) (hu : IntsA m u set) (hg : GoodSh s) (hr : Rising set s.need.length) :
    RC Try.prog 79 [v, u] m (AnsV (.int .i64 (boundV s set))) := by
  refine rc_of_run mixed ok_spec_l9Bound (by simp) (go_start _ _ _ ?_)
  obtain ⟨a, b, rfl, ha, hb⟩ := h.ro
  have hu' := hu.ro
  have hla := hg.la
  have n8 := hg.n8
  have l1 := hg.l1
  have l8 := hg.l8
  have sl := hr.len
  have hX := (Ext.refl m).one 27 [.int .i64 s.life, a, b, .int .i64 s.waste, .int .i64 s.lost]
  simp (config := {implicitDefEqProofs := false, maxDischargeDepth := 20}) (disch := first | omega | (simp only [lenE]; done) | (simp only [lenE]; omega) | rfl | (simp only [lenE, markR_len]; done) | (simp only [lenE, markR_len]; omega)) only [runE, mapE, listE, initT_5, initT_6, initT_7, initT_8, resV, oneV, binA, unA, reduceCtorEq, Nat.reduceEqDiff, Nat.reduceAdd, Nat.reduceLT, Nat.reduceLeDiff, Nat.reduceMul, Nat.reduceSub, ↓reduceIte, decide_true, decide_false, Bool.true_eq_false, Bool.false_eq_true, Bool.not_true, Bool.not_false, if_true, if_false, and_true, true_and, memE, celE, w64, Nat.zero_add, Nat.add_zero, Nat.mul_one, putL, and_self, ldn, c_spec_l9Bound, r_spec_l9Bound]
  obtain ⟨M0, hM0⟩ : ∃ M0, M0 = roM m ++ [⟨.own, 27, [.int .i64 s.life, a, b, .int .i64 s.waste, .int .i64 s.lost]⟩] := ⟨_, rfl⟩
  have o1 : OwnB M0 m.length 27 [.int .i64 s.life, a, b, .int .i64 s.waste, .int .i64 s.lost] := by rw [hM0]; exact OwnB.here (by simp [roM_len])
  rw [← hM0] at hX ⊢
  have ub := hX.ints hu'
  have bb := hX.ints hb
  have hbx := needS_bd hg hr
  refine loop_inv mixed (fun s' => ∃ k : Nat, k ≤ set.length ∧ s'.m = M0 ∧ s'.t 1 = u ∧ s'.t 2 = .pointer (some ⟨m.length, 0, none⟩) ∧ s'.t 5 = .int .i64 (needS s set k) ∧ s'.t 6 = .int .i64 (k : Int)) (fun s' => set.length - (intOf (s'.t 6)).toNat)
    ⟨0, by omega, rfl, rfl, rfl, rfl, rfl⟩ ?_
  rintro s' ⟨k, hk, tm, t1, t2, t5, t6⟩
  by_cases hlt : k < set.length
  · have hlt' : (k : Int) < set.length := by omega
    have b0 := hr.bd k hlt
    obtain ⟨p, hp⟩ : ∃ p : Nat, set.getD k 0 = (p : Int) := ⟨(set.getD k 0).toNat, by omega⟩
    have ld := ub.ld k hlt
    rw [hp] at ld
    have pn : p < s.need.length := by omega
    have w := memD9 hg.need pn
    have w2 := hbx k (by omega)
    simp (config := {implicitDefEqProofs := false, maxDischargeDepth := 20}) (disch := first | omega | (simp only [lenE]; done) | (simp only [lenE]; omega) | rfl | (simp only [lenE, markR_len]; done) | (simp only [lenE, markR_len]; omega)) only [runE, mapE, listE, initT_5, initT_6, initT_7, initT_8, resV, oneV, binA, unA, reduceCtorEq, Nat.reduceEqDiff, Nat.reduceAdd, Nat.reduceLT, Nat.reduceLeDiff, Nat.reduceMul, Nat.reduceSub, ↓reduceIte, decide_true, decide_false, Bool.true_eq_false, Bool.false_eq_true, Bool.not_true, Bool.not_false, if_true, if_false, and_true, true_and, memE, celE, w64, Nat.zero_add, Nat.add_zero, Nat.mul_one, putL, and_self, ldn, tm, t1, t2, t5, t6, ub.len, hlt', ub.at_ k hlt, ld, o1.rd, bb.at_ p pn, bb.ld p pn]
    refine ⟨⟨k + 1, by omega, by rw [needS, hp, Int.toNat_natCast], by simp⟩, ?_⟩
    simp [intOf]; omega
  · have hlt' : ¬ ((k : Int) < set.length) := by omega
    have e : k = set.length := by omega
    subst e
    simp (config := {implicitDefEqProofs := false, maxDischargeDepth := 20}) (disch := first | omega | (simp only [lenE]; done) | (simp only [lenE]; omega) | rfl | (simp only [lenE, markR_len]; done) | (simp only [lenE, markR_len]; omega)) only [runE, mapE, listE, initT_5, initT_6, initT_7, initT_8, resV, oneV, binA, unA, reduceCtorEq, Nat.reduceEqDiff, Nat.reduceAdd, Nat.reduceLT, Nat.reduceLeDiff, Nat.reduceMul, Nat.reduceSub, ↓reduceIte, decide_true, decide_false, Bool.true_eq_false, Bool.false_eq_true, Bool.not_true, Bool.not_false, if_true, if_false, and_true, true_and, memE, celE, w64, Nat.zero_add, Nat.add_zero, Nat.mul_one, putL, and_self, ldn, tm, t1, t2, t5, t6, ub.len, hlt']
    have w2 := hbx set.length (Nat.le_refl _)
    refine loop_inv mixed (fun s' => ∃ (f : Nat) (M : Mem), f ≤ s.arr.length ∧ s'.m = M ∧ Ext m M ∧ OwnB M m.length 27 [.int .i64 s.life, a, b, .int .i64 s.waste, .int .i64 s.lost] ∧ s'.t 1 = u ∧ s'.t 2 = .pointer (some ⟨m.length, 0, none⟩) ∧ s'.t 5 = .int .i64 (needS s set set.length - subA s set f) ∧ s'.t 7 = .int .i64 (f : Int)) (fun s' => s.arr.length - (intOf (s'.t 7)).toNat)
      ⟨0, M0, by omega, (by first | exact tm | rfl), hX, o1, (by first | exact t1 | simp only [put_t, put_t', put_m, putT_t, putT_t', putT_m, init_t, init_m, initT_0, initT_1, initT_2, initT_3, initT_4, initT_5, initT_6, initT_7, initT_8, Nat.reduceEqDiff, ↓reduceIte, t1]), (by first | exact t2 | simp only [put_t, put_t', put_m, putT_t, putT_t', putT_m, init_t, init_m, initT_0, initT_1, initT_2, initT_3, initT_4, initT_5, initT_6, initT_7, initT_8, Nat.reduceEqDiff, ↓reduceIte, t2]), (by simp only [put_t, put_t', put_m, putT_t, putT_t', putT_m, init_t, init_m, initT_0, initT_1, initT_2, initT_3, initT_4, initT_5, initT_6, initT_7, initT_8, Nat.reduceEqDiff, ↓reduceIte, t5]; simp [subA]), rfl⟩ ?_
    clear tm t1 t2 t5 t6 ub bb o1 hX hM0
    rintro s' ⟨f, M, hf, tm, hX, o1, t1, t2, t5, t7⟩
    have ab := hX.ints ha
    have w3 := subA_bd hg set f hf
    by_cases hfl : f < s.arr.length
    · have hfl' : (f : Int) < s.arr.length := by omega
      have w4 := memD9 hg.arr hfl
      simp (config := {implicitDefEqProofs := false, maxDischargeDepth := 20}) (disch := first | omega | (simp only [lenE]; done) | (simp only [lenE]; omega) | rfl | (simp only [lenE, markR_len]; done) | (simp only [lenE, markR_len]; omega)) only [runE, mapE, listE, initT_5, initT_6, initT_7, initT_8, resV, oneV, binA, unA, reduceCtorEq, Nat.reduceEqDiff, Nat.reduceAdd, Nat.reduceLT, Nat.reduceLeDiff, Nat.reduceMul, Nat.reduceSub, ↓reduceIte, decide_true, decide_false, Bool.true_eq_false, Bool.false_eq_true, Bool.not_true, Bool.not_false, if_true, if_false, and_true, true_and, memE, celE, w64, Nat.zero_add, Nat.add_zero, Nat.mul_one, putL, and_self, ldn, tm, t1, t2, t5, t7, o1.rd, ab.len, hfl']
      refine loop_inv mixed (fun s' => ∃ (j : Nat) (M : Mem), j ≤ set.length ∧ s'.m = M ∧ Ext m M ∧ OwnB M m.length 27 [.int .i64 s.life, a, b, .int .i64 s.waste, .int .i64 s.lost] ∧ s'.t 1 = u ∧ s'.t 2 = .pointer (some ⟨m.length, 0, none⟩) ∧ s'.t 5 = .int .i64 (needS s set set.length - subA s set f) ∧ s'.t 7 = .int .i64 (f : Int) ∧ s'.t 8 = .bool (anyTo s set f j) ∧ s'.t 9 = .int .i64 (j : Int)) (fun s' => set.length - (intOf (s'.t 9)).toNat)
        ⟨0, M, by omega, (by first | exact tm | rfl), hX, o1, (by first | exact t1 | simp only [put_t, put_t', put_m, putT_t, putT_t', putT_m, init_t, init_m, initT_0, initT_1, initT_2, initT_3, initT_4, initT_5, initT_6, initT_7, initT_8, Nat.reduceEqDiff, ↓reduceIte, t1]), (by first | exact t2 | simp only [put_t, put_t', put_m, putT_t, putT_t', putT_m, init_t, init_m, initT_0, initT_1, initT_2, initT_3, initT_4, initT_5, initT_6, initT_7, initT_8, Nat.reduceEqDiff, ↓reduceIte, t2]), (by first | exact t5 | simp only [put_t, put_t', put_m, putT_t, putT_t', putT_m, init_t, init_m, initT_0, initT_1, initT_2, initT_3, initT_4, initT_5, initT_6, initT_7, initT_8, Nat.reduceEqDiff, ↓reduceIte, t5]), (by first | exact t7 | simp only [put_t, put_t', put_m, putT_t, putT_t', putT_m, init_t, init_m, initT_0, initT_1, initT_2, initT_3, initT_4, initT_5, initT_6, initT_7, initT_8, Nat.reduceEqDiff, ↓reduceIte, t7]), rfl, rfl⟩ ?_
      clear tm hX o1 t1 t2 t5 t7 ab
      rintro s' ⟨j, M, hj, tm, hX, o1, t1, t2, t5, t7, t8, t9⟩
      have ub := hX.ints hu'
      have ab := hX.ints ha
      by_cases hjl : j < set.length
      · have hjl' : (j : Int) < set.length := by omega
        cases hq : anyTo s set f j with
        | true =>
          rw [hq] at t8
          simp (config := {implicitDefEqProofs := false, maxDischargeDepth := 20}) (disch := first | omega | (simp only [lenE]; done) | (simp only [lenE]; omega) | rfl | (simp only [lenE, markR_len]; done) | (simp only [lenE, markR_len]; omega)) only [runE, mapE, listE, initT_5, initT_6, initT_7, initT_8, resV, oneV, binA, unA, reduceCtorEq, Nat.reduceEqDiff, Nat.reduceAdd, Nat.reduceLT, Nat.reduceLeDiff, Nat.reduceMul, Nat.reduceSub, ↓reduceIte, decide_true, decide_false, Bool.true_eq_false, Bool.false_eq_true, Bool.not_true, Bool.not_false, if_true, if_false, and_true, true_and, memE, celE, w64, Nat.zero_add, Nat.add_zero, Nat.mul_one, putL, and_self, ldn, tm, t1, t2, t5, t7, t8, t9, ub.len, hjl', goG_undef]
          refine ⟨⟨j + 1, M, by omega, rfl, hX, o1, by rw [anyTo, hq]; rfl, by simp⟩, ?_⟩
          simp [intOf]; omega
        | false =>
          rw [hq] at t8
          simp (config := {implicitDefEqProofs := false, maxDischargeDepth := 20}) (disch := first | omega | (simp only [lenE]; done) | (simp only [lenE]; omega) | rfl | (simp only [lenE, markR_len]; done) | (simp only [lenE, markR_len]; omega)) only [runE, mapE, listE, initT_5, initT_6, initT_7, initT_8, resV, oneV, binA, unA, reduceCtorEq, Nat.reduceEqDiff, Nat.reduceAdd, Nat.reduceLT, Nat.reduceLeDiff, Nat.reduceMul, Nat.reduceSub, ↓reduceIte, decide_true, decide_false, Bool.true_eq_false, Bool.false_eq_true, Bool.not_true, Bool.not_false, if_true, if_false, and_true, true_and, memE, celE, w64, Nat.zero_add, Nat.add_zero, Nat.mul_one, putL, and_self, ldn, tm, t1, t2, t5, t7, t8, t9, ub.len, hjl', o1.rd, ub.at_ j hjl, ub.ld j hjl]
          have K := usable9_rc M _ s f (set.getD j 0) (ShA.mk ab (hX.ints hb)) (by omega) ⟨by omega, l8⟩
          refine rcallH_rc K ?_
          rintro r n2 ⟨rfl, nr2⟩
          simp (config := {implicitDefEqProofs := false, maxDischargeDepth := 20}) (disch := first | omega | (simp only [lenE]; done) | (simp only [lenE]; omega) | rfl | (simp only [lenE, markR_len]; done) | (simp only [lenE, markR_len]; omega)) only [runE, mapE, listE, initT_5, initT_6, initT_7, initT_8, resV, oneV, binA, unA, reduceCtorEq, Nat.reduceEqDiff, Nat.reduceAdd, Nat.reduceLT, Nat.reduceLeDiff, Nat.reduceMul, Nat.reduceSub, ↓reduceIte, decide_true, decide_false, Bool.true_eq_false, Bool.false_eq_true, Bool.not_true, Bool.not_false, if_true, if_false, and_true, true_and, memE, celE, w64, Nat.zero_add, Nat.add_zero, Nat.mul_one, putL, and_self, ldn, t1, t2, t5, t7, t8, t9]
          refine ⟨⟨j + 1, M ++ n2, by omega, rfl, hX.app nr2, o1.ext _, by rw [anyTo, hq]; rfl, by simp⟩, ?_⟩
          simp [intOf]; omega
      · have hjl' : ¬ ((j : Int) < set.length) := by omega
        have e : j = set.length := by omega
        subst e
        rw [anyTo_all] at t8
        cases hq : useAny s set f with
        | true =>
          rw [hq] at t8
          simp (config := {implicitDefEqProofs := false, maxDischargeDepth := 20}) (disch := first | omega | (simp only [lenE]; done) | (simp only [lenE]; omega) | rfl | (simp only [lenE, markR_len]; done) | (simp only [lenE, markR_len]; omega)) only [runE, mapE, listE, initT_5, initT_6, initT_7, initT_8, resV, oneV, binA, unA, reduceCtorEq, Nat.reduceEqDiff, Nat.reduceAdd, Nat.reduceLT, Nat.reduceLeDiff, Nat.reduceMul, Nat.reduceSub, ↓reduceIte, decide_true, decide_false, Bool.true_eq_false, Bool.false_eq_true, Bool.not_true, Bool.not_false, if_true, if_false, and_true, true_and, memE, celE, w64, Nat.zero_add, Nat.add_zero, Nat.mul_one, putL, and_self, ldn, tm, t1, t2, t5, t7, t8, t9, ub.len, hjl', o1.rd, ab.at_ f hfl, ab.ld f hfl]
          refine ⟨⟨f + 1, M, by omega, rfl, hX, o1, by rw [subA, hq, if_pos rfl]; congr 1; omega, by simp⟩, ?_⟩
          simp [intOf]; omega
        | false =>
          rw [hq] at t8
          simp (config := {implicitDefEqProofs := false, maxDischargeDepth := 20}) (disch := first | omega | (simp only [lenE]; done) | (simp only [lenE]; omega) | rfl | (simp only [lenE, markR_len]; done) | (simp only [lenE, markR_len]; omega)) only [runE, mapE, listE, initT_5, initT_6, initT_7, initT_8, resV, oneV, binA, unA, reduceCtorEq, Nat.reduceEqDiff, Nat.reduceAdd, Nat.reduceLT, Nat.reduceLeDiff, Nat.reduceMul, Nat.reduceSub, ↓reduceIte, decide_true, decide_false, Bool.true_eq_false, Bool.false_eq_true, Bool.not_true, Bool.not_false, if_true, if_false, and_true, true_and, memE, celE, w64, Nat.zero_add, Nat.add_zero, Nat.mul_one, putL, and_self, ldn, tm, t1, t2, t5, t7, t8, t9, ub.len, hjl']
          refine ⟨⟨f + 1, M, by omega, rfl, hX, o1, by rw [subA, hq, if_neg (by simp)]; congr 1; omega, by simp⟩, ?_⟩
          simp [intOf]; omega
    · have hfl' : ¬ ((f : Int) < s.arr.length) := by omega
      have e : f = s.arr.length := by omega
      subst e
      simp (config := {implicitDefEqProofs := false, maxDischargeDepth := 20}) (disch := first | omega | (simp only [lenE]; done) | (simp only [lenE]; omega) | rfl | (simp only [lenE, markR_len]; done) | (simp only [lenE, markR_len]; omega)) only [runE, mapE, listE, initT_5, initT_6, initT_7, initT_8, resV, oneV, binA, unA, reduceCtorEq, Nat.reduceEqDiff, Nat.reduceAdd, Nat.reduceLT, Nat.reduceLeDiff, Nat.reduceMul, Nat.reduceSub, ↓reduceIte, decide_true, decide_false, Bool.true_eq_false, Bool.false_eq_true, Bool.not_true, Bool.not_false, if_true, if_false, and_true, true_and, memE, celE, w64, Nat.zero_add, Nat.add_zero, Nat.mul_one, putL, and_self, ldn, tm, t1, t2, t5, t7, o1.rd, ab.len, hfl']
      exact ext_ansV hX rfl
theorem lostBound_rc (m : Mem) (v u : Value) (s : Sh) (set : List Int) (h : ShA m v s) (hu : IntsA m u set) (hg : GoodSh s) (hr : Rising set s.need.length) :
    RC Try.prog 81 [v, u] m (AnsV (.int .i64 (boundV s set))) := by
  refine rc_of_run mixed ok_impl_lostBound (by simp) (go_start _ _ _ ?_)
  obtain ⟨a, b, rfl, ha, hb⟩ := h.ro
  have hu' := hu.ro
  have hla := hg.la
  have n8 := hg.n8
  have l1 := hg.l1
  have l8 := hg.l8
  have sl := hr.len
  have hX := (Ext.refl m).one 27 [.int .i64 s.life, a, b, .int .i64 s.waste, .int .i64 s.lost]
  simp (config := {implicitDefEqProofs := false, maxDischargeDepth := 20}) (disch := first | omega | (simp only [lenE]; done) | (simp only [lenE]; omega) | rfl | (simp only [lenE, markR_len]; done) | (simp only [lenE, markR_len]; omega)) only [runE, mapE, listE, initT_5, initT_6, initT_7, initT_8, resV, oneV, binA, unA, reduceCtorEq, Nat.reduceEqDiff, Nat.reduceAdd, Nat.reduceLT, Nat.reduceLeDiff, Nat.reduceMul, Nat.reduceSub, ↓reduceIte, decide_true, decide_false, Bool.true_eq_false, Bool.false_eq_true, Bool.not_true, Bool.not_false, if_true, if_false, and_true, true_and, memE, celE, w64, Nat.zero_add, Nat.add_zero, Nat.mul_one, putL, and_self, ldn, c_impl_lostBound, r_impl_lostBound, hu'.len]
  obtain ⟨M0, hM0⟩ : ∃ M0, M0 = roM m ++ [⟨.own, 27, [.int .i64 s.life, a, b, .int .i64 s.waste, .int .i64 s.lost]⟩] := ⟨_, rfl⟩
  have o1 : OwnB M0 m.length 27 [.int .i64 s.life, a, b, .int .i64 s.waste, .int .i64 s.lost] := by rw [hM0]; exact OwnB.here (by simp [roM_len])
  rw [← hM0] at hX ⊢
  have ub := hX.ints hu'
  have bb := hX.ints hb
  have ab := hX.ints ha
  have hbx := needS_bd hg hr
  refine loop_inv mixed (fun s' => ∃ k : Nat, k ≤ set.length ∧ s'.m = M0 ∧ s'.t 1 = u ∧ s'.t 2 = .pointer (some ⟨m.length, 0, none⟩) ∧ s'.t 5 = .int .i64 (needS s set k) ∧ s'.t 10 = u ∧ s'.t 11 = .int .i64 (set.length : Int) ∧ s'.t 12 = .int .i64 (k : Int)) (fun s' => set.length - (intOf (s'.t 12)).toNat)
    ⟨0, by omega, rfl, rfl, rfl, rfl, rfl, rfl, rfl⟩ ?_
  rintro s' ⟨k, hk, tm, t1, t2, t5, t10, t11, t12⟩
  by_cases hlt : k < set.length
  · have hlt' : (k : Int) < set.length := by omega
    have b0 := hr.bd k hlt
    obtain ⟨p, hp⟩ : ∃ p : Nat, set.getD k 0 = (p : Int) := ⟨(set.getD k 0).toNat, by omega⟩
    have ld := ub.ld k hlt
    rw [hp] at ld
    have pn : p < s.need.length := by omega
    have w := memD9 hg.need pn
    have w2 := hbx k (by omega)
    simp (config := {implicitDefEqProofs := false, maxDischargeDepth := 20}) (disch := first | omega | (simp only [lenE]; done) | (simp only [lenE]; omega) | rfl | (simp only [lenE, markR_len]; done) | (simp only [lenE, markR_len]; omega)) only [runE, mapE, listE, initT_5, initT_6, initT_7, initT_8, resV, oneV, binA, unA, reduceCtorEq, Nat.reduceEqDiff, Nat.reduceAdd, Nat.reduceLT, Nat.reduceLeDiff, Nat.reduceMul, Nat.reduceSub, ↓reduceIte, decide_true, decide_false, Bool.true_eq_false, Bool.false_eq_true, Bool.not_true, Bool.not_false, if_true, if_false, and_true, true_and, memE, celE, w64, Nat.zero_add, Nat.add_zero, Nat.mul_one, putL, and_self, ldn, tm, t1, t2, t5, t10, t11, t12, hlt', ub.at_ k hlt, ld, o1.rd, bb.at_ p pn, bb.ld p pn]
    refine ⟨⟨k + 1, by omega, by rw [needS, hp, Int.toNat_natCast], by simp⟩, ?_⟩
    simp [intOf]; omega
  · have hlt' : ¬ ((k : Int) < set.length) := by omega
    have e : k = set.length := by omega
    subst e
    have w2 := hbx set.length (Nat.le_refl _)
    simp (config := {implicitDefEqProofs := false, maxDischargeDepth := 20}) (disch := first | omega | (simp only [lenE]; done) | (simp only [lenE]; omega) | rfl | (simp only [lenE, markR_len]; done) | (simp only [lenE, markR_len]; omega)) only [runE, mapE, listE, initT_5, initT_6, initT_7, initT_8, resV, oneV, binA, unA, reduceCtorEq, Nat.reduceEqDiff, Nat.reduceAdd, Nat.reduceLT, Nat.reduceLeDiff, Nat.reduceMul, Nat.reduceSub, ↓reduceIte, decide_true, decide_false, Bool.true_eq_false, Bool.false_eq_true, Bool.not_true, Bool.not_false, if_true, if_false, and_true, true_and, memE, celE, w64, Nat.zero_add, Nat.add_zero, Nat.mul_one, putL, and_self, ldn, tm, t1, t2, t5, t10, t11, t12, hlt', o1.rd, ab.len]
    refine loop_inv mixed (fun s' => ∃ (f : Nat) (M : Mem), f ≤ s.arr.length ∧ s'.m = M ∧ Ext m M ∧ OwnB M m.length 27 [.int .i64 s.life, a, b, .int .i64 s.waste, .int .i64 s.lost] ∧ s'.t 1 = u ∧ s'.t 2 = .pointer (some ⟨m.length, 0, none⟩) ∧ s'.t 5 = .int .i64 (needS s set set.length - subA s set f) ∧ s'.t 25 = a ∧ s'.t 26 = .int .i64 (s.arr.length : Int) ∧ s'.t 27 = .int .i64 (f : Int)) (fun s' => s.arr.length - (intOf (s'.t 27)).toNat)
      ⟨0, M0, by omega, (by first | exact tm | rfl), hX, o1, (by first | exact t1 | simp only [put_t, put_t', put_m, putT_t, putT_t', putT_m, init_t, init_m, initT_0, initT_1, initT_2, initT_3, initT_4, initT_5, initT_6, initT_7, initT_8, Nat.reduceEqDiff, ↓reduceIte, t1]), (by first | exact t2 | simp only [put_t, put_t', put_m, putT_t, putT_t', putT_m, init_t, init_m, initT_0, initT_1, initT_2, initT_3, initT_4, initT_5, initT_6, initT_7, initT_8, Nat.reduceEqDiff, ↓reduceIte, t2]), (by simp only [put_t, put_t', put_m, putT_t, putT_t', putT_m, init_t, init_m, initT_0, initT_1, initT_2, initT_3, initT_4, initT_5, initT_6, initT_7, initT_8, Nat.reduceEqDiff, ↓reduceIte, t5]; simp [subA]), rfl, rfl, rfl⟩ ?_
    clear tm t1 t2 t5 t10 t11 t12 ub bb ab o1 hX hM0
    rintro s' ⟨f, M, hf, tm, hX, o1, t1, t2, t5, t25, t26, t27⟩
    have ab := hX.ints ha
    have ub := hX.ints hu'
    have w3 := subA_bd hg set f hf
    by_cases hfl : f < s.arr.length
    · have hfl' : (f : Int) < s.arr.length := by omega
      have w4 := memD9 hg.arr hfl
      have r1 : rdc (M ++ [⟨.own, 3, [.int .i64 (f : Int)]⟩]) M.length 0 = some (.int .i64 (f : Int)) := (OwnB.here rfl : OwnB (M ++ [⟨.own, 3, [.int .i64 (f : Int)]⟩]) M.length 3 [.int .i64 (f : Int)]).rd 0
      have r2 : rdc (M ++ [⟨.own, 3, [.int .i64 (f : Int)]⟩]) m.length 0 = some (.int .i64 s.life) := (o1.ext [⟨.own, 3, [.int .i64 (f : Int)]⟩]).rd 0
      simp (config := {implicitDefEqProofs := false, maxDischargeDepth := 20}) (disch := first | omega | (simp only [lenE]; done) | (simp only [lenE]; omega) | rfl | (simp only [lenE, markR_len]; done) | (simp only [lenE, markR_len]; omega)) only [runE, mapE, listE, initT_5, initT_6, initT_7, initT_8, resV, oneV, binA, unA, reduceCtorEq, Nat.reduceEqDiff, Nat.reduceAdd, Nat.reduceLT, Nat.reduceLeDiff, Nat.reduceMul, Nat.reduceSub, ↓reduceIte, decide_true, decide_false, Bool.true_eq_false, Bool.false_eq_true, Bool.not_true, Bool.not_false, if_true, if_false, and_true, true_and, memE, celE, w64, Nat.zero_add, Nat.add_zero, Nat.mul_one, putL, and_self, ldn, tm, t1, t2, t5, t25, t26, t27, hfl', ab.at_ f hfl, ab.ld f hfl]
      refine callH_rc (containsFunc_rc _ u _ set (usI s.life f) (ub.ext _) (fresh_test _ M.length m.length f s.life r1 r2 (by omega) ⟨by omega, l8⟩)) ?_
      rintro r new ⟨rfl, rfl⟩
      rw [List.append_nil]
      cases hq : set.any (usI s.life f) with
      | true =>
        simp (config := {implicitDefEqProofs := false, maxDischargeDepth := 20}) (disch := first | omega | (simp only [lenE]; done) | (simp only [lenE]; omega) | rfl | (simp only [lenE, markR_len]; done) | (simp only [lenE, markR_len]; omega)) only [runE, mapE, listE, initT_5, initT_6, initT_7, initT_8, resV, oneV, binA, unA, reduceCtorEq, Nat.reduceEqDiff, Nat.reduceAdd, Nat.reduceLT, Nat.reduceLeDiff, Nat.reduceMul, Nat.reduceSub, ↓reduceIte, decide_true, decide_false, Bool.true_eq_false, Bool.false_eq_true, Bool.not_true, Bool.not_false, if_true, if_false, and_true, true_and, memE, celE, w64, Nat.zero_add, Nat.add_zero, Nat.mul_one, putL, and_self, ldn, t1, t2, t5, t25, t26, t27]
        refine ⟨⟨f + 1, _, by omega, rfl, hX.one _ _, o1.ext _, by rw [subA, show useAny s set f = true from hq, if_pos rfl]; congr 1; omega, by simp⟩, ?_⟩
        simp [intOf]; omega
      | false =>
        simp (config := {implicitDefEqProofs := false, maxDischargeDepth := 20}) (disch := first | omega | (simp only [lenE]; done) | (simp only [lenE]; omega) | rfl | (simp only [lenE, markR_len]; done) | (simp only [lenE, markR_len]; omega)) only [runE, mapE, listE, initT_5, initT_6, initT_7, initT_8, resV, oneV, binA, unA, reduceCtorEq, Nat.reduceEqDiff, Nat.reduceAdd, Nat.reduceLT, Nat.reduceLeDiff, Nat.reduceMul, Nat.reduceSub, ↓reduceIte, decide_true, decide_false, Bool.true_eq_false, Bool.false_eq_true, Bool.not_true, Bool.not_false, if_true, if_false, and_true, true_and, memE, celE, w64, Nat.zero_add, Nat.add_zero, Nat.mul_one, putL, and_self, ldn, t1, t2, t5, t25, t26, t27]
        refine ⟨⟨f + 1, _, by omega, rfl, hX.one _ _, o1.ext _, by rw [subA, show useAny s set f = false from hq, if_neg (by simp)]; congr 1; omega, by simp⟩, ?_⟩
        simp [intOf]; omega
    · have hfl' : ¬ ((f : Int) < s.arr.length) := by omega
      have e : f = s.arr.length := by omega
      subst e
      simp (config := {implicitDefEqProofs := false, maxDischargeDepth := 20}) (disch := first | omega | (simp only [lenE]; done) | (simp only [lenE]; omega) | rfl | (simp only [lenE, markR_len]; done) | (simp only [lenE, markR_len]; omega)) only [runE, mapE, listE, initT_5, initT_6, initT_7, initT_8, resV, oneV, binA, unA, reduceCtorEq, Nat.reduceEqDiff, Nat.reduceAdd, Nat.reduceLT, Nat.reduceLeDiff, Nat.reduceMul, Nat.reduceSub, ↓reduceIte, decide_true, decide_false, Bool.true_eq_false, Bool.false_eq_true, Bool.not_true, Bool.not_false, if_true, if_false, and_true, true_and, memE, celE, w64, Nat.zero_add, Nat.add_zero, Nat.mul_one, putL, and_self, ldn, tm, t1, t2, t5, t25, t26, t27, hfl']
      exact ext_ansV hX rfl
theorem specLostBound_rc (m : Mem) (v u : Value) (s : Sh) (set : List Int) (h : ShA m v s) (hu : IntsA m u set) :
    RC Try.prog 44 [v, u] m (AnsV (.tuple #[.int .i64 (lboundA s set), .bool (lboundOk s set)])) := by
  refine rc_of_run mixed ok_spec_LostBound (by simp) (go_start _ _ _ ?_)
  obtain ⟨a, b, rfl, ha, hb⟩ := h.ro
  have hu' := hu.ro
  have hX := (Ext.refl m).one 27 [.int .i64 s.life, a, b, .int .i64 s.waste, .int .i64 s.lost]
  simp (config := {implicitDefEqProofs := false, maxDischargeDepth := 20}) (disch := first | omega | (simp only [lenE]; done) | (simp only [lenE]; omega) | rfl | (simp only [lenE, markR_len]; done) | (simp only [lenE, markR_len]; omega)) only [runE, mapE, listE, initT_5, initT_6, initT_7, initT_8, resV, oneV, binA, unA, reduceCtorEq, Nat.reduceEqDiff, Nat.reduceAdd, Nat.reduceLT, Nat.reduceLeDiff, Nat.reduceMul, Nat.reduceSub, ↓reduceIte, decide_true, decide_false, Bool.true_eq_false, Bool.false_eq_true, Bool.not_true, Bool.not_false, if_true, if_false, and_true, true_and, memE, celE, w64, Nat.zero_add, Nat.add_zero, Nat.mul_one, putL, and_self, ldn, c_spec_LostBound, r_spec_LostBound]
  obtain ⟨M0, hM0⟩ : ∃ M0, M0 = roM m ++ [⟨.own, 27, [.int .i64 s.life, a, b, .int .i64 s.waste, .int .i64 s.lost]⟩] := ⟨_, rfl⟩
  have o1 : OwnB M0 m.length 27 [.int .i64 s.life, a, b, .int .i64 s.waste, .int .i64 s.lost] := by rw [hM0]; exact OwnB.here (by simp [roM_len])
  rw [← hM0] at hX ⊢
  refine callH_rc (l9Good_rc _ _ s (ShA.mk (hX.ints ha) (hX.ints hb))) ?_
  rintro r n1 ⟨rfl, nr1⟩
  replace hX := hX.app nr1
  replace o1 := o1.ext n1
  obtain ⟨M1, hM1⟩ : ∃ M1, M1 = M0 ++ n1 := ⟨_, rfl⟩
  rw [← hM1] at hX o1 ⊢
  unfold lboundA lboundOk
  cases hg : s.good with
  | false =>
    simp (config := {implicitDefEqProofs := false, maxDischargeDepth := 20}) (disch := first | omega | (simp only [lenE]; done) | (simp only [lenE]; omega) | rfl | (simp only [lenE, markR_len]; done) | (simp only [lenE, markR_len]; omega)) only [runE, mapE, listE, initT_5, initT_6, initT_7, initT_8, resV, oneV, binA, unA, reduceCtorEq, Nat.reduceEqDiff, Nat.reduceAdd, Nat.reduceLT, Nat.reduceLeDiff, Nat.reduceMul, Nat.reduceSub, ↓reduceIte, decide_true, decide_false, Bool.true_eq_false, Bool.false_eq_true, Bool.not_true, Bool.not_false, if_true, if_false, and_true, true_and, memE, celE, w64, Nat.zero_add, Nat.add_zero, Nat.mul_one, putL, and_self, ldn, goG_undef]
    exact ext_ansV hX (by simp)
  | true =>
    have gd := goodSh_iff.1 hg
    have n8 := gd.n8
    simp (config := {implicitDefEqProofs := false, maxDischargeDepth := 20}) (disch := first | omega | (simp only [lenE]; done) | (simp only [lenE]; omega) | rfl | (simp only [lenE, markR_len]; done) | (simp only [lenE, markR_len]; omega)) only [runE, mapE, listE, initT_5, initT_6, initT_7, initT_8, resV, oneV, binA, unA, reduceCtorEq, Nat.reduceEqDiff, Nat.reduceAdd, Nat.reduceLT, Nat.reduceLeDiff, Nat.reduceMul, Nat.reduceSub, ↓reduceIte, decide_true, decide_false, Bool.true_eq_false, Bool.false_eq_true, Bool.not_true, Bool.not_false, if_true, if_false, and_true, true_and, memE, celE, w64, Nat.zero_add, Nat.add_zero, Nat.mul_one, putL, and_self, ldn, o1.rd, (hX.ints hb).len]
    refine callH_rc (l1Rising_rc _ u set s.need.length (hX.ints hu') (by omega)) ?_
    rintro r n2 ⟨rfl, nr2⟩
    cases hr : risB set s.need.length with
    | false =>
      simp (config := {implicitDefEqProofs := false, maxDischargeDepth := 20}) (disch := first | omega | (simp only [lenE]; done) | (simp only [lenE]; omega) | rfl | (simp only [lenE, markR_len]; done) | (simp only [lenE, markR_len]; omega)) only [runE, mapE, listE, initT_5, initT_6, initT_7, initT_8, resV, oneV, binA, unA, reduceCtorEq, Nat.reduceEqDiff, Nat.reduceAdd, Nat.reduceLT, Nat.reduceLeDiff, Nat.reduceMul, Nat.reduceSub, ↓reduceIte, decide_true, decide_false, Bool.true_eq_false, Bool.false_eq_true, Bool.not_true, Bool.not_false, if_true, if_false, and_true, true_and, memE, celE, w64, Nat.zero_add, Nat.add_zero, Nat.mul_one, putL, and_self, ldn]
      exact ext_ansV (hX.app nr2) (by simp)
    | true =>
      have hX2 := hX.app nr2
      simp (config := {implicitDefEqProofs := false, maxDischargeDepth := 20}) (disch := first | omega | (simp only [lenE]; done) | (simp only [lenE]; omega) | rfl | (simp only [lenE, markR_len]; done) | (simp only [lenE, markR_len]; omega)) only [runE, mapE, listE, initT_5, initT_6, initT_7, initT_8, resV, oneV, binA, unA, reduceCtorEq, Nat.reduceEqDiff, Nat.reduceAdd, Nat.reduceLT, Nat.reduceLeDiff, Nat.reduceMul, Nat.reduceSub, ↓reduceIte, decide_true, decide_false, Bool.true_eq_false, Bool.false_eq_true, Bool.not_true, Bool.not_false, if_true, if_false, and_true, true_and, memE, celE, w64, Nat.zero_add, Nat.add_zero, Nat.mul_one, putL, and_self, ldn, (o1.ext n2).rd]
      refine callH_rc (l9Bound_rc _ _ u s set (ShA.mk (hX2.ints ha) (hX2.ints hb)) (hX2.ints hu') gd (risB_iff.1 hr)) ?_
      rintro r n3 ⟨rfl, nr3⟩
      simp (config := {implicitDefEqProofs := false, maxDischargeDepth := 20}) (disch := first | omega | (simp only [lenE]; done) | (simp only [lenE]; omega) | rfl | (simp only [lenE, markR_len]; done) | (simp only [lenE, markR_len]; omega)) only [runE, mapE, listE, initT_5, initT_6, initT_7, initT_8, resV, oneV, binA, unA, reduceCtorEq, Nat.reduceEqDiff, Nat.reduceAdd, Nat.reduceLT, Nat.reduceLeDiff, Nat.reduceMul, Nat.reduceSub, ↓reduceIte, decide_true, decide_false, Bool.true_eq_false, Bool.false_eq_true, Bool.not_true, Bool.not_false, if_true, if_false, and_true, true_and, memE, celE, w64, Nat.zero_add, Nat.add_zero, Nat.mul_one, putL, and_self, ldn]
      exact ext_ansV (hX2.app nr3) (by simp)
theorem implLostBound_rc (m : Mem) (v u : Value) (s : Sh) (set : List Int) (h : ShA m v s) (hu : IntsA m u set) :
    RC Try.prog 46 [v, u] m (AnsV (.tuple #[.int .i64 (lboundA s set), .bool (lboundOk s set)])) := by
  refine rc_of_run mixed ok_impl_LostBound (by simp) (go_start _ _ _ ?_)
  obtain ⟨a, b, rfl, ha, hb⟩ := h.ro
  have hu' := hu.ro
  have hX := (Ext.refl m).one 27 [.int .i64 s.life, a, b, .int .i64 s.waste, .int .i64 s.lost]
  simp (config := {implicitDefEqProofs := false, maxDischargeDepth := 20}) (disch := first | omega | (simp only [lenE]; done) | (simp only [lenE]; omega) | rfl | (simp only [lenE, markR_len]; done) | (simp only [lenE, markR_len]; omega)) only [runE, mapE, listE, initT_5, initT_6, initT_7, initT_8, resV, oneV, binA, unA, reduceCtorEq, Nat.reduceEqDiff, Nat.reduceAdd, Nat.reduceLT, Nat.reduceLeDiff, Nat.reduceMul, Nat.reduceSub, ↓reduceIte, decide_true, decide_false, Bool.true_eq_false, Bool.false_eq_true, Bool.not_true, Bool.not_false, if_true, if_false, and_true, true_and, memE, celE, w64, Nat.zero_add, Nat.add_zero, Nat.mul_one, putL, and_self, ldn, c_impl_LostBound, r_impl_LostBound]
  obtain ⟨M0, hM0⟩ : ∃ M0, M0 = roM m ++ [⟨.own, 27, [.int .i64 s.life, a, b, .int .i64 s.waste, .int .i64 s.lost]⟩] := ⟨_, rfl⟩
  have o1 : OwnB M0 m.length 27 [.int .i64 s.life, a, b, .int .i64 s.waste, .int .i64 s.lost] := by rw [hM0]; exact OwnB.here (by simp [roM_len])
  rw [← hM0] at hX ⊢
  refine callH_rc (implIsShelf_rc _ _ s (ShA.mk (hX.ints ha) (hX.ints hb))) ?_
  rintro r n1 ⟨rfl, nr1⟩
  replace hX := hX.app nr1
  replace o1 := o1.ext n1
  obtain ⟨M1, hM1⟩ : ∃ M1, M1 = M0 ++ n1 := ⟨_, rfl⟩
  rw [← hM1] at hX o1 ⊢
  unfold lboundA lboundOk
  cases hg : s.good with
  | false =>
    simp (config := {implicitDefEqProofs := false, maxDischargeDepth := 20}) (disch := first | omega | (simp only [lenE]; done) | (simp only [lenE]; omega) | rfl | (simp only [lenE, markR_len]; done) | (simp only [lenE, markR_len]; omega)) only [runE, mapE, listE, initT_5, initT_6, initT_7, initT_8, resV, oneV, binA, unA, reduceCtorEq, Nat.reduceEqDiff, Nat.reduceAdd, Nat.reduceLT, Nat.reduceLeDiff, Nat.reduceMul, Nat.reduceSub, ↓reduceIte, decide_true, decide_false, Bool.true_eq_false, Bool.false_eq_true, Bool.not_true, Bool.not_false, if_true, if_false, and_true, true_and, memE, celE, w64, Nat.zero_add, Nat.add_zero, Nat.mul_one, putL, and_self, ldn, goG_undef]
    exact ext_ansV hX (by simp)
  | true =>
    have gd := goodSh_iff.1 hg
    have n8 := gd.n8
    simp (config := {implicitDefEqProofs := false, maxDischargeDepth := 20}) (disch := first | omega | (simp only [lenE]; done) | (simp only [lenE]; omega) | rfl | (simp only [lenE, markR_len]; done) | (simp only [lenE, markR_len]; omega)) only [runE, mapE, listE, initT_5, initT_6, initT_7, initT_8, resV, oneV, binA, unA, reduceCtorEq, Nat.reduceEqDiff, Nat.reduceAdd, Nat.reduceLT, Nat.reduceLeDiff, Nat.reduceMul, Nat.reduceSub, ↓reduceIte, decide_true, decide_false, Bool.true_eq_false, Bool.false_eq_true, Bool.not_true, Bool.not_false, if_true, if_false, and_true, true_and, memE, celE, w64, Nat.zero_add, Nat.add_zero, Nat.mul_one, putL, and_self, ldn, o1.rd, (hX.ints hb).len]
    refine callH_rc (ascending_rc _ u set s.need.length (hX.ints hu') (by omega)) ?_
    rintro r n2 ⟨rfl, nr2⟩
    cases hr : risB set s.need.length with
    | false =>
      simp (config := {implicitDefEqProofs := false, maxDischargeDepth := 20}) (disch := first | omega | (simp only [lenE]; done) | (simp only [lenE]; omega) | rfl | (simp only [lenE, markR_len]; done) | (simp only [lenE, markR_len]; omega)) only [runE, mapE, listE, initT_5, initT_6, initT_7, initT_8, resV, oneV, binA, unA, reduceCtorEq, Nat.reduceEqDiff, Nat.reduceAdd, Nat.reduceLT, Nat.reduceLeDiff, Nat.reduceMul, Nat.reduceSub, ↓reduceIte, decide_true, decide_false, Bool.true_eq_false, Bool.false_eq_true, Bool.not_true, Bool.not_false, if_true, if_false, and_true, true_and, memE, celE, w64, Nat.zero_add, Nat.add_zero, Nat.mul_one, putL, and_self, ldn]
      exact ext_ansV (hX.app nr2) (by simp)
    | true =>
      have hX2 := hX.app nr2
      simp (config := {implicitDefEqProofs := false, maxDischargeDepth := 20}) (disch := first | omega | (simp only [lenE]; done) | (simp only [lenE]; omega) | rfl | (simp only [lenE, markR_len]; done) | (simp only [lenE, markR_len]; omega)) only [runE, mapE, listE, initT_5, initT_6, initT_7, initT_8, resV, oneV, binA, unA, reduceCtorEq, Nat.reduceEqDiff, Nat.reduceAdd, Nat.reduceLT, Nat.reduceLeDiff, Nat.reduceMul, Nat.reduceSub, ↓reduceIte, decide_true, decide_false, Bool.true_eq_false, Bool.false_eq_true, Bool.not_true, Bool.not_false, if_true, if_false, and_true, true_and, memE, celE, w64, Nat.zero_add, Nat.add_zero, Nat.mul_one, putL, and_self, ldn, (o1.ext n2).rd]
      refine callH_rc (lostBound_rc _ _ u s set (ShA.mk (hX2.ints ha) (hX2.ints hb)) (hX2.ints hu') gd (risB_iff.1 hr)) ?_
      rintro r n3 ⟨rfl, nr3⟩
      simp (config := {implicitDefEqProofs := false, maxDischargeDepth := 20}) (disch := first | omega | (simp only [lenE]; done) | (simp only [lenE]; omega) | rfl | (simp only [lenE, markR_len]; done) | (simp only [lenE, markR_len]; omega)) only [runE, mapE, listE, initT_5, initT_6, initT_7, initT_8, resV, oneV, binA, unA, reduceCtorEq, Nat.reduceEqDiff, Nat.reduceAdd, Nat.reduceLT, Nat.reduceLeDiff, Nat.reduceMul, Nat.reduceSub, ↓reduceIte, decide_true, decide_false, Bool.true_eq_false, Bool.false_eq_true, Bool.not_true, Bool.not_false, if_true, if_false, and_true, true_and, memE, celE, w64, Nat.zero_add, Nat.add_zero, Nat.mul_one, putL, and_self, ldn]
      exact ext_ansV (hX2.app nr3) (by simp)
end Go.Proofs.Ytihjcjhnkpkomaa.Ab
