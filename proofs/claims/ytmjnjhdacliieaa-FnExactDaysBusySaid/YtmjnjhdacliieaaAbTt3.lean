/- VisitsOn and DaysBusy on both sides. -/
import Derived.Test.YtmjnjhdacliieaaAbTt2
namespace Go.Proofs.Ytmjnjhdacliieaa.Ab
open Go Go.RowKit
set_option linter.unusedVariables false
set_option linter.unusedSimpArgs false
set_option maxRecDepth 10000

theorem rem_pos {day c : Int} (hc : 1 ≤ c) : ¬ (c = 0) := by omega
theorem l8Visits_rc (m : Mem) (v u : Value) (l o : List Int) (day : Int) (h : IntsA m v l) (hu : IntsA m u o) (hT : Tab l o) :
    RC Try.prog 100 [v, u, .int .i64 day] m (AnsO m (IntsO (visL l o day)) id) := by
  refine rc_of_run mixed ok_spec_l8Visits (by simp) (go_start _ _ _ ?_)
  have hlc := hT.cyc.len
  have hol := hT.len
  simp (config := {implicitDefEqProofs := false, maxDischargeDepth := 20}) (disch := first | omega | (simp only [lenE]; done) | (simp only [lenE]; omega) | rfl | (simp only [lenE, markR_len]; done) | (simp only [lenE, markR_len]; omega)) only [runE, mapE, listE, initT_5, initT_6, initT_7, initT_8, resV, oneV, binA, unA, reduceCtorEq, Nat.reduceEqDiff, Nat.reduceAdd, Nat.reduceLT, Nat.reduceLeDiff, Nat.reduceMul, Nat.reduceSub, ↓reduceIte, decide_true, decide_false, Bool.true_eq_false, Bool.false_eq_true, Bool.not_true, Bool.not_false, if_true, if_false, and_true, true_and, memE, celE, w64, Nat.zero_add, Nat.add_zero, Nat.mul_one, putL, and_self, ldn, c_spec_l8Visits, r_spec_l8Visits, bsl_none]
  refine loop_inv mixed (fun s => ∃ (k : Nat) (M : Mem) (id : Nat), k ≤ l.length ∧ s.m = M ∧ Ext m M ∧ m.length ≤ id ∧ OwnR M id (visTo l o day k) ∧ s.t 0 = v ∧ s.t 1 = u ∧ s.t 2 = .int .i64 day ∧ s.t 7 = .slice (some ⟨id, 0, none⟩) (visTo l o day k).length 1 ∧ s.t 8 = .int .i64 (k : Int)) (fun s => l.length - (intOf (s.t 8)).toNat)
    ⟨0, _, m.length, by omega, rfl, (Ext.refl m).one _ _, Nat.le_refl _, by exact OwnR.here (roM m) [] m.length (roM_len m).symm, rfl, rfl, rfl, by first | rfl | simp [roM_len], rfl⟩ ?_
  rintro s ⟨k, M, id, hk, tm, hX, hid, ho, t0, t1, t2, t7, t8⟩
  have hA := (Sees.ext hX).ints h
  have hB := (Sees.ext hX).ints hu
  have hl := hA.len
  have hvl := visTo_len l o day k
  by_cases hkl : k < l.length
  · have hlt : (k : Int) < l.length := by omega
    have i1 := hA.at_ k hkl
    have i2 := hA.ld k hkl
    have i3 := hB.at_ k (by omega)
    have i4 := hB.ld k (by omega)
    have n1 := hT.nums hkl
    have hc0 : ¬ (l.getD k 0 = 0) := by omega
    have hstep : visTo l o day (k + 1) = visTo l o day k ++ (if onB (l.getD k 0) (o.getD k 0) day then [(k : Int)] else []) := rfl
    cases hb : onB (l.getD k 0) (o.getD k 0) day with
    | true =>
      rw [hb, if_pos rfl] at hstep
      have hb' : (day.tmod (l.getD k 0) == o.getD k 0) = true := hb
      have hap := app_num (x := (k : Int)) (id2 := M.length) ho (by omega) rfl rfl
      rw [← hstep] at hap
      simp (config := {implicitDefEqProofs := false, maxDischargeDepth := 20}) (disch := first | omega | (simp only [lenE]; done) | (simp only [lenE]; omega) | rfl | (simp only [lenE, markR_len]; done) | (simp only [lenE, markR_len]; omega)) only [runE, mapE, listE, initT_5, initT_6, initT_7, initT_8, resV, oneV, binA, unA, reduceCtorEq, Nat.reduceEqDiff, Nat.reduceAdd, Nat.reduceLT, Nat.reduceLeDiff, Nat.reduceMul, Nat.reduceSub, ↓reduceIte, decide_true, decide_false, Bool.true_eq_false, Bool.false_eq_true, Bool.not_true, Bool.not_false, if_true, if_false, and_true, true_and, memE, celE, w64, Nat.zero_add, Nat.add_zero, Nat.mul_one, putL, and_self, ldn, tm, t0, t1, t2, t7, t8, hl, hlt, i1, i2, i3, i4, hc0, hb', bsl_one, hap]
      refine ⟨⟨k + 1, _, M.length + 1, by omega, rfl, ((hX.dead hid).one _ _).one _ _, ?_, OwnR.here _ _ _ ?_, ?_, by simp⟩, ?_⟩
      · have := hX.len; omega
      · simp
      · rw [hstep, List.length_append]; rfl
      · simp [intOf]; omega
    | false =>
      rw [hb] at hstep
      simp only [Bool.false_eq_true, if_false, List.append_nil] at hstep
      have hb' : (day.tmod (l.getD k 0) == o.getD k 0) = false := hb
      simp (config := {implicitDefEqProofs := false, maxDischargeDepth := 20}) (disch := first | omega | (simp only [lenE]; done) | (simp only [lenE]; omega) | rfl | (simp only [lenE, markR_len]; done) | (simp only [lenE, markR_len]; omega)) only [runE, mapE, listE, initT_5, initT_6, initT_7, initT_8, resV, oneV, binA, unA, reduceCtorEq, Nat.reduceEqDiff, Nat.reduceAdd, Nat.reduceLT, Nat.reduceLeDiff, Nat.reduceMul, Nat.reduceSub, ↓reduceIte, decide_true, decide_false, Bool.true_eq_false, Bool.false_eq_true, Bool.not_true, Bool.not_false, if_true, if_false, and_true, true_and, memE, celE, w64, Nat.zero_add, Nat.add_zero, Nat.mul_one, putL, and_self, ldn, tm, t0, t1, t2, t7, t8, hl, hlt, i1, i2, i3, i4, hc0, hb']
      refine ⟨⟨k + 1, _, _, by omega, rfl, hX, hid, by rw [hstep]; exact ho, by rw [hstep], by simp⟩, ?_⟩
      simp [intOf]; omega
  · have hlt : ¬ ((k : Int) < l.length) := by omega
    have e : k = l.length := by omega
    subst e
    simp (config := {implicitDefEqProofs := false, maxDischargeDepth := 20}) (disch := first | omega | (simp only [lenE]; done) | (simp only [lenE]; omega) | rfl | (simp only [lenE, markR_len]; done) | (simp only [lenE, markR_len]; omega)) only [runE, mapE, listE, initT_5, initT_6, initT_7, initT_8, resV, oneV, binA, unA, reduceCtorEq, Nat.reduceEqDiff, Nat.reduceAdd, Nat.reduceLT, Nat.reduceLeDiff, Nat.reduceMul, Nat.reduceSub, ↓reduceIte, decide_true, decide_false, Bool.true_eq_false, Bool.false_eq_true, Bool.not_true, Bool.not_false, if_true, if_false, and_true, true_and, memE, celE, w64, Nat.zero_add, Nat.add_zero, Nat.mul_one, putL, and_self, ldn, tm, t0, t1, t2, t7, t8, hl, hlt]
    refine ext_ansO (f := _root_.id) hX fun M' hM => ⟨by unfold visL; omega, id, 1, rfl, hid, ho.lt, ho.at_ (hM _ hid ho.lt)⟩
def vonOk (l o : List Int) (day : Int) : Bool := ttB l o && inR 0 1000000 day
def vonA (l o : List Int) (day : Int) : List Int := if vonOk l o day then visL l o day else []
theorem specVisitsOn_rc (m : Mem) (v u : Value) (l o : List Int) (day : Int) (h : IntsA m v l) (hu : IntsA m u o) :
    RC Try.prog 57 [v, u, .int .i64 day] m (AnsO m (IntsO (vonA l o day)) fun w => .tuple #[w, .bool (vonOk l o day)]) := by
  refine rc_of_run mixed ok_spec_VisitsOn (by simp) (go_start _ _ _ ?_)
  unfold vonA vonOk
  have hX := Ext.refl m
  simp (config := {implicitDefEqProofs := false, maxDischargeDepth := 20}) (disch := first | omega | (simp only [lenE]; done) | (simp only [lenE]; omega) | rfl | (simp only [lenE, markR_len]; done) | (simp only [lenE, markR_len]; omega)) only [runE, mapE, listE, initT_5, initT_6, initT_7, initT_8, resV, oneV, binA, unA, reduceCtorEq, Nat.reduceEqDiff, Nat.reduceAdd, Nat.reduceLT, Nat.reduceLeDiff, Nat.reduceMul, Nat.reduceSub, ↓reduceIte, decide_true, decide_false, Bool.true_eq_false, Bool.false_eq_true, Bool.not_true, Bool.not_false, if_true, if_false, and_true, true_and, memE, celE, w64, Nat.zero_add, Nat.add_zero, Nat.mul_one, putL, and_self, ldn, c_spec_VisitsOn, r_spec_VisitsOn]
  refine callH_rc (l8Table_rc _ v u l o ((Sees.ext hX).ints h) ((Sees.ext hX).ints hu)) ?_
  rintro r new0 ⟨rfl, nr0⟩
  have hX := hX.app nr0
  cases g1 : ttB l o with
  | false =>
    simp (config := {implicitDefEqProofs := false, maxDischargeDepth := 20}) (disch := first | omega | (simp only [lenE]; done) | (simp only [lenE]; omega) | rfl | (simp only [lenE, markR_len]; done) | (simp only [lenE, markR_len]; omega)) only [runE, mapE, listE, initT_5, initT_6, initT_7, initT_8, resV, oneV, binA, unA, reduceCtorEq, Nat.reduceEqDiff, Nat.reduceAdd, Nat.reduceLT, Nat.reduceLeDiff, Nat.reduceMul, Nat.reduceSub, ↓reduceIte, decide_true, decide_false, Bool.true_eq_false, Bool.false_eq_true, Bool.not_true, Bool.not_false, if_true, if_false, and_true, true_and, memE, celE, w64, Nat.zero_add, Nat.add_zero, Nat.mul_one, putL, and_self, ldn, bsl_no, Bool.false_and, Bool.true_and, Bool.and_true, Bool.and_false, Bool.and_self]
    exact int_noInts (f := fun w => .tuple #[w, .bool false]) hX (by simp [roM_len])
  | true =>
  simp (config := {implicitDefEqProofs := false, maxDischargeDepth := 20}) (disch := first | omega | (simp only [lenE]; done) | (simp only [lenE]; omega) | rfl | (simp only [lenE, markR_len]; done) | (simp only [lenE, markR_len]; omega)) only [runE, mapE, listE, initT_5, initT_6, initT_7, initT_8, resV, oneV, binA, unA, reduceCtorEq, Nat.reduceEqDiff, Nat.reduceAdd, Nat.reduceLT, Nat.reduceLeDiff, Nat.reduceMul, Nat.reduceSub, ↓reduceIte, decide_true, decide_false, Bool.true_eq_false, Bool.false_eq_true, Bool.not_true, Bool.not_false, if_true, if_false, and_true, true_and, memE, celE, w64, Nat.zero_add, Nat.add_zero, Nat.mul_one, putL, and_self, ldn]
  refine callH_rc (l1In_rc _ _ _ _) ?_
  rintro r new1 ⟨rfl, rfl⟩
  rw [List.append_nil, show (decide (0 ≤ day) && decide (day ≤ 1000000)) = inR 0 1000000 day from rfl]
  cases g2 : inR 0 1000000 day with
  | false =>
    simp (config := {implicitDefEqProofs := false, maxDischargeDepth := 20}) (disch := first | omega | (simp only [lenE]; done) | (simp only [lenE]; omega) | rfl | (simp only [lenE, markR_len]; done) | (simp only [lenE, markR_len]; omega)) only [runE, mapE, listE, initT_5, initT_6, initT_7, initT_8, resV, oneV, binA, unA, reduceCtorEq, Nat.reduceEqDiff, Nat.reduceAdd, Nat.reduceLT, Nat.reduceLeDiff, Nat.reduceMul, Nat.reduceSub, ↓reduceIte, decide_true, decide_false, Bool.true_eq_false, Bool.false_eq_true, Bool.not_true, Bool.not_false, if_true, if_false, and_true, true_and, memE, celE, w64, Nat.zero_add, Nat.add_zero, Nat.mul_one, putL, and_self, ldn, bsl_no, Bool.false_and, Bool.true_and, Bool.and_true, Bool.and_false, Bool.and_self]
    exact int_noInts (f := fun w => .tuple #[w, .bool false]) hX (by simp [roM_len])
  | true =>
  simp (config := {implicitDefEqProofs := false, maxDischargeDepth := 20}) (disch := first | omega | (simp only [lenE]; done) | (simp only [lenE]; omega) | rfl | (simp only [lenE, markR_len]; done) | (simp only [lenE, markR_len]; omega)) only [runE, mapE, listE, initT_5, initT_6, initT_7, initT_8, resV, oneV, binA, unA, reduceCtorEq, Nat.reduceEqDiff, Nat.reduceAdd, Nat.reduceLT, Nat.reduceLeDiff, Nat.reduceMul, Nat.reduceSub, ↓reduceIte, decide_true, decide_false, Bool.true_eq_false, Bool.false_eq_true, Bool.not_true, Bool.not_false, if_true, if_false, and_true, true_and, memE, celE, w64, Nat.zero_add, Nat.add_zero, Nat.mul_one, putL, and_self, ldn]
  refine callH_rc (l8Visits_rc _ v u l o day ((Sees.ext hX).ints h) ((Sees.ext hX).ints hu) (ttB_iff.1 g1)) ?_
  rintro w1 new2 ⟨nr2, _, rfl, hA⟩
  simp (config := {implicitDefEqProofs := false, maxDischargeDepth := 20}) (disch := first | omega | (simp only [lenE]; done) | (simp only [lenE]; omega) | rfl | (simp only [lenE, markR_len]; done) | (simp only [lenE, markR_len]; omega)) only [runE, mapE, listE, initT_5, initT_6, initT_7, initT_8, resV, oneV, binA, unA, reduceCtorEq, Nat.reduceEqDiff, Nat.reduceAdd, Nat.reduceLT, Nat.reduceLeDiff, Nat.reduceMul, Nat.reduceSub, ↓reduceIte, decide_true, decide_false, Bool.true_eq_false, Bool.false_eq_true, Bool.not_true, Bool.not_false, if_true, if_false, and_true, true_and, memE, celE, w64, Nat.zero_add, Nat.add_zero, Nat.mul_one, putL, and_self, ldn, id_eq, Bool.false_and, Bool.true_and, Bool.and_true, Bool.and_false, Bool.and_self]
  exact Ext.pass (f := fun w => .tuple #[w, .bool true]) hX nr2 (IntsO.wide _) hA
theorem isOn_rc (m : Mem) (c x day : Int) (hc : 1 ≤ c ∧ c ≤ 64) : RC Try.prog 101 [pairV (c, x), .int .i64 day] m (AnsV (.bool (onB c x day))) := by
  refine rc_of_run mixed ok_impl_visit__isOn (by simp) (go_start _ _ _ ?_)
  have hc0 : ¬ (c = 0) := by omega
  unfold onB
  simp (config := {implicitDefEqProofs := false, maxDischargeDepth := 20}) (disch := first | omega | (simp only [lenE]; done) | (simp only [lenE]; omega) | rfl | (simp only [lenE, markR_len]; done) | (simp only [lenE, markR_len]; omega)) only [runE, mapE, listE, initT_5, initT_6, initT_7, initT_8, resV, oneV, binA, unA, reduceCtorEq, Nat.reduceEqDiff, Nat.reduceAdd, Nat.reduceLT, Nat.reduceLeDiff, Nat.reduceMul, Nat.reduceSub, ↓reduceIte, decide_true, decide_false, Bool.true_eq_false, Bool.false_eq_true, Bool.not_true, Bool.not_false, if_true, if_false, and_true, true_and, memE, celE, w64, Nat.zero_add, Nat.add_zero, Nat.mul_one, putL, and_self, ldn, c_impl_visit__isOn, r_impl_visit__isOn, pairV, hc0]
  try simp only [List.append_assoc, List.cons_append, List.nil_append, List.append_nil]
  exact ⟨_, rfl, by (repeat (first | exact noRo_nil | assumption | apply noRo_own | apply noRo_dead | apply noRo_app)), rfl, by (repeat (first | exact noRo_nil | assumption | apply noRo_own | apply noRo_dead | apply noRo_app))⟩
/-- Pairs that lie below a mark, in a memory that keeps what is below it. -/
structure PairsB (B M : Mem) (w : Value) (L : List (Int × Int)) : Prop where
  src : PairsA B w L
  le : B.length ≤ M.length
  same : ∀ i, i < B.length → M[i]? = B[i]?
theorem PairsB.refl {B : Mem} {w : Value} {L : List (Int × Int)} (h : PairsA B w L) : PairsB B B w L := ⟨h, Nat.le_refl _, fun _ _ => rfl⟩
theorem PairsB.app {B M : Mem} {w : Value} {L : List (Int × Int)} (h : PairsB B M w L) (new : Mem) : PairsB B (M ++ new) w L :=
  ⟨h.src, by rw [List.length_append]; have := h.le; omega, fun i hi => by rw [List.getElem?_append_left (by have := h.le; omega)]; exact h.same i hi⟩
theorem PairsB.dead {B M : Mem} {w : Value} {L : List (Int × Int)} (h : PairsB B M w L) {id : Nat} (hid : B.length ≤ id) : PairsB B (M.set id deadB) w L :=
  ⟨h.src, by rw [List.length_set]; exact h.le, fun i hi => by rw [List.getElem?_set_ne (by omega)]; exact h.same i hi⟩
theorem PairsB.pairs {B M : Mem} {w : Value} {L : List (Int × Int)} (h : PairsB B M w L) : PairsA M w L := by
  have hs : Sees B M := fun i b hb hd => ⟨b, by rw [h.same i (List.getElem?_eq_some_iff.1 hb).1]; exact hb, rfl, hd⟩
  exact hs.pairs h.src
theorem implVisitsOn_rc (m : Mem) (v u : Value) (l o : List Int) (day : Int) (h : IntsA m v l) (hu : IntsA m u o) :
    RC Try.prog 58 [v, u, .int .i64 day] m (AnsO m (IntsO (vonA l o day)) fun w => .tuple #[w, .bool (vonOk l o day)]) := by
  refine rc_of_run mixed ok_impl_VisitsOn (by simp) (go_start _ _ _ ?_)
  unfold vonA vonOk
  have hX := Ext.refl m
  simp (config := {implicitDefEqProofs := false, maxDischargeDepth := 20}) (disch := first | omega | (simp only [lenE]; done) | (simp only [lenE]; omega) | rfl | (simp only [lenE, markR_len]; done) | (simp only [lenE, markR_len]; omega)) only [runE, mapE, listE, initT_5, initT_6, initT_7, initT_8, resV, oneV, binA, unA, reduceCtorEq, Nat.reduceEqDiff, Nat.reduceAdd, Nat.reduceLT, Nat.reduceLeDiff, Nat.reduceMul, Nat.reduceSub, ↓reduceIte, decide_true, decide_false, Bool.true_eq_false, Bool.false_eq_true, Bool.not_true, Bool.not_false, if_true, if_false, and_true, true_and, memE, celE, w64, Nat.zero_add, Nat.add_zero, Nat.mul_one, putL, and_self, ldn, c_impl_VisitsOn, r_impl_VisitsOn]
  refine callH_rc (timetable_rc _ v u l o ((Sees.ext hX).ints h) ((Sees.ext hX).ints hu)) ?_
  rintro r new0 ⟨nr0, w, rfl, hP⟩
  have hX := hX.app nr0
  have hP := hP.now.in
  cases g1 : ttB l o with
  | false =>
    simp (config := {implicitDefEqProofs := false, maxDischargeDepth := 20}) (disch := first | omega | (simp only [lenE]; done) | (simp only [lenE]; omega) | rfl | (simp only [lenE, markR_len]; done) | (simp only [lenE, markR_len]; omega)) only [runE, mapE, listE, initT_5, initT_6, initT_7, initT_8, resV, oneV, binA, unA, reduceCtorEq, Nat.reduceEqDiff, Nat.reduceAdd, Nat.reduceLT, Nat.reduceLeDiff, Nat.reduceMul, Nat.reduceSub, ↓reduceIte, decide_true, decide_false, Bool.true_eq_false, Bool.false_eq_true, Bool.not_true, Bool.not_false, if_true, if_false, and_true, true_and, memE, celE, w64, Nat.zero_add, Nat.add_zero, Nat.mul_one, putL, and_self, ldn, ext_2_0, ext_2_1, bsl_no, Bool.false_and, Bool.true_and, Bool.and_true, Bool.and_false, Bool.and_self]
    exact int_noInts (f := fun w => .tuple #[w, .bool false]) hX (by simp [roM_len])
  | true =>
  have hT := ttB_iff.1 g1
  have hlc := hT.cyc.len
  have hol := hT.len
  have hv : visA l o = zipV l o l.length := by unfold visA; rw [g1]; rfl
  rw [hv] at hP
  have hlw := hP.len2
  rw [zipV_len] at hlw
  simp (config := {implicitDefEqProofs := false, maxDischargeDepth := 20}) (disch := first | omega | (simp only [lenE]; done) | (simp only [lenE]; omega) | rfl | (simp only [lenE, markR_len]; done) | (simp only [lenE, markR_len]; omega)) only [runE, mapE, listE, initT_5, initT_6, initT_7, initT_8, resV, oneV, binA, unA, reduceCtorEq, Nat.reduceEqDiff, Nat.reduceAdd, Nat.reduceLT, Nat.reduceLeDiff, Nat.reduceMul, Nat.reduceSub, ↓reduceIte, decide_true, decide_false, Bool.true_eq_false, Bool.false_eq_true, Bool.not_true, Bool.not_false, if_true, if_false, and_true, true_and, memE, celE, w64, Nat.zero_add, Nat.add_zero, Nat.mul_one, putL, and_self, ldn, ext_2_0, ext_2_1, Bool.false_and, Bool.true_and, Bool.and_true, Bool.and_false, Bool.and_self, hlw]
  refine callH_rc (isWithin_rc _ _ _) ?_
  rintro r new1 ⟨rfl, rfl⟩
  rw [List.append_nil, inB_inR]
  cases g2 : inR 0 1000000 day with
  | false =>
    simp (config := {implicitDefEqProofs := false, maxDischargeDepth := 20}) (disch := first | omega | (simp only [lenE]; done) | (simp only [lenE]; omega) | rfl | (simp only [lenE, markR_len]; done) | (simp only [lenE, markR_len]; omega)) only [runE, mapE, listE, initT_5, initT_6, initT_7, initT_8, resV, oneV, binA, unA, reduceCtorEq, Nat.reduceEqDiff, Nat.reduceAdd, Nat.reduceLT, Nat.reduceLeDiff, Nat.reduceMul, Nat.reduceSub, ↓reduceIte, decide_true, decide_false, Bool.true_eq_false, Bool.false_eq_true, Bool.not_true, Bool.not_false, if_true, if_false, and_true, true_and, memE, celE, w64, Nat.zero_add, Nat.add_zero, Nat.mul_one, putL, and_self, ldn, bsl_no, Bool.false_and, Bool.true_and, Bool.and_true, Bool.and_false, Bool.and_self]
    exact int_noInts (f := fun w => .tuple #[w, .bool false]) hX (by simp [roM_len])
  | true =>
  simp (config := {implicitDefEqProofs := false, maxDischargeDepth := 20}) (disch := first | omega | (simp only [lenE]; done) | (simp only [lenE]; omega) | rfl | (simp only [lenE, markR_len]; done) | (simp only [lenE, markR_len]; omega)) only [runE, mapE, listE, initT_5, initT_6, initT_7, initT_8, resV, oneV, binA, unA, reduceCtorEq, Nat.reduceEqDiff, Nat.reduceAdd, Nat.reduceLT, Nat.reduceLeDiff, Nat.reduceMul, Nat.reduceSub, ↓reduceIte, decide_true, decide_false, Bool.true_eq_false, Bool.false_eq_true, Bool.not_true, Bool.not_false, if_true, if_false, and_true, true_and, memE, celE, w64, Nat.zero_add, Nat.add_zero, Nat.mul_one, putL, and_self, ldn, bsl_none, hlw, Bool.false_and, Bool.true_and, Bool.and_true, Bool.and_false, Bool.and_self, if_true]
  obtain ⟨B, hB⟩ : ∃ B, B = roM m ++ new0 := ⟨_, rfl⟩
  have hP : PairsA B w (zipV l o l.length) := by rw [hB]; exact hP
  rw [← hB] at hX ⊢
  have LB : m.length + new0.length = B.length := by rw [hB, List.length_append, roM_len]
  rw [LB]
  clear hB
  have hge := hX.len
  refine loop_inv mixed (fun s => ∃ (k : Nat) (M : Mem) (id : Nat), k ≤ l.length ∧ s.m = M ∧ Ext m M ∧ m.length ≤ id ∧ OwnR M id (visTo l o day k) ∧ PairsB B M w (zipV l o l.length) ∧ B.length ≤ id ∧ s.t 2 = .int .i64 day ∧ s.t 10 = .slice (some ⟨id, 0, none⟩) (visTo l o day k).length 1 ∧ s.t 28 = w ∧ s.t 29 = .int .i64 (l.length : Int) ∧ s.t 30 = .int .i64 (k : Int)) (fun s => l.length - (intOf (s.t 30)).toNat)
    ⟨0, _, B.length, by omega, rfl, hX.one _ _, hge, by exact OwnR.here B [] B.length rfl, (PairsB.refl hP).app _, Nat.le_refl _, rfl, rfl, rfl, rfl, rfl⟩ ?_
  rintro s ⟨k, M, id, hk, tm, hX, hid, ho, hPB, hidB, t2, t10, t28, t29, t30⟩
  have hP := hPB.pairs
  have hvl := visTo_len l o day k
  by_cases hkl : k < l.length
  · have hlt : (k : Int) < l.length := by omega
    have i1 := hP.at2 (k := k) (by rw [zipV_len]; exact hkl)
    have i2 := hP.ld2 (k := k) (by rw [zipV_len]; exact hkl)
    rw [zipV_at l o l.length k hkl] at i2
    have n1 := hT.nums hkl
    have hstep : visTo l o day (k + 1) = visTo l o day k ++ (if onB (l.getD k 0) (o.getD k 0) day then [(k : Int)] else []) := rfl
    simp (config := {implicitDefEqProofs := false, maxDischargeDepth := 20}) (disch := first | omega | (simp only [lenE]; done) | (simp only [lenE]; omega) | rfl | (simp only [lenE, markR_len]; done) | (simp only [lenE, markR_len]; omega)) only [runE, mapE, listE, initT_5, initT_6, initT_7, initT_8, resV, oneV, binA, unA, reduceCtorEq, Nat.reduceEqDiff, Nat.reduceAdd, Nat.reduceLT, Nat.reduceLeDiff, Nat.reduceMul, Nat.reduceSub, ↓reduceIte, decide_true, decide_false, Bool.true_eq_false, Bool.false_eq_true, Bool.not_true, Bool.not_false, if_true, if_false, and_true, true_and, memE, celE, w64, Nat.zero_add, Nat.add_zero, Nat.mul_one, putL, and_self, ldn, tm, t2, t10, t28, t29, t30, hlt, i1, i2, pairV, stP_agg2]
    obtain ⟨F, hF⟩ : ∃ F, F = M ++ [⟨.own, 96, [.int .i64 (l.getD k 0), .int .i64 (o.getD k 0)]⟩] := ⟨_, rfl⟩
    rw [← hF]
    have hXF : Ext m F := by rw [hF]; exact hX.one _ _
    have hoF : OwnR F id (visTo l o day k) := by rw [hF]; exact ho.ext _
    have hPF : PairsB B F w (zipV l o l.length) := by rw [hF]; exact hPB.app _
    clear hF
    refine callH_rc (isOn_rc _ (l.getD k 0) (o.getD k 0) day n1.1) ?_
    rintro r new ⟨rfl, nrn⟩
    cases hb : onB (l.getD k 0) (o.getD k 0) day with
    | true =>
      rw [hb, if_pos rfl] at hstep
      have hap := app_num (x := (k : Int)) (id2 := F.length + new.length) (hoF.ext new) (by omega) (by simp) rfl
      rw [← hstep] at hap
      simp (config := {implicitDefEqProofs := false, maxDischargeDepth := 20}) (disch := first | omega | (simp only [lenE]; done) | (simp only [lenE]; omega) | rfl | (simp only [lenE, markR_len]; done) | (simp only [lenE, markR_len]; omega)) only [runE, mapE, listE, initT_5, initT_6, initT_7, initT_8, resV, oneV, binA, unA, reduceCtorEq, Nat.reduceEqDiff, Nat.reduceAdd, Nat.reduceLT, Nat.reduceLeDiff, Nat.reduceMul, Nat.reduceSub, ↓reduceIte, decide_true, decide_false, Bool.true_eq_false, Bool.false_eq_true, Bool.not_true, Bool.not_false, if_true, if_false, and_true, true_and, memE, celE, w64, Nat.zero_add, Nat.add_zero, Nat.mul_one, putL, and_self, ldn, tm, t2, t10, t28, t29, t30, bsl_one, hap]
      refine ⟨⟨k + 1, _, F.length + new.length + 1, by omega, rfl, (((hXF.app nrn).dead hid).one _ _).one _ _, ?_, OwnR.here _ _ _ ?_, (((hPF.app _).dead hidB).app _).app _, ?_, ?_, by simp⟩, ?_⟩
      · have := hXF.len; omega
      · simp
      · have := hPF.le; omega
      · rw [hstep, List.length_append]; rfl
      · simp [intOf]; omega
    | false =>
      rw [hb] at hstep
      simp only [Bool.false_eq_true, if_false, List.append_nil] at hstep
      simp (config := {implicitDefEqProofs := false, maxDischargeDepth := 20}) (disch := first | omega | (simp only [lenE]; done) | (simp only [lenE]; omega) | rfl | (simp only [lenE, markR_len]; done) | (simp only [lenE, markR_len]; omega)) only [runE, mapE, listE, initT_5, initT_6, initT_7, initT_8, resV, oneV, binA, unA, reduceCtorEq, Nat.reduceEqDiff, Nat.reduceAdd, Nat.reduceLT, Nat.reduceLeDiff, Nat.reduceMul, Nat.reduceSub, ↓reduceIte, decide_true, decide_false, Bool.true_eq_false, Bool.false_eq_true, Bool.not_true, Bool.not_false, if_true, if_false, and_true, true_and, memE, celE, w64, Nat.zero_add, Nat.add_zero, Nat.mul_one, putL, and_self, ldn, tm, t2, t10, t28, t29, t30]
      refine ⟨⟨k + 1, _, _, by omega, rfl, hXF.app nrn, hid, by rw [hstep]; exact hoF.ext _, hPF.app _, hidB, by rw [hstep], by simp⟩, ?_⟩
      simp [intOf]; omega
  · have hlt : ¬ ((k : Int) < l.length) := by omega
    have e : k = l.length := by omega
    subst e
    simp (config := {implicitDefEqProofs := false, maxDischargeDepth := 20}) (disch := first | omega | (simp only [lenE]; done) | (simp only [lenE]; omega) | rfl | (simp only [lenE, markR_len]; done) | (simp only [lenE, markR_len]; omega)) only [runE, mapE, listE, initT_5, initT_6, initT_7, initT_8, resV, oneV, binA, unA, reduceCtorEq, Nat.reduceEqDiff, Nat.reduceAdd, Nat.reduceLT, Nat.reduceLeDiff, Nat.reduceMul, Nat.reduceSub, ↓reduceIte, decide_true, decide_false, Bool.true_eq_false, Bool.false_eq_true, Bool.not_true, Bool.not_false, if_true, if_false, and_true, true_and, memE, celE, w64, Nat.zero_add, Nat.add_zero, Nat.mul_one, putL, and_self, ldn, tm, t2, t10, t28, t29, t30, hlt]
    refine ext_ansO (f := fun w => .tuple #[w, .bool true]) hX fun M' hM => ⟨by unfold visL; omega, id, 1, rfl, hid, ho.lt, ho.at_ (hM _ hid ho.lt)⟩
/-! Days. -/
def dbOk (l o : List Int) (days : Int) : Bool := ttB l o && inR 0 1000 days
def dbA (l o : List Int) (days : Int) : Int := if dbOk l o days then busyTo l o days.toNat else 0
theorem specDaysBusy_rc (m : Mem) (v u : Value) (l o : List Int) (days : Int) (h : IntsA m v l) (hu : IntsA m u o) :
    RC Try.prog 59 [v, u, .int .i64 days] m (AnsV (.tuple #[.int .i64 (dbA l o days), .bool (dbOk l o days)])) := by
  refine rc_of_run mixed ok_spec_DaysBusy (by simp) (go_start _ _ _ ?_)
  unfold dbA dbOk
  have hX := Ext.refl m
  simp (config := {implicitDefEqProofs := false, maxDischargeDepth := 20}) (disch := first | omega | (simp only [lenE]; done) | (simp only [lenE]; omega) | rfl | (simp only [lenE, markR_len]; done) | (simp only [lenE, markR_len]; omega)) only [runE, mapE, listE, initT_5, initT_6, initT_7, initT_8, resV, oneV, binA, unA, reduceCtorEq, Nat.reduceEqDiff, Nat.reduceAdd, Nat.reduceLT, Nat.reduceLeDiff, Nat.reduceMul, Nat.reduceSub, ↓reduceIte, decide_true, decide_false, Bool.true_eq_false, Bool.false_eq_true, Bool.not_true, Bool.not_false, if_true, if_false, and_true, true_and, memE, celE, w64, Nat.zero_add, Nat.add_zero, Nat.mul_one, putL, and_self, ldn, c_spec_DaysBusy, r_spec_DaysBusy]
  refine callH_rc (l8Table_rc _ v u l o ((Sees.ext hX).ints h) ((Sees.ext hX).ints hu)) ?_
  rintro r new0 ⟨rfl, nr0⟩
  have hX := hX.app nr0
  cases g1 : ttB l o with
  | false =>
    simp (config := {implicitDefEqProofs := false, maxDischargeDepth := 20}) (disch := first | omega | (simp only [lenE]; done) | (simp only [lenE]; omega) | rfl | (simp only [lenE, markR_len]; done) | (simp only [lenE, markR_len]; omega)) only [runE, mapE, listE, initT_5, initT_6, initT_7, initT_8, resV, oneV, binA, unA, reduceCtorEq, Nat.reduceEqDiff, Nat.reduceAdd, Nat.reduceLT, Nat.reduceLeDiff, Nat.reduceMul, Nat.reduceSub, ↓reduceIte, decide_true, decide_false, Bool.true_eq_false, Bool.false_eq_true, Bool.not_true, Bool.not_false, if_true, if_false, and_true, true_and, memE, celE, w64, Nat.zero_add, Nat.add_zero, Nat.mul_one, putL, and_self, ldn, Bool.false_and, Bool.true_and, Bool.and_true, Bool.and_false, Bool.and_self]
    exact ext_ansV hX rfl
  | true =>
  have hT := ttB_iff.1 g1
  simp (config := {implicitDefEqProofs := false, maxDischargeDepth := 20}) (disch := first | omega | (simp only [lenE]; done) | (simp only [lenE]; omega) | rfl | (simp only [lenE, markR_len]; done) | (simp only [lenE, markR_len]; omega)) only [runE, mapE, listE, initT_5, initT_6, initT_7, initT_8, resV, oneV, binA, unA, reduceCtorEq, Nat.reduceEqDiff, Nat.reduceAdd, Nat.reduceLT, Nat.reduceLeDiff, Nat.reduceMul, Nat.reduceSub, ↓reduceIte, decide_true, decide_false, Bool.true_eq_false, Bool.false_eq_true, Bool.not_true, Bool.not_false, if_true, if_false, and_true, true_and, memE, celE, w64, Nat.zero_add, Nat.add_zero, Nat.mul_one, putL, and_self, ldn]
  refine callH_rc (l1In_rc _ _ _ _) ?_
  rintro r new1 ⟨rfl, rfl⟩
  rw [List.append_nil, show (decide (0 ≤ days) && decide (days ≤ 1000)) = inR 0 1000 days from rfl]
  cases g2 : inR 0 1000 days with
  | false =>
    simp (config := {implicitDefEqProofs := false, maxDischargeDepth := 20}) (disch := first | omega | (simp only [lenE]; done) | (simp only [lenE]; omega) | rfl | (simp only [lenE, markR_len]; done) | (simp only [lenE, markR_len]; omega)) only [runE, mapE, listE, initT_5, initT_6, initT_7, initT_8, resV, oneV, binA, unA, reduceCtorEq, Nat.reduceEqDiff, Nat.reduceAdd, Nat.reduceLT, Nat.reduceLeDiff, Nat.reduceMul, Nat.reduceSub, ↓reduceIte, decide_true, decide_false, Bool.true_eq_false, Bool.false_eq_true, Bool.not_true, Bool.not_false, if_true, if_false, and_true, true_and, memE, celE, w64, Nat.zero_add, Nat.add_zero, Nat.mul_one, putL, and_self, ldn, Bool.false_and, Bool.true_and, Bool.and_true, Bool.and_false, Bool.and_self]
    exact ext_ansV hX rfl
  | true =>
  have hd := inR_iff.1 g2
  obtain ⟨n, rfl⟩ := Int.eq_ofNat_of_zero_le hd.1
  simp (config := {implicitDefEqProofs := false, maxDischargeDepth := 20}) (disch := first | omega | (simp only [lenE]; done) | (simp only [lenE]; omega) | rfl | (simp only [lenE, markR_len]; done) | (simp only [lenE, markR_len]; omega)) only [runE, mapE, listE, initT_5, initT_6, initT_7, initT_8, resV, oneV, binA, unA, reduceCtorEq, Nat.reduceEqDiff, Nat.reduceAdd, Nat.reduceLT, Nat.reduceLeDiff, Nat.reduceMul, Nat.reduceSub, ↓reduceIte, decide_true, decide_false, Bool.true_eq_false, Bool.false_eq_true, Bool.not_true, Bool.not_false, if_true, if_false, and_true, true_and, memE, celE, w64, Nat.zero_add, Nat.add_zero, Nat.mul_one, putL, and_self, ldn, Bool.false_and, Bool.true_and, Bool.and_true, Bool.and_false, Bool.and_self, if_true, Int.toNat_natCast]
  refine loop_inv mixed (fun s => ∃ (k : Nat) (M : Mem), k ≤ n ∧ s.m = M ∧ Ext m M ∧ s.t 0 = v ∧ s.t 1 = u ∧ s.t 2 = .int .i64 (n : Int) ∧ s.t 8 = .int .i64 (busyTo l o k) ∧ s.t 9 = .int .i64 (k : Int)) (fun s => n - (intOf (s.t 9)).toNat)
    ⟨0, _, by omega, rfl, hX, rfl, rfl, rfl, rfl, rfl⟩ ?_
  rintro s ⟨k, M, hk, tm, hX, t0, t1, t2, t8, t9⟩
  have hbz := busyTo_bd l o k
  by_cases hkn : k < n
  · have hlt : (k : Int) < n := by omega
    simp (config := {implicitDefEqProofs := false, maxDischargeDepth := 20}) (disch := first | omega | (simp only [lenE]; done) | (simp only [lenE]; omega) | rfl | (simp only [lenE, markR_len]; done) | (simp only [lenE, markR_len]; omega)) only [runE, mapE, listE, initT_5, initT_6, initT_7, initT_8, resV, oneV, binA, unA, reduceCtorEq, Nat.reduceEqDiff, Nat.reduceAdd, Nat.reduceLT, Nat.reduceLeDiff, Nat.reduceMul, Nat.reduceSub, ↓reduceIte, decide_true, decide_false, Bool.true_eq_false, Bool.false_eq_true, Bool.not_true, Bool.not_false, if_true, if_false, and_true, true_and, memE, celE, w64, Nat.zero_add, Nat.add_zero, Nat.mul_one, putL, and_self, ldn, tm, t0, t1, t2, t8, t9, hlt]
    refine callH_rc (l8Visits_rc _ v u l o (k : Int) ((Sees.ext hX).ints h) ((Sees.ext hX).ints hu) hT) ?_
    rintro w new ⟨nrn, _, rfl, hA⟩
    have hlw := hA.now.in.len
    have hstep : busyTo l o (k + 1) = busyTo l o k + (if 0 < (visL l o k).length then 1 else 0) := rfl
    by_cases hp : 0 < (visL l o k).length
    · have hp' : (0 : Int) < ((visL l o k).length : Int) := by omega
      rw [if_pos hp] at hstep
      simp (config := {implicitDefEqProofs := false, maxDischargeDepth := 20}) (disch := first | omega | (simp only [lenE]; done) | (simp only [lenE]; omega) | rfl | (simp only [lenE, markR_len]; done) | (simp only [lenE, markR_len]; omega)) only [runE, mapE, listE, initT_5, initT_6, initT_7, initT_8, resV, oneV, binA, unA, reduceCtorEq, Nat.reduceEqDiff, Nat.reduceAdd, Nat.reduceLT, Nat.reduceLeDiff, Nat.reduceMul, Nat.reduceSub, ↓reduceIte, decide_true, decide_false, Bool.true_eq_false, Bool.false_eq_true, Bool.not_true, Bool.not_false, if_true, if_false, and_true, true_and, memE, celE, w64, Nat.zero_add, Nat.add_zero, Nat.mul_one, putL, and_self, ldn, tm, t0, t1, t2, t8, t9, id_eq, hlw, hp', gt_iff_lt]
      refine ⟨⟨k + 1, _, by omega, rfl, hX.app nrn, by rw [hstep], by simp⟩, ?_⟩
      simp [intOf]; omega
    · have hp' : ¬ ((0 : Int) < ((visL l o k).length : Int)) := by omega
      rw [if_neg hp, Int.add_zero] at hstep
      simp (config := {implicitDefEqProofs := false, maxDischargeDepth := 20}) (disch := first | omega | (simp only [lenE]; done) | (simp only [lenE]; omega) | rfl | (simp only [lenE, markR_len]; done) | (simp only [lenE, markR_len]; omega)) only [runE, mapE, listE, initT_5, initT_6, initT_7, initT_8, resV, oneV, binA, unA, reduceCtorEq, Nat.reduceEqDiff, Nat.reduceAdd, Nat.reduceLT, Nat.reduceLeDiff, Nat.reduceMul, Nat.reduceSub, ↓reduceIte, decide_true, decide_false, Bool.true_eq_false, Bool.false_eq_true, Bool.not_true, Bool.not_false, if_true, if_false, and_true, true_and, memE, celE, w64, Nat.zero_add, Nat.add_zero, Nat.mul_one, putL, and_self, ldn, tm, t0, t1, t2, t8, t9, id_eq, hlw, hp', gt_iff_lt]
      refine ⟨⟨k + 1, _, by omega, rfl, hX.app nrn, by rw [hstep], by simp⟩, ?_⟩
      simp [intOf]; omega
  · have hlt : ¬ ((k : Int) < n) := by omega
    have e : k = n := by omega
    subst e
    simp (config := {implicitDefEqProofs := false, maxDischargeDepth := 20}) (disch := first | omega | (simp only [lenE]; done) | (simp only [lenE]; omega) | rfl | (simp only [lenE, markR_len]; done) | (simp only [lenE, markR_len]; omega)) only [runE, mapE, listE, initT_5, initT_6, initT_7, initT_8, resV, oneV, binA, unA, reduceCtorEq, Nat.reduceEqDiff, Nat.reduceAdd, Nat.reduceLT, Nat.reduceLeDiff, Nat.reduceMul, Nat.reduceSub, ↓reduceIte, decide_true, decide_false, Bool.true_eq_false, Bool.false_eq_true, Bool.not_true, Bool.not_false, if_true, if_false, and_true, true_and, memE, celE, w64, Nat.zero_add, Nat.add_zero, Nat.mul_one, putL, and_self, ldn, tm, t0, t1, t2, t8, t9, hlt]
    exact ext_ansV hX rfl
theorem dayTest_rc (m : Mem) (id : Nat) (c x day : Int) (hc : 1 ≤ c ∧ c ≤ 64) (h : rdc m id 0 = some (.int .i64 day)) : RC Try.prog 102 [pairV (c, x), .pointer (some ⟨id, 0, none⟩)] m (AnsV (.bool (onB c x day))) := by
  refine rc_of_run mixed ok_impl_DaysBusy_1 (by simp) (go_start _ _ _ ?_)
  have h' : ∀ b, rdc (roM m ++ [b]) id 0 = some (.int .i64 day) := fun b => rdc_ext ((rdc_roM m id 0).trans h)
  simp (config := {implicitDefEqProofs := false, maxDischargeDepth := 20}) (disch := first | omega | (simp only [lenE]; done) | (simp only [lenE]; omega) | rfl | (simp only [lenE, markR_len]; done) | (simp only [lenE, markR_len]; omega)) only [runE, mapE, listE, initT_5, initT_6, initT_7, initT_8, resV, oneV, binA, unA, reduceCtorEq, Nat.reduceEqDiff, Nat.reduceAdd, Nat.reduceLT, Nat.reduceLeDiff, Nat.reduceMul, Nat.reduceSub, ↓reduceIte, decide_true, decide_false, Bool.true_eq_false, Bool.false_eq_true, Bool.not_true, Bool.not_false, if_true, if_false, and_true, true_and, memE, celE, w64, Nat.zero_add, Nat.add_zero, Nat.mul_one, putL, and_self, ldn, c_impl_DaysBusy_1, r_impl_DaysBusy_1, pairV, h']
  obtain ⟨F, hF⟩ : ∃ F, F = roM m ++ [⟨.own, 96, [.int .i64 c, .int .i64 x]⟩] := ⟨_, rfl⟩
  rw [← hF]
  have hXF : Ext m F := by rw [hF]; exact (Ext.refl m).one _ _
  clear hF
  refine callH_rc (isOn_rc _ c x day hc) ?_
  rintro r new ⟨rfl, nrn⟩
  simp (config := {implicitDefEqProofs := false, maxDischargeDepth := 20}) (disch := first | omega | (simp only [lenE]; done) | (simp only [lenE]; omega) | rfl | (simp only [lenE, markR_len]; done) | (simp only [lenE, markR_len]; omega)) only [runE, mapE, listE, initT_5, initT_6, initT_7, initT_8, resV, oneV, binA, unA, reduceCtorEq, Nat.reduceEqDiff, Nat.reduceAdd, Nat.reduceLT, Nat.reduceLeDiff, Nat.reduceMul, Nat.reduceSub, ↓reduceIte, decide_true, decide_false, Bool.true_eq_false, Bool.false_eq_true, Bool.not_true, Bool.not_false, if_true, if_false, and_true, true_and, memE, celE, w64, Nat.zero_add, Nat.add_zero, Nat.mul_one, putL, and_self, ldn]
  exact ext_ansV (hXF.app nrn) rfl
theorem implDaysBusy_rc (m : Mem) (v u : Value) (l o : List Int) (days : Int) (h : IntsA m v l) (hu : IntsA m u o) :
    RC Try.prog 60 [v, u, .int .i64 days] m (AnsV (.tuple #[.int .i64 (dbA l o days), .bool (dbOk l o days)])) := by
  refine rc_of_run mixed ok_impl_DaysBusy (by simp) (go_start _ _ _ ?_)
  unfold dbA dbOk
  have hX := Ext.refl m
  simp (config := {implicitDefEqProofs := false, maxDischargeDepth := 20}) (disch := first | omega | (simp only [lenE]; done) | (simp only [lenE]; omega) | rfl | (simp only [lenE, markR_len]; done) | (simp only [lenE, markR_len]; omega)) only [runE, mapE, listE, initT_5, initT_6, initT_7, initT_8, resV, oneV, binA, unA, reduceCtorEq, Nat.reduceEqDiff, Nat.reduceAdd, Nat.reduceLT, Nat.reduceLeDiff, Nat.reduceMul, Nat.reduceSub, ↓reduceIte, decide_true, decide_false, Bool.true_eq_false, Bool.false_eq_true, Bool.not_true, Bool.not_false, if_true, if_false, and_true, true_and, memE, celE, w64, Nat.zero_add, Nat.add_zero, Nat.mul_one, putL, and_self, ldn, c_impl_DaysBusy, r_impl_DaysBusy]
  refine callH_rc (timetable_rc _ v u l o ((Sees.ext hX).ints h) ((Sees.ext hX).ints hu)) ?_
  rintro r new0 ⟨nr0, w, rfl, hP⟩
  have hX := hX.app nr0
  have hP := hP.now.in
  cases g1 : ttB l o with
  | false =>
    simp (config := {implicitDefEqProofs := false, maxDischargeDepth := 20}) (disch := first | omega | (simp only [lenE]; done) | (simp only [lenE]; omega) | rfl | (simp only [lenE, markR_len]; done) | (simp only [lenE, markR_len]; omega)) only [runE, mapE, listE, initT_5, initT_6, initT_7, initT_8, resV, oneV, binA, unA, reduceCtorEq, Nat.reduceEqDiff, Nat.reduceAdd, Nat.reduceLT, Nat.reduceLeDiff, Nat.reduceMul, Nat.reduceSub, ↓reduceIte, decide_true, decide_false, Bool.true_eq_false, Bool.false_eq_true, Bool.not_true, Bool.not_false, if_true, if_false, and_true, true_and, memE, celE, w64, Nat.zero_add, Nat.add_zero, Nat.mul_one, putL, and_self, ldn, ext_2_0, ext_2_1, Bool.false_and, Bool.true_and, Bool.and_true, Bool.and_false, Bool.and_self]
    exact ext_ansV hX rfl
  | true =>
  have hT := ttB_iff.1 g1
  have hlc := hT.cyc.len
  have hol := hT.len
  have hv : visA l o = zipV l o l.length := by unfold visA; rw [g1]; rfl
  rw [hv] at hP
  simp (config := {implicitDefEqProofs := false, maxDischargeDepth := 20}) (disch := first | omega | (simp only [lenE]; done) | (simp only [lenE]; omega) | rfl | (simp only [lenE, markR_len]; done) | (simp only [lenE, markR_len]; omega)) only [runE, mapE, listE, initT_5, initT_6, initT_7, initT_8, resV, oneV, binA, unA, reduceCtorEq, Nat.reduceEqDiff, Nat.reduceAdd, Nat.reduceLT, Nat.reduceLeDiff, Nat.reduceMul, Nat.reduceSub, ↓reduceIte, decide_true, decide_false, Bool.true_eq_false, Bool.false_eq_true, Bool.not_true, Bool.not_false, if_true, if_false, and_true, true_and, memE, celE, w64, Nat.zero_add, Nat.add_zero, Nat.mul_one, putL, and_self, ldn, ext_2_0, ext_2_1, Bool.false_and, Bool.true_and, Bool.and_true, Bool.and_false, Bool.and_self]
  refine callH_rc (isWithin_rc _ _ _) ?_
  rintro r new1 ⟨rfl, rfl⟩
  rw [List.append_nil, inB_inR]
  cases g2 : inR 0 1000 days with
  | false =>
    simp (config := {implicitDefEqProofs := false, maxDischargeDepth := 20}) (disch := first | omega | (simp only [lenE]; done) | (simp only [lenE]; omega) | rfl | (simp only [lenE, markR_len]; done) | (simp only [lenE, markR_len]; omega)) only [runE, mapE, listE, initT_5, initT_6, initT_7, initT_8, resV, oneV, binA, unA, reduceCtorEq, Nat.reduceEqDiff, Nat.reduceAdd, Nat.reduceLT, Nat.reduceLeDiff, Nat.reduceMul, Nat.reduceSub, ↓reduceIte, decide_true, decide_false, Bool.true_eq_false, Bool.false_eq_true, Bool.not_true, Bool.not_false, if_true, if_false, and_true, true_and, memE, celE, w64, Nat.zero_add, Nat.add_zero, Nat.mul_one, putL, and_self, ldn, Bool.false_and, Bool.true_and, Bool.and_true, Bool.and_false, Bool.and_self]
    exact ext_ansV hX rfl
  | true =>
  have hd := inR_iff.1 g2
  obtain ⟨n, rfl⟩ := Int.eq_ofNat_of_zero_le hd.1
  simp (config := {implicitDefEqProofs := false, maxDischargeDepth := 20}) (disch := first | omega | (simp only [lenE]; done) | (simp only [lenE]; omega) | rfl | (simp only [lenE, markR_len]; done) | (simp only [lenE, markR_len]; omega)) only [runE, mapE, listE, initT_5, initT_6, initT_7, initT_8, resV, oneV, binA, unA, reduceCtorEq, Nat.reduceEqDiff, Nat.reduceAdd, Nat.reduceLT, Nat.reduceLeDiff, Nat.reduceMul, Nat.reduceSub, ↓reduceIte, decide_true, decide_false, Bool.true_eq_false, Bool.false_eq_true, Bool.not_true, Bool.not_false, if_true, if_false, and_true, true_and, memE, celE, w64, Nat.zero_add, Nat.add_zero, Nat.mul_one, putL, and_self, ldn, Bool.false_and, Bool.true_and, Bool.and_true, Bool.and_false, Bool.and_self, if_true, Int.toNat_natCast]
  refine loop_inv mixed (fun s => ∃ (k : Nat) (M : Mem), k ≤ n ∧ s.m = M ∧ Ext m M ∧ PairsA M w (zipV l o l.length) ∧ s.t 8 = w ∧ s.t 10 = .int .i64 (busyTo l o k) ∧ s.t 25 = .int .i64 (n : Int) ∧ s.t 26 = .int .i64 (k : Int)) (fun s => n - (intOf (s.t 26)).toNat)
    ⟨0, _, by omega, rfl, hX, hP, rfl, rfl, rfl, rfl⟩ ?_
  rintro s ⟨k, M, hk, tm, hX, hP, t8, t10, t25, t26⟩
  have hbz := busyTo_bd l o k
  by_cases hkn : k < n
  · have hlt : (k : Int) < n := by omega
    simp (config := {implicitDefEqProofs := false, maxDischargeDepth := 20}) (disch := first | omega | (simp only [lenE]; done) | (simp only [lenE]; omega) | rfl | (simp only [lenE, markR_len]; done) | (simp only [lenE, markR_len]; omega)) only [runE, mapE, listE, initT_5, initT_6, initT_7, initT_8, resV, oneV, binA, unA, reduceCtorEq, Nat.reduceEqDiff, Nat.reduceAdd, Nat.reduceLT, Nat.reduceLeDiff, Nat.reduceMul, Nat.reduceSub, ↓reduceIte, decide_true, decide_false, Bool.true_eq_false, Bool.false_eq_true, Bool.not_true, Bool.not_false, if_true, if_false, and_true, true_and, memE, celE, w64, Nat.zero_add, Nat.add_zero, Nat.mul_one, putL, and_self, ldn, tm, t8, t10, t25, t26, hlt]
    obtain ⟨F, hF⟩ : ∃ F, F = M ++ [⟨.own, 3, [.int .i64 (k : Int)]⟩] := ⟨_, rfl⟩
    rw [← hF]
    have hXF : Ext m F := by rw [hF]; exact hX.one _ _
    have hPF : PairsA F w (zipV l o l.length) := by rw [hF]; exact hP.ext _
    have oF : OwnB F M.length 3 [.int .i64 (k : Int)] := by rw [hF]; exact OwnB.here rfl
    clear hF
    have hT2 : TestV F (.func (.func 102) #[] #[.pointer (some ⟨M.length, 0, none⟩)]) (zipV l o l.length) (fun p => onB p.1 p.2 k) := by
      refine ⟨_, [], [.pointer (some ⟨M.length, 0, none⟩)], rfl, fun M' p hs hp => ?_⟩
      have np := visits_in hT hp
      exact dayTest_rc M' M.length p.1 p.2 k np.1 (hs.rdc (oF.rd 0))
    refine callH_rc (containsV_rc _ w _ _ _ hPF hT2) ?_
    rintro r new ⟨rfl, nrn⟩
    have hstep : busyTo l o (k + 1) = busyTo l o k + (if 0 < (visL l o k).length then 1 else 0) := rfl
    rw [any_visits, show visTo l o k l.length = visL l o k from rfl]
    by_cases hp : 0 < (visL l o k).length
    · rw [if_pos hp] at hstep
      rw [decide_eq_true hp]
      simp (config := {implicitDefEqProofs := false, maxDischargeDepth := 20}) (disch := first | omega | (simp only [lenE]; done) | (simp only [lenE]; omega) | rfl | (simp only [lenE, markR_len]; done) | (simp only [lenE, markR_len]; omega)) only [runE, mapE, listE, initT_5, initT_6, initT_7, initT_8, resV, oneV, binA, unA, reduceCtorEq, Nat.reduceEqDiff, Nat.reduceAdd, Nat.reduceLT, Nat.reduceLeDiff, Nat.reduceMul, Nat.reduceSub, ↓reduceIte, decide_true, decide_false, Bool.true_eq_false, Bool.false_eq_true, Bool.not_true, Bool.not_false, if_true, if_false, and_true, true_and, memE, celE, w64, Nat.zero_add, Nat.add_zero, Nat.mul_one, putL, and_self, ldn, tm, t8, t10, t25, t26]
      refine ⟨⟨k + 1, _, by omega, rfl, hXF.app nrn, hPF.ext _, by rw [hstep], by simp⟩, ?_⟩
      simp [intOf]; omega
    · rw [if_neg hp, Int.add_zero] at hstep
      rw [decide_eq_false hp]
      simp (config := {implicitDefEqProofs := false, maxDischargeDepth := 20}) (disch := first | omega | (simp only [lenE]; done) | (simp only [lenE]; omega) | rfl | (simp only [lenE, markR_len]; done) | (simp only [lenE, markR_len]; omega)) only [runE, mapE, listE, initT_5, initT_6, initT_7, initT_8, resV, oneV, binA, unA, reduceCtorEq, Nat.reduceEqDiff, Nat.reduceAdd, Nat.reduceLT, Nat.reduceLeDiff, Nat.reduceMul, Nat.reduceSub, ↓reduceIte, decide_true, decide_false, Bool.true_eq_false, Bool.false_eq_true, Bool.not_true, Bool.not_false, if_true, if_false, and_true, true_and, memE, celE, w64, Nat.zero_add, Nat.add_zero, Nat.mul_one, putL, and_self, ldn, tm, t8, t10, t25, t26]
      refine ⟨⟨k + 1, _, by omega, rfl, hXF.app nrn, hPF.ext _, by rw [hstep], by simp⟩, ?_⟩
      simp [intOf]; omega
  · have hlt : ¬ ((k : Int) < n) := by omega
    have e : k = n := by omega
    subst e
    simp (config := {implicitDefEqProofs := false, maxDischargeDepth := 20}) (disch := first | omega | (simp only [lenE]; done) | (simp only [lenE]; omega) | rfl | (simp only [lenE, markR_len]; done) | (simp only [lenE, markR_len]; omega)) only [runE, mapE, listE, initT_5, initT_6, initT_7, initT_8, resV, oneV, binA, unA, reduceCtorEq, Nat.reduceEqDiff, Nat.reduceAdd, Nat.reduceLT, Nat.reduceLeDiff, Nat.reduceMul, Nat.reduceSub, ↓reduceIte, decide_true, decide_false, Bool.true_eq_false, Bool.false_eq_true, Bool.not_true, Bool.not_false, if_true, if_false, and_true, true_and, memE, celE, w64, Nat.zero_add, Nat.add_zero, Nat.mul_one, putL, and_self, ldn, tm, t8, t10, t25, t26, hlt]
    exact ext_ansV hX rfl
end Go.Proofs.Ytmjnjhdacliieaa.Ab
