/- Shelves: lost and wasted units, costs. -/
import Derived.Test.YtihjcjhnkpkomaaAbSh3
import Derived.Test.YtihjcjhnkpkomaaAbNilRow
namespace Go.Proofs.Ytihjcjhnkpkomaa.Ab
open Go Go.RowKit
set_option linter.unusedVariables false
set_option linter.unusedSimpArgs false

theorem leftArr_len (s : Sh) (T : List (List Int)) (k : Nat) : (leftArr s T k).length = s.need.length := by simp [leftArr]
theorem leftNeed_len (s : Sh) (T : List (List Int)) (k : Nat) : (leftNeed s T k).length = s.need.length := by simp [leftNeed]
theorem leftArr_at {s : Sh} {T : List (List Int)} {k f : Nat} (h : f < s.need.length) : (leftArr s T k).getD f 0 = s.arr.getD f 0 - colT T f k := by rw [leftArr, mapD9 h]
theorem leftNeed_at {s : Sh} {T : List (List Int)} {k r : Nat} (h : r < s.need.length) (hk : r < k) : (leftNeed s T k).getD r 0 = s.need.getD r 0 - sumTo (T.getD r []) s.need.length := by rw [leftNeed, mapD9 h, if_pos hk]
def lostA (s : Sh) (T : List (List Int)) : List Int := if two9 s T then leftNeed s T T.length else []
def wastA (s : Sh) (T : List (List Int)) : List Int := if two9 s T then leftArr s T T.length else []
def cost9A (s : Sh) (T : List (List Int)) : Int := if two9 s T then s.lost * (leftNeed s T T.length).sum + s.waste * (leftArr s T T.length).sum else 0
/-- What an issue's rows are. -/
structure Iss (s : Sh) (T : List (List Int)) : Prop where
  g : GoodSh s
  l : T.length = s.need.length
  len : ∀ t, t < T.length → (T.getD t []).length = s.need.length
  bd : ∀ t f, t < T.length → f < s.need.length → 0 ≤ (T.getD t []).getD f 0 ∧ (T.getD t []).getD f 0 ≤ 20
  sum : ∀ t, t < T.length → ∀ k, 0 ≤ sumTo (T.getD t []) k ∧ sumTo (T.getD t []) k ≤ 20 * k
  la : ∀ x ∈ leftArr s T T.length, 0 ≤ x ∧ x ≤ 20
  ln : ∀ x ∈ leftNeed s T T.length, 0 ≤ x ∧ x ≤ 20
theorem iss_of {s : Sh} {T : List (List Int)} (h : two9 s T = true) : Iss s T := by
  obtain ⟨g, l, hr⟩ := two9_iff.1 h
  have row : ∀ t, t < T.length → Go.Proofs.Ytihjcjhnkpkomaa.rowB (T.getD t []) s.need.length 20 = true := fun t ht => ((irow_iff g (by omega)).1 (hr.1 t (by omega))).1
  refine ⟨g, l, fun t ht => (hr.1 t (by omega)).1, fun t f ht hf => memD9 (rowB_iff.1 (row t ht)).1 (by rw [(rowB_iff.1 (row t ht)).2]; exact hf), fun t ht k => sumTo_bound (by omega) (rowB_iff.1 (row t ht)).1 k, ?_, ?_⟩
  · rw [l]; exact (left_bd g hr).1
  · rw [l]; exact (left_bd g hr).2
/-- The first rows of what is lost, or wasted. -/
def lostTo (s : Sh) (T : List (List Int)) (k : Nat) : List Int := (List.range k).map fun t => s.need.getD t 0 - sumTo (T.getD t []) (T.getD t []).length
def wastTo (s : Sh) (T : List (List Int)) (k : Nat) : List Int := (List.range k).map fun f => s.arr.getD f 0 - colT T f T.length
theorem lostTo_s (s : Sh) (T : List (List Int)) (k : Nat) : lostTo s T (k + 1) = lostTo s T k ++ [s.need.getD k 0 - sumTo (T.getD k []) (T.getD k []).length] := by simp [lostTo, List.range_succ]
theorem wastTo_s (s : Sh) (T : List (List Int)) (k : Nat) : wastTo s T (k + 1) = wastTo s T k ++ [s.arr.getD k 0 - colT T k T.length] := by simp [wastTo, List.range_succ]
theorem lostTo_len (s : Sh) (T : List (List Int)) (k : Nat) : (lostTo s T k).length = k := by simp [lostTo]
theorem wastTo_len (s : Sh) (T : List (List Int)) (k : Nat) : (wastTo s T k).length = k := by simp [wastTo]
theorem lost_all {s : Sh} {T : List (List Int)} (h : Iss s T) : lostTo s T T.length = leftNeed s T T.length := by
  have l := h.l
  refine extD9 (n := s.need.length) (by rw [lostTo_len, l]) (leftNeed_len _ _ _) fun i hi => ?_
  rw [leftNeed_at hi (by omega), lostTo, mapD9 (by omega), h.len i (by omega)]
theorem wast_all {s : Sh} {T : List (List Int)} (h : Iss s T) : wastTo s T T.length = leftArr s T T.length := by
  have l := h.l
  refine extD9 (n := s.need.length) (by rw [wastTo_len, l]) (leftArr_len _ _ _) fun i hi => ?_
  rw [leftArr_at hi, wastTo, mapD9 (by omega)]
theorem l9Lost_rc (m : Mem) (v vt : Value) (s : Sh) (T : List (List Int)) (h : ShA m v s) (hT : TabA m vt T) (hI : Iss s T) :
    RC Try.prog 71 [v, vt] m (AnsO m (IntsO (leftNeed s T T.length)) _root_.id) := by
  refine rc_of_run mixed ok_spec_l9Lost (by simp) (go_start _ _ _ ?_)
  obtain ⟨a, b, rfl, ha, hb⟩ := h.ro
  have n8 := hI.g.n8
  have hl := hI.l
  have hX := ((Ext.refl m).one 27 [.int .i64 s.life, a, b, .int .i64 s.waste, .int .i64 s.lost]).one 3 (([] : List Int).map (Value.int .i64))
  have o1 : OwnB (roM m ++ [⟨.own, 27, [.int .i64 s.life, a, b, .int .i64 s.waste, .int .i64 s.lost]⟩] ++ [⟨.own, 3, ([] : List Int).map (Value.int .i64)⟩]) m.length 27 [.int .i64 s.life, a, b, .int .i64 s.waste, .int .i64 s.lost] := (OwnB.here (roM_len m).symm).ext _
  have r1 : OwnR (roM m ++ [⟨.own, 27, [.int .i64 s.life, a, b, .int .i64 s.waste, .int .i64 s.lost]⟩] ++ [⟨.own, 3, ([] : List Int).map (Value.int .i64)⟩]) (m.length + 1) [] := OwnR.end' (by simp [roM_len])
  simp (config := {implicitDefEqProofs := false, maxDischargeDepth := 20}) (disch := first | omega | (simp only [lenE]; done) | (simp only [lenE]; omega) | rfl | (simp only [lenE, markR_len]; done) | (simp only [lenE, markR_len]; omega)) only [runE, mapE, listE, initT_5, initT_6, initT_7, initT_8, resV, oneV, binA, unA, reduceCtorEq, Nat.reduceEqDiff, Nat.reduceAdd, Nat.reduceLT, Nat.reduceLeDiff, Nat.reduceMul, Nat.reduceSub, ↓reduceIte, decide_true, decide_false, Bool.true_eq_false, Bool.false_eq_true, Bool.not_true, Bool.not_false, if_true, if_false, and_true, true_and, memE, celE, w64, Nat.zero_add, Nat.add_zero, Nat.mul_one, putL, and_self, ldn, c_spec_l9Lost, r_spec_l9Lost, bsl_none]
  refine loop_inv mixed (fun s' => ∃ (k : Nat) (M : Mem) (id : Nat), k ≤ T.length ∧ s'.m = M ∧ Ext m M ∧ OwnB M m.length 27 [.int .i64 s.life, a, b, .int .i64 s.waste, .int .i64 s.lost] ∧ m.length < id ∧ OwnR M id (lostTo s T k) ∧ s'.t 1 = vt ∧ s'.t 2 = .pointer (some ⟨m.length, 0, none⟩) ∧ s'.t 5 = .slice (some ⟨id, 0, none⟩) k 1 ∧ s'.t 6 = .int .i64 (k : Int)) (fun s' => T.length - (intOf (s'.t 6)).toNat)
    ⟨0, _, m.length + 1, by omega, rfl, hX, o1, by omega, r1, rfl, rfl, rfl, rfl⟩ ?_
  rintro s' ⟨k, M, id, hk, tm, hX, o1, hid, r1, t1, t2, t5, t6⟩
  have hTM := TabA.xt hT hX
  by_cases hlt : k < T.length
  · have hlt' : (k : Int) < T.length := by omega
    obtain ⟨w, w1, w2⟩ := hT.rowAt hX hlt
    have wi := hX.ints w2
    have sb := hI.sum k hlt
    have xb := hX.ints hb
    have lk := hI.len k hlt
    simp (config := {implicitDefEqProofs := false, maxDischargeDepth := 20}) (disch := first | omega | (simp only [lenE]; done) | (simp only [lenE]; omega) | rfl | (simp only [lenE, markR_len]; done) | (simp only [lenE, markR_len]; omega)) only [runE, mapE, listE, initT_5, initT_6, initT_7, initT_8, resV, oneV, binA, unA, reduceCtorEq, Nat.reduceEqDiff, Nat.reduceAdd, Nat.reduceLT, Nat.reduceLeDiff, Nat.reduceMul, Nat.reduceSub, ↓reduceIte, decide_true, decide_false, Bool.true_eq_false, Bool.false_eq_true, Bool.not_true, Bool.not_false, if_true, if_false, and_true, true_and, memE, celE, w64, Nat.zero_add, Nat.add_zero, Nat.mul_one, putL, and_self, ldn, tm, t1, t2, t5, t6, hTM.len, hlt', o1.rd, xb.at_ k (by omega), xb.ld k (by omega), hTM.at_ k hlt, w1]
    refine rcallH_rc (l2Sum_rc _ w (T.getD k []) wi (fun j hj => by have := sb j; omega)) ?_
    rintro r new ⟨rfl, rfl⟩
    have sbk := sb (T.getD k []).length
    have nb := memD9 hI.g.need (k := k) (by omega)
    have happ := app_num (x := s.need.getD k 0 - sumTo (T.getD k []) (T.getD k []).length) (id2 := M.length) (n := k) r1 (by rw [lostTo_len]; omega) rfl (by rw [lostTo_len])
    simp (config := {implicitDefEqProofs := false, maxDischargeDepth := 20}) (disch := first | omega | (simp only [lenE]; done) | (simp only [lenE]; omega) | rfl | (simp only [lenE, markR_len]; done) | (simp only [lenE, markR_len]; omega)) only [runE, mapE, listE, initT_5, initT_6, initT_7, initT_8, resV, oneV, binA, unA, reduceCtorEq, Nat.reduceEqDiff, Nat.reduceAdd, Nat.reduceLT, Nat.reduceLeDiff, Nat.reduceMul, Nat.reduceSub, ↓reduceIte, decide_true, decide_false, Bool.true_eq_false, Bool.false_eq_true, Bool.not_true, Bool.not_false, if_true, if_false, and_true, true_and, memE, celE, w64, Nat.zero_add, Nat.add_zero, Nat.mul_one, putL, and_self, ldn, tm, t1, t2, t5, t6, bsl_one, happ]
    have hidl := r1.lt
    have hl2 := hX.len
    refine ⟨⟨k + 1, _, M.length + 1, by omega, rfl, ((hX.dead (by omega)).one _ _).one _ _, o1.at_ (same_gen (by omega) hidl), by omega, ?_, rfl, by simp⟩, ?_⟩
    · rw [lostTo_s]
      exact OwnB.here (by simp)
    · simp [intOf]; omega
  · have hlt' : ¬ ((k : Int) < T.length) := by omega
    have e : k = T.length := by omega
    subst e
    simp (config := {implicitDefEqProofs := false, maxDischargeDepth := 20}) (disch := first | omega | (simp only [lenE]; done) | (simp only [lenE]; omega) | rfl | (simp only [lenE, markR_len]; done) | (simp only [lenE, markR_len]; omega)) only [runE, mapE, listE, initT_5, initT_6, initT_7, initT_8, resV, oneV, binA, unA, reduceCtorEq, Nat.reduceEqDiff, Nat.reduceAdd, Nat.reduceLT, Nat.reduceLeDiff, Nat.reduceMul, Nat.reduceSub, ↓reduceIte, decide_true, decide_false, Bool.true_eq_false, Bool.false_eq_true, Bool.not_true, Bool.not_false, if_true, if_false, and_true, true_and, memE, celE, w64, Nat.zero_add, Nat.add_zero, Nat.mul_one, putL, and_self, ldn, tm, t1, t2, t5, t6, hTM.len, hlt']
    rw [lost_all hI] at r1
    refine ext_ansO (f := _root_.id) hX fun M' hM => ?_
    have := IntsA.ownO (fl := 1) (lo := m.length) (hi := M.length) (r1.at_ (hM _ (by omega) r1.lt)) (by rw [leftNeed_len]; omega) (by omega) r1.lt
    rw [leftNeed_len, ← hl] at this
    exact this
theorem l9Wasted_rc (m : Mem) (v vt : Value) (s : Sh) (T : List (List Int)) (h : ShA m v s) (hT : TabA m vt T) (hI : Iss s T) :
    RC Try.prog 72 [v, vt] m (AnsO m (IntsO (leftArr s T T.length)) _root_.id) := by
  refine rc_of_run mixed ok_spec_l9Wasted (by simp) (go_start _ _ _ ?_)
  obtain ⟨a, b, rfl, ha, hb⟩ := h.ro
  have n8 := hI.g.n8
  have hl := hI.l
  have hX := ((Ext.refl m).one 27 [.int .i64 s.life, a, b, .int .i64 s.waste, .int .i64 s.lost]).one 3 (([] : List Int).map (Value.int .i64))
  have o1 : OwnB (roM m ++ [⟨.own, 27, [.int .i64 s.life, a, b, .int .i64 s.waste, .int .i64 s.lost]⟩] ++ [⟨.own, 3, ([] : List Int).map (Value.int .i64)⟩]) m.length 27 [.int .i64 s.life, a, b, .int .i64 s.waste, .int .i64 s.lost] := (OwnB.here (roM_len m).symm).ext _
  have r1 : OwnR (roM m ++ [⟨.own, 27, [.int .i64 s.life, a, b, .int .i64 s.waste, .int .i64 s.lost]⟩] ++ [⟨.own, 3, ([] : List Int).map (Value.int .i64)⟩]) (m.length + 1) [] := OwnR.end' (by simp [roM_len])
  simp (config := {implicitDefEqProofs := false, maxDischargeDepth := 20}) (disch := first | omega | (simp only [lenE]; done) | (simp only [lenE]; omega) | rfl | (simp only [lenE, markR_len]; done) | (simp only [lenE, markR_len]; omega)) only [runE, mapE, listE, initT_5, initT_6, initT_7, initT_8, resV, oneV, binA, unA, reduceCtorEq, Nat.reduceEqDiff, Nat.reduceAdd, Nat.reduceLT, Nat.reduceLeDiff, Nat.reduceMul, Nat.reduceSub, ↓reduceIte, decide_true, decide_false, Bool.true_eq_false, Bool.false_eq_true, Bool.not_true, Bool.not_false, if_true, if_false, and_true, true_and, memE, celE, w64, Nat.zero_add, Nat.add_zero, Nat.mul_one, putL, and_self, ldn, c_spec_l9Wasted, r_spec_l9Wasted, bsl_none]
  refine loop_inv mixed (fun s' => ∃ (k : Nat) (M : Mem) (id : Nat), k ≤ T.length ∧ s'.m = M ∧ Ext m M ∧ OwnB M m.length 27 [.int .i64 s.life, a, b, .int .i64 s.waste, .int .i64 s.lost] ∧ m.length < id ∧ OwnR M id (wastTo s T k) ∧ s'.t 1 = vt ∧ s'.t 2 = .pointer (some ⟨m.length, 0, none⟩) ∧ s'.t 5 = .slice (some ⟨id, 0, none⟩) k 1 ∧ s'.t 6 = .int .i64 (k : Int)) (fun s' => T.length - (intOf (s'.t 6)).toNat)
    ⟨0, _, m.length + 1, by omega, rfl, hX, o1, by omega, r1, rfl, rfl, rfl, rfl⟩ ?_
  rintro s' ⟨k, M, id, hk, tm, hX, o1, hid, r1, t1, t2, t5, t6⟩
  have hTM := TabA.xt hT hX
  by_cases hlt : k < T.length
  · have hlt' : (k : Int) < T.length := by omega
    obtain ⟨w, w1, w2⟩ := hT.rowAt hX hlt
    have wi := hX.ints w2
    have sb := hI.sum k hlt
    have xa := hX.ints ha
    have hla := hI.g.la
    have lk := hI.len k hlt
    simp (config := {implicitDefEqProofs := false, maxDischargeDepth := 20}) (disch := first | omega | (simp only [lenE]; done) | (simp only [lenE]; omega) | rfl | (simp only [lenE, markR_len]; done) | (simp only [lenE, markR_len]; omega)) only [runE, mapE, listE, initT_5, initT_6, initT_7, initT_8, resV, oneV, binA, unA, reduceCtorEq, Nat.reduceEqDiff, Nat.reduceAdd, Nat.reduceLT, Nat.reduceLeDiff, Nat.reduceMul, Nat.reduceSub, ↓reduceIte, decide_true, decide_false, Bool.true_eq_false, Bool.false_eq_true, Bool.not_true, Bool.not_false, if_true, if_false, and_true, true_and, memE, celE, w64, Nat.zero_add, Nat.add_zero, Nat.mul_one, putL, and_self, ldn, tm, t1, t2, t5, t6, hTM.len, hlt', o1.rd, xa.at_ k (by omega), xa.ld k (by omega)]
    refine rcallH_rc (column_rc M vt T k hTM (fun t ht => by rw [hI.len t ht]; omega) (fun t ht => by have := hI.bd t k ht (by omega); omega) (by omega)) ?_
    rintro r new ⟨rfl, rfl⟩
    have ab := memD9 hI.g.arr (k := k) (by omega)
    have lb := memD9 hI.la (k := k) (by rw [leftArr_len]; omega)
    rw [leftArr_at (by omega)] at lb
    have happ := app_num (x := s.arr.getD k 0 - colT T k T.length) (id2 := M.length) (n := k) r1 (by rw [wastTo_len]; omega) rfl (by rw [wastTo_len])
    simp (config := {implicitDefEqProofs := false, maxDischargeDepth := 20}) (disch := first | omega | (simp only [lenE]; done) | (simp only [lenE]; omega) | rfl | (simp only [lenE, markR_len]; done) | (simp only [lenE, markR_len]; omega)) only [runE, mapE, listE, initT_5, initT_6, initT_7, initT_8, resV, oneV, binA, unA, reduceCtorEq, Nat.reduceEqDiff, Nat.reduceAdd, Nat.reduceLT, Nat.reduceLeDiff, Nat.reduceMul, Nat.reduceSub, ↓reduceIte, decide_true, decide_false, Bool.true_eq_false, Bool.false_eq_true, Bool.not_true, Bool.not_false, if_true, if_false, and_true, true_and, memE, celE, w64, Nat.zero_add, Nat.add_zero, Nat.mul_one, putL, and_self, ldn, tm, t1, t2, t5, t6, bsl_one, happ]
    have hidl := r1.lt
    have hl2 := hX.len
    refine ⟨⟨k + 1, _, M.length + 1, by omega, rfl, ((hX.dead (by omega)).one _ _).one _ _, o1.at_ (same_gen (by omega) hidl), by omega, ?_, rfl, by simp⟩, ?_⟩
    · rw [wastTo_s]
      exact OwnB.here (by simp)
    · simp [intOf]; omega
  · have hlt' : ¬ ((k : Int) < T.length) := by omega
    have e : k = T.length := by omega
    subst e
    simp (config := {implicitDefEqProofs := false, maxDischargeDepth := 20}) (disch := first | omega | (simp only [lenE]; done) | (simp only [lenE]; omega) | rfl | (simp only [lenE, markR_len]; done) | (simp only [lenE, markR_len]; omega)) only [runE, mapE, listE, initT_5, initT_6, initT_7, initT_8, resV, oneV, binA, unA, reduceCtorEq, Nat.reduceEqDiff, Nat.reduceAdd, Nat.reduceLT, Nat.reduceLeDiff, Nat.reduceMul, Nat.reduceSub, ↓reduceIte, decide_true, decide_false, Bool.true_eq_false, Bool.false_eq_true, Bool.not_true, Bool.not_false, if_true, if_false, and_true, true_and, memE, celE, w64, Nat.zero_add, Nat.add_zero, Nat.mul_one, putL, and_self, ldn, tm, t1, t2, t5, t6, hTM.len, hlt']
    rw [wast_all hI] at r1
    refine ext_ansO (f := _root_.id) hX fun M' hM => ?_
    have := IntsA.ownO (fl := 1) (lo := m.length) (hi := M.length) (r1.at_ (hM _ (by omega) r1.lt)) (by rw [leftArr_len]; omega) (by omega) r1.lt
    rw [leftArr_len, ← hl] at this
    exact this
theorem specLostNeeds_rc (m : Mem) (v vt : Value) (s : Sh) (T : List (List Int)) (h : ShA m v s) (hT : TabA m vt T) :
    RC Try.prog 33 [v, vt] m (AnsO m (IntsO (lostA s T)) fun v => .tuple #[v, .bool (two9 s T)]) := by
  refine rc_of_run mixed ok_spec_LostNeeds (by simp) (go_start _ _ _ ?_)
  obtain ⟨a, b, rfl, ha, hb⟩ := h.ro
  have hX := (Ext.refl m).one 27 [.int .i64 s.life, a, b, .int .i64 s.waste, .int .i64 s.lost]
  simp (config := {implicitDefEqProofs := false, maxDischargeDepth := 20}) (disch := first | omega | (simp only [lenE]; done) | (simp only [lenE]; omega) | rfl | (simp only [lenE, markR_len]; done) | (simp only [lenE, markR_len]; omega)) only [runE, mapE, listE, initT_5, initT_6, initT_7, initT_8, resV, oneV, binA, unA, reduceCtorEq, Nat.reduceEqDiff, Nat.reduceAdd, Nat.reduceLT, Nat.reduceLeDiff, Nat.reduceMul, Nat.reduceSub, ↓reduceIte, decide_true, decide_false, Bool.true_eq_false, Bool.false_eq_true, Bool.not_true, Bool.not_false, if_true, if_false, and_true, true_and, memE, celE, w64, Nat.zero_add, Nat.add_zero, Nat.mul_one, putL, and_self, ldn, c_spec_LostNeeds, r_spec_LostNeeds]
  obtain ⟨M0, hM0⟩ : ∃ M0, M0 = roM m ++ [⟨.own, 27, [.int .i64 s.life, a, b, .int .i64 s.waste, .int .i64 s.lost]⟩] := ⟨_, rfl⟩
  have o1 : OwnB M0 m.length 27 [.int .i64 s.life, a, b, .int .i64 s.waste, .int .i64 s.lost] := by rw [hM0]; exact OwnB.here (by simp [roM_len])
  rw [← hM0] at hX ⊢
  refine callH_rc (l9Two_rc _ _ vt s T (ShA.mk (hX.ints ha) (hX.ints hb)) (TabA.xt hT hX)) ?_
  rintro r n1 ⟨rfl, nr1⟩
  replace hX := hX.app nr1
  replace o1 := o1.ext n1
  obtain ⟨M1, hM1⟩ : ∃ M1, M1 = M0 ++ n1 := ⟨_, rfl⟩
  rw [← hM1] at hX o1 ⊢
  unfold lostA
  cases h2 : two9 s T with
  | false =>
    simp (config := {implicitDefEqProofs := false, maxDischargeDepth := 20}) (disch := first | omega | (simp only [lenE]; done) | (simp only [lenE]; omega) | rfl | (simp only [lenE, markR_len]; done) | (simp only [lenE, markR_len]; omega)) only [runE, mapE, listE, initT_5, initT_6, initT_7, initT_8, resV, oneV, binA, unA, reduceCtorEq, Nat.reduceEqDiff, Nat.reduceAdd, Nat.reduceLT, Nat.reduceLeDiff, Nat.reduceMul, Nat.reduceSub, ↓reduceIte, decide_true, decide_false, Bool.true_eq_false, Bool.false_eq_true, Bool.not_true, Bool.not_false, if_true, if_false, and_true, true_and, memE, celE, w64, Nat.zero_add, Nat.add_zero, Nat.mul_one, putL, and_self, ldn, bsl_no]
    exact ext_noInts (f := fun v => .tuple #[v, .bool false]) hX rfl
  | true =>
    have hI := iss_of h2
    simp (config := {implicitDefEqProofs := false, maxDischargeDepth := 20}) (disch := first | omega | (simp only [lenE]; done) | (simp only [lenE]; omega) | rfl | (simp only [lenE, markR_len]; done) | (simp only [lenE, markR_len]; omega)) only [runE, mapE, listE, initT_5, initT_6, initT_7, initT_8, resV, oneV, binA, unA, reduceCtorEq, Nat.reduceEqDiff, Nat.reduceAdd, Nat.reduceLT, Nat.reduceLeDiff, Nat.reduceMul, Nat.reduceSub, ↓reduceIte, decide_true, decide_false, Bool.true_eq_false, Bool.false_eq_true, Bool.not_true, Bool.not_false, if_true, if_false, and_true, true_and, memE, celE, w64, Nat.zero_add, Nat.add_zero, Nat.mul_one, putL, and_self, ldn, o1.rd]
    refine callH_rc (l9Lost_rc _ _ vt s T (ShA.mk (hX.ints ha) (hX.ints hb)) (TabA.xt hT hX) hI) ?_
    rintro r n2 ⟨nr2, w, rfl, hw⟩
    simp (config := {implicitDefEqProofs := false, maxDischargeDepth := 20}) (disch := first | omega | (simp only [lenE]; done) | (simp only [lenE]; omega) | rfl | (simp only [lenE, markR_len]; done) | (simp only [lenE, markR_len]; omega)) only [runE, mapE, listE, initT_5, initT_6, initT_7, initT_8, resV, oneV, binA, unA, reduceCtorEq, Nat.reduceEqDiff, Nat.reduceAdd, Nat.reduceLT, Nat.reduceLeDiff, Nat.reduceMul, Nat.reduceSub, ↓reduceIte, decide_true, decide_false, Bool.true_eq_false, Bool.false_eq_true, Bool.not_true, Bool.not_false, if_true, if_false, and_true, true_and, memE, celE, w64, Nat.zero_add, Nat.add_zero, Nat.mul_one, putL, and_self, ldn]
    exact Ext.pass (f := fun v => .tuple #[v, .bool true]) hX nr2 (IntsO.wide _) hw
theorem implLostNeeds_pre (m : Mem) (v vt : Value) (s : Sh) (T : List (List Int)) (h : ShA m v s) (hT : TabA m vt T) :
    RC Try.prog 34 [v, vt] m fun r new => AnsO m (IntsO (lostA s T)) (fun v => .tuple #[v, .bool (two9 s T)]) r new ∨ ((two9 s T = false) ∧ NoRo new ∧ r = .tuple #[.slice none 0 0, .bool (two9 s T)]) := by
  refine rc_of_run mixed ok_impl_LostNeeds (by simp) (go_start _ _ _ ?_)
  obtain ⟨a, b, rfl, ha, hb⟩ := h.ro
  have hX := (Ext.refl m).one 27 [.int .i64 s.life, a, b, .int .i64 s.waste, .int .i64 s.lost]
  simp (config := {implicitDefEqProofs := false, maxDischargeDepth := 20}) (disch := first | omega | (simp only [lenE]; done) | (simp only [lenE]; omega) | rfl | (simp only [lenE, markR_len]; done) | (simp only [lenE, markR_len]; omega)) only [runE, mapE, listE, initT_5, initT_6, initT_7, initT_8, resV, oneV, binA, unA, reduceCtorEq, Nat.reduceEqDiff, Nat.reduceAdd, Nat.reduceLT, Nat.reduceLeDiff, Nat.reduceMul, Nat.reduceSub, ↓reduceIte, decide_true, decide_false, Bool.true_eq_false, Bool.false_eq_true, Bool.not_true, Bool.not_false, if_true, if_false, and_true, true_and, memE, celE, w64, Nat.zero_add, Nat.add_zero, Nat.mul_one, putL, and_self, ldn, c_impl_LostNeeds, r_impl_LostNeeds]
  obtain ⟨M0, hM0⟩ : ∃ M0, M0 = roM m ++ [⟨.own, 27, [.int .i64 s.life, a, b, .int .i64 s.waste, .int .i64 s.lost]⟩] := ⟨_, rfl⟩
  have hl0 : M0.length = m.length + 1 := by rw [hM0]; simp [roM_len]
  rw [← hM0] at hX ⊢
  refine callH_rc (leftOf_rc _ _ vt s T (ShA.mk (hX.ints ha) (hX.ints hb)) (TabA.xt hT hX)) ?_
  rintro r n2 ⟨nr2, ⟨hb1, rfl⟩ | ⟨hb1, w, rfl, ia, ib, fa, fb, hne, ga, gb, rfl, oa, ob⟩⟩
  · simp (config := {implicitDefEqProofs := false, maxDischargeDepth := 20}) (disch := first | omega | (simp only [lenE]; done) | (simp only [lenE]; omega) | rfl | (simp only [lenE, markR_len]; done) | (simp only [lenE, markR_len]; omega)) only [runE, mapE, listE, initT_5, initT_6, initT_7, initT_8, resV, oneV, binA, unA, reduceCtorEq, Nat.reduceEqDiff, Nat.reduceAdd, Nat.reduceLT, Nat.reduceLeDiff, Nat.reduceMul, Nat.reduceSub, ↓reduceIte, decide_true, decide_false, Bool.true_eq_false, Bool.false_eq_true, Bool.not_true, Bool.not_false, if_true, if_false, and_true, true_and, memE, celE, w64, Nat.zero_add, Nat.add_zero, Nat.mul_one, putL, and_self, ldn, ext_2_0, ext_2_1, noShV, stP_agg5']
    obtain ⟨n0, e0, nr0⟩ := (hX.app nr2).one 27 [.int .i64 0, .slice none 0 0, .slice none 0 0, .int .i64 0, .int .i64 0]
    rw [e0]
    refine ⟨n0, rfl, nr0, .inr ⟨hb1, nr0, ?_⟩⟩
    rw [hb1]
  · have hI := iss_of hb1
    have hl := hI.l
    have n8 := hI.g.n8
    have la := oa.lt
    have lb := ob.lt
    simp (config := {implicitDefEqProofs := false, maxDischargeDepth := 20}) (disch := first | omega | (simp only [lenE]; done) | (simp only [lenE]; omega) | rfl | (simp only [lenE, markR_len]; done) | (simp only [lenE, markR_len]; omega)) only [runE, mapE, listE, initT_5, initT_6, initT_7, initT_8, resV, oneV, binA, unA, reduceCtorEq, Nat.reduceEqDiff, Nat.reduceAdd, Nat.reduceLT, Nat.reduceLeDiff, Nat.reduceMul, Nat.reduceSub, ↓reduceIte, decide_true, decide_false, Bool.true_eq_false, Bool.false_eq_true, Bool.not_true, Bool.not_false, if_true, if_false, and_true, true_and, memE, celE, w64, Nat.zero_add, Nat.add_zero, Nat.mul_one, putL, and_self, ldn, ext_2_0, ext_2_1, stP_agg5']
    rw [hb1]
    have hX2 := (hX.app nr2).one 27 [.int .i64 s.life, .slice (some ⟨ia, 0, none⟩) (leftArr s T T.length).length fa, .slice (some ⟨ib, 0, none⟩) (leftNeed s T T.length).length fb, .int .i64 s.waste, .int .i64 s.lost]
    have hq : newQ m (AnsO m (IntsO (lostA s T)) (fun v => .tuple #[v, .bool true])) (.tuple #[.slice (some ⟨ib, 0, none⟩) (leftNeed s T T.length).length fb, .bool true]) (M0 ++ n2 ++ [⟨.own, 27, [.int .i64 s.life, .slice (some ⟨ia, 0, none⟩) (leftArr s T T.length).length fa, .slice (some ⟨ib, 0, none⟩) (leftNeed s T T.length).length fb, .int .i64 s.waste, .int .i64 s.lost]⟩]) := by
      unfold lostA
      rw [hb1, if_pos rfl]
      refine ext_ansO (f := fun v => .tuple #[v, .bool true]) hX2 fun M' hM => ?_
      have hlt : ib < (M0 ++ n2 ++ [⟨.own, 27, [.int .i64 s.life, .slice (some ⟨ia, 0, none⟩) (leftArr s T T.length).length fa, .slice (some ⟨ib, 0, none⟩) (leftNeed s T T.length).length fb, .int .i64 s.waste, .int .i64 s.lost]⟩] : Mem).length := by rw [List.length_append]; omega
      exact IntsA.ownO ((ob.ext _).at_ (hM _ (by omega) hlt)) (by rw [leftNeed_len]; omega) (by omega) hlt
    obtain ⟨n0, e0, nr0, q⟩ := hq
    exact ⟨n0, e0, nr0, .inl q⟩
theorem implLostNeeds_rc (m : Mem) (v vt : Value) (s : Sh) (T : List (List Int)) (h : ShA m v s) (hT : TabA m vt T) :
    RC Try.prog 34 [v, vt] m (AnsO m (IntsO (lostA s T)) fun v => .tuple #[v, .bool (two9 s T)]) := by
  refine rc_nilRow9 (implLostNeeds_pre m v vt s T h hT) fun new hp hn => ?_
  unfold lostA
  rw [hp]
  exact nilRow_ans hn
theorem specWasted_rc (m : Mem) (v vt : Value) (s : Sh) (T : List (List Int)) (h : ShA m v s) (hT : TabA m vt T) :
    RC Try.prog 38 [v, vt] m (AnsO m (IntsO (wastA s T)) fun v => .tuple #[v, .bool (two9 s T)]) := by
  refine rc_of_run mixed ok_spec_WastedUnits (by simp) (go_start _ _ _ ?_)
  obtain ⟨a, b, rfl, ha, hb⟩ := h.ro
  have hX := (Ext.refl m).one 27 [.int .i64 s.life, a, b, .int .i64 s.waste, .int .i64 s.lost]
  simp (config := {implicitDefEqProofs := false, maxDischargeDepth := 20}) (disch := first | omega | (simp only [lenE]; done) | (simp only [lenE]; omega) | rfl | (simp only [lenE, markR_len]; done) | (simp only [lenE, markR_len]; omega)) only [runE, mapE, listE, initT_5, initT_6, initT_7, initT_8, resV, oneV, binA, unA, reduceCtorEq, Nat.reduceEqDiff, Nat.reduceAdd, Nat.reduceLT, Nat.reduceLeDiff, Nat.reduceMul, Nat.reduceSub, ↓reduceIte, decide_true, decide_false, Bool.true_eq_false, Bool.false_eq_true, Bool.not_true, Bool.not_false, if_true, if_false, and_true, true_and, memE, celE, w64, Nat.zero_add, Nat.add_zero, Nat.mul_one, putL, and_self, ldn, c_spec_WastedUnits, r_spec_WastedUnits]
  obtain ⟨M0, hM0⟩ : ∃ M0, M0 = roM m ++ [⟨.own, 27, [.int .i64 s.life, a, b, .int .i64 s.waste, .int .i64 s.lost]⟩] := ⟨_, rfl⟩
  have o1 : OwnB M0 m.length 27 [.int .i64 s.life, a, b, .int .i64 s.waste, .int .i64 s.lost] := by rw [hM0]; exact OwnB.here (by simp [roM_len])
  rw [← hM0] at hX ⊢
  refine callH_rc (l9Two_rc _ _ vt s T (ShA.mk (hX.ints ha) (hX.ints hb)) (TabA.xt hT hX)) ?_
  rintro r n1 ⟨rfl, nr1⟩
  replace hX := hX.app nr1
  replace o1 := o1.ext n1
  obtain ⟨M1, hM1⟩ : ∃ M1, M1 = M0 ++ n1 := ⟨_, rfl⟩
  rw [← hM1] at hX o1 ⊢
  unfold wastA
  cases h2 : two9 s T with
  | false =>
    simp (config := {implicitDefEqProofs := false, maxDischargeDepth := 20}) (disch := first | omega | (simp only [lenE]; done) | (simp only [lenE]; omega) | rfl | (simp only [lenE, markR_len]; done) | (simp only [lenE, markR_len]; omega)) only [runE, mapE, listE, initT_5, initT_6, initT_7, initT_8, resV, oneV, binA, unA, reduceCtorEq, Nat.reduceEqDiff, Nat.reduceAdd, Nat.reduceLT, Nat.reduceLeDiff, Nat.reduceMul, Nat.reduceSub, ↓reduceIte, decide_true, decide_false, Bool.true_eq_false, Bool.false_eq_true, Bool.not_true, Bool.not_false, if_true, if_false, and_true, true_and, memE, celE, w64, Nat.zero_add, Nat.add_zero, Nat.mul_one, putL, and_self, ldn, bsl_no]
    exact ext_noInts (f := fun v => .tuple #[v, .bool false]) hX rfl
  | true =>
    have hI := iss_of h2
    simp (config := {implicitDefEqProofs := false, maxDischargeDepth := 20}) (disch := first | omega | (simp only [lenE]; done) | (simp only [lenE]; omega) | rfl | (simp only [lenE, markR_len]; done) | (simp only [lenE, markR_len]; omega)) only [runE, mapE, listE, initT_5, initT_6, initT_7, initT_8, resV, oneV, binA, unA, reduceCtorEq, Nat.reduceEqDiff, Nat.reduceAdd, Nat.reduceLT, Nat.reduceLeDiff, Nat.reduceMul, Nat.reduceSub, ↓reduceIte, decide_true, decide_false, Bool.true_eq_false, Bool.false_eq_true, Bool.not_true, Bool.not_false, if_true, if_false, and_true, true_and, memE, celE, w64, Nat.zero_add, Nat.add_zero, Nat.mul_one, putL, and_self, ldn, o1.rd]
    refine callH_rc (l9Wasted_rc _ _ vt s T (ShA.mk (hX.ints ha) (hX.ints hb)) (TabA.xt hT hX) hI) ?_
    rintro r n2 ⟨nr2, w, rfl, hw⟩
    simp (config := {implicitDefEqProofs := false, maxDischargeDepth := 20}) (disch := first | omega | (simp only [lenE]; done) | (simp only [lenE]; omega) | rfl | (simp only [lenE, markR_len]; done) | (simp only [lenE, markR_len]; omega)) only [runE, mapE, listE, initT_5, initT_6, initT_7, initT_8, resV, oneV, binA, unA, reduceCtorEq, Nat.reduceEqDiff, Nat.reduceAdd, Nat.reduceLT, Nat.reduceLeDiff, Nat.reduceMul, Nat.reduceSub, ↓reduceIte, decide_true, decide_false, Bool.true_eq_false, Bool.false_eq_true, Bool.not_true, Bool.not_false, if_true, if_false, and_true, true_and, memE, celE, w64, Nat.zero_add, Nat.add_zero, Nat.mul_one, putL, and_self, ldn]
    exact Ext.pass (f := fun v => .tuple #[v, .bool true]) hX nr2 (IntsO.wide _) hw
theorem implWasted_pre (m : Mem) (v vt : Value) (s : Sh) (T : List (List Int)) (h : ShA m v s) (hT : TabA m vt T) :
    RC Try.prog 39 [v, vt] m fun r new => AnsO m (IntsO (wastA s T)) (fun v => .tuple #[v, .bool (two9 s T)]) r new ∨ ((two9 s T = false) ∧ NoRo new ∧ r = .tuple #[.slice none 0 0, .bool (two9 s T)]) := by
  refine rc_of_run mixed ok_impl_WastedUnits (by simp) (go_start _ _ _ ?_)
  obtain ⟨a, b, rfl, ha, hb⟩ := h.ro
  have hX := (Ext.refl m).one 27 [.int .i64 s.life, a, b, .int .i64 s.waste, .int .i64 s.lost]
  simp (config := {implicitDefEqProofs := false, maxDischargeDepth := 20}) (disch := first | omega | (simp only [lenE]; done) | (simp only [lenE]; omega) | rfl | (simp only [lenE, markR_len]; done) | (simp only [lenE, markR_len]; omega)) only [runE, mapE, listE, initT_5, initT_6, initT_7, initT_8, resV, oneV, binA, unA, reduceCtorEq, Nat.reduceEqDiff, Nat.reduceAdd, Nat.reduceLT, Nat.reduceLeDiff, Nat.reduceMul, Nat.reduceSub, ↓reduceIte, decide_true, decide_false, Bool.true_eq_false, Bool.false_eq_true, Bool.not_true, Bool.not_false, if_true, if_false, and_true, true_and, memE, celE, w64, Nat.zero_add, Nat.add_zero, Nat.mul_one, putL, and_self, ldn, c_impl_WastedUnits, r_impl_WastedUnits]
  obtain ⟨M0, hM0⟩ : ∃ M0, M0 = roM m ++ [⟨.own, 27, [.int .i64 s.life, a, b, .int .i64 s.waste, .int .i64 s.lost]⟩] := ⟨_, rfl⟩
  have hl0 : M0.length = m.length + 1 := by rw [hM0]; simp [roM_len]
  rw [← hM0] at hX ⊢
  refine callH_rc (leftOf_rc _ _ vt s T (ShA.mk (hX.ints ha) (hX.ints hb)) (TabA.xt hT hX)) ?_
  rintro r n2 ⟨nr2, ⟨hb1, rfl⟩ | ⟨hb1, w, rfl, ia, ib, fa, fb, hne, ga, gb, rfl, oa, ob⟩⟩
  · simp (config := {implicitDefEqProofs := false, maxDischargeDepth := 20}) (disch := first | omega | (simp only [lenE]; done) | (simp only [lenE]; omega) | rfl | (simp only [lenE, markR_len]; done) | (simp only [lenE, markR_len]; omega)) only [runE, mapE, listE, initT_5, initT_6, initT_7, initT_8, resV, oneV, binA, unA, reduceCtorEq, Nat.reduceEqDiff, Nat.reduceAdd, Nat.reduceLT, Nat.reduceLeDiff, Nat.reduceMul, Nat.reduceSub, ↓reduceIte, decide_true, decide_false, Bool.true_eq_false, Bool.false_eq_true, Bool.not_true, Bool.not_false, if_true, if_false, and_true, true_and, memE, celE, w64, Nat.zero_add, Nat.add_zero, Nat.mul_one, putL, and_self, ldn, ext_2_0, ext_2_1, noShV, stP_agg5']
    obtain ⟨n0, e0, nr0⟩ := (hX.app nr2).one 27 [.int .i64 0, .slice none 0 0, .slice none 0 0, .int .i64 0, .int .i64 0]
    rw [e0]
    refine ⟨n0, rfl, nr0, .inr ⟨hb1, nr0, ?_⟩⟩
    rw [hb1]
  · have hI := iss_of hb1
    have hl := hI.l
    have n8 := hI.g.n8
    have la := oa.lt
    have lb := ob.lt
    simp (config := {implicitDefEqProofs := false, maxDischargeDepth := 20}) (disch := first | omega | (simp only [lenE]; done) | (simp only [lenE]; omega) | rfl | (simp only [lenE, markR_len]; done) | (simp only [lenE, markR_len]; omega)) only [runE, mapE, listE, initT_5, initT_6, initT_7, initT_8, resV, oneV, binA, unA, reduceCtorEq, Nat.reduceEqDiff, Nat.reduceAdd, Nat.reduceLT, Nat.reduceLeDiff, Nat.reduceMul, Nat.reduceSub, ↓reduceIte, decide_true, decide_false, Bool.true_eq_false, Bool.false_eq_true, Bool.not_true, Bool.not_false, if_true, if_false, and_true, true_and, memE, celE, w64, Nat.zero_add, Nat.add_zero, Nat.mul_one, putL, and_self, ldn, ext_2_0, ext_2_1, stP_agg5']
    rw [hb1]
    have hX2 := (hX.app nr2).one 27 [.int .i64 s.life, .slice (some ⟨ia, 0, none⟩) (leftArr s T T.length).length fa, .slice (some ⟨ib, 0, none⟩) (leftNeed s T T.length).length fb, .int .i64 s.waste, .int .i64 s.lost]
    have hq : newQ m (AnsO m (IntsO (wastA s T)) (fun v => .tuple #[v, .bool true])) (.tuple #[.slice (some ⟨ia, 0, none⟩) (leftArr s T T.length).length fa, .bool true]) (M0 ++ n2 ++ [⟨.own, 27, [.int .i64 s.life, .slice (some ⟨ia, 0, none⟩) (leftArr s T T.length).length fa, .slice (some ⟨ib, 0, none⟩) (leftNeed s T T.length).length fb, .int .i64 s.waste, .int .i64 s.lost]⟩]) := by
      unfold wastA
      rw [hb1, if_pos rfl]
      refine ext_ansO (f := fun v => .tuple #[v, .bool true]) hX2 fun M' hM => ?_
      have hlt : ia < (M0 ++ n2 ++ [⟨.own, 27, [.int .i64 s.life, .slice (some ⟨ia, 0, none⟩) (leftArr s T T.length).length fa, .slice (some ⟨ib, 0, none⟩) (leftNeed s T T.length).length fb, .int .i64 s.waste, .int .i64 s.lost]⟩] : Mem).length := by rw [List.length_append]; omega
      exact IntsA.ownO ((oa.ext _).at_ (hM _ (by omega) hlt)) (by rw [leftArr_len]; omega) (by omega) hlt
    obtain ⟨n0, e0, nr0, q⟩ := hq
    exact ⟨n0, e0, nr0, .inl q⟩
theorem implWasted_rc (m : Mem) (v vt : Value) (s : Sh) (T : List (List Int)) (h : ShA m v s) (hT : TabA m vt T) :
    RC Try.prog 39 [v, vt] m (AnsO m (IntsO (wastA s T)) fun v => .tuple #[v, .bool (two9 s T)]) := by
  refine rc_nilRow9 (implWasted_pre m v vt s T h hT) fun new hp hn => ?_
  unfold wastA
  rw [hp]
  exact nilRow_ans hn
theorem sum_bd9 {l : List Int} (h : ∀ x ∈ l, 0 ≤ x ∧ x ≤ 20) (k : Nat) (hk : k ≤ 8) : 0 ≤ sumTo l k ∧ sumTo l k ≤ 160 := by
  have := sumTo_bound (by omega) h k
  omega
theorem mul_bd9 {x y : Int} (h : 0 ≤ x ∧ x ≤ 20) (g : 0 ≤ y ∧ y ≤ 160) : 0 ≤ x * y ∧ x * y ≤ 3200 := by
  refine ⟨Int.mul_nonneg h.1 g.1, ?_⟩
  have h1 : x * y ≤ 20 * y := Int.mul_le_mul_of_nonneg_right h.2 g.1
  omega
theorem specShelfCost_rc (m : Mem) (v vt : Value) (s : Sh) (T : List (List Int)) (h : ShA m v s) (hT : TabA m vt T) :
    RC Try.prog 40 [v, vt] m (AnsV (.tuple #[.int .i64 (cost9A s T), .bool (two9 s T)])) := by
  refine rc_of_run mixed ok_spec_ShelfCost (by simp) (go_start _ _ _ ?_)
  obtain ⟨a, b, rfl, ha, hb⟩ := h.ro
  have hX := (Ext.refl m).one 27 [.int .i64 s.life, a, b, .int .i64 s.waste, .int .i64 s.lost]
  simp (config := {implicitDefEqProofs := false, maxDischargeDepth := 20}) (disch := first | omega | (simp only [lenE]; done) | (simp only [lenE]; omega) | rfl | (simp only [lenE, markR_len]; done) | (simp only [lenE, markR_len]; omega)) only [runE, mapE, listE, initT_5, initT_6, initT_7, initT_8, resV, oneV, binA, unA, reduceCtorEq, Nat.reduceEqDiff, Nat.reduceAdd, Nat.reduceLT, Nat.reduceLeDiff, Nat.reduceMul, Nat.reduceSub, ↓reduceIte, decide_true, decide_false, Bool.true_eq_false, Bool.false_eq_true, Bool.not_true, Bool.not_false, if_true, if_false, and_true, true_and, memE, celE, w64, Nat.zero_add, Nat.add_zero, Nat.mul_one, putL, and_self, ldn, c_spec_ShelfCost, r_spec_ShelfCost]
  obtain ⟨M0, hM0⟩ : ∃ M0, M0 = roM m ++ [⟨.own, 27, [.int .i64 s.life, a, b, .int .i64 s.waste, .int .i64 s.lost]⟩] := ⟨_, rfl⟩
  have o1 : OwnB M0 m.length 27 [.int .i64 s.life, a, b, .int .i64 s.waste, .int .i64 s.lost] := by rw [hM0]; exact OwnB.here (by simp [roM_len])
  rw [← hM0] at hX ⊢
  refine callH_rc (l9Two_rc _ _ vt s T (ShA.mk (hX.ints ha) (hX.ints hb)) (TabA.xt hT hX)) ?_
  rintro r n1 ⟨rfl, nr1⟩
  replace hX := hX.app nr1
  replace o1 := o1.ext n1
  obtain ⟨M1, hM1⟩ : ∃ M1, M1 = M0 ++ n1 := ⟨_, rfl⟩
  rw [← hM1] at hX o1 ⊢
  unfold cost9A
  cases h2 : two9 s T with
  | false =>
    simp (config := {implicitDefEqProofs := false, maxDischargeDepth := 20}) (disch := first | omega | (simp only [lenE]; done) | (simp only [lenE]; omega) | rfl | (simp only [lenE, markR_len]; done) | (simp only [lenE, markR_len]; omega)) only [runE, mapE, listE, initT_5, initT_6, initT_7, initT_8, resV, oneV, binA, unA, reduceCtorEq, Nat.reduceEqDiff, Nat.reduceAdd, Nat.reduceLT, Nat.reduceLeDiff, Nat.reduceMul, Nat.reduceSub, ↓reduceIte, decide_true, decide_false, Bool.true_eq_false, Bool.false_eq_true, Bool.not_true, Bool.not_false, if_true, if_false, and_true, true_and, memE, celE, w64, Nat.zero_add, Nat.add_zero, Nat.mul_one, putL, and_self, ldn]
    exact ext_ansV hX rfl
  | true =>
    have hI := iss_of h2
    have n8 := hI.g.n8
    have hl := hI.l
    have q1 := sum_bd9 hI.ln (leftNeed s T T.length).length (by rw [leftNeed_len]; exact n8)
    have q2 := sum_bd9 hI.la (leftArr s T T.length).length (by rw [leftArr_len]; exact n8)
    have p1 := mul_bd9 hI.g.l q1
    have p2 := mul_bd9 hI.g.w q2
    simp (config := {implicitDefEqProofs := false, maxDischargeDepth := 20}) (disch := first | omega | (simp only [lenE]; done) | (simp only [lenE]; omega) | rfl | (simp only [lenE, markR_len]; done) | (simp only [lenE, markR_len]; omega)) only [runE, mapE, listE, initT_5, initT_6, initT_7, initT_8, resV, oneV, binA, unA, reduceCtorEq, Nat.reduceEqDiff, Nat.reduceAdd, Nat.reduceLT, Nat.reduceLeDiff, Nat.reduceMul, Nat.reduceSub, ↓reduceIte, decide_true, decide_false, Bool.true_eq_false, Bool.false_eq_true, Bool.not_true, Bool.not_false, if_true, if_false, and_true, true_and, memE, celE, w64, Nat.zero_add, Nat.add_zero, Nat.mul_one, putL, and_self, ldn, o1.rd]
    refine rcallH_rc (l9Lost_rc _ _ vt s T (ShA.mk (hX.ints ha) (hX.ints hb)) (TabA.xt hT hX) hI) ?_
    rintro r n2 ⟨nr2, w, rfl, hw⟩
    replace hX := hX.app nr2
    replace o1 := o1.ext n2
    have hwi := hw.now.in
    obtain ⟨M2, hM2⟩ : ∃ M2, M2 = M1 ++ n2 := ⟨_, rfl⟩
    rw [← hM2] at hX o1 hwi ⊢
    simp (config := {implicitDefEqProofs := false, maxDischargeDepth := 20}) (disch := first | omega | (simp only [lenE]; done) | (simp only [lenE]; omega) | rfl | (simp only [lenE, markR_len]; done) | (simp only [lenE, markR_len]; omega)) only [runE, mapE, listE, initT_5, initT_6, initT_7, initT_8, resV, oneV, binA, unA, reduceCtorEq, Nat.reduceEqDiff, Nat.reduceAdd, Nat.reduceLT, Nat.reduceLeDiff, Nat.reduceMul, Nat.reduceSub, ↓reduceIte, decide_true, decide_false, Bool.true_eq_false, Bool.false_eq_true, Bool.not_true, Bool.not_false, if_true, if_false, and_true, true_and, memE, celE, w64, Nat.zero_add, Nat.add_zero, Nat.mul_one, putL, and_self, ldn, o1.rd]
    refine rcallH_rc (l2Sum_rc _ _ _ hwi (fun j hj => by have := sum_bd9 hI.ln j (by rw [leftNeed_len] at hj; omega); omega)) ?_
    rintro r new ⟨rfl, rfl⟩
    simp (config := {implicitDefEqProofs := false, maxDischargeDepth := 20}) (disch := first | omega | (simp only [lenE]; done) | (simp only [lenE]; omega) | rfl | (simp only [lenE, markR_len]; done) | (simp only [lenE, markR_len]; omega)) only [runE, mapE, listE, initT_5, initT_6, initT_7, initT_8, resV, oneV, binA, unA, reduceCtorEq, Nat.reduceEqDiff, Nat.reduceAdd, Nat.reduceLT, Nat.reduceLeDiff, Nat.reduceMul, Nat.reduceSub, ↓reduceIte, decide_true, decide_false, Bool.true_eq_false, Bool.false_eq_true, Bool.not_true, Bool.not_false, if_true, if_false, and_true, true_and, memE, celE, w64, Nat.zero_add, Nat.add_zero, Nat.mul_one, putL, and_self, ldn, o1.rd]
    refine rcallH_rc (l9Wasted_rc _ _ vt s T (ShA.mk (hX.ints ha) (hX.ints hb)) (TabA.xt hT hX) hI) ?_
    rintro r n3 ⟨nr3, w3, rfl, hw3⟩
    replace hX := hX.app nr3
    have hwi3 := hw3.now.in
    simp (config := {implicitDefEqProofs := false, maxDischargeDepth := 20}) (disch := first | omega | (simp only [lenE]; done) | (simp only [lenE]; omega) | rfl | (simp only [lenE, markR_len]; done) | (simp only [lenE, markR_len]; omega)) only [runE, mapE, listE, initT_5, initT_6, initT_7, initT_8, resV, oneV, binA, unA, reduceCtorEq, Nat.reduceEqDiff, Nat.reduceAdd, Nat.reduceLT, Nat.reduceLeDiff, Nat.reduceMul, Nat.reduceSub, ↓reduceIte, decide_true, decide_false, Bool.true_eq_false, Bool.false_eq_true, Bool.not_true, Bool.not_false, if_true, if_false, and_true, true_and, memE, celE, w64, Nat.zero_add, Nat.add_zero, Nat.mul_one, putL, and_self, ldn]
    refine rcallH_rc (l2Sum_rc _ _ _ hwi3 (fun j hj => by have := sum_bd9 hI.la j (by rw [leftArr_len] at hj; omega); omega)) ?_
    rintro r new ⟨rfl, rfl⟩
    simp (config := {implicitDefEqProofs := false, maxDischargeDepth := 20}) (disch := first | omega | (simp only [lenE]; done) | (simp only [lenE]; omega) | rfl | (simp only [lenE, markR_len]; done) | (simp only [lenE, markR_len]; omega)) only [runE, mapE, listE, initT_5, initT_6, initT_7, initT_8, resV, oneV, binA, unA, reduceCtorEq, Nat.reduceEqDiff, Nat.reduceAdd, Nat.reduceLT, Nat.reduceLeDiff, Nat.reduceMul, Nat.reduceSub, ↓reduceIte, decide_true, decide_false, Bool.true_eq_false, Bool.false_eq_true, Bool.not_true, Bool.not_false, if_true, if_false, and_true, true_and, memE, celE, w64, Nat.zero_add, Nat.add_zero, Nat.mul_one, putL, and_self, ldn]
    refine ext_ansV hX ?_
    rw [sumTo_all (Nat.le_refl _), sumTo_all (Nat.le_refl _)]
    try rfl
theorem implShelfCost_rc (m : Mem) (v vt : Value) (s : Sh) (T : List (List Int)) (h : ShA m v s) (hT : TabA m vt T) :
    RC Try.prog 41 [v, vt] m (AnsV (.tuple #[.int .i64 (cost9A s T), .bool (two9 s T)])) := by
  refine rc_of_run mixed ok_impl_ShelfCost (by simp) (go_start _ _ _ ?_)
  obtain ⟨a, b, rfl, ha, hb⟩ := h.ro
  have hX := (Ext.refl m).one 27 [.int .i64 s.life, a, b, .int .i64 s.waste, .int .i64 s.lost]
  simp (config := {implicitDefEqProofs := false, maxDischargeDepth := 20}) (disch := first | omega | (simp only [lenE]; done) | (simp only [lenE]; omega) | rfl | (simp only [lenE, markR_len]; done) | (simp only [lenE, markR_len]; omega)) only [runE, mapE, listE, initT_5, initT_6, initT_7, initT_8, resV, oneV, binA, unA, reduceCtorEq, Nat.reduceEqDiff, Nat.reduceAdd, Nat.reduceLT, Nat.reduceLeDiff, Nat.reduceMul, Nat.reduceSub, ↓reduceIte, decide_true, decide_false, Bool.true_eq_false, Bool.false_eq_true, Bool.not_true, Bool.not_false, if_true, if_false, and_true, true_and, memE, celE, w64, Nat.zero_add, Nat.add_zero, Nat.mul_one, putL, and_self, ldn, c_impl_ShelfCost, r_impl_ShelfCost]
  obtain ⟨M0, hM0⟩ : ∃ M0, M0 = roM m ++ [⟨.own, 27, [.int .i64 s.life, a, b, .int .i64 s.waste, .int .i64 s.lost]⟩] := ⟨_, rfl⟩
  have hl0 : M0.length = m.length + 1 := by rw [hM0]; simp [roM_len]
  rw [← hM0] at hX ⊢
  refine callH_rc (leftOf_rc _ _ vt s T (ShA.mk (hX.ints ha) (hX.ints hb)) (TabA.xt hT hX)) ?_
  unfold cost9A
  rintro r n2 ⟨nr2, ⟨hb1, rfl⟩ | ⟨hb1, w, rfl, ia, ib, fa, fb, hne, ga, gb, rfl, oa, ob⟩⟩
  · have nil : ∀ M, IntsA M (.slice none 0 0) [] := fun M => IntsA.nil M
    simp (config := {implicitDefEqProofs := false, maxDischargeDepth := 20}) (disch := first | omega | (simp only [lenE]; done) | (simp only [lenE]; omega) | rfl | (simp only [lenE, markR_len]; done) | (simp only [lenE, markR_len]; omega)) only [runE, mapE, listE, initT_5, initT_6, initT_7, initT_8, resV, oneV, binA, unA, reduceCtorEq, Nat.reduceEqDiff, Nat.reduceAdd, Nat.reduceLT, Nat.reduceLeDiff, Nat.reduceMul, Nat.reduceSub, ↓reduceIte, decide_true, decide_false, Bool.true_eq_false, Bool.false_eq_true, Bool.not_true, Bool.not_false, if_true, if_false, and_true, true_and, memE, celE, w64, Nat.zero_add, Nat.add_zero, Nat.mul_one, putL, and_self, ldn, ext_2_0, ext_2_1, noShV, stP_agg5']
    refine rcallH_rc (sumOf_rc _ _ [] (nil _) (fun j hj => by simp [sumTo])) ?_
    rintro r new ⟨rfl, rfl⟩
    simp (config := {implicitDefEqProofs := false, maxDischargeDepth := 20}) (disch := first | omega | (simp only [lenE]; done) | (simp only [lenE]; omega) | rfl | (simp only [lenE, markR_len]; done) | (simp only [lenE, markR_len]; omega)) only [runE, mapE, listE, initT_5, initT_6, initT_7, initT_8, resV, oneV, binA, unA, reduceCtorEq, Nat.reduceEqDiff, Nat.reduceAdd, Nat.reduceLT, Nat.reduceLeDiff, Nat.reduceMul, Nat.reduceSub, ↓reduceIte, decide_true, decide_false, Bool.true_eq_false, Bool.false_eq_true, Bool.not_true, Bool.not_false, if_true, if_false, and_true, true_and, memE, celE, w64, Nat.zero_add, Nat.add_zero, Nat.mul_one, putL, and_self, ldn, show sumTo [] ([] : List Int).length = 0 from rfl]
    refine rcallH_rc (sumOf_rc _ _ [] (nil _) (fun j hj => by simp [sumTo])) ?_
    rintro r new ⟨rfl, rfl⟩
    simp (config := {implicitDefEqProofs := false, maxDischargeDepth := 20}) (disch := first | omega | (simp only [lenE]; done) | (simp only [lenE]; omega) | rfl | (simp only [lenE, markR_len]; done) | (simp only [lenE, markR_len]; omega)) only [runE, mapE, listE, initT_5, initT_6, initT_7, initT_8, resV, oneV, binA, unA, reduceCtorEq, Nat.reduceEqDiff, Nat.reduceAdd, Nat.reduceLT, Nat.reduceLeDiff, Nat.reduceMul, Nat.reduceSub, ↓reduceIte, decide_true, decide_false, Bool.true_eq_false, Bool.false_eq_true, Bool.not_true, Bool.not_false, if_true, if_false, and_true, true_and, memE, celE, w64, Nat.zero_add, Nat.add_zero, Nat.mul_one, putL, and_self, ldn, show sumTo [] ([] : List Int).length = 0 from rfl]
    exact ext_ansV ((hX.app nr2).one _ _) (by rw [hb1]; rfl)
  · have hI := iss_of hb1
    have hl := hI.l
    have n8 := hI.g.n8
    have q1 := sum_bd9 hI.ln (leftNeed s T T.length).length (by rw [leftNeed_len]; exact n8)
    have q2 := sum_bd9 hI.la (leftArr s T T.length).length (by rw [leftArr_len]; exact n8)
    have p1 := mul_bd9 hI.g.l q1
    have p2 := mul_bd9 hI.g.w q2
    have ia1 := oa.ints (by rw [leftArr_len]; omega) fa
    have ib1 := ob.ints (by rw [leftNeed_len]; omega) fb
    simp (config := {implicitDefEqProofs := false, maxDischargeDepth := 20}) (disch := first | omega | (simp only [lenE]; done) | (simp only [lenE]; omega) | rfl | (simp only [lenE, markR_len]; done) | (simp only [lenE, markR_len]; omega)) only [runE, mapE, listE, initT_5, initT_6, initT_7, initT_8, resV, oneV, binA, unA, reduceCtorEq, Nat.reduceEqDiff, Nat.reduceAdd, Nat.reduceLT, Nat.reduceLeDiff, Nat.reduceMul, Nat.reduceSub, ↓reduceIte, decide_true, decide_false, Bool.true_eq_false, Bool.false_eq_true, Bool.not_true, Bool.not_false, if_true, if_false, and_true, true_and, memE, celE, w64, Nat.zero_add, Nat.add_zero, Nat.mul_one, putL, and_self, ldn, ext_2_0, ext_2_1, stP_agg5']
    refine rcallH_rc (sumOf_rc _ _ _ (ib1.ext _) (fun j hj => by have := sum_bd9 hI.ln j (by rw [leftNeed_len] at hj; omega); omega)) ?_
    rintro r new ⟨rfl, rfl⟩
    simp (config := {implicitDefEqProofs := false, maxDischargeDepth := 20}) (disch := first | omega | (simp only [lenE]; done) | (simp only [lenE]; omega) | rfl | (simp only [lenE, markR_len]; done) | (simp only [lenE, markR_len]; omega)) only [runE, mapE, listE, initT_5, initT_6, initT_7, initT_8, resV, oneV, binA, unA, reduceCtorEq, Nat.reduceEqDiff, Nat.reduceAdd, Nat.reduceLT, Nat.reduceLeDiff, Nat.reduceMul, Nat.reduceSub, ↓reduceIte, decide_true, decide_false, Bool.true_eq_false, Bool.false_eq_true, Bool.not_true, Bool.not_false, if_true, if_false, and_true, true_and, memE, celE, w64, Nat.zero_add, Nat.add_zero, Nat.mul_one, putL, and_self, ldn]
    refine rcallH_rc (sumOf_rc _ _ _ (ia1.ext _) (fun j hj => by have := sum_bd9 hI.la j (by rw [leftArr_len] at hj; omega); omega)) ?_
    rintro r new ⟨rfl, rfl⟩
    simp (config := {implicitDefEqProofs := false, maxDischargeDepth := 20}) (disch := first | omega | (simp only [lenE]; done) | (simp only [lenE]; omega) | rfl | (simp only [lenE, markR_len]; done) | (simp only [lenE, markR_len]; omega)) only [runE, mapE, listE, initT_5, initT_6, initT_7, initT_8, resV, oneV, binA, unA, reduceCtorEq, Nat.reduceEqDiff, Nat.reduceAdd, Nat.reduceLT, Nat.reduceLeDiff, Nat.reduceMul, Nat.reduceSub, ↓reduceIte, decide_true, decide_false, Bool.true_eq_false, Bool.false_eq_true, Bool.not_true, Bool.not_false, if_true, if_false, and_true, true_and, memE, celE, w64, Nat.zero_add, Nat.add_zero, Nat.mul_one, putL, and_self, ldn]
    refine ext_ansV ((hX.app nr2).one _ _) ?_
    rw [sumTo_all (Nat.le_refl _), sumTo_all (Nat.le_refl _), hb1]
    try rfl
end Go.Proofs.Ytihjcjhnkpkomaa.Ab
