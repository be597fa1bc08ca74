/- What the law needs of the texts that it rests on. -/
import Derived.Test.YtbchcbhleldhiaaShFnWorths1
section
namespace Go.Proofs.Ytbchcbhleldhiaa.Ab
open Go Go.RowKit
set_option linter.unusedVariables false
set_option linter.unusedSimpArgs false
abbrev pairV (q : Int × Int) : Value := .agg #[.int .i64 q.1, .int .i64 q.2]
def TestP (M : Mem) (fv : Value) (f : Int × Int → Bool) : Prop :=
  ∃ g cap, fv = .func (.func g) #[] cap ∧ ∀ q, RC Try.prog g (pairV q :: cap.toList) M (AnsV (.bool (f q)))
theorem noPair_rc (m : Mem) (id : Nat) (u : Value) (p : Pr) (q : Int × Int) (hid : id < m.length) (hb : ∀ j, rdc m id j = [.int .i64 p.turns, u, .int .i64 p.setup, .int .i64 p.unit, .int .i64 p.hold, .int .i64 p.back][j]?) (hu : IntsA m u p.w) (hl : p.w.length ≤ 5) :
    RC Try.prog 72 [pairV q, .pointer (some ⟨id, 0, none⟩)] m (AnsV (.bool (!p.pairB q))) := by
  refine rc_of_run mixed ok_impl_isPolicy_1 (by simp) (go_start _ _ _ ?_)
  have hrd : ∀ j, rdc (roM m) id j = [.int .i64 p.turns, u, .int .i64 p.setup, .int .i64 p.unit, .int .i64 p.hold, .int .i64 p.back][j]? := fun j => by rw [rdc_roM]; exact hb j
  obtain ⟨a, b⟩ := q
  unfold Pr.pairB
  simp (config := {implicitDefEqProofs := false, maxDischargeDepth := 20}) (disch := first | omega | (simp only [lenE]; done) | (simp only [lenE]; omega) | rfl | (simp only [lenE, markR_len]; done) | (simp only [lenE, markR_len]; omega)) only [runE, mapE, listE, initT_5, initT_6, initT_7, initT_8, resV, oneV, binA, unA, reduceCtorEq, Nat.reduceEqDiff, Nat.reduceAdd, Nat.reduceLT, Nat.reduceLeDiff, Nat.reduceMul, Nat.reduceSub, ↓reduceIte, decide_true, decide_false, Bool.true_eq_false, Bool.false_eq_true, Bool.not_true, Bool.not_false, if_true, if_false, and_true, true_and, memE, celE, w64, Nat.zero_add, Nat.add_zero, Nat.mul_one, putL, and_self, ldn, c_impl_isPolicy_1, r_impl_isPolicy_1, iada_0, iada_1]
  refine rcallH_rc (isLevel_rc _ a) ?_
  rintro r n1 ⟨rfl, rfl⟩
  cases h1 : levB a with
  | false =>
    simp (config := {implicitDefEqProofs := false, maxDischargeDepth := 20}) (disch := first | omega | (simp only [lenE]; done) | (simp only [lenE]; omega) | rfl | (simp only [lenE, markR_len]; done) | (simp only [lenE, markR_len]; omega)) only [runE, mapE, listE, initT_5, initT_6, initT_7, initT_8, resV, oneV, binA, unA, reduceCtorEq, Nat.reduceEqDiff, Nat.reduceAdd, Nat.reduceLT, Nat.reduceLeDiff, Nat.reduceMul, Nat.reduceSub, ↓reduceIte, decide_true, decide_false, Bool.true_eq_false, Bool.false_eq_true, Bool.not_true, Bool.not_false, if_true, if_false, and_true, true_and, memE, celE, w64, Nat.zero_add, Nat.add_zero, Nat.mul_one, putL, and_self, ldn]
    try simp only [List.append_assoc, List.cons_append, List.nil_append, List.append_nil]
    exact ⟨_, rfl, by (repeat (first | exact noRo_nil | assumption | apply noRo_own | apply noRo_dead | apply noRo_app)), by simp, by (repeat (first | exact noRo_nil | assumption | apply noRo_own | apply noRo_dead | apply noRo_app))⟩
  | true =>
  simp (config := {implicitDefEqProofs := false, maxDischargeDepth := 20}) (disch := first | omega | (simp only [lenE]; done) | (simp only [lenE]; omega) | rfl | (simp only [lenE, markR_len]; done) | (simp only [lenE, markR_len]; omega)) only [runE, mapE, listE, initT_5, initT_6, initT_7, initT_8, resV, oneV, binA, unA, reduceCtorEq, Nat.reduceEqDiff, Nat.reduceAdd, Nat.reduceLT, Nat.reduceLeDiff, Nat.reduceMul, Nat.reduceSub, ↓reduceIte, decide_true, decide_false, Bool.true_eq_false, Bool.false_eq_true, Bool.not_true, Bool.not_false, if_true, if_false, and_true, true_and, memE, celE, w64, Nat.zero_add, Nat.add_zero, Nat.mul_one, putL, and_self, ldn, iada_0, iada_1]
  refine rcallH_rc (isLevel_rc _ b) ?_
  rintro r n1 ⟨rfl, rfl⟩
  cases h2 : levB b with
  | false =>
    simp (config := {implicitDefEqProofs := false, maxDischargeDepth := 20}) (disch := first | omega | (simp only [lenE]; done) | (simp only [lenE]; omega) | rfl | (simp only [lenE, markR_len]; done) | (simp only [lenE, markR_len]; omega)) only [runE, mapE, listE, initT_5, initT_6, initT_7, initT_8, resV, oneV, binA, unA, reduceCtorEq, Nat.reduceEqDiff, Nat.reduceAdd, Nat.reduceLT, Nat.reduceLeDiff, Nat.reduceMul, Nat.reduceSub, ↓reduceIte, decide_true, decide_false, Bool.true_eq_false, Bool.false_eq_true, Bool.not_true, Bool.not_false, if_true, if_false, and_true, true_and, memE, celE, w64, Nat.zero_add, Nat.add_zero, Nat.mul_one, putL, and_self, ldn]
    try simp only [List.append_assoc, List.cons_append, List.nil_append, List.append_nil]
    exact ⟨_, rfl, by (repeat (first | exact noRo_nil | assumption | apply noRo_own | apply noRo_dead | apply noRo_app)), by simp, by (repeat (first | exact noRo_nil | assumption | apply noRo_own | apply noRo_dead | apply noRo_app))⟩
  | true =>
  by_cases h3 : b < a
  · simp (config := {implicitDefEqProofs := false, maxDischargeDepth := 20}) (disch := first | omega | (simp only [lenE]; done) | (simp only [lenE]; omega) | rfl | (simp only [lenE, markR_len]; done) | (simp only [lenE, markR_len]; omega)) only [runE, mapE, listE, initT_5, initT_6, initT_7, initT_8, resV, oneV, binA, unA, reduceCtorEq, Nat.reduceEqDiff, Nat.reduceAdd, Nat.reduceLT, Nat.reduceLeDiff, Nat.reduceMul, Nat.reduceSub, ↓reduceIte, decide_true, decide_false, Bool.true_eq_false, Bool.false_eq_true, Bool.not_true, Bool.not_false, if_true, if_false, and_true, true_and, memE, celE, w64, Nat.zero_add, Nat.add_zero, Nat.mul_one, putL, and_self, ldn, iada_0, iada_1, gt_iff_lt, h3]
    try simp only [List.append_assoc, List.cons_append, List.nil_append, List.append_nil]
    exact ⟨_, rfl, by (repeat (first | exact noRo_nil | assumption | apply noRo_own | apply noRo_dead | apply noRo_app)), by simp; omega, by (repeat (first | exact noRo_nil | assumption | apply noRo_own | apply noRo_dead | apply noRo_app))⟩
  · simp (config := {implicitDefEqProofs := false, maxDischargeDepth := 20}) (disch := first | omega | (simp only [lenE]; done) | (simp only [lenE]; omega) | rfl | (simp only [lenE, markR_len]; done) | (simp only [lenE, markR_len]; omega)) only [runE, mapE, listE, initT_5, initT_6, initT_7, initT_8, resV, oneV, binA, unA, reduceCtorEq, Nat.reduceEqDiff, Nat.reduceAdd, Nat.reduceLT, Nat.reduceLeDiff, Nat.reduceMul, Nat.reduceSub, ↓reduceIte, decide_true, decide_false, Bool.true_eq_false, Bool.false_eq_true, Bool.not_true, Bool.not_false, if_true, if_false, and_true, true_and, memE, celE, w64, Nat.zero_add, Nat.add_zero, Nat.mul_one, putL, and_self, ldn, iada_0, iada_1, gt_iff_lt, h3, hrd]
    refine rcallH_rc (floorOf_rc _ _ p (ProcA.mk (hu.ro.ext _)) hl) ?_
    rintro r n2 ⟨rfl, nr2⟩
    simp (config := {implicitDefEqProofs := false, maxDischargeDepth := 20}) (disch := first | omega | (simp only [lenE]; done) | (simp only [lenE]; omega) | rfl | (simp only [lenE, markR_len]; done) | (simp only [lenE, markR_len]; omega)) only [runE, mapE, listE, initT_5, initT_6, initT_7, initT_8, resV, oneV, binA, unA, reduceCtorEq, Nat.reduceEqDiff, Nat.reduceAdd, Nat.reduceLT, Nat.reduceLeDiff, Nat.reduceMul, Nat.reduceSub, ↓reduceIte, decide_true, decide_false, Bool.true_eq_false, Bool.false_eq_true, Bool.not_true, Bool.not_false, if_true, if_false, and_true, true_and, memE, celE, w64, Nat.zero_add, Nat.add_zero, Nat.mul_one, putL, and_self, ldn]
    try simp only [List.append_assoc, List.cons_append, List.nil_append, List.append_nil]
    refine ⟨_, rfl, by (repeat (first | exact noRo_nil | assumption | apply noRo_own | apply noRo_dead | apply noRo_app)), ?_, by (repeat (first | exact noRo_nil | assumption | apply noRo_own | apply noRo_dead | apply noRo_app))⟩
    have h3' : a ≤ b := by omega
    by_cases h4 : b < p.floor
    · simp [h4]
      try (intro _; omega)
    · simp [h4, h3']
      try omega
theorem indexFuncP_rc (m : Mem) (v fv : Value) (L : List (Int × Int)) (f : Int × Int → Bool) (h : PairsA m v L) (hf : ∀ M, Ext m M → TestP M fv f) :
    RC Try.prog 98 [v, fv] m fun r new => NoRo new ∧ ∃ z : Int, r = .int .i64 z ∧ decide (0 ≤ z) = L.any f := by
  refine rc_of_run mixed ok_slices_IndexFunc_a2int (by simp) (go_start _ _ _ ?_)
  obtain ⟨hb, id, fl, rfl, hc⟩ := h.ro
  obtain ⟨g, cap, rfl, -⟩ := hf _ (Ext.refl m)
  simp (config := {implicitDefEqProofs := false, maxDischargeDepth := 20}) (disch := first | omega | (simp only [lenE]; done) | (simp only [lenE]; omega) | rfl | (simp only [lenE, markR_len]; done) | (simp only [lenE, markR_len]; omega)) only [runE, mapE, listE, initT_5, initT_6, initT_7, initT_8, resV, oneV, binA, unA, reduceCtorEq, Nat.reduceEqDiff, Nat.reduceAdd, Nat.reduceLT, Nat.reduceLeDiff, Nat.reduceMul, Nat.reduceSub, ↓reduceIte, decide_true, decide_false, Bool.true_eq_false, Bool.false_eq_true, Bool.not_true, Bool.not_false, if_true, if_false, and_true, true_and, memE, celE, w64, Nat.zero_add, Nat.add_zero, Nat.mul_one, putL, and_self, ldn, c_slices_IndexFunc_a2int, r_slices_IndexFunc_a2int]
  refine loop_inv mixed (fun s => ∃ (k : Nat) (M : Mem), k ≤ L.length ∧ s.m = M ∧ Ext m M ∧ s.t 0 = .slice (some ⟨id, 0, none⟩) L.length fl ∧ s.t 1 = .func (.func g) #[] cap ∧ s.t 7 = .int .i64 L.length ∧ s.t 8 = .int .i64 k ∧ ∀ j, j < k → f (L.getD j (0, 0)) = false) (fun s => L.length - (intOf (s.t 8)).toNat)
    ⟨0, _, by omega, rfl, Ext.refl m, rfl, rfl, rfl, rfl, fun j hj => absurd hj (by omega)⟩ ?_
  rintro s ⟨k, M, hk, tm, hx, t0, t1, t7, t8, hno⟩
  by_cases hlt : k < L.length
  · have hlt' : (k : Int) < L.length := by omega
    have r1 := hx.rd ((rdc_roM m id (k * 2)).symm.trans (hc k hlt).1)
    have r2 := hx.rd ((rdc_roM m id (k * 2 + 1)).symm.trans (hc k hlt).2)
    obtain ⟨g', cap', e, hcall⟩ := hf M hx
    cases e
    simp (config := {implicitDefEqProofs := false, maxDischargeDepth := 20}) (disch := first | omega | (simp only [lenE]; done) | (simp only [lenE]; omega) | rfl | (simp only [lenE, markR_len]; done) | (simp only [lenE, markR_len]; omega)) only [runE, mapE, listE, initT_5, initT_6, initT_7, initT_8, resV, oneV, binA, unA, reduceCtorEq, Nat.reduceEqDiff, Nat.reduceAdd, Nat.reduceLT, Nat.reduceLeDiff, Nat.reduceMul, Nat.reduceSub, ↓reduceIte, decide_true, decide_false, Bool.true_eq_false, Bool.false_eq_true, Bool.not_true, Bool.not_false, if_true, if_false, and_true, true_and, memE, celE, w64, Nat.zero_add, Nat.add_zero, Nat.mul_one, putL, and_self, ldn, tm, t0, t1, t7, t8, hlt', iadA_in hlt, r1, r2]
    refine callH_rc (hcall (L.getD k (0, 0))) ?_
    rintro r new ⟨rfl, hn⟩
    cases hb2 : f (L.getD k (0, 0)) with
    | true =>
      simp (config := {implicitDefEqProofs := false, maxDischargeDepth := 20}) (disch := first | omega | (simp only [lenE]; done) | (simp only [lenE]; omega) | rfl | (simp only [lenE, markR_len]; done) | (simp only [lenE, markR_len]; omega)) only [runE, mapE, listE, initT_5, initT_6, initT_7, initT_8, resV, oneV, binA, unA, reduceCtorEq, Nat.reduceEqDiff, Nat.reduceAdd, Nat.reduceLT, Nat.reduceLeDiff, Nat.reduceMul, Nat.reduceSub, ↓reduceIte, decide_true, decide_false, Bool.true_eq_false, Bool.false_eq_true, Bool.not_true, Bool.not_false, if_true, if_false, and_true, true_and, memE, celE, w64, Nat.zero_add, Nat.add_zero, Nat.mul_one, putL, and_self, ldn, tm, t0, t1, t7, t8]
      obtain ⟨n0, rfl, h0⟩ := hx
      refine ⟨n0 ++ new, by rw [List.append_assoc], noRo_app h0 hn, noRo_app h0 hn, _, rfl, ?_⟩
      have : L.any f = true := by
        rw [List.any_eq_true]
        refine ⟨L.getD k (0, 0), ?_, hb2⟩
        rw [List.getD_eq_getElem?_getD, List.getElem?_eq_getElem hlt]; exact List.getElem_mem hlt
      rw [this]; simp
    | false =>
      simp (config := {implicitDefEqProofs := false, maxDischargeDepth := 20}) (disch := first | omega | (simp only [lenE]; done) | (simp only [lenE]; omega) | rfl | (simp only [lenE, markR_len]; done) | (simp only [lenE, markR_len]; omega)) only [runE, mapE, listE, initT_5, initT_6, initT_7, initT_8, resV, oneV, binA, unA, reduceCtorEq, Nat.reduceEqDiff, Nat.reduceAdd, Nat.reduceLT, Nat.reduceLeDiff, Nat.reduceMul, Nat.reduceSub, ↓reduceIte, decide_true, decide_false, Bool.true_eq_false, Bool.false_eq_true, Bool.not_true, Bool.not_false, if_true, if_false, and_true, true_and, memE, celE, w64, Nat.zero_add, Nat.add_zero, Nat.mul_one, putL, and_self, ldn, tm, t0, t1, t7, t8]
      refine ⟨⟨k + 1, _, by omega, rfl, hx.app hn, by simp, fun j hj => ?_⟩, ?_⟩
      · by_cases e : j = k
        · rw [e]; exact hb2
        · exact hno j (by omega)
      · simp [intOf]; omega
  · have hlt' : ¬ ((k : Int) < L.length) := by omega
    simp (config := {implicitDefEqProofs := false, maxDischargeDepth := 20}) (disch := first | omega | (simp only [lenE]; done) | (simp only [lenE]; omega) | rfl | (simp only [lenE, markR_len]; done) | (simp only [lenE, markR_len]; omega)) only [runE, mapE, listE, initT_5, initT_6, initT_7, initT_8, resV, oneV, binA, unA, reduceCtorEq, Nat.reduceEqDiff, Nat.reduceAdd, Nat.reduceLT, Nat.reduceLeDiff, Nat.reduceMul, Nat.reduceSub, ↓reduceIte, decide_true, decide_false, Bool.true_eq_false, Bool.false_eq_true, Bool.not_true, Bool.not_false, if_true, if_false, and_true, true_and, memE, celE, w64, Nat.zero_add, Nat.add_zero, Nat.mul_one, putL, and_self, ldn, tm, t0, t1, t7, t8, hlt']
    obtain ⟨n0, rfl, h0⟩ := hx
    refine ⟨n0, rfl, h0, h0, _, rfl, ?_⟩
    have : L.any f = false := by
      rw [List.any_eq_false]
      intro q hq
      obtain ⟨j, hj, rfl⟩ := List.getElem_of_mem hq
      have := hno j (by omega)
      rw [List.getD_eq_getElem?_getD, List.getElem?_eq_getElem hj] at this
      simpa using this
    rw [this]; rfl
theorem containsFuncP_rc (m : Mem) (v fv : Value) (L : List (Int × Int)) (f : Int × Int → Bool) (h : PairsA m v L) (hf : ∀ M, Ext m M → TestP M fv f) :
    RC Try.prog 74 [v, fv] m (AnsV (.bool (L.any f))) := by
  refine rc_of_run mixed ok_slices_ContainsFunc_a2int (by simp) (go_start _ _ _ ?_)
  simp (config := {implicitDefEqProofs := false, maxDischargeDepth := 20}) (disch := first | omega | (simp only [lenE]; done) | (simp only [lenE]; omega) | rfl | (simp only [lenE, markR_len]; done) | (simp only [lenE, markR_len]; omega)) only [runE, mapE, listE, initT_5, initT_6, initT_7, initT_8, resV, oneV, binA, unA, reduceCtorEq, Nat.reduceEqDiff, Nat.reduceAdd, Nat.reduceLT, Nat.reduceLeDiff, Nat.reduceMul, Nat.reduceSub, ↓reduceIte, decide_true, decide_false, Bool.true_eq_false, Bool.false_eq_true, Bool.not_true, Bool.not_false, if_true, if_false, and_true, true_and, memE, celE, w64, Nat.zero_add, Nat.add_zero, Nat.mul_one, putL, and_self, ldn, c_slices_ContainsFunc_a2int, r_slices_ContainsFunc_a2int]
  have hf' : ∀ M, Ext (roM m) M → TestP M fv f := fun M hM => hf M (by obtain ⟨n0, rfl, h0⟩ := hM; exact ⟨n0, by rw [show roM (roM m) = roM m by unfold roM; rw [List.map_map]; congr 1; funext b; obtain ⟨kd, e, cs⟩ := b; cases kd <;> rfl], h0⟩)
  refine callH_rc (indexFuncP_rc _ v fv L f h.ro hf') ?_
  rintro r new ⟨nr, z, rfl, hz⟩
  simp (config := {implicitDefEqProofs := false, maxDischargeDepth := 20}) (disch := first | omega | (simp only [lenE]; done) | (simp only [lenE]; omega) | rfl | (simp only [lenE, markR_len]; done) | (simp only [lenE, markR_len]; omega)) only [runE, mapE, listE, initT_5, initT_6, initT_7, initT_8, resV, oneV, binA, unA, reduceCtorEq, Nat.reduceEqDiff, Nat.reduceAdd, Nat.reduceLT, Nat.reduceLeDiff, Nat.reduceMul, Nat.reduceSub, ↓reduceIte, decide_true, decide_false, Bool.true_eq_false, Bool.false_eq_true, Bool.not_true, Bool.not_false, if_true, if_false, and_true, true_and, memE, celE, w64, Nat.zero_add, Nat.add_zero, Nat.mul_one, putL, and_self, ldn, ge_iff_le]
  try simp only [List.append_assoc, List.cons_append, List.nil_append, List.append_nil]
  exact ⟨_, rfl, by (repeat (first | exact noRo_nil | assumption | apply noRo_own | apply noRo_dead | apply noRo_app)), by rw [hz], by (repeat (first | exact noRo_nil | assumption | apply noRo_own | apply noRo_dead | apply noRo_app))⟩
theorem polB_any {p : Pr} {L : List (Int × Int)} : (L.any fun q => !p.pairB q) = !L.all p.pairB := by
  induction L with
  | nil => rfl
  | cons q L ih => rw [List.any_cons, List.all_cons, ih]; cases p.pairB q <;> simp
theorem isPolicy_rc (m : Mem) (v vl : Value) (p : Pr) (L : List (Int × Int)) (h : ProcA m v p) (hL : PairsA m vl L) : RC Try.prog 33 [v, vl] m (AnsV (.bool (p.good && p.polB L))) := by
  refine rc_of_run mixed ok_impl_isPolicy (by simp) (go_start _ _ _ ?_)
  obtain ⟨u, rfl, hu⟩ := h.ro
  have hLr := hL.ro
  obtain ⟨hb, id, fl, rfl, hc⟩ := hL.ro
  simp (config := {implicitDefEqProofs := false, maxDischargeDepth := 20}) (disch := first | omega | (simp only [lenE]; done) | (simp only [lenE]; omega) | rfl | (simp only [lenE, markR_len]; done) | (simp only [lenE, markR_len]; omega)) only [runE, mapE, listE, initT_5, initT_6, initT_7, initT_8, resV, oneV, binA, unA, reduceCtorEq, Nat.reduceEqDiff, Nat.reduceAdd, Nat.reduceLT, Nat.reduceLeDiff, Nat.reduceMul, Nat.reduceSub, ↓reduceIte, decide_true, decide_false, Bool.true_eq_false, Bool.false_eq_true, Bool.not_true, Bool.not_false, if_true, if_false, and_true, true_and, memE, celE, w64, Nat.zero_add, Nat.add_zero, Nat.mul_one, putL, and_self, ldn, c_impl_isPolicy, r_impl_isPolicy]
  refine callH_rc (implIsProcess_rc _ _ p (ProcA.mk (hu.ext _))) ?_
  rintro r n1 ⟨rfl, nr1⟩
  cases hg : p.good with
  | false =>
    simp (config := {implicitDefEqProofs := false, maxDischargeDepth := 20}) (disch := first | omega | (simp only [lenE]; done) | (simp only [lenE]; omega) | rfl | (simp only [lenE, markR_len]; done) | (simp only [lenE, markR_len]; omega)) only [runE, mapE, listE, initT_5, initT_6, initT_7, initT_8, resV, oneV, binA, unA, reduceCtorEq, Nat.reduceEqDiff, Nat.reduceAdd, Nat.reduceLT, Nat.reduceLeDiff, Nat.reduceMul, Nat.reduceSub, ↓reduceIte, decide_true, decide_false, Bool.true_eq_false, Bool.false_eq_true, Bool.not_true, Bool.not_false, if_true, if_false, and_true, true_and, memE, celE, w64, Nat.zero_add, Nat.add_zero, Nat.mul_one, putL, and_self, ldn]
    try simp only [List.append_assoc, List.cons_append, List.nil_append, List.append_nil]
    exact ⟨_, rfl, by (repeat (first | exact noRo_nil | assumption | apply noRo_own | apply noRo_dead | apply noRo_app)), by simp, by (repeat (first | exact noRo_nil | assumption | apply noRo_own | apply noRo_dead | apply noRo_app))⟩
  | true =>
  have hG := goodP_iff.1 hg
  by_cases hlen : (L.length : Int) = p.turns
  · simp (config := {implicitDefEqProofs := false, maxDischargeDepth := 20}) (disch := first | omega | (simp only [lenE]; done) | (simp only [lenE]; omega) | rfl | (simp only [lenE, markR_len]; done) | (simp only [lenE, markR_len]; omega)) only [runE, mapE, listE, initT_5, initT_6, initT_7, initT_8, resV, oneV, binA, unA, reduceCtorEq, Nat.reduceEqDiff, Nat.reduceAdd, Nat.reduceLT, Nat.reduceLeDiff, Nat.reduceMul, Nat.reduceSub, ↓reduceIte, decide_true, decide_false, Bool.true_eq_false, Bool.false_eq_true, Bool.not_true, Bool.not_false, if_true, if_false, and_true, true_and, memE, celE, w64, Nat.zero_add, Nat.add_zero, Nat.mul_one, putL, and_self, ldn, hlen, beq_self_eq_true]
    refine callH_rc (containsFuncP_rc _ _ _ L (fun q => !p.pairB q) ((hLr.ext _).ext _) ?_) ?_
    · intro M hX
      refine ⟨_, _, rfl, fun q => ?_⟩
      have hl0 := hX.len
      simp only [List.length_append, roM_len, List.length_cons, List.length_nil] at hl0
      refine noPair_rc _ m.length u p q (by omega) (fun j => ?_) (((hu.ext _).ext _).xt2 hX) hG.len.2
      obtain ⟨n0, rfl, h0⟩ := hX
      rw [rdc_left (by simp [roM_len]), rdc_roM, rdc_left (by simp [roM_len]), rdc_lastH (roM_len m).symm]
      rfl
    · rintro r n2 ⟨rfl, nr2⟩
      simp (config := {implicitDefEqProofs := false, maxDischargeDepth := 20}) (disch := first | omega | (simp only [lenE]; done) | (simp only [lenE]; omega) | rfl | (simp only [lenE, markR_len]; done) | (simp only [lenE, markR_len]; omega)) only [runE, mapE, listE, initT_5, initT_6, initT_7, initT_8, resV, oneV, binA, unA, reduceCtorEq, Nat.reduceEqDiff, Nat.reduceAdd, Nat.reduceLT, Nat.reduceLeDiff, Nat.reduceMul, Nat.reduceSub, ↓reduceIte, decide_true, decide_false, Bool.true_eq_false, Bool.false_eq_true, Bool.not_true, Bool.not_false, if_true, if_false, and_true, true_and, memE, celE, w64, Nat.zero_add, Nat.add_zero, Nat.mul_one, putL, and_self, ldn]
      try simp only [List.append_assoc, List.cons_append, List.nil_append, List.append_nil]
      refine ⟨_, rfl, by (repeat (first | exact noRo_nil | assumption | apply noRo_own | apply noRo_dead | apply noRo_app)), ?_, by (repeat (first | exact noRo_nil | assumption | apply noRo_own | apply noRo_dead | apply noRo_app))⟩
      rw [polB_any]
      simp [Pr.polB, hlen]
  · have hlen' : ((L.length : Int) == p.turns) = false := by simp [hlen]
    simp (config := {implicitDefEqProofs := false, maxDischargeDepth := 20}) (disch := first | omega | (simp only [lenE]; done) | (simp only [lenE]; omega) | rfl | (simp only [lenE, markR_len]; done) | (simp only [lenE, markR_len]; omega)) only [runE, mapE, listE, initT_5, initT_6, initT_7, initT_8, resV, oneV, binA, unA, reduceCtorEq, Nat.reduceEqDiff, Nat.reduceAdd, Nat.reduceLT, Nat.reduceLeDiff, Nat.reduceMul, Nat.reduceSub, ↓reduceIte, decide_true, decide_false, Bool.true_eq_false, Bool.false_eq_true, Bool.not_true, Bool.not_false, if_true, if_false, and_true, true_and, memE, celE, w64, Nat.zero_add, Nat.add_zero, Nat.mul_one, putL, and_self, ldn, hlen']
    try simp only [List.append_assoc, List.cons_append, List.nil_append, List.append_nil]
    exact ⟨_, rfl, by (repeat (first | exact noRo_nil | assumption | apply noRo_own | apply noRo_dead | apply noRo_app)), by simp [Pr.polB, hlen], by (repeat (first | exact noRo_nil | assumption | apply noRo_own | apply noRo_dead | apply noRo_app))⟩
theorem l6Policy_rc (m : Mem) (v vl : Value) (p : Pr) (L : List (Int × Int)) (h : ProcA m v p) (hL : PairsA m vl L) (hg : GoodP p) : RC Try.prog 38 [v, vl] m (AnsV (.bool (p.polB L))) := by
  refine rc_of_run mixed ok_spec_l6Policy (by simp) (go_start _ _ _ ?_)
  obtain ⟨u, rfl, hu⟩ := h.ro
  obtain ⟨hb, id, fl, rfl, hc⟩ := hL.ro
  simp (config := {implicitDefEqProofs := false, maxDischargeDepth := 20}) (disch := first | omega | (simp only [lenE]; done) | (simp only [lenE]; omega) | rfl | (simp only [lenE, markR_len]; done) | (simp only [lenE, markR_len]; omega)) only [runE, mapE, listE, initT_5, initT_6, initT_7, initT_8, resV, oneV, binA, unA, reduceCtorEq, Nat.reduceEqDiff, Nat.reduceAdd, Nat.reduceLT, Nat.reduceLeDiff, Nat.reduceMul, Nat.reduceSub, ↓reduceIte, decide_true, decide_false, Bool.true_eq_false, Bool.false_eq_true, Bool.not_true, Bool.not_false, if_true, if_false, and_true, true_and, memE, celE, w64, Nat.zero_add, Nat.add_zero, Nat.mul_one, putL, and_self, ldn, c_spec_l6Policy, r_spec_l6Policy]
  refine loop_inv mixed (fun s => ∃ (k : Nat) (M : Mem), k ≤ L.length ∧ s.m = M ∧ Ext m M ∧ OwnB M m.length 26 [.int .i64 p.turns, u, .int .i64 p.setup, .int .i64 p.unit, .int .i64 p.hold, .int .i64 p.back] ∧ (∀ j, j < k → p.pairB (L.getD j (0, 0)) = true) ∧ s.t 1 = .slice (some ⟨id, 0, none⟩) L.length fl ∧ s.t 2 = .pointer (some ⟨m.length, 0, none⟩) ∧ s.t 5 = .int .i64 k) (fun s => L.length - (intOf (s.t 5)).toNat)
    ⟨0, _, by omega, rfl, (Ext.refl m).one _ _, OwnB.here (roM_len m).symm, fun j hj => absurd hj (by omega), rfl, rfl, rfl⟩ ?_
  rintro s ⟨k, M, hk, tm, hX, hbx, hall, t1, t2, t5⟩
  by_cases hlt : k < L.length
  · have hlt' : (k : Int) < L.length := by omega
    have r1 := hX.rd ((rdc_roM m id (k * 2)).symm.trans (hc k hlt).1)
    have r2 := hX.rd ((rdc_roM m id (k * 2 + 1)).symm.trans (hc k hlt).2)
    have hidM := rdc_blk2 r1
    obtain ⟨a, ha⟩ : ∃ a, a = (L.getD k (0, 0)).1 := ⟨_, rfl⟩
    obtain ⟨b, hb'⟩ : ∃ b, b = (L.getD k (0, 0)).2 := ⟨_, rfl⟩
    have hq : L.getD k (0, 0) = (a, b) := by rw [ha, hb']
    rw [← ha] at r1
    rw [← hb'] at r2
    obtain ⟨M1, hM1⟩ : ∃ M', M' = M ++ [⟨.own, 46, [.int .i64 a, .int .i64 b]⟩] := ⟨_, rfl⟩
    have hX1 : Ext m M1 := by rw [hM1]; exact hX.one _ _
    have hb1 : OwnB M1 m.length 26 [.int .i64 p.turns, u, .int .i64 p.setup, .int .i64 p.unit, .int .i64 p.hold, .int .i64 p.back] := by rw [hM1]; exact hbx.ext _
    have hbp : OwnB M1 M.length 46 [.int .i64 a, .int .i64 b] := by rw [hM1]; exact OwnB.here rfl
    have hno : ∀ {x : Bool}, p.pairB (a, b) = false → L.all p.pairB = false := fun hx => by
      cases hr : L.all p.pairB with
      | false => rfl
      | true =>
        rw [List.all_eq_true] at hr
        have := hr (L.getD k (0, 0)) (by rw [List.getD_eq_getElem?_getD, List.getElem?_eq_getElem hlt]; exact List.getElem_mem hlt)
        rw [hq, hx] at this; cases this
    simp (config := {implicitDefEqProofs := false, maxDischargeDepth := 20}) (disch := first | omega | (simp only [lenE]; done) | (simp only [lenE]; omega) | rfl | (simp only [lenE, markR_len]; done) | (simp only [lenE, markR_len]; omega)) only [runE, mapE, listE, initT_5, initT_6, initT_7, initT_8, resV, oneV, binA, unA, reduceCtorEq, Nat.reduceEqDiff, Nat.reduceAdd, Nat.reduceLT, Nat.reduceLeDiff, Nat.reduceMul, Nat.reduceSub, ↓reduceIte, decide_true, decide_false, Bool.true_eq_false, Bool.false_eq_true, Bool.not_true, Bool.not_false, if_true, if_false, and_true, true_and, memE, celE, w64, Nat.zero_add, Nat.add_zero, Nat.mul_one, putL, and_self, ldn, tm, t1, t2, t5, hlt', iadA_in hlt, r1, r2]
    rw [← hM1]
    simp (config := {implicitDefEqProofs := false, maxDischargeDepth := 20}) (disch := first | omega | (simp only [lenE]; done) | (simp only [lenE]; omega) | rfl | (simp only [lenE, markR_len]; done) | (simp only [lenE, markR_len]; omega)) only [runE, mapE, listE, initT_5, initT_6, initT_7, initT_8, resV, oneV, binA, unA, reduceCtorEq, Nat.reduceEqDiff, Nat.reduceAdd, Nat.reduceLT, Nat.reduceLeDiff, Nat.reduceMul, Nat.reduceSub, ↓reduceIte, decide_true, decide_false, Bool.true_eq_false, Bool.false_eq_true, Bool.not_true, Bool.not_false, if_true, if_false, and_true, true_and, memE, celE, w64, Nat.zero_add, Nat.add_zero, Nat.mul_one, putL, and_self, ldn, t1, t2, t5, iada_0, iada_1, hbp.rd]
    refine rcallH_rc (l6Level_rc _ a) ?_
    rintro r n1 ⟨rfl, rfl⟩
    rw [List.append_nil]
    have fin : ∀ (A : Mem), Ext m A → p.pairB (a, b) = false → newQ m (AnsV (.bool (p.polB L))) (.bool false) A := fun A hA hx => ext_ansV3 hA (by rw [Pr.polB, hno (x := true) hx]; simp)
    cases h1 : levB a with
    | false =>
      simp (config := {implicitDefEqProofs := false, maxDischargeDepth := 20}) (disch := first | omega | (simp only [lenE]; done) | (simp only [lenE]; omega) | rfl | (simp only [lenE, markR_len]; done) | (simp only [lenE, markR_len]; omega)) only [runE, mapE, listE, initT_5, initT_6, initT_7, initT_8, resV, oneV, binA, unA, reduceCtorEq, Nat.reduceEqDiff, Nat.reduceAdd, Nat.reduceLT, Nat.reduceLeDiff, Nat.reduceMul, Nat.reduceSub, ↓reduceIte, decide_true, decide_false, Bool.true_eq_false, Bool.false_eq_true, Bool.not_true, Bool.not_false, if_true, if_false, and_true, true_and, memE, celE, w64, Nat.zero_add, Nat.add_zero, Nat.mul_one, putL, and_self, ldn, t1, t2, t5]
      exact fin _ hX1 (by simp [Pr.pairB, h1])
    | true =>
    simp (config := {implicitDefEqProofs := false, maxDischargeDepth := 20}) (disch := first | omega | (simp only [lenE]; done) | (simp only [lenE]; omega) | rfl | (simp only [lenE, markR_len]; done) | (simp only [lenE, markR_len]; omega)) only [runE, mapE, listE, initT_5, initT_6, initT_7, initT_8, resV, oneV, binA, unA, reduceCtorEq, Nat.reduceEqDiff, Nat.reduceAdd, Nat.reduceLT, Nat.reduceLeDiff, Nat.reduceMul, Nat.reduceSub, ↓reduceIte, decide_true, decide_false, Bool.true_eq_false, Bool.false_eq_true, Bool.not_true, Bool.not_false, if_true, if_false, and_true, true_and, memE, celE, w64, Nat.zero_add, Nat.add_zero, Nat.mul_one, putL, and_self, ldn, t1, t2, t5, iada_0, iada_1, hbp.rd]
    refine rcallH_rc (l6Level_rc _ b) ?_
    rintro r n1 ⟨rfl, rfl⟩
    rw [List.append_nil]
    cases h2 : levB b with
    | false =>
      simp (config := {implicitDefEqProofs := false, maxDischargeDepth := 20}) (disch := first | omega | (simp only [lenE]; done) | (simp only [lenE]; omega) | rfl | (simp only [lenE, markR_len]; done) | (simp only [lenE, markR_len]; omega)) only [runE, mapE, listE, initT_5, initT_6, initT_7, initT_8, resV, oneV, binA, unA, reduceCtorEq, Nat.reduceEqDiff, Nat.reduceAdd, Nat.reduceLT, Nat.reduceLeDiff, Nat.reduceMul, Nat.reduceSub, ↓reduceIte, decide_true, decide_false, Bool.true_eq_false, Bool.false_eq_true, Bool.not_true, Bool.not_false, if_true, if_false, and_true, true_and, memE, celE, w64, Nat.zero_add, Nat.add_zero, Nat.mul_one, putL, and_self, ldn, t1, t2, t5]
      exact fin _ hX1 (by simp [Pr.pairB, h2])
    | true =>
    by_cases h3 : b < a
    · simp (config := {implicitDefEqProofs := false, maxDischargeDepth := 20}) (disch := first | omega | (simp only [lenE]; done) | (simp only [lenE]; omega) | rfl | (simp only [lenE, markR_len]; done) | (simp only [lenE, markR_len]; omega)) only [runE, mapE, listE, initT_5, initT_6, initT_7, initT_8, resV, oneV, binA, unA, reduceCtorEq, Nat.reduceEqDiff, Nat.reduceAdd, Nat.reduceLT, Nat.reduceLeDiff, Nat.reduceMul, Nat.reduceSub, ↓reduceIte, decide_true, decide_false, Bool.true_eq_false, Bool.false_eq_true, Bool.not_true, Bool.not_false, if_true, if_false, and_true, true_and, memE, celE, w64, Nat.zero_add, Nat.add_zero, Nat.mul_one, putL, and_self, ldn, t1, t2, t5, iada_0, iada_1, hbp.rd, gt_iff_lt, h3]
      exact fin _ hX1 (by simp [Pr.pairB]; intros; omega)
    · simp (config := {implicitDefEqProofs := false, maxDischargeDepth := 20}) (disch := first | omega | (simp only [lenE]; done) | (simp only [lenE]; omega) | rfl | (simp only [lenE, markR_len]; done) | (simp only [lenE, markR_len]; omega)) only [runE, mapE, listE, initT_5, initT_6, initT_7, initT_8, resV, oneV, binA, unA, reduceCtorEq, Nat.reduceEqDiff, Nat.reduceAdd, Nat.reduceLT, Nat.reduceLeDiff, Nat.reduceMul, Nat.reduceSub, ↓reduceIte, decide_true, decide_false, Bool.true_eq_false, Bool.false_eq_true, Bool.not_true, Bool.not_false, if_true, if_false, and_true, true_and, memE, celE, w64, Nat.zero_add, Nat.add_zero, Nat.mul_one, putL, and_self, ldn, t1, t2, t5, iada_0, iada_1, hbp.rd, gt_iff_lt, h3, hb1.rd]
      refine rcallH_rc (l6Floor_rc _ _ p (ProcA.mk (hX1.ints hu)) hg) ?_
      rintro r n2 ⟨rfl, nr2⟩
      by_cases h4 : b < p.floor
      · simp (config := {implicitDefEqProofs := false, maxDischargeDepth := 20}) (disch := first | omega | (simp only [lenE]; done) | (simp only [lenE]; omega) | rfl | (simp only [lenE, markR_len]; done) | (simp only [lenE, markR_len]; omega)) only [runE, mapE, listE, initT_5, initT_6, initT_7, initT_8, resV, oneV, binA, unA, reduceCtorEq, Nat.reduceEqDiff, Nat.reduceAdd, Nat.reduceLT, Nat.reduceLeDiff, Nat.reduceMul, Nat.reduceSub, ↓reduceIte, decide_true, decide_false, Bool.true_eq_false, Bool.false_eq_true, Bool.not_true, Bool.not_false, if_true, if_false, and_true, true_and, memE, celE, w64, Nat.zero_add, Nat.add_zero, Nat.mul_one, putL, and_self, ldn, t1, t2, t5, h4]
        exact fin _ (hX1.app nr2) (by simp [Pr.pairB]; intros; omega)
      · simp (config := {implicitDefEqProofs := false, maxDischargeDepth := 20}) (disch := first | omega | (simp only [lenE]; done) | (simp only [lenE]; omega) | rfl | (simp only [lenE, markR_len]; done) | (simp only [lenE, markR_len]; omega)) only [runE, mapE, listE, initT_5, initT_6, initT_7, initT_8, resV, oneV, binA, unA, reduceCtorEq, Nat.reduceEqDiff, Nat.reduceAdd, Nat.reduceLT, Nat.reduceLeDiff, Nat.reduceMul, Nat.reduceSub, ↓reduceIte, decide_true, decide_false, Bool.true_eq_false, Bool.false_eq_true, Bool.not_true, Bool.not_false, if_true, if_false, and_true, true_and, memE, celE, w64, Nat.zero_add, Nat.add_zero, Nat.mul_one, putL, and_self, ldn, t1, t2, t5, h4]
        refine ⟨⟨k + 1, _, by omega, rfl, hX1.app nr2, hb1.ext _, fun j hj => ?_, by simp⟩, ?_⟩
        · by_cases e : j = k
          · rw [e, hq]; simp [Pr.pairB, h1, h2]; omega
          · exact hall j (by omega)
        · simp [intOf]; omega
  · have hlt' : ¬ ((k : Int) < L.length) := by omega
    have e : k = L.length := by omega
    subst e
    simp (config := {implicitDefEqProofs := false, maxDischargeDepth := 20}) (disch := first | omega | (simp only [lenE]; done) | (simp only [lenE]; omega) | rfl | (simp only [lenE, markR_len]; done) | (simp only [lenE, markR_len]; omega)) only [runE, mapE, listE, initT_5, initT_6, initT_7, initT_8, resV, oneV, binA, unA, reduceCtorEq, Nat.reduceEqDiff, Nat.reduceAdd, Nat.reduceLT, Nat.reduceLeDiff, Nat.reduceMul, Nat.reduceSub, ↓reduceIte, decide_true, decide_false, Bool.true_eq_false, Bool.false_eq_true, Bool.not_true, Bool.not_false, if_true, if_false, and_true, true_and, memE, celE, w64, Nat.zero_add, Nat.add_zero, Nat.mul_one, putL, and_self, ldn, tm, t1, t2, t5, hlt', hbx.rd]
    refine ext_ansV3 hX ?_
    have : L.all p.pairB = true := by
      rw [List.all_eq_true]
      intro q hq
      obtain ⟨j, hj, rfl⟩ := List.getElem_of_mem hq
      have := hall j (by omega)
      rwa [List.getD_eq_getElem?_getD, List.getElem?_eq_getElem hj] at this
    rw [Pr.polB, this]
    by_cases e2 : (L.length : Int) = p.turns <;> simp [e2]
theorem implIsPolicy_rc (m : Mem) (v vl : Value) (p : Pr) (L : List (Int × Int)) (h : ProcA m v p) (hL : PairsA m vl L) : RC Try.prog 10 [v, vl] m (AnsV (.tuple #[.bool (p.good && p.polB L), .bool p.good])) := by
  refine rc_of_run mixed ok_impl_IsPolicy (by simp) (go_start _ _ _ ?_)
  obtain ⟨u, rfl, hu⟩ := h.ro
  simp (config := {implicitDefEqProofs := false, maxDischargeDepth := 20}) (disch := first | omega | (simp only [lenE]; done) | (simp only [lenE]; omega) | rfl | (simp only [lenE, markR_len]; done) | (simp only [lenE, markR_len]; omega)) only [runE, mapE, listE, initT_5, initT_6, initT_7, initT_8, resV, oneV, binA, unA, reduceCtorEq, Nat.reduceEqDiff, Nat.reduceAdd, Nat.reduceLT, Nat.reduceLeDiff, Nat.reduceMul, Nat.reduceSub, ↓reduceIte, decide_true, decide_false, Bool.true_eq_false, Bool.false_eq_true, Bool.not_true, Bool.not_false, if_true, if_false, and_true, true_and, memE, celE, w64, Nat.zero_add, Nat.add_zero, Nat.mul_one, putL, and_self, ldn, c_impl_IsPolicy, r_impl_IsPolicy]
  refine callH_rc (implIsProcess_rc _ _ p (ProcA.mk (hu.ext _))) ?_
  rintro r n1 ⟨rfl, nr1⟩
  cases hg : p.good with
  | false =>
    simp (config := {implicitDefEqProofs := false, maxDischargeDepth := 20}) (disch := first | omega | (simp only [lenE]; done) | (simp only [lenE]; omega) | rfl | (simp only [lenE, markR_len]; done) | (simp only [lenE, markR_len]; omega)) only [runE, mapE, listE, initT_5, initT_6, initT_7, initT_8, resV, oneV, binA, unA, reduceCtorEq, Nat.reduceEqDiff, Nat.reduceAdd, Nat.reduceLT, Nat.reduceLeDiff, Nat.reduceMul, Nat.reduceSub, ↓reduceIte, decide_true, decide_false, Bool.true_eq_false, Bool.false_eq_true, Bool.not_true, Bool.not_false, if_true, if_false, and_true, true_and, memE, celE, w64, Nat.zero_add, Nat.add_zero, Nat.mul_one, putL, and_self, ldn]
    try simp only [List.append_assoc, List.cons_append, List.nil_append, List.append_nil]
    exact ⟨_, rfl, by (repeat (first | exact noRo_nil | assumption | apply noRo_own | apply noRo_dead | apply noRo_app)), by simp, by (repeat (first | exact noRo_nil | assumption | apply noRo_own | apply noRo_dead | apply noRo_app))⟩
  | true =>
    simp (config := {implicitDefEqProofs := false, maxDischargeDepth := 20}) (disch := first | omega | (simp only [lenE]; done) | (simp only [lenE]; omega) | rfl | (simp only [lenE, markR_len]; done) | (simp only [lenE, markR_len]; omega)) only [runE, mapE, listE, initT_5, initT_6, initT_7, initT_8, resV, oneV, binA, unA, reduceCtorEq, Nat.reduceEqDiff, Nat.reduceAdd, Nat.reduceLT, Nat.reduceLeDiff, Nat.reduceMul, Nat.reduceSub, ↓reduceIte, decide_true, decide_false, Bool.true_eq_false, Bool.false_eq_true, Bool.not_true, Bool.not_false, if_true, if_false, and_true, true_and, memE, celE, w64, Nat.zero_add, Nat.add_zero, Nat.mul_one, putL, and_self, ldn]
    refine callH_rc (isPolicy_rc _ _ vl p L (ProcA.mk ((hu.ext _).ext _)) ((hL.ro.ext _).ext _)) ?_
    rintro r n2 ⟨rfl, nr2⟩
    simp (config := {implicitDefEqProofs := false, maxDischargeDepth := 20}) (disch := first | omega | (simp only [lenE]; done) | (simp only [lenE]; omega) | rfl | (simp only [lenE, markR_len]; done) | (simp only [lenE, markR_len]; omega)) only [runE, mapE, listE, initT_5, initT_6, initT_7, initT_8, resV, oneV, binA, unA, reduceCtorEq, Nat.reduceEqDiff, Nat.reduceAdd, Nat.reduceLT, Nat.reduceLeDiff, Nat.reduceMul, Nat.reduceSub, ↓reduceIte, decide_true, decide_false, Bool.true_eq_false, Bool.false_eq_true, Bool.not_true, Bool.not_false, if_true, if_false, and_true, true_and, memE, celE, w64, Nat.zero_add, Nat.add_zero, Nat.mul_one, putL, and_self, ldn]
    try simp only [List.append_assoc, List.cons_append, List.nil_append, List.append_nil]
    exact ⟨_, rfl, by (repeat (first | exact noRo_nil | assumption | apply noRo_own | apply noRo_dead | apply noRo_app)), by rw [hg], by (repeat (first | exact noRo_nil | assumption | apply noRo_own | apply noRo_dead | apply noRo_app))⟩
theorem specIsPolicy_rc (m : Mem) (v vl : Value) (p : Pr) (L : List (Int × Int)) (h : ProcA m v p) (hL : PairsA m vl L) : RC Try.prog 11 [v, vl] m (AnsV (.tuple #[.bool (p.good && p.polB L), .bool p.good])) := by
  refine rc_of_run mixed ok_spec_IsPolicy (by simp) (go_start _ _ _ ?_)
  obtain ⟨u, rfl, hu⟩ := h.ro
  simp (config := {implicitDefEqProofs := false, maxDischargeDepth := 20}) (disch := first | omega | (simp only [lenE]; done) | (simp only [lenE]; omega) | rfl | (simp only [lenE, markR_len]; done) | (simp only [lenE, markR_len]; omega)) only [runE, mapE, listE, initT_5, initT_6, initT_7, initT_8, resV, oneV, binA, unA, reduceCtorEq, Nat.reduceEqDiff, Nat.reduceAdd, Nat.reduceLT, Nat.reduceLeDiff, Nat.reduceMul, Nat.reduceSub, ↓reduceIte, decide_true, decide_false, Bool.true_eq_false, Bool.false_eq_true, Bool.not_true, Bool.not_false, if_true, if_false, and_true, true_and, memE, celE, w64, Nat.zero_add, Nat.add_zero, Nat.mul_one, putL, and_self, ldn, c_spec_IsPolicy, r_spec_IsPolicy]
  refine callH_rc (l6Good_rc _ _ p (ProcA.mk (hu.ext _))) ?_
  rintro r n1 ⟨rfl, nr1⟩
  cases hg : p.good with
  | false =>
    simp (config := {implicitDefEqProofs := false, maxDischargeDepth := 20}) (disch := first | omega | (simp only [lenE]; done) | (simp only [lenE]; omega) | rfl | (simp only [lenE, markR_len]; done) | (simp only [lenE, markR_len]; omega)) only [runE, mapE, listE, initT_5, initT_6, initT_7, initT_8, resV, oneV, binA, unA, reduceCtorEq, Nat.reduceEqDiff, Nat.reduceAdd, Nat.reduceLT, Nat.reduceLeDiff, Nat.reduceMul, Nat.reduceSub, ↓reduceIte, decide_true, decide_false, Bool.true_eq_false, Bool.false_eq_true, Bool.not_true, Bool.not_false, if_true, if_false, and_true, true_and, memE, celE, w64, Nat.zero_add, Nat.add_zero, Nat.mul_one, putL, and_self, ldn]
    try simp only [List.append_assoc, List.cons_append, List.nil_append, List.append_nil]
    exact ⟨_, rfl, by (repeat (first | exact noRo_nil | assumption | apply noRo_own | apply noRo_dead | apply noRo_app)), by simp, by (repeat (first | exact noRo_nil | assumption | apply noRo_own | apply noRo_dead | apply noRo_app))⟩
  | true =>
    simp (config := {implicitDefEqProofs := false, maxDischargeDepth := 20}) (disch := first | omega | (simp only [lenE]; done) | (simp only [lenE]; omega) | rfl | (simp only [lenE, markR_len]; done) | (simp only [lenE, markR_len]; omega)) only [runE, mapE, listE, initT_5, initT_6, initT_7, initT_8, resV, oneV, binA, unA, reduceCtorEq, Nat.reduceEqDiff, Nat.reduceAdd, Nat.reduceLT, Nat.reduceLeDiff, Nat.reduceMul, Nat.reduceSub, ↓reduceIte, decide_true, decide_false, Bool.true_eq_false, Bool.false_eq_true, Bool.not_true, Bool.not_false, if_true, if_false, and_true, true_and, memE, celE, w64, Nat.zero_add, Nat.add_zero, Nat.mul_one, putL, and_self, ldn]
    refine callH_rc (l6Policy_rc _ _ vl p L (ProcA.mk ((hu.ext _).ext _)) ((hL.ro.ext _).ext _) (goodP_iff.1 hg)) ?_
    rintro r n2 ⟨rfl, nr2⟩
    simp (config := {implicitDefEqProofs := false, maxDischargeDepth := 20}) (disch := first | omega | (simp only [lenE]; done) | (simp only [lenE]; omega) | rfl | (simp only [lenE, markR_len]; done) | (simp only [lenE, markR_len]; omega)) only [runE, mapE, listE, initT_5, initT_6, initT_7, initT_8, resV, oneV, binA, unA, reduceCtorEq, Nat.reduceEqDiff, Nat.reduceAdd, Nat.reduceLT, Nat.reduceLeDiff, Nat.reduceMul, Nat.reduceSub, ↓reduceIte, decide_true, decide_false, Bool.true_eq_false, Bool.false_eq_true, Bool.not_true, Bool.not_false, if_true, if_false, and_true, true_and, memE, celE, w64, Nat.zero_add, Nat.add_zero, Nat.mul_one, putL, and_self, ldn]
    try simp only [List.append_assoc, List.cons_append, List.nil_append, List.append_nil]
    exact ⟨_, rfl, by (repeat (first | exact noRo_nil | assumption | apply noRo_own | apply noRo_dead | apply noRo_app)), by simp, by (repeat (first | exact noRo_nil | assumption | apply noRo_own | apply noRo_dead | apply noRo_app))⟩
theorem policyOrder_rc (m : Mem) (v : Value) (p : Pr) (q : Int × Int) (x : Int) (h : ProcA m v p) (hl : p.w.length ≤ 5) : RC Try.prog 36 [v, pairV q, .int .i64 x] m (AnsV (.int .i64 (p.upOf q x))) := by
  refine rc_of_run mixed ok_impl_policyOrder (by simp) (go_start _ _ _ ?_)
  obtain ⟨u, rfl, hu⟩ := h.ro
  obtain ⟨a, b⟩ := q
  unfold Pr.upOf
  by_cases h1 : x < a
  · simp (config := {implicitDefEqProofs := false, maxDischargeDepth := 20}) (disch := first | omega | (simp only [lenE]; done) | (simp only [lenE]; omega) | rfl | (simp only [lenE, markR_len]; done) | (simp only [lenE, markR_len]; omega)) only [runE, mapE, listE, initT_5, initT_6, initT_7, initT_8, resV, oneV, binA, unA, reduceCtorEq, Nat.reduceEqDiff, Nat.reduceAdd, Nat.reduceLT, Nat.reduceLeDiff, Nat.reduceMul, Nat.reduceSub, ↓reduceIte, decide_true, decide_false, Bool.true_eq_false, Bool.false_eq_true, Bool.not_true, Bool.not_false, if_true, if_false, and_true, true_and, memE, celE, w64, Nat.zero_add, Nat.add_zero, Nat.mul_one, putL, and_self, ldn, c_impl_policyOrder, r_impl_policyOrder, iada_0, iada_1, h1]
    try simp only [List.append_assoc, List.cons_append, List.nil_append, List.append_nil]
    exact ⟨_, rfl, by (repeat (first | exact noRo_nil | assumption | apply noRo_own | apply noRo_dead | apply noRo_app)), by simp [h1], by (repeat (first | exact noRo_nil | assumption | apply noRo_own | apply noRo_dead | apply noRo_app))⟩
  · simp (config := {implicitDefEqProofs := false, maxDischargeDepth := 20}) (disch := first | omega | (simp only [lenE]; done) | (simp only [lenE]; omega) | rfl | (simp only [lenE, markR_len]; done) | (simp only [lenE, markR_len]; omega)) only [runE, mapE, listE, initT_5, initT_6, initT_7, initT_8, resV, oneV, binA, unA, reduceCtorEq, Nat.reduceEqDiff, Nat.reduceAdd, Nat.reduceLT, Nat.reduceLeDiff, Nat.reduceMul, Nat.reduceSub, ↓reduceIte, decide_true, decide_false, Bool.true_eq_false, Bool.false_eq_true, Bool.not_true, Bool.not_false, if_true, if_false, and_true, true_and, memE, celE, w64, Nat.zero_add, Nat.add_zero, Nat.mul_one, putL, and_self, ldn, c_impl_policyOrder, r_impl_policyOrder, iada_0, iada_1, h1]
    refine callH_rc (floorOf_rc _ _ p (ProcA.mk ((hu.ext _).ext _)) hl) ?_
    rintro r n1 ⟨rfl, nr1⟩
    by_cases h2 : x < p.floor
    · simp (config := {implicitDefEqProofs := false, maxDischargeDepth := 20}) (disch := first | omega | (simp only [lenE]; done) | (simp only [lenE]; omega) | rfl | (simp only [lenE, markR_len]; done) | (simp only [lenE, markR_len]; omega)) only [runE, mapE, listE, initT_5, initT_6, initT_7, initT_8, resV, oneV, binA, unA, reduceCtorEq, Nat.reduceEqDiff, Nat.reduceAdd, Nat.reduceLT, Nat.reduceLeDiff, Nat.reduceMul, Nat.reduceSub, ↓reduceIte, decide_true, decide_false, Bool.true_eq_false, Bool.false_eq_true, Bool.not_true, Bool.not_false, if_true, if_false, and_true, true_and, memE, celE, w64, Nat.zero_add, Nat.add_zero, Nat.mul_one, putL, and_self, ldn, iada_0, iada_1, h2]
      try simp only [List.append_assoc, List.cons_append, List.nil_append, List.append_nil]
      exact ⟨_, rfl, by (repeat (first | exact noRo_nil | assumption | apply noRo_own | apply noRo_dead | apply noRo_app)), by simp [h2], by (repeat (first | exact noRo_nil | assumption | apply noRo_own | apply noRo_dead | apply noRo_app))⟩
    · simp (config := {implicitDefEqProofs := false, maxDischargeDepth := 20}) (disch := first | omega | (simp only [lenE]; done) | (simp only [lenE]; omega) | rfl | (simp only [lenE, markR_len]; done) | (simp only [lenE, markR_len]; omega)) only [runE, mapE, listE, initT_5, initT_6, initT_7, initT_8, resV, oneV, binA, unA, reduceCtorEq, Nat.reduceEqDiff, Nat.reduceAdd, Nat.reduceLT, Nat.reduceLeDiff, Nat.reduceMul, Nat.reduceSub, ↓reduceIte, decide_true, decide_false, Bool.true_eq_false, Bool.false_eq_true, Bool.not_true, Bool.not_false, if_true, if_false, and_true, true_and, memE, celE, w64, Nat.zero_add, Nat.add_zero, Nat.mul_one, putL, and_self, ldn, iada_0, iada_1, h2]
      try simp only [List.append_assoc, List.cons_append, List.nil_append, List.append_nil]
      exact ⟨_, rfl, by (repeat (first | exact noRo_nil | assumption | apply noRo_own | apply noRo_dead | apply noRo_app)), by simp [h1, h2], by (repeat (first | exact noRo_nil | assumption | apply noRo_own | apply noRo_dead | apply noRo_app))⟩
theorem l6Up_rc (m : Mem) (v : Value) (p : Pr) (q : Int × Int) (x : Int) (h : ProcA m v p) (hg : GoodP p) : RC Try.prog 39 [v, pairV q, .int .i64 x] m (AnsV (.int .i64 (p.upOf q x))) := by
  refine rc_of_run mixed ok_spec_l6Up (by simp) (go_start _ _ _ ?_)
  obtain ⟨u, rfl, hu⟩ := h.ro
  obtain ⟨a, b⟩ := q
  unfold Pr.upOf
  by_cases h1 : x < a
  · simp (config := {implicitDefEqProofs := false, maxDischargeDepth := 20}) (disch := first | omega | (simp only [lenE]; done) | (simp only [lenE]; omega) | rfl | (simp only [lenE, markR_len]; done) | (simp only [lenE, markR_len]; omega)) only [runE, mapE, listE, initT_5, initT_6, initT_7, initT_8, resV, oneV, binA, unA, reduceCtorEq, Nat.reduceEqDiff, Nat.reduceAdd, Nat.reduceLT, Nat.reduceLeDiff, Nat.reduceMul, Nat.reduceSub, ↓reduceIte, decide_true, decide_false, Bool.true_eq_false, Bool.false_eq_true, Bool.not_true, Bool.not_false, if_true, if_false, and_true, true_and, memE, celE, w64, Nat.zero_add, Nat.add_zero, Nat.mul_one, putL, and_self, ldn, c_spec_l6Up, r_spec_l6Up, iada_0, iada_1, h1]
    try simp only [List.append_assoc, List.cons_append, List.nil_append, List.append_nil]
    exact ⟨_, rfl, by (repeat (first | exact noRo_nil | assumption | apply noRo_own | apply noRo_dead | apply noRo_app)), by simp [h1], by (repeat (first | exact noRo_nil | assumption | apply noRo_own | apply noRo_dead | apply noRo_app))⟩
  · simp (config := {implicitDefEqProofs := false, maxDischargeDepth := 20}) (disch := first | omega | (simp only [lenE]; done) | (simp only [lenE]; omega) | rfl | (simp only [lenE, markR_len]; done) | (simp only [lenE, markR_len]; omega)) only [runE, mapE, listE, initT_5, initT_6, initT_7, initT_8, resV, oneV, binA, unA, reduceCtorEq, Nat.reduceEqDiff, Nat.reduceAdd, Nat.reduceLT, Nat.reduceLeDiff, Nat.reduceMul, Nat.reduceSub, ↓reduceIte, decide_true, decide_false, Bool.true_eq_false, Bool.false_eq_true, Bool.not_true, Bool.not_false, if_true, if_false, and_true, true_and, memE, celE, w64, Nat.zero_add, Nat.add_zero, Nat.mul_one, putL, and_self, ldn, c_spec_l6Up, r_spec_l6Up, iada_0, iada_1, h1]
    refine callH_rc (l6Floor_rc _ _ p (ProcA.mk ((hu.ext _).ext _)) hg) ?_
    rintro r n1 ⟨rfl, nr1⟩
    by_cases h2 : x < p.floor
    · simp (config := {implicitDefEqProofs := false, maxDischargeDepth := 20}) (disch := first | omega | (simp only [lenE]; done) | (simp only [lenE]; omega) | rfl | (simp only [lenE, markR_len]; done) | (simp only [lenE, markR_len]; omega)) only [runE, mapE, listE, initT_5, initT_6, initT_7, initT_8, resV, oneV, binA, unA, reduceCtorEq, Nat.reduceEqDiff, Nat.reduceAdd, Nat.reduceLT, Nat.reduceLeDiff, Nat.reduceMul, Nat.reduceSub, ↓reduceIte, decide_true, decide_false, Bool.true_eq_false, Bool.false_eq_true, Bool.not_true, Bool.not_false, if_true, if_false, and_true, true_and, memE, celE, w64, Nat.zero_add, Nat.add_zero, Nat.mul_one, putL, and_self, ldn, iada_0, iada_1, h2]
      try simp only [List.append_assoc, List.cons_append, List.nil_append, List.append_nil]
      exact ⟨_, rfl, by (repeat (first | exact noRo_nil | assumption | apply noRo_own | apply noRo_dead | apply noRo_app)), by simp [h2], by (repeat (first | exact noRo_nil | assumption | apply noRo_own | apply noRo_dead | apply noRo_app))⟩
    · simp (config := {implicitDefEqProofs := false, maxDischargeDepth := 20}) (disch := first | omega | (simp only [lenE]; done) | (simp only [lenE]; omega) | rfl | (simp only [lenE, markR_len]; done) | (simp only [lenE, markR_len]; omega)) only [runE, mapE, listE, initT_5, initT_6, initT_7, initT_8, resV, oneV, binA, unA, reduceCtorEq, Nat.reduceEqDiff, Nat.reduceAdd, Nat.reduceLT, Nat.reduceLeDiff, Nat.reduceMul, Nat.reduceSub, ↓reduceIte, decide_true, decide_false, Bool.true_eq_false, Bool.false_eq_true, Bool.not_true, Bool.not_false, if_true, if_false, and_true, true_and, memE, celE, w64, Nat.zero_add, Nat.add_zero, Nat.mul_one, putL, and_self, ldn, iada_0, iada_1, h2]
      try simp only [List.append_assoc, List.cons_append, List.nil_append, List.append_nil]
      exact ⟨_, rfl, by (repeat (first | exact noRo_nil | assumption | apply noRo_own | apply noRo_dead | apply noRo_app)), by simp [h1, h2], by (repeat (first | exact noRo_nil | assumption | apply noRo_own | apply noRo_dead | apply noRo_app))⟩
end Go.Proofs.Ytbchcbhleldhiaa.Ab
end
section
namespace Go.Proofs.Ytbchcbhleldhiaa.Ab
open Go Go.RowKit
set_option linter.unusedVariables false
set_option linter.unusedSimpArgs false
theorem Pr.pol_len {p : Pr} {L : List (Int × Int)} (h : p.polB L = true) : (L.length : Int) = p.turns := by
  simp only [Pr.polB, Bool.and_eq_true, decide_eq_true_eq] at h; exact h.1
theorem Pr.pol_ok {p : Pr} {L : List (Int × Int)} (hL : p.polB L = true) : Pr.okC p (p.polC L) p.turns.toNat := fun k next x hk hx => by
  have hl := Pr.pol_len hL
  exact Pr.upOf_may (Pr.pol_at hL (k := p.turns.toNat - 1 - k) (by omega)) hx
def worthA (p : Pr) (L : List (Int × Int)) : List Int := if p.good && p.polB L then p.rowsN (p.polC L) p.turns.toNat else []
theorem bld_move' (t x y : Int) : bldA [.int .i64 0, .int .i64 0, .int .i64 0] [(0, 1, .int .i64 t), (1, 1, .int .i64 x), (2, 1, .int .i64 y)] = some (moveV t x y) := rfl
theorem policyWorth1_rc (m : Mem) (id id2 : Nat) (u vl : Value) (p : Pr) (L : List (Int × Int)) (t x : Int) (vn : Value) (k : Nat) (hid : id < m.length) (hid2 : id2 < m.length) (hb : ∀ j, rdc m id j = [.int .i64 p.turns, u, .int .i64 p.setup, .int .i64 p.unit, .int .i64 p.hold, .int .i64 p.back][j]?) (hb2 : rdc m id2 0 = some vl) (hu : IntsA m u p.w) (hL : PairsA m vl L) (hl : p.w.length ≤ 5) (ht : t = (k : Int)) (hk : k < L.length) :
    RC Try.prog 35 [.int .i64 t, .int .i64 x, vn, .pointer (some ⟨id, 0, none⟩), .pointer (some ⟨id2, 0, none⟩)] m (AnsV (moveV t x (p.upOf (L.getD k (0, 0)) x))) := by
  subst ht
  refine rc_of_run mixed ok_impl_PolicyWorth_1 (by simp) (go_start _ _ _ ?_)
  have hrd : ∀ j, rdc (roM m) id j = [.int .i64 p.turns, u, .int .i64 p.setup, .int .i64 p.unit, .int .i64 p.hold, .int .i64 p.back][j]? := fun j => by rw [rdc_roM]; exact hb j
  have hrd2 : rdc (roM m) id2 0 = some vl := by rw [rdc_roM]; exact hb2
  obtain ⟨hbd, idl, fl, rfl, hc⟩ := hL.ro
  obtain ⟨r1, r2⟩ := hc k hk
  have hidl := rdc_blk2 r1
  rw [roM_len] at hidl
  simp (config := {implicitDefEqProofs := false, maxDischargeDepth := 20}) (disch := first | omega | (simp only [lenE]; done) | (simp only [lenE]; omega) | rfl | (simp only [lenE, markR_len]; done) | (simp only [lenE, markR_len]; omega)) only [runE, mapE, listE, initT_5, initT_6, initT_7, initT_8, resV, oneV, binA, unA, reduceCtorEq, Nat.reduceEqDiff, Nat.reduceAdd, Nat.reduceLT, Nat.reduceLeDiff, Nat.reduceMul, Nat.reduceSub, ↓reduceIte, decide_true, decide_false, Bool.true_eq_false, Bool.false_eq_true, Bool.not_true, Bool.not_false, if_true, if_false, and_true, true_and, memE, celE, w64, Nat.zero_add, Nat.add_zero, Nat.mul_one, putL, and_self, ldn, c_impl_PolicyWorth_1, r_impl_PolicyWorth_1, hrd, hrd2, iadA_in hk, r1, r2]
  refine rcallH_rc (policyOrder_rc _ _ p (L.getD k (0, 0)) x (ProcA.mk (hu.ro.ext _)) hl) ?_
  rintro r new ⟨rfl, nr⟩
  simp (config := {implicitDefEqProofs := false, maxDischargeDepth := 20}) (disch := first | omega | (simp only [lenE]; done) | (simp only [lenE]; omega) | rfl | (simp only [lenE, markR_len]; done) | (simp only [lenE, markR_len]; omega)) only [runE, mapE, listE, initT_5, initT_6, initT_7, initT_8, resV, oneV, binA, unA, reduceCtorEq, Nat.reduceEqDiff, Nat.reduceAdd, Nat.reduceLT, Nat.reduceLeDiff, Nat.reduceMul, Nat.reduceSub, ↓reduceIte, decide_true, decide_false, Bool.true_eq_false, Bool.false_eq_true, Bool.not_true, Bool.not_false, if_true, if_false, and_true, true_and, memE, celE, w64, Nat.zero_add, Nat.add_zero, Nat.mul_one, putL, and_self, ldn, bld_move']
  try simp only [List.append_assoc, List.cons_append, List.nil_append, List.append_nil]
  exact ⟨_, rfl, by (repeat (first | exact noRo_nil | assumption | apply noRo_own | apply noRo_dead | apply noRo_app)), rfl, by (repeat (first | exact noRo_nil | assumption | apply noRo_own | apply noRo_dead | apply noRo_app))⟩
theorem implPolicyWorth_rc (m : Mem) (v vl : Value) (p : Pr) (L : List (Int × Int)) (h : ProcA m v p) (hL : PairsA m vl L) : RC Try.prog 7 [v, vl] m (AnsO m (IntsO (worthA p L)) fun v => .tuple #[v, .bool (p.good && p.polB L)]) := by
  refine rc_of_run mixed ok_impl_PolicyWorth (by simp) (go_start _ _ _ ?_)
  obtain ⟨u, rfl, hu⟩ := h.ro
  have hLr := hL.ro
  obtain ⟨hbd, idl, fl, rfl, hc⟩ := hL.ro
  unfold worthA
  simp (config := {implicitDefEqProofs := false, maxDischargeDepth := 20}) (disch := first | omega | (simp only [lenE]; done) | (simp only [lenE]; omega) | rfl | (simp only [lenE, markR_len]; done) | (simp only [lenE, markR_len]; omega)) only [runE, mapE, listE, initT_5, initT_6, initT_7, initT_8, resV, oneV, binA, unA, reduceCtorEq, Nat.reduceEqDiff, Nat.reduceAdd, Nat.reduceLT, Nat.reduceLeDiff, Nat.reduceMul, Nat.reduceSub, ↓reduceIte, decide_true, decide_false, Bool.true_eq_false, Bool.false_eq_true, Bool.not_true, Bool.not_false, if_true, if_false, and_true, true_and, memE, celE, w64, Nat.zero_add, Nat.add_zero, Nat.mul_one, putL, and_self, ldn, c_impl_PolicyWorth, r_impl_PolicyWorth]
  refine callH_rc (isPolicy_rc _ _ _ p L (ProcA.mk ((hu.ext _).ext _)) ((hLr.ext _).ext _)) ?_
  rintro r n1 ⟨rfl, nr1⟩
  cases hb : (p.good && p.polB L) with
  | false =>
    simp (config := {implicitDefEqProofs := false, maxDischargeDepth := 20}) (disch := first | omega | (simp only [lenE]; done) | (simp only [lenE]; omega) | rfl | (simp only [lenE, markR_len]; done) | (simp only [lenE, markR_len]; omega)) only [runE, mapE, listE, initT_5, initT_6, initT_7, initT_8, resV, oneV, binA, unA, reduceCtorEq, Nat.reduceEqDiff, Nat.reduceAdd, Nat.reduceLT, Nat.reduceLeDiff, Nat.reduceMul, Nat.reduceSub, ↓reduceIte, decide_true, decide_false, Bool.true_eq_false, Bool.false_eq_true, Bool.not_true, Bool.not_false, if_true, if_false, and_true, true_and, memE, celE, w64, Nat.zero_add, Nat.add_zero, Nat.mul_one, putL, and_self, ldn, bsl_no]
    exact ext_noInts (f := fun v => .tuple #[v, .bool false]) ((((Ext.refl m).one _ _).one _ _).app nr1) (by simp [roM_len]; omega)
  | true =>
    rw [Bool.and_eq_true] at hb
    have hG := goodP_iff.1 hb.1
    have hpl := Pr.pol_len hb.2
    have ht := hG.turns
    simp (config := {implicitDefEqProofs := false, maxDischargeDepth := 20}) (disch := first | omega | (simp only [lenE]; done) | (simp only [lenE]; omega) | rfl | (simp only [lenE, markR_len]; done) | (simp only [lenE, markR_len]; omega)) only [runE, mapE, listE, initT_5, initT_6, initT_7, initT_8, resV, oneV, binA, unA, reduceCtorEq, Nat.reduceEqDiff, Nat.reduceAdd, Nat.reduceLT, Nat.reduceLeDiff, Nat.reduceMul, Nat.reduceSub, ↓reduceIte, decide_true, decide_false, Bool.true_eq_false, Bool.false_eq_true, Bool.not_true, Bool.not_false, if_true, if_false, and_true, true_and, memE, celE, w64, Nat.zero_add, Nat.add_zero, Nat.mul_one, putL, and_self, ldn]
    refine callH_rc (tableBy_rc _ _ _ p (p.polC L) (ProcA.mk (((hu.ext _).ext _).ext _)) hG ?_ (Pr.pol_ok hb.2)) ?_
    · intro M hX
      refine ⟨_, _, rfl, fun t x vn next k hk1 ht0 hk hx hn hl hB => ?_⟩
      have hl0 := hX.len
      simp only [List.length_append, roM_len, List.length_cons, List.length_nil] at hl0
      have hPA := (((hLr.ext _).ext _).ext _ : PairsA (roM m ++ [⟨.own, 26, [.int .i64 p.turns, u, .int .i64 p.setup, .int .i64 p.unit, .int .i64 p.hold, .int .i64 p.back]⟩] ++ [⟨.own, 27, [.slice (some ⟨idl, 0, none⟩) L.length fl]⟩] ++ n1) (.slice (some ⟨idl, 0, none⟩) L.length fl) L)
      have huA := (((hu.ext _).ext _).ext _ : IntsA (roM m ++ [⟨.own, 26, [.int .i64 p.turns, u, .int .i64 p.setup, .int .i64 p.unit, .int .i64 p.hold, .int .i64 p.back]⟩] ++ [⟨.own, 27, [.slice (some ⟨idl, 0, none⟩) L.length fl]⟩] ++ n1) u p.w)
      have e : p.polC L k next x = p.upOf (L.getD t.toNat (0, 0)) x := by
        show p.upOf (L.getD (p.turns.toNat - 1 - k) (0, 0)) x = _
        congr 2; omega
      rw [e]
      obtain ⟨n0, rfl, h0⟩ := hX
      refine policyWorth1_rc _ m.length (m.length + 1) u _ p L t x vn t.toNat (by omega) (by omega) (fun j => ?_) ?_ (huA.ro.ext n0) (hPA.ro.ext n0) hG.len.2 (by omega) (by omega)
      · rw [rdc_left (by simp [roM_len]), rdc_roM, rdc_left (by simp [roM_len]), rdc_left (by simp [roM_len]), rdc_lastH (roM_len m).symm]
        rfl
      · rw [rdc_left (by simp [roM_len]), rdc_roM, rdc_left (by simp [roM_len]), rdc_lastH (by simp [roM_len])]
        rfl
    · rintro r n2 ⟨nr2, w, rfl, hw⟩
      have hT := hw.now
      have a1 := hT.in.at_ 0 (by rw [Pr.tab_len]; omega)
      obtain ⟨hTl, hTs, idT, fT, R, F, hwv, _, _, hoT, hrows, _⟩ := hT
      have hw' : r = .slice (some ⟨idT, 0, none⟩) (p.tab (p.polC L) p.turns.toNat).length fT := hwv
      subst hw'
      have hrow := hrows 0 (by rw [Pr.tab_len]; omega)
      rw [Pr.tab_at p _ (by omega), Nat.sub_zero] at hrow
      have hcell := hoT.rd 0
      rw [rowsC_at (by rw [Pr.tab_len]; omega), Pr.tab_at p _ (by omega), Nat.sub_zero, Pr.rowsN_len] at hcell
      simp (config := {implicitDefEqProofs := false, maxDischargeDepth := 20}) (disch := first | omega | (simp only [lenE]; done) | (simp only [lenE]; omega) | rfl | (simp only [lenE, markR_len]; done) | (simp only [lenE, markR_len]; omega)) only [runE, mapE, listE, initT_5, initT_6, initT_7, initT_8, resV, oneV, binA, unA, reduceCtorEq, Nat.reduceEqDiff, Nat.reduceAdd, Nat.reduceLT, Nat.reduceLeDiff, Nat.reduceMul, Nat.reduceSub, ↓reduceIte, decide_true, decide_false, Bool.true_eq_false, Bool.false_eq_true, Bool.not_true, Bool.not_false, if_true, if_false, and_true, true_and, memE, celE, w64, Nat.zero_add, Nat.add_zero, Nat.mul_one, putL, and_self, ldn, id_eq, iad0 (n := (p.tab (p.polC L) p.turns.toNat).length) (j := 0) (z := 0) rfl (by rw [Pr.tab_len]; omega), hcell]
      have hX := (((Ext.refl m).one 26 [.int .i64 p.turns, u, .int .i64 p.setup, .int .i64 p.unit, .int .i64 p.hold, .int .i64 p.back]).one 27 [.slice (some ⟨idl, 0, none⟩) L.length fl]).app nr1
      have hlenX := hX.len
      refine ext_ansO (f := fun v => .tuple #[v, .bool true]) (hX.app nr2) fun M' hM => ?_
      have hl21 := Pr.rowsN_len p (p.polC L) p.turns.toNat
      have := IntsA.ownO (l := p.rowsN (p.polC L) p.turns.toNat) (lo := m.length) (hi := (roM m ++ [(⟨.own, 26, [.int .i64 p.turns, u, .int .i64 p.setup, .int .i64 p.unit, .int .i64 p.hold, .int .i64 p.back]⟩ : Blk)] ++ [(⟨.own, 27, [.slice (some ⟨idl, 0, none⟩) L.length fl]⟩ : Blk)] ++ n1 ++ n2).length) (fl := F 0) (hrow.2.2.at_ (hM _ (by omega) hrow.2.2.lt)) (by omega) (by omega) hrow.2.2.lt
      rw [hl21] at this
      exact this
theorem specPolicyWorth_rc (m : Mem) (v vl : Value) (p : Pr) (L : List (Int × Int)) (h : ProcA m v p) (hL : PairsA m vl L) : RC Try.prog 8 [v, vl] m (AnsO m (IntsO (worthA p L)) fun v => .tuple #[v, .bool (p.good && p.polB L)]) := by
  refine rc_of_run mixed ok_spec_PolicyWorth (by simp) (go_start _ _ _ ?_)
  obtain ⟨u, rfl, hu⟩ := h.ro
  have hLr := hL.ro
  obtain ⟨hbd, idl, fl, rfl, hc⟩ := hL.ro
  unfold worthA
  simp (config := {implicitDefEqProofs := false, maxDischargeDepth := 20}) (disch := first | omega | (simp only [lenE]; done) | (simp only [lenE]; omega) | rfl | (simp only [lenE, markR_len]; done) | (simp only [lenE, markR_len]; omega)) only [runE, mapE, listE, initT_5, initT_6, initT_7, initT_8, resV, oneV, binA, unA, reduceCtorEq, Nat.reduceEqDiff, Nat.reduceAdd, Nat.reduceLT, Nat.reduceLeDiff, Nat.reduceMul, Nat.reduceSub, ↓reduceIte, decide_true, decide_false, Bool.true_eq_false, Bool.false_eq_true, Bool.not_true, Bool.not_false, if_true, if_false, and_true, true_and, memE, celE, w64, Nat.zero_add, Nat.add_zero, Nat.mul_one, putL, and_self, ldn, c_spec_PolicyWorth, r_spec_PolicyWorth]
  refine callH_rc (l6Good_rc _ _ p (ProcA.mk (hu.ext _))) ?_
  rintro r n1 ⟨rfl, nr1⟩
  cases hg : p.good with
  | false =>
    simp (config := {implicitDefEqProofs := false, maxDischargeDepth := 20}) (disch := first | omega | (simp only [lenE]; done) | (simp only [lenE]; omega) | rfl | (simp only [lenE, markR_len]; done) | (simp only [lenE, markR_len]; omega)) only [runE, mapE, listE, initT_5, initT_6, initT_7, initT_8, resV, oneV, binA, unA, reduceCtorEq, Nat.reduceEqDiff, Nat.reduceAdd, Nat.reduceLT, Nat.reduceLeDiff, Nat.reduceMul, Nat.reduceSub, ↓reduceIte, decide_true, decide_false, Bool.true_eq_false, Bool.false_eq_true, Bool.not_true, Bool.not_false, if_true, if_false, and_true, true_and, memE, celE, w64, Nat.zero_add, Nat.add_zero, Nat.mul_one, putL, and_self, ldn, bsl_no]
    exact ext_noInts (f := fun v => .tuple #[v, .bool false]) (((Ext.refl m).one _ _).app nr1) (by simp [roM_len]; omega)
  | true =>
  have hG := goodP_iff.1 hg
  simp (config := {implicitDefEqProofs := false, maxDischargeDepth := 20}) (disch := first | omega | (simp only [lenE]; done) | (simp only [lenE]; omega) | rfl | (simp only [lenE, markR_len]; done) | (simp only [lenE, markR_len]; omega)) only [runE, mapE, listE, initT_5, initT_6, initT_7, initT_8, resV, oneV, binA, unA, reduceCtorEq, Nat.reduceEqDiff, Nat.reduceAdd, Nat.reduceLT, Nat.reduceLeDiff, Nat.reduceMul, Nat.reduceSub, ↓reduceIte, decide_true, decide_false, Bool.true_eq_false, Bool.false_eq_true, Bool.not_true, Bool.not_false, if_true, if_false, and_true, true_and, memE, celE, w64, Nat.zero_add, Nat.add_zero, Nat.mul_one, putL, and_self, ldn]
  refine callH_rc (l6Policy_rc _ _ _ p L (ProcA.mk ((hu.ext _).ext _)) ((hLr.ext _).ext _) hG) ?_
  rintro r n2 ⟨rfl, nr2⟩
  cases hp : p.polB L with
  | false =>
    simp (config := {implicitDefEqProofs := false, maxDischargeDepth := 20}) (disch := first | omega | (simp only [lenE]; done) | (simp only [lenE]; omega) | rfl | (simp only [lenE, markR_len]; done) | (simp only [lenE, markR_len]; omega)) only [runE, mapE, listE, initT_5, initT_6, initT_7, initT_8, resV, oneV, binA, unA, reduceCtorEq, Nat.reduceEqDiff, Nat.reduceAdd, Nat.reduceLT, Nat.reduceLeDiff, Nat.reduceMul, Nat.reduceSub, ↓reduceIte, decide_true, decide_false, Bool.true_eq_false, Bool.false_eq_true, Bool.not_true, Bool.not_false, if_true, if_false, and_true, true_and, memE, celE, w64, Nat.zero_add, Nat.add_zero, Nat.mul_one, putL, and_self, ldn, bsl_no]
    exact ext_noInts (f := fun v => .tuple #[v, .bool false]) ((((Ext.refl m).one _ _).app nr1).app nr2) (by simp [roM_len]; omega)
  | true =>
  have hpl := Pr.pol_len hp
  have ht := hG.turns
  obtain ⟨N, hN⟩ : ∃ N, N = p.turns.toNat := ⟨_, rfl⟩
  have hok := Pr.pol_ok hp
  have hfair := hok.fair
  rw [← hN] at hok hfair ⊢
  have hNt : p.turns = (N : Int) := by omega
  have hX0 := (((Ext.refl m).one 26 [.int .i64 p.turns, u, .int .i64 p.setup, .int .i64 p.unit, .int .i64 p.hold, .int .i64 p.back]).app nr1).app nr2
  have hb0 : OwnB (roM m ++ [⟨.own, 26, [.int .i64 p.turns, u, .int .i64 p.setup, .int .i64 p.unit, .int .i64 p.hold, .int .i64 p.back]⟩] ++ n1 ++ n2) m.length 26 [.int .i64 p.turns, u, .int .i64 p.setup, .int .i64 p.unit, .int .i64 p.hold, .int .i64 p.back] := ((OwnB.here (roM_len m).symm).ext _).ext _
  simp (config := {implicitDefEqProofs := false, maxDischargeDepth := 20}) (disch := first | omega | (simp only [lenE]; done) | (simp only [lenE]; omega) | rfl | (simp only [lenE, markR_len]; done) | (simp only [lenE, markR_len]; omega)) only [runE, mapE, listE, initT_5, initT_6, initT_7, initT_8, resV, oneV, binA, unA, reduceCtorEq, Nat.reduceEqDiff, Nat.reduceAdd, Nat.reduceLT, Nat.reduceLeDiff, Nat.reduceMul, Nat.reduceSub, ↓reduceIte, decide_true, decide_false, Bool.true_eq_false, Bool.false_eq_true, Bool.not_true, Bool.not_false, if_true, if_false, and_true, true_and, memE, celE, w64, Nat.zero_add, Nat.add_zero, Nat.mul_one, putL, and_self, ldn, mksA_eq (byt := 8) (n := 21) (a := 21) (by rfl) (by omega)]
  have hl0 : (roM m ++ [(⟨.own, 26, [.int .i64 p.turns, u, .int .i64 p.setup, .int .i64 p.unit, .int .i64 p.hold, .int .i64 p.back]⟩ : Blk)] ++ n1 ++ n2).length = m.length + 1 + n1.length + n2.length := by simp [roM_len]; omega
  obtain ⟨A, hA⟩ : ∃ A : Mem, A = roM m ++ [⟨.own, 26, [.int .i64 p.turns, u, .int .i64 p.setup, .int .i64 p.unit, .int .i64 p.hold, .int .i64 p.back]⟩] ++ n1 ++ n2 := ⟨_, rfl⟩
  have hz := OwnR.zeros (m := roM m ++ [⟨.own, 26, [.int .i64 p.turns, u, .int .i64 p.setup, .int .i64 p.unit, .int .i64 p.hold, .int .i64 p.back]⟩] ++ n1 ++ n2) (n := 21) (id := m.length + 1 + n1.length + n2.length) hl0.symm
  refine loop_inv mixed (fun s => ∃ (k : Nat) (M : Mem) (id6 fl6 : Nat), k ≤ N ∧ s.m = M ∧ Ext m M ∧ OwnB M m.length 26 [.int .i64 p.turns, u, .int .i64 p.setup, .int .i64 p.unit, .int .i64 p.hold, .int .i64 p.back] ∧ m.length < id6 ∧ OwnR M id6 (p.rowsN (p.polC L) k) ∧
      s.t 1 = .slice (some ⟨idl, 0, none⟩) L.length fl ∧ s.t 2 = .pointer (some ⟨m.length, 0, none⟩) ∧ s.t 6 = .slice (some ⟨id6, 0, none⟩) 21 fl6 ∧ s.t 7 = .int .i64 (p.turns - 1 - k)) (fun s => (intOf (s.t 7) + 1).toNat)
    ⟨0, _, m.length + 1 + n1.length + n2.length, 1, by omega, rfl, hX0.one _ _, hb0.ext _, by omega, hz, rfl, rfl, rfl, by simp only [put_t, put_t', put_m, putT_t, putT_t', putT_m, init_t, init_m, initT_0, initT_1, initT_2, initT_3, initT_4, initT_5, initT_6, initT_7, initT_8, Nat.reduceEqDiff, ↓reduceIte]; simp⟩ ?_
  rintro s ⟨k, M, id6, fl6, hk, tm, hX, hb, hid6, ho6, t1, t2, t6, t7⟩
  by_cases hlt : k < N
  · have hge : (0 : Int) ≤ p.turns - 1 - k := by omega
    obtain ⟨tu, htu⟩ : ∃ tu, tu = N - 1 - k := ⟨_, rfl⟩
    have htz : p.turns - 1 - k = (tu : Int) := by omega
    rw [htz] at t7 hge
    have hlen21 := Pr.rowsN_len p (p.polC L) k
    have hl2 := Pr.rowsN_len p (p.polC L) (k + 1)
    have hBB := Pr.rows_big hG (by omega) hfair (k := k) (by omega)
    have hml := hX.len
    have ho6l := ho6.lt
    simp (config := {implicitDefEqProofs := false, maxDischargeDepth := 20}) (disch := first | omega | (simp only [lenE]; done) | (simp only [lenE]; omega) | rfl | (simp only [lenE, markR_len]; done) | (simp only [lenE, markR_len]; omega)) only [runE, mapE, listE, initT_5, initT_6, initT_7, initT_8, resV, oneV, binA, unA, reduceCtorEq, Nat.reduceEqDiff, Nat.reduceAdd, Nat.reduceLT, Nat.reduceLeDiff, Nat.reduceMul, Nat.reduceSub, ↓reduceIte, decide_true, decide_false, Bool.true_eq_false, Bool.false_eq_true, Bool.not_true, Bool.not_false, if_true, if_false, and_true, true_and, memE, celE, w64, Nat.zero_add, Nat.add_zero, Nat.mul_one, putL, and_self, ldn, tm, t1, t2, t6, t7, ge_iff_le, hge, bsl_none]
    refine loop_inv mixed (fun s => ∃ (i : Nat) (M : Mem) (id8 : Nat), i ≤ 21 ∧ s.m = M ∧ Ext m M ∧ OwnB M m.length 26 [.int .i64 p.turns, u, .int .i64 p.setup, .int .i64 p.unit, .int .i64 p.hold, .int .i64 p.back] ∧ OwnR M id6 (p.rowsN (p.polC L) k) ∧ id6 < id8 ∧ OwnR M id8 ((p.rowsN (p.polC L) (k + 1)).take i) ∧
        s.t 1 = .slice (some ⟨idl, 0, none⟩) L.length fl ∧ s.t 2 = .pointer (some ⟨m.length, 0, none⟩) ∧ s.t 6 = .slice (some ⟨id6, 0, none⟩) 21 fl6 ∧ s.t 7 = .int .i64 tu ∧ s.t 8 = .slice (some ⟨id8, 0, none⟩) i 1 ∧ s.t 9 = .int .i64 ((i : Int) - 10)) (fun s => (20 - intOf (s.t 9)).toNat)
      ⟨0, _, M.length, by omega, rfl, hX.one _ _, hb.ext _, ho6.ext _, ho6l, OwnR.at_end M [], t1, t2, t6, t7, rfl, by simp only [put_t, put_t', put_m, putT_t, putT_t', putT_m, init_t, init_m, initT_0, initT_1, initT_2, initT_3, initT_4, initT_5, initT_6, initT_7, initT_8, Nat.reduceEqDiff, ↓reduceIte]; simp⟩ ?_
    rintro s ⟨i, M, id8, hi, tm, hX, hb, ho6, hid8, ho8, t1, t2, t6, t7, t8, t9⟩
    by_cases hlti : i < 21
    · have hlti' : (i : Int) - 10 ≤ 10 := by omega
      have hxx : -10 ≤ (i : Int) - 10 ∧ (i : Int) - 10 ≤ 10 := by omega
      have htl : tu < L.length := by omega
      have r1 := hX.rd ((rdc_roM m idl (tu * 2)).symm.trans (hc tu htl).1)
      have r2 := hX.rd ((rdc_roM m idl (tu * 2 + 1)).symm.trans (hc tu htl).2)
      have hnx := ho6.ints (by omega) fl6
      rw [hlen21] at hnx
      have hch := hok k (p.rowsN (p.polC L) k) ((i : Int) - 10) (by omega) hxx
      have e : p.polC L k (p.rowsN (p.polC L) k) ((i : Int) - 10) = p.upOf (L.getD tu (0, 0)) ((i : Int) - 10) := by
        show p.upOf (L.getD (p.turns.toNat - 1 - k) (0, 0)) _ = _
        congr 2; omega
      have hval := Pr.rowsN_at p (p.polC L) k hlti
      rw [e] at hch hval
      have hmv := move_bd hG hBB (n := k) (by omega) hxx.1 hch.1
      have hmay := hch.1
      have hfl := hG.floor
      simp (config := {implicitDefEqProofs := false, maxDischargeDepth := 20}) (disch := first | omega | (simp only [lenE]; done) | (simp only [lenE]; omega) | rfl | (simp only [lenE, markR_len]; done) | (simp only [lenE, markR_len]; omega)) only [runE, mapE, listE, initT_5, initT_6, initT_7, initT_8, resV, oneV, binA, unA, reduceCtorEq, Nat.reduceEqDiff, Nat.reduceAdd, Nat.reduceLT, Nat.reduceLeDiff, Nat.reduceMul, Nat.reduceSub, ↓reduceIte, decide_true, decide_false, Bool.true_eq_false, Bool.false_eq_true, Bool.not_true, Bool.not_false, if_true, if_false, and_true, true_and, memE, celE, w64, Nat.zero_add, Nat.add_zero, Nat.mul_one, putL, and_self, ldn, tm, t1, t2, t6, t7, t8, t9, hlti', hb.rd, iadA_in htl, r1, r2]
      refine rcallH_rc (l6Up_rc _ _ p (L.getD tu (0, 0)) _ (ProcA.mk (hX.ints hu)) hG) ?_
      rintro r x1 ⟨rfl, xr1⟩
      obtain ⟨y, hy⟩ : ∃ y, y = p.upOf (L.getD tu (0, 0)) ((i : Int) - 10) := ⟨_, rfl⟩
      rw [← hy] at hmv hmay hval ⊢
      have hm1 := hmay.1
      have hm2 := hmay.2
      have hb1 := hb.ext x1
      simp (config := {implicitDefEqProofs := false, maxDischargeDepth := 20}) (disch := first | omega | (simp only [lenE]; done) | (simp only [lenE]; omega) | rfl | (simp only [lenE, markR_len]; done) | (simp only [lenE, markR_len]; omega)) only [runE, mapE, listE, initT_5, initT_6, initT_7, initT_8, resV, oneV, binA, unA, reduceCtorEq, Nat.reduceEqDiff, Nat.reduceAdd, Nat.reduceLT, Nat.reduceLeDiff, Nat.reduceMul, Nat.reduceSub, ↓reduceIte, decide_true, decide_false, Bool.true_eq_false, Bool.false_eq_true, Bool.not_true, Bool.not_false, if_true, if_false, and_true, true_and, memE, celE, w64, Nat.zero_add, Nat.add_zero, Nat.mul_one, putL, and_self, ldn, t1, t2, t6, t7, t8, t9, hb1.rd]
      refine rcallH_rc (l6Order_rc _ _ p _ y (ProcA.mk ((hX.ints hu).ext x1)) hG hxx (by omega)) ?_
      rintro r x2 ⟨rfl, xr2⟩
      have hb2 := hb1.ext x2
      simp (config := {implicitDefEqProofs := false, maxDischargeDepth := 20}) (disch := first | omega | (simp only [lenE]; done) | (simp only [lenE]; omega) | rfl | (simp only [lenE, markR_len]; done) | (simp only [lenE, markR_len]; omega)) only [runE, mapE, listE, initT_5, initT_6, initT_7, initT_8, resV, oneV, binA, unA, reduceCtorEq, Nat.reduceEqDiff, Nat.reduceAdd, Nat.reduceLT, Nat.reduceLeDiff, Nat.reduceMul, Nat.reduceSub, ↓reduceIte, decide_true, decide_false, Bool.true_eq_false, Bool.false_eq_true, Bool.not_true, Bool.not_false, if_true, if_false, and_true, true_and, memE, celE, w64, Nat.zero_add, Nat.add_zero, Nat.mul_one, putL, and_self, ldn, t1, t2, t6, t7, t8, t9, hb2.rd]
      refine rcallH_rc (l6Power_rc _ _ p _ (k + 1) (ProcA.mk (((hX.ints hu).ext x1).ext x2)) hG (by omega) (by omega)) ?_
      rintro r x3 ⟨rfl, xr3⟩
      have hb3 := hb2.ext x3
      simp (config := {implicitDefEqProofs := false, maxDischargeDepth := 20}) (disch := first | omega | (simp only [lenE]; done) | (simp only [lenE]; omega) | rfl | (simp only [lenE, markR_len]; done) | (simp only [lenE, markR_len]; omega)) only [runE, mapE, listE, initT_5, initT_6, initT_7, initT_8, resV, oneV, binA, unA, reduceCtorEq, Nat.reduceEqDiff, Nat.reduceAdd, Nat.reduceLT, Nat.reduceLeDiff, Nat.reduceMul, Nat.reduceSub, ↓reduceIte, decide_true, decide_false, Bool.true_eq_false, Bool.false_eq_true, Bool.not_true, Bool.not_false, if_true, if_false, and_true, true_and, memE, celE, w64, Nat.zero_add, Nat.add_zero, Nat.mul_one, putL, and_self, ldn, t1, t2, t6, t7, t8, t9, hb3.rd]
      refine rcallH_rc (l6After_rc _ _ _ p (p.rowsN (p.polC L) k) _ y k (ProcA.mk ((((hX.ints hu).ext x1).ext x2).ext x3)) (((hnx.ext x1).ext x2).ext x3) hG hlen21 hBB hmay (by omega) (by omega)) ?_
      rintro r x4 ⟨rfl, xr4⟩
      have hX4 := (((hX.app xr1).app xr2).app xr3).app xr4
      have hb4 := hb3.ext x4
      have ho64 := (((ho6.ext x1).ext x2).ext x3).ext x4
      have ho84 := (((ho8.ext x1).ext x2).ext x3).ext x4
      have hval' : p.ord ((i : Int) - 10) y * p.pow (k + 1) + p.after (p.rowsN (p.polC L) k) y k = (p.rowsN (p.polC L) (k + 1)).getD i 0 := hval.symm
      have happ := app_num (x := (p.rowsN (p.polC L) (k + 1)).getD i 0) (id2 := (M ++ x1 ++ x2 ++ x3 ++ x4).length) (n := i) ho84 (by rw [List.length_take]; omega) rfl (by rw [List.length_take]; omega)
      obtain ⟨M2, hM2⟩ : ∃ M', M' = M ++ x1 ++ x2 ++ x3 ++ x4 := ⟨_, rfl⟩
      rw [← hM2] at happ hX4 hb4 ho64 ho84
      rw [← hM2]
      have hidl := ho84.lt
      have hX4l := hX4.len
      simp (config := {implicitDefEqProofs := false, maxDischargeDepth := 20}) (disch := first | omega | (simp only [lenE]; done) | (simp only [lenE]; omega) | rfl | (simp only [lenE, markR_len]; done) | (simp only [lenE, markR_len]; omega)) only [runE, mapE, listE, initT_5, initT_6, initT_7, initT_8, resV, oneV, binA, unA, reduceCtorEq, Nat.reduceEqDiff, Nat.reduceAdd, Nat.reduceLT, Nat.reduceLeDiff, Nat.reduceMul, Nat.reduceSub, ↓reduceIte, decide_true, decide_false, Bool.true_eq_false, Bool.false_eq_true, Bool.not_true, Bool.not_false, if_true, if_false, and_true, true_and, memE, celE, w64, Nat.zero_add, Nat.add_zero, Nat.mul_one, putL, and_self, ldn, t1, t2, t6, t7, t8, t9, hval', bsl_one, happ]
      refine ⟨⟨i + 1, _, M2.length + 1, by omega, rfl, ((hX4.dead (by omega)).one _ _).one _ _, hb4.at_ (same_gen (by omega) hidl), ho64.at_ (same_gen (by omega) hidl), by omega, ?_, rfl, by congr 1; simp; omega⟩, ?_⟩
      · rw [take_next (by omega)]
        exact OwnB.here (by simp)
      · simp [intOf]; omega
    · have hlti' : ¬ ((i : Int) - 10 ≤ 10) := by omega
      have e : i = 21 := by omega
      subst e
      rw [List.take_of_length_le (by omega)] at ho8
      simp (config := {implicitDefEqProofs := false, maxDischargeDepth := 20}) (disch := first | omega | (simp only [lenE]; done) | (simp only [lenE]; omega) | rfl | (simp only [lenE, markR_len]; done) | (simp only [lenE, markR_len]; omega)) only [runE, mapE, listE, initT_5, initT_6, initT_7, initT_8, resV, oneV, binA, unA, reduceCtorEq, Nat.reduceEqDiff, Nat.reduceAdd, Nat.reduceLT, Nat.reduceLeDiff, Nat.reduceMul, Nat.reduceSub, ↓reduceIte, decide_true, decide_false, Bool.true_eq_false, Bool.false_eq_true, Bool.not_true, Bool.not_false, if_true, if_false, and_true, true_and, memE, celE, w64, Nat.zero_add, Nat.add_zero, Nat.mul_one, putL, and_self, ldn, tm, t1, t2, t6, t7, t8, t9, hlti']
      refine ⟨⟨k + 1, M, id8, 1, by omega, rfl, hX, hb, by omega, ho8, rfl, by congr 1; omega⟩, ?_⟩
      simp [intOf]
  · have hge : ¬ ((0 : Int) ≤ p.turns - 1 - k) := by omega
    have e : k = N := by omega
    subst e
    simp (config := {implicitDefEqProofs := false, maxDischargeDepth := 20}) (disch := first | omega | (simp only [lenE]; done) | (simp only [lenE]; omega) | rfl | (simp only [lenE, markR_len]; done) | (simp only [lenE, markR_len]; omega)) only [runE, mapE, listE, initT_5, initT_6, initT_7, initT_8, resV, oneV, binA, unA, reduceCtorEq, Nat.reduceEqDiff, Nat.reduceAdd, Nat.reduceLT, Nat.reduceLeDiff, Nat.reduceMul, Nat.reduceSub, ↓reduceIte, decide_true, decide_false, Bool.true_eq_false, Bool.false_eq_true, Bool.not_true, Bool.not_false, if_true, if_false, and_true, true_and, memE, celE, w64, Nat.zero_add, Nat.add_zero, Nat.mul_one, putL, and_self, ldn, tm, t1, t2, t6, t7, ge_iff_le, hge]
    have hl21 := Pr.rowsN_len p (p.polC L) k
    refine ext_ansO (f := fun v => .tuple #[v, .bool true]) hX fun M' hM => ?_
    have := IntsA.ownO (l := p.rowsN (p.polC L) k) (lo := m.length) (hi := M.length) (fl := fl6) (ho6.at_ (hM _ (by omega) ho6.lt)) (by omega) (by omega) ho6.lt
    rw [hl21] at this
    exact this
end Go.Proofs.Ytbchcbhleldhiaa.Ab
end
section
namespace Go.Proofs.Ytbchcbhleldhiaa.Ab
open Go Go.RowKit
set_option linter.unusedVariables false
set_option linter.unusedSimpArgs false
def upI (B : List Int) : Int := amin (fun i => B.getD i.toNat 0) 0 (B.length - 1)
def loI (B : List Int) (K : Int) : Int := firstAt (fun b => decide (b ≤ B.getD (upI B).toNat 0 + K)) B 0
theorem upI_least {B : List Int} (h : 0 < B.length) : IsLeast (fun i => B.getD i.toNat 0) 0 (B.length - 1) (upI B) := by
  have := amin_least (fun i => B.getD i.toNat 0) 0 (B.length - 1)
  rwa [Int.zero_add, show (((B.length - 1 : Nat)) : Int) = (B.length : Int) - 1 by omega] at this
theorem firstAt_is {f : Int → Bool} {l : List Int} {k : Nat} (hk : k < l.length) (h1 : ∀ j, j < k → f (l.getD j 0) = false) (h2 : f (l.getD k 0) = true) : firstAt f l 0 = k := by
  have key : ∀ j, j ≤ k → firstAt f l 0 = firstAt f (l.drop j) j := by
    intro j hj
    induction j with
    | zero => rfl
    | succ j ih => rw [ih (by omega), firstAt_step (by omega), h1 j (by omega)]; rfl
  rw [key k (Nat.le_refl _), firstAt_step hk, h2]; rfl
def pairOf (p : Pr) (next : List Int) (n : Nat) : Int × Int := (p.floor + loI (billsL p next n) (p.setup * p.pow (n + 1)), p.floor + upI (billsL p next n))
structure LoUp (B : List Int) (K : Int) : Prop where
  len : 0 < B.length
  k : 0 ≤ K
theorem LoUp.up {B : List Int} {K : Int} (h : LoUp B K) : 0 ≤ upI B ∧ upI B ≤ B.length - 1 := ⟨(upI_least h.len).1, (upI_least h.len).2.1⟩
theorem slMin_rc (m : Mem) (v : Value) (l : List Int) (h : IntsA m v l) (hl : 0 < l.length) :
    RC Try.prog 81 [v] m fun r new => r = .int .i64 (l.getD (upI l).toNat 0) ∧ new = [] := by
  refine rc_of_run mixed ok_slices_Min (by simp) (go_start _ _ _ ?_)
  have hr := h.ro
  have h1 : ¬ ((l.length : Int) < 1) := by omega
  have a0 : iadA 1 v (.int .i64 0) = some (pAt v 0) := hr.at_ 0 hl
  have hup := upI_least hl
  simp (config := {implicitDefEqProofs := false, maxDischargeDepth := 20}) (disch := first | omega | (simp only [lenE]; done) | (simp only [lenE]; omega) | rfl | (simp only [lenE, markR_len]; done) | (simp only [lenE, markR_len]; omega)) only [runE, mapE, listE, initT_5, initT_6, initT_7, initT_8, resV, oneV, binA, unA, reduceCtorEq, Nat.reduceEqDiff, Nat.reduceAdd, Nat.reduceLT, Nat.reduceLeDiff, Nat.reduceMul, Nat.reduceSub, ↓reduceIte, decide_true, decide_false, Bool.true_eq_false, Bool.false_eq_true, Bool.not_true, Bool.not_false, if_true, if_false, and_true, true_and, memE, celE, w64, Nat.zero_add, Nat.add_zero, Nat.mul_one, putL, and_self, ldn, c_slices_Min, r_slices_Min, hr.len, h1, a0, hr.ld 0 hl]
  refine loop_inv mixed (fun s => ∃ (k : Nat) (z : Int), k < l.length ∧ (∃ i : Nat, i ≤ k ∧ z = l.getD i 0) ∧ (∀ i : Nat, i ≤ k → z ≤ l.getD i 0) ∧ s.t 0 = v ∧ s.t 3 = .int .i64 z ∧ s.t 4 = .int .i64 ((k + 1 : Nat) : Int) ∧ s.m = roM m) (fun s => l.length + 1 - (intOf (s.t 4)).toNat) ⟨0, l.getD 0 0, hl, ⟨0, by omega, rfl⟩, fun i hi => by rw [show i = 0 by omega]; exact Int.le_refl _, rfl, rfl, rfl, rfl⟩ ?_
  rintro s ⟨k, z, hk, ⟨i0, hi0, hz⟩, hmin, t0, t3, t4, tm⟩
  have bd := hr.bd
  by_cases hlt : k + 1 < l.length
  · have hlt' : ((k + 1 : Nat) : Int) < l.length := by omega
    simp (config := {implicitDefEqProofs := false, maxDischargeDepth := 20}) (disch := first | omega | (simp only [lenE]; done) | (simp only [lenE]; omega) | rfl | (simp only [lenE, markR_len]; done) | (simp only [lenE, markR_len]; omega)) only [runE, mapE, listE, initT_5, initT_6, initT_7, initT_8, resV, oneV, binA, unA, reduceCtorEq, Nat.reduceEqDiff, Nat.reduceAdd, Nat.reduceLT, Nat.reduceLeDiff, Nat.reduceMul, Nat.reduceSub, ↓reduceIte, decide_true, decide_false, Bool.true_eq_false, Bool.false_eq_true, Bool.not_true, Bool.not_false, if_true, if_false, and_true, true_and, memE, celE, w64, Nat.zero_add, Nat.add_zero, Nat.mul_one, putL, and_self, ldn, t0, t3, t4, tm, hr.len, hr.at_ (k + 1) hlt, hr.ld (k + 1) hlt, hlt']
    refine ⟨⟨k + 1, min z (l.getD (k + 1) 0), hlt, ?_, fun i hi => ?_, rfl, by congr 1⟩, by simp [intOf]; omega⟩
    · by_cases e : z ≤ l.getD (k + 1) 0
      · exact ⟨i0, by omega, by rw [← hz]; omega⟩
      · exact ⟨k + 1, by omega, by omega⟩
    · by_cases e : i = k + 1
      · rw [e]; omega
      · have := hmin i (by omega); omega
  · have hlt' : ¬ (((k + 1 : Nat) : Int) < l.length) := by omega
    simp (config := {implicitDefEqProofs := false, maxDischargeDepth := 20}) (disch := first | omega | (simp only [lenE]; done) | (simp only [lenE]; omega) | rfl | (simp only [lenE, markR_len]; done) | (simp only [lenE, markR_len]; omega)) only [runE, mapE, listE, initT_5, initT_6, initT_7, initT_8, resV, oneV, binA, unA, reduceCtorEq, Nat.reduceEqDiff, Nat.reduceAdd, Nat.reduceLT, Nat.reduceLeDiff, Nat.reduceMul, Nat.reduceSub, ↓reduceIte, decide_true, decide_false, Bool.true_eq_false, Bool.false_eq_true, Bool.not_true, Bool.not_false, if_true, if_false, and_true, true_and, memE, celE, w64, Nat.zero_add, Nat.add_zero, Nat.mul_one, putL, and_self, ldn, t0, t3, t4, tm, hr.len, hlt']
    refine newQ_nil ⟨?_, rfl⟩
    have a := hmin (upI l).toNat (by have := hup.1; have := hup.2.1; omega)
    have b := hup.2.2.1 (i0 : Int) (by omega) (by omega)
    simp only [Int.toNat_natCast] at b
    congr 1; omega
theorem slIndex_rc (m : Mem) (v : Value) (l : List Int) (h : IntsA m v l) (hl : 0 < l.length) :
    RC Try.prog 84 [v, .int .i64 (l.getD (upI l).toNat 0)] m fun r new => r = .int .i64 (upI l) ∧ new = [] := by
  refine rc_of_run mixed ok_slices_Index (by simp) (go_start _ _ _ ?_)
  have i := h.ro
  have hup := upI_least hl
  simp (config := {implicitDefEqProofs := false, maxDischargeDepth := 20}) (disch := first | omega | (simp only [lenE]; done) | (simp only [lenE]; omega) | rfl | (simp only [lenE, markR_len]; done) | (simp only [lenE, markR_len]; omega)) only [runE, mapE, listE, initT_5, initT_6, initT_7, initT_8, resV, oneV, binA, unA, reduceCtorEq, Nat.reduceEqDiff, Nat.reduceAdd, Nat.reduceLT, Nat.reduceLeDiff, Nat.reduceMul, Nat.reduceSub, ↓reduceIte, decide_true, decide_false, Bool.true_eq_false, Bool.false_eq_true, Bool.not_true, Bool.not_false, if_true, if_false, and_true, true_and, memE, celE, w64, Nat.zero_add, Nat.add_zero, Nat.mul_one, putL, and_self, ldn, c_slices_Index, r_slices_Index, i.len]
  refine loop_inv mixed (fun s => ∃ j : Nat, j ≤ l.length ∧ (j : Int) ≤ upI l ∧ s.t 0 = v ∧ s.t 1 = .int .i64 (l.getD (upI l).toNat 0) ∧ s.t 7 = .int .i64 l.length ∧ s.t 8 = .int .i64 j ∧ s.m = roM m) (fun s => l.length - (intOf (s.t 8)).toNat)
    ⟨0, by omega, hup.1, rfl, rfl, rfl, rfl, rfl⟩ ?_
  rintro s ⟨j, hj, hno, t0, t1, t7, t8, tm⟩
  have u1 := hup.2.1
  have bd := i.bd
  by_cases hlt : j < l.length
  · have hlt' : (j : Int) < l.length := by omega
    by_cases e : (j : Int) = upI l
    · have ej : (upI l).toNat = j := by omega
      have hb : (l.getD (upI l).toNat 0 == l.getD j 0) = true := by rw [ej]; exact beq_self_eq_true _
      simp (config := {implicitDefEqProofs := false, maxDischargeDepth := 20}) (disch := first | omega | (simp only [lenE]; done) | (simp only [lenE]; omega) | rfl | (simp only [lenE, markR_len]; done) | (simp only [lenE, markR_len]; omega)) only [runE, mapE, listE, initT_5, initT_6, initT_7, initT_8, resV, oneV, binA, unA, reduceCtorEq, Nat.reduceEqDiff, Nat.reduceAdd, Nat.reduceLT, Nat.reduceLeDiff, Nat.reduceMul, Nat.reduceSub, ↓reduceIte, decide_true, decide_false, Bool.true_eq_false, Bool.false_eq_true, Bool.not_true, Bool.not_false, if_true, if_false, and_true, true_and, memE, celE, w64, Nat.zero_add, Nat.add_zero, Nat.mul_one, putL, and_self, ldn, tm, t0, t1, t7, t8, hlt', i.at_ j hlt, i.ld j hlt, hb]
      exact newQ_nil ⟨by rw [e], rfl⟩
    · have hs := hup.2.2.2 (j : Int) (by omega) (by omega)
      simp only [Int.toNat_natCast] at hs
      have hb : (l.getD (upI l).toNat 0 == l.getD j 0) = false := by rw [beq_eq_false_iff_ne]; omega
      simp (config := {implicitDefEqProofs := false, maxDischargeDepth := 20}) (disch := first | omega | (simp only [lenE]; done) | (simp only [lenE]; omega) | rfl | (simp only [lenE, markR_len]; done) | (simp only [lenE, markR_len]; omega)) only [runE, mapE, listE, initT_5, initT_6, initT_7, initT_8, resV, oneV, binA, unA, reduceCtorEq, Nat.reduceEqDiff, Nat.reduceAdd, Nat.reduceLT, Nat.reduceLeDiff, Nat.reduceMul, Nat.reduceSub, ↓reduceIte, decide_true, decide_false, Bool.true_eq_false, Bool.false_eq_true, Bool.not_true, Bool.not_false, if_true, if_false, and_true, true_and, memE, celE, w64, Nat.zero_add, Nat.add_zero, Nat.mul_one, putL, and_self, ldn, tm, t0, t1, t7, t8, hlt', i.at_ j hlt, i.ld j hlt, hb]
      exact ⟨⟨j + 1, by omega, by omega, by simp⟩, by simp [intOf]; omega⟩
  · omega
theorem enough_test (m : Mem) (id : Nat) (x0 : Int) (h : rdc m id 0 = some (.int .i64 x0)) :
    TestA m (.func (.func 83) #[] #[.pointer (some ⟨id, 0, none⟩)]) (fun x => decide (x ≤ x0)) := by
  refine ⟨_, _, rfl, fun x m' hm => ?_⟩
  refine rc_of_run mixed ok_impl_bestPair_1 (by simp) (go_start _ _ _ ?_)
  have h' : rdc (roM m') id 0 = some (.int .i64 x0) := by rw [rdc_roM]; exact hm _ _ _ h
  simp (config := {implicitDefEqProofs := false, maxDischargeDepth := 20}) (disch := first | omega | (simp only [lenE]; done) | (simp only [lenE]; omega) | rfl | (simp only [lenE, markR_len]; done) | (simp only [lenE, markR_len]; omega)) only [runE, mapE, listE, initT_5, initT_6, initT_7, initT_8, resV, oneV, binA, unA, reduceCtorEq, Nat.reduceEqDiff, Nat.reduceAdd, Nat.reduceLT, Nat.reduceLeDiff, Nat.reduceMul, Nat.reduceSub, ↓reduceIte, decide_true, decide_false, Bool.true_eq_false, Bool.false_eq_true, Bool.not_true, Bool.not_false, if_true, if_false, and_true, true_and, memE, celE, w64, Nat.zero_add, Nat.add_zero, Nat.mul_one, putL, and_self, ldn, c_impl_bestPair_1, r_impl_bestPair_1, h']
  exact newQ_nil ⟨rfl, rfl⟩
theorem bld_pair (a b : Int) : bldA [.int .i64 0, .int .i64 0] [(0, 1, .int .i64 a), (1, 1, .int .i64 b)] = some (.agg #[.int .i64 a, .int .i64 b]) := rfl
theorem bills_bd {p : Pr} (hg : GoodP p) {next : List Int} (hB : rowIn 30000000000000000 next) {n : Nat} (hn : n ≤ 4) (i : Nat) : -700000000000000000 ≤ (billsL p next n).getD i 0 ∧ (billsL p next n).getD i 0 ≤ 700000000000000000 := by
  have hfl := hg.floor
  have hlen := hg.len
  have hflo : p.floor = (p.w.length : Int) - 11 := by unfold Pr.floor; omega
  by_cases hi : i < 22 - p.w.length
  · rw [billsL_at hi]
    exact bill_bd hg hB hn ⟨by omega, by omega⟩
  · rw [List.getD_eq_getElem?_getD, List.getElem?_eq_none (by rw [billsL_len]; omega)]; exact ⟨by decide, by decide⟩
theorem setup_bd {p : Pr} (hg : GoodP p) {n : Nat} (hn : n ≤ 4) : 0 ≤ p.setup * p.pow (n + 1) ∧ p.setup * p.pow (n + 1) ≤ 316800000 := by
  have := hg.pow5 (n := n + 1) (by omega)
  exact mul_in' (A := 99) (B := 3200000) hg.setup (x := p.pow (n + 1)) (by omega)
theorem bestPair_rc (m : Mem) (v vn : Value) (p : Pr) (next : List Int) (t : Int) (n : Nat) (h : ProcA m v p) (hn : IntsA m vn next) (hg : GoodP p) (hl : next.length = 21) (hB : rowIn 30000000000000000 next) (ht : p.turns - t = (n : Int) + 1) (ht0 : 0 ≤ t) (hn4 : n ≤ 4) :
    RC Try.prog 47 [v, .int .i64 t, vn] m (AnsV (pairV (pairOf p next n))) := by
  refine rc_of_run mixed ok_impl_bestPair (by simp) (go_start _ _ _ ?_)
  obtain ⟨u, rfl, hu⟩ := h.ro
  have hlen := hg.len
  have hflo := hg.floor
  have hbl := billsL_len p next n
  have hbd := bills_bd hg hB hn4 (upI (billsL p next n)).toNat
  have hK := setup_bd hg hn4
  have hup := upI_least (B := billsL p next n) (by omega)
  have hu1 := hup.1
  have hu2 := hup.2.1
  simp (config := {implicitDefEqProofs := false, maxDischargeDepth := 20}) (disch := first | omega | (simp only [lenE]; done) | (simp only [lenE]; omega) | rfl | (simp only [lenE, markR_len]; done) | (simp only [lenE, markR_len]; omega)) only [runE, mapE, listE, initT_5, initT_6, initT_7, initT_8, resV, oneV, binA, unA, reduceCtorEq, Nat.reduceEqDiff, Nat.reduceAdd, Nat.reduceLT, Nat.reduceLeDiff, Nat.reduceMul, Nat.reduceSub, ↓reduceIte, decide_true, decide_false, Bool.true_eq_false, Bool.false_eq_true, Bool.not_true, Bool.not_false, if_true, if_false, and_true, true_and, memE, celE, w64, Nat.zero_add, Nat.add_zero, Nat.mul_one, putL, and_self, ldn, c_impl_bestPair, r_impl_bestPair]
  refine callH_rc (billsOf_rc _ _ vn p next t n (ProcA.mk ((hu.ext _).ext _)) ((hn.ro.ext _).ext _) hg hl hB ht ht0 hn4) ?_
  rintro r n1 ⟨nr1, w, rfl, hw⟩
  have hBI := hw.now.in
  simp (config := {implicitDefEqProofs := false, maxDischargeDepth := 20}) (disch := first | omega | (simp only [lenE]; done) | (simp only [lenE]; omega) | rfl | (simp only [lenE, markR_len]; done) | (simp only [lenE, markR_len]; omega)) only [runE, mapE, listE, initT_5, initT_6, initT_7, initT_8, resV, oneV, binA, unA, reduceCtorEq, Nat.reduceEqDiff, Nat.reduceAdd, Nat.reduceLT, Nat.reduceLeDiff, Nat.reduceMul, Nat.reduceSub, ↓reduceIte, decide_true, decide_false, Bool.true_eq_false, Bool.false_eq_true, Bool.not_true, Bool.not_false, if_true, if_false, and_true, true_and, memE, celE, w64, Nat.zero_add, Nat.add_zero, Nat.mul_one, putL, and_self, ldn, id_eq]
  refine callH_rc (slMin_rc _ _ _ hBI (by omega)) ?_
  rintro r n2 ⟨rfl, rfl⟩
  rw [List.append_nil]
  have hfa : -1 ≤ firstAt (fun x => decide (x ≤ (billsL p next n).getD (upI (billsL p next n)).toNat 0 + p.setup * p.pow (n + 1))) (billsL p next n) 0 ∧ firstAt (fun x => decide (x ≤ (billsL p next n).getD (upI (billsL p next n)).toNat 0 + p.setup * p.pow (n + 1))) (billsL p next n) 0 ≤ 21 := by
    have := firstAt_any (fun x => decide (x ≤ (billsL p next n).getD (upI (billsL p next n)).toNat 0 + p.setup * p.pow (n + 1))) (billsL p next n) 0
    omega
  have hX1 : Ext m (roM m ++ [⟨.own, 26, [.int .i64 p.turns, u, .int .i64 p.setup, .int .i64 p.unit, .int .i64 p.hold, .int .i64 p.back]⟩] ++ [⟨.own, 46, [.int .i64 0, .int .i64 0]⟩] ++ n1) := (((Ext.refl m).one _ _).one _ _).app nr1
  have hb1 : OwnB (roM m ++ [⟨.own, 26, [.int .i64 p.turns, u, .int .i64 p.setup, .int .i64 p.unit, .int .i64 p.hold, .int .i64 p.back]⟩] ++ [⟨.own, 46, [.int .i64 0, .int .i64 0]⟩] ++ n1) m.length 26 [.int .i64 p.turns, u, .int .i64 p.setup, .int .i64 p.unit, .int .i64 p.hold, .int .i64 p.back] := ((OwnB.here (roM_len m).symm).ext _).ext _
  have hc1 : OwnB (roM m ++ [⟨.own, 26, [.int .i64 p.turns, u, .int .i64 p.setup, .int .i64 p.unit, .int .i64 p.hold, .int .i64 p.back]⟩] ++ [⟨.own, 46, [.int .i64 0, .int .i64 0]⟩] ++ n1) (m.length + 1) 46 [.int .i64 0, .int .i64 0] := (OwnB.here (by simp [roM_len])).ext _
  simp (config := {implicitDefEqProofs := false, maxDischargeDepth := 20}) (disch := first | omega | (simp only [lenE]; done) | (simp only [lenE]; omega) | rfl | (simp only [lenE, markR_len]; done) | (simp only [lenE, markR_len]; omega)) only [runE, mapE, listE, initT_5, initT_6, initT_7, initT_8, resV, oneV, binA, unA, reduceCtorEq, Nat.reduceEqDiff, Nat.reduceAdd, Nat.reduceLT, Nat.reduceLeDiff, Nat.reduceMul, Nat.reduceSub, ↓reduceIte, decide_true, decide_false, Bool.true_eq_false, Bool.false_eq_true, Bool.not_true, Bool.not_false, if_true, if_false, and_true, true_and, memE, celE, w64, Nat.zero_add, Nat.add_zero, Nat.mul_one, putL, and_self, ldn]
  with_reducible refine ⟨?_, ?_⟩
  · refine rcallH_rc (powerFrom_rc _ _ p t (n + 1) (ProcA.mk (((hu.ext _).ext _).ext _)) hg (by omega) (by omega)) ?_
    rintro r n3 ⟨rfl, nr3⟩
    simp (config := {implicitDefEqProofs := false, maxDischargeDepth := 20}) (disch := first | omega | (simp only [lenE]; done) | (simp only [lenE]; omega) | rfl | (simp only [lenE, markR_len]; done) | (simp only [lenE, markR_len]; omega)) only [runE, mapE, listE, initT_5, initT_6, initT_7, initT_8, resV, oneV, binA, unA, reduceCtorEq, Nat.reduceEqDiff, Nat.reduceAdd, Nat.reduceLT, Nat.reduceLeDiff, Nat.reduceMul, Nat.reduceSub, ↓reduceIte, decide_true, decide_false, Bool.true_eq_false, Bool.false_eq_true, Bool.not_true, Bool.not_false, if_true, if_false, and_true, true_and, memE, celE, w64, Nat.zero_add, Nat.add_zero, Nat.mul_one, putL, and_self, ldn]
    obtain ⟨M3, hM3⟩ : ∃ M' : Mem, M' = roM m ++ [⟨.own, 26, [.int .i64 p.turns, u, .int .i64 p.setup, .int .i64 p.unit, .int .i64 p.hold, .int .i64 p.back]⟩] ++ [⟨.own, 46, [.int .i64 0, .int .i64 0]⟩] ++ n1 ++ n3 ++ [⟨.own, 3, [.int .i64 ((billsL p next n).getD (upI (billsL p next n)).toNat 0 + p.setup * p.pow (n + 1))]⟩] := ⟨_, rfl⟩
    have hX3 : Ext m M3 := by rw [hM3]; exact (hX1.app nr3).one _ _
    have hBI3 : IntsA M3 r (billsL p next n) := by rw [hM3]; exact (hBI.ext n3).ext _
    have hb3 : OwnB M3 m.length 26 [.int .i64 p.turns, u, .int .i64 p.setup, .int .i64 p.unit, .int .i64 p.hold, .int .i64 p.back] := by rw [hM3]; exact (hb1.ext _).ext _
    have hc3 : OwnB M3 (m.length + 1) 46 [.int .i64 0, .int .i64 0] := by rw [hM3]; exact (hc1.ext _).ext _
    have hv3 : rdc M3 (m.length + 1 + 1 + n1.length + n3.length) 0 = some (.int .i64 ((billsL p next n).getD (upI (billsL p next n)).toNat 0 + p.setup * p.pow (n + 1))) := by rw [hM3, rdc_lastH (by simp [roM_len]; try omega)]; rfl
    try rw [← hM3]
    refine callH_rc (indexFunc_rc _ _ _ (billsL p next n) _ hBI3 (enough_test _ _ _ hv3)) ?_
    rintro r n4 ⟨rfl, rfl⟩
    rw [List.append_nil]
    simp (config := {implicitDefEqProofs := false, maxDischargeDepth := 20}) (disch := first | omega | (simp only [lenE]; done) | (simp only [lenE]; omega) | rfl | (simp only [lenE, markR_len]; done) | (simp only [lenE, markR_len]; omega)) only [runE, mapE, listE, initT_5, initT_6, initT_7, initT_8, resV, oneV, binA, unA, reduceCtorEq, Nat.reduceEqDiff, Nat.reduceAdd, Nat.reduceLT, Nat.reduceLeDiff, Nat.reduceMul, Nat.reduceSub, ↓reduceIte, decide_true, decide_false, Bool.true_eq_false, Bool.false_eq_true, Bool.not_true, Bool.not_false, if_true, if_false, and_true, true_and, memE, celE, w64, Nat.zero_add, Nat.add_zero, Nat.mul_one, putL, and_self, ldn]
    refine callH_rc (slIndex_rc _ _ _ hBI3 (by omega)) ?_
    rintro r n4 ⟨rfl, rfl⟩
    rw [List.append_nil]
    simp (config := {implicitDefEqProofs := false, maxDischargeDepth := 20}) (disch := first | omega | (simp only [lenE]; done) | (simp only [lenE]; omega) | rfl | (simp only [lenE, markR_len]; done) | (simp only [lenE, markR_len]; omega)) only [runE, mapE, listE, initT_5, initT_6, initT_7, initT_8, resV, oneV, binA, unA, reduceCtorEq, Nat.reduceEqDiff, Nat.reduceAdd, Nat.reduceLT, Nat.reduceLeDiff, Nat.reduceMul, Nat.reduceSub, ↓reduceIte, decide_true, decide_false, Bool.true_eq_false, Bool.false_eq_true, Bool.not_true, Bool.not_false, if_true, if_false, and_true, true_and, memE, celE, w64, Nat.zero_add, Nat.add_zero, Nat.mul_one, putL, and_self, ldn, hb3.rd]
    refine rcallH_rc (floorOf_rc M3 _ p (ProcA.mk (hX3.ints hu)) hlen.2) ?_
    rintro r n5 ⟨rfl, nr5⟩
    have hb5 := hb3.ext n5
    simp (config := {implicitDefEqProofs := false, maxDischargeDepth := 20}) (disch := first | omega | (simp only [lenE]; done) | (simp only [lenE]; omega) | rfl | (simp only [lenE, markR_len]; done) | (simp only [lenE, markR_len]; omega)) only [runE, mapE, listE, initT_5, initT_6, initT_7, initT_8, resV, oneV, binA, unA, reduceCtorEq, Nat.reduceEqDiff, Nat.reduceAdd, Nat.reduceLT, Nat.reduceLeDiff, Nat.reduceMul, Nat.reduceSub, ↓reduceIte, decide_true, decide_false, Bool.true_eq_false, Bool.false_eq_true, Bool.not_true, Bool.not_false, if_true, if_false, and_true, true_and, memE, celE, w64, Nat.zero_add, Nat.add_zero, Nat.mul_one, putL, and_self, ldn, hb5.rd]
    refine rcallH_rc (floorOf_rc (M3 ++ n5) _ p (ProcA.mk ((hX3.ints hu).ext n5)) hlen.2) ?_
    rintro r n6 ⟨rfl, nr6⟩
    have hc6 := (hc3.ext n5).ext n6
    have hst := hc6.st (off := 0) (vs := [.int .i64 (p.floor + firstAt (fun x => decide (x ≤ (billsL p next n).getD (upI (billsL p next n)).toNat 0 + p.setup * p.pow (n + 1))) (billsL p next n) 0), .int .i64 (p.floor + upI (billsL p next n))]) (by simp) rfl
    have hrd := (hc6.set_self 46 [.int .i64 (p.floor + firstAt (fun x => decide (x ≤ (billsL p next n).getD (upI (billsL p next n)).toNat 0 + p.setup * p.pow (n + 1))) (billsL p next n) 0), .int .i64 (p.floor + upI (billsL p next n))]).rd
    simp (config := {implicitDefEqProofs := false, maxDischargeDepth := 20}) (disch := first | omega | (simp only [lenE]; done) | (simp only [lenE]; omega) | rfl | (simp only [lenE, markR_len]; done) | (simp only [lenE, markR_len]; omega)) only [runE, mapE, listE, initT_5, initT_6, initT_7, initT_8, resV, oneV, binA, unA, reduceCtorEq, Nat.reduceEqDiff, Nat.reduceAdd, Nat.reduceLT, Nat.reduceLeDiff, Nat.reduceMul, Nat.reduceSub, ↓reduceIte, decide_true, decide_false, Bool.true_eq_false, Bool.false_eq_true, Bool.not_true, Bool.not_false, if_true, if_false, and_true, true_and, memE, celE, w64, Nat.zero_add, Nat.add_zero, Nat.mul_one, putL, and_self, ldn, bld_pair, hst, hrd]
    exact ext_ansV2 (((hX3.app nr5).app nr6).put (id := m.length + 1) (by omega) _ _)
  · refine rcallH_rc (powerFrom_rc _ _ p t (n + 1) (ProcA.mk ((((hu.ext _).ext _).ext _).ext _)) hg (by omega) (by omega)) ?_
    rintro r n3 ⟨rfl, nr3⟩
    simp (config := {implicitDefEqProofs := false, maxDischargeDepth := 20}) (disch := first | omega | (simp only [lenE]; done) | (simp only [lenE]; omega) | rfl | (simp only [lenE, markR_len]; done) | (simp only [lenE, markR_len]; omega)) only [runE, mapE, listE, initT_5, initT_6, initT_7, initT_8, resV, oneV, binA, unA, reduceCtorEq, Nat.reduceEqDiff, Nat.reduceAdd, Nat.reduceLT, Nat.reduceLeDiff, Nat.reduceMul, Nat.reduceSub, ↓reduceIte, decide_true, decide_false, Bool.true_eq_false, Bool.false_eq_true, Bool.not_true, Bool.not_false, if_true, if_false, and_true, true_and, memE, celE, w64, Nat.zero_add, Nat.add_zero, Nat.mul_one, putL, and_self, ldn]
    obtain ⟨M3, hM3⟩ : ∃ M' : Mem, M' = roM m ++ [⟨.own, 26, [.int .i64 p.turns, u, .int .i64 p.setup, .int .i64 p.unit, .int .i64 p.hold, .int .i64 p.back]⟩] ++ [⟨.own, 46, [.int .i64 0, .int .i64 0]⟩] ++ n1 ++ [⟨.own, 3, [.int .i64 ((billsL p next n).getD (upI (billsL p next n)).toNat 0 + p.setup * p.pow (n + 1))]⟩] ++ n3 := ⟨_, rfl⟩
    have hX3 : Ext m M3 := by rw [hM3]; exact (hX1.one _ _).app nr3
    have hBI3 : IntsA M3 r (billsL p next n) := by rw [hM3]; exact (hBI.ext _).ext n3
    have hb3 : OwnB M3 m.length 26 [.int .i64 p.turns, u, .int .i64 p.setup, .int .i64 p.unit, .int .i64 p.hold, .int .i64 p.back] := by rw [hM3]; exact (hb1.ext _).ext _
    have hc3 : OwnB M3 (m.length + 1) 46 [.int .i64 0, .int .i64 0] := by rw [hM3]; exact (hc1.ext _).ext _
    have hv3 : rdc M3 (m.length + 1 + 1 + n1.length) 0 = some (.int .i64 ((billsL p next n).getD (upI (billsL p next n)).toNat 0 + p.setup * p.pow (n + 1))) := by rw [hM3, rdc_left (by simp [roM_len]; try omega), rdc_lastH (by simp [roM_len]; try omega)]; rfl
    try rw [← hM3]
    refine callH_rc (indexFunc_rc _ _ _ (billsL p next n) _ hBI3 (enough_test _ _ _ hv3)) ?_
    rintro r n4 ⟨rfl, rfl⟩
    rw [List.append_nil]
    simp (config := {implicitDefEqProofs := false, maxDischargeDepth := 20}) (disch := first | omega | (simp only [lenE]; done) | (simp only [lenE]; omega) | rfl | (simp only [lenE, markR_len]; done) | (simp only [lenE, markR_len]; omega)) only [runE, mapE, listE, initT_5, initT_6, initT_7, initT_8, resV, oneV, binA, unA, reduceCtorEq, Nat.reduceEqDiff, Nat.reduceAdd, Nat.reduceLT, Nat.reduceLeDiff, Nat.reduceMul, Nat.reduceSub, ↓reduceIte, decide_true, decide_false, Bool.true_eq_false, Bool.false_eq_true, Bool.not_true, Bool.not_false, if_true, if_false, and_true, true_and, memE, celE, w64, Nat.zero_add, Nat.add_zero, Nat.mul_one, putL, and_self, ldn]
    refine callH_rc (slIndex_rc _ _ _ hBI3 (by omega)) ?_
    rintro r n4 ⟨rfl, rfl⟩
    rw [List.append_nil]
    simp (config := {implicitDefEqProofs := false, maxDischargeDepth := 20}) (disch := first | omega | (simp only [lenE]; done) | (simp only [lenE]; omega) | rfl | (simp only [lenE, markR_len]; done) | (simp only [lenE, markR_len]; omega)) only [runE, mapE, listE, initT_5, initT_6, initT_7, initT_8, resV, oneV, binA, unA, reduceCtorEq, Nat.reduceEqDiff, Nat.reduceAdd, Nat.reduceLT, Nat.reduceLeDiff, Nat.reduceMul, Nat.reduceSub, ↓reduceIte, decide_true, decide_false, Bool.true_eq_false, Bool.false_eq_true, Bool.not_true, Bool.not_false, if_true, if_false, and_true, true_and, memE, celE, w64, Nat.zero_add, Nat.add_zero, Nat.mul_one, putL, and_self, ldn, hb3.rd]
    refine rcallH_rc (floorOf_rc M3 _ p (ProcA.mk (hX3.ints hu)) hlen.2) ?_
    rintro r n5 ⟨rfl, nr5⟩
    have hb5 := hb3.ext n5
    simp (config := {implicitDefEqProofs := false, maxDischargeDepth := 20}) (disch := first | omega | (simp only [lenE]; done) | (simp only [lenE]; omega) | rfl | (simp only [lenE, markR_len]; done) | (simp only [lenE, markR_len]; omega)) only [runE, mapE, listE, initT_5, initT_6, initT_7, initT_8, resV, oneV, binA, unA, reduceCtorEq, Nat.reduceEqDiff, Nat.reduceAdd, Nat.reduceLT, Nat.reduceLeDiff, Nat.reduceMul, Nat.reduceSub, ↓reduceIte, decide_true, decide_false, Bool.true_eq_false, Bool.false_eq_true, Bool.not_true, Bool.not_false, if_true, if_false, and_true, true_and, memE, celE, w64, Nat.zero_add, Nat.add_zero, Nat.mul_one, putL, and_self, ldn, hb5.rd]
    refine rcallH_rc (floorOf_rc (M3 ++ n5) _ p (ProcA.mk ((hX3.ints hu).ext n5)) hlen.2) ?_
    rintro r n6 ⟨rfl, nr6⟩
    have hc6 := (hc3.ext n5).ext n6
    have hst := hc6.st (off := 0) (vs := [.int .i64 (p.floor + firstAt (fun x => decide (x ≤ (billsL p next n).getD (upI (billsL p next n)).toNat 0 + p.setup * p.pow (n + 1))) (billsL p next n) 0), .int .i64 (p.floor + upI (billsL p next n))]) (by simp) rfl
    have hrd := (hc6.set_self 46 [.int .i64 (p.floor + firstAt (fun x => decide (x ≤ (billsL p next n).getD (upI (billsL p next n)).toNat 0 + p.setup * p.pow (n + 1))) (billsL p next n) 0), .int .i64 (p.floor + upI (billsL p next n))]).rd
    simp (config := {implicitDefEqProofs := false, maxDischargeDepth := 20}) (disch := first | omega | (simp only [lenE]; done) | (simp only [lenE]; omega) | rfl | (simp only [lenE, markR_len]; done) | (simp only [lenE, markR_len]; omega)) only [runE, mapE, listE, initT_5, initT_6, initT_7, initT_8, resV, oneV, binA, unA, reduceCtorEq, Nat.reduceEqDiff, Nat.reduceAdd, Nat.reduceLT, Nat.reduceLeDiff, Nat.reduceMul, Nat.reduceSub, ↓reduceIte, decide_true, decide_false, Bool.true_eq_false, Bool.false_eq_true, Bool.not_true, Bool.not_false, if_true, if_false, and_true, true_and, memE, celE, w64, Nat.zero_add, Nat.add_zero, Nat.mul_one, putL, and_self, ldn, bld_pair, hst, hrd]
    exact ext_ansV2 (((hX3.app nr5).app nr6).put (id := m.length + 1) (by omega) _ _)
end Go.Proofs.Ytbchcbhleldhiaa.Ab
end
section
namespace Go.Proofs.Ytbchcbhleldhiaa.Ab
open Go Go.RowKit
set_option linter.unusedVariables false
set_option linter.unusedSimpArgs false
theorem l6Levels_rc (m : Mem) (v vt : Value) (p : Pr) (T : List (List Int)) (next : List Int) (t : Int) (n : Nat) (h : ProcA m v p) (hT : TabA m vt T) (hg : GoodP p) (hnext : T.getD (t + 1).toNat [] = next) (htT : (t + 1).toNat < T.length) (hl : next.length = 21) (hB : rowIn 30000000000000000 next) (ht : p.turns - t = (n : Int) + 1) (ht0 : 0 ≤ t) (hn4 : n ≤ 4) :
    RC Try.prog 48 [v, vt, .int .i64 t] m (AnsV (pairV (pairOf p next n))) := by
  refine rc_of_run mixed ok_spec_l6Levels (by simp) (go_start _ _ _ ?_)
  obtain ⟨u, rfl, hu⟩ := h.ro
  have hlen := hg.len
  have hflo := hg.floor
  have hbl := billsL_len p next n
  have hbd := bills_bd hg hB hn4 (upI (billsL p next n)).toNat
  have hK := setup_bd hg hn4
  have hup := upI_least (B := billsL p next n) (by omega)
  have hu1 := hup.1
  have hu2 := hup.2.1
  simp (config := {implicitDefEqProofs := false, maxDischargeDepth := 20}) (disch := first | omega | (simp only [lenE]; done) | (simp only [lenE]; omega) | rfl | (simp only [lenE, markR_len]; done) | (simp only [lenE, markR_len]; omega)) only [runE, mapE, listE, initT_5, initT_6, initT_7, initT_8, resV, oneV, binA, unA, reduceCtorEq, Nat.reduceEqDiff, Nat.reduceAdd, Nat.reduceLT, Nat.reduceLeDiff, Nat.reduceMul, Nat.reduceSub, ↓reduceIte, decide_true, decide_false, Bool.true_eq_false, Bool.false_eq_true, Bool.not_true, Bool.not_false, if_true, if_false, and_true, true_and, memE, celE, w64, Nat.zero_add, Nat.add_zero, Nat.mul_one, putL, and_self, ldn, c_spec_l6Levels, r_spec_l6Levels]
  refine callH_rc (l6Bills_rc _ _ _ p T next t n (ProcA.mk ((hu.ext _).ext _)) ((hT.ro.ext _).ext _) hg hnext htT hl hB ht ht0 hn4) ?_
  rintro r n1 ⟨nr1, w, rfl, hw⟩
  have hBI := hw.now.in
  obtain ⟨M1, hM1⟩ : ∃ M' : Mem, M' = roM m ++ [⟨.own, 26, [.int .i64 p.turns, u, .int .i64 p.setup, .int .i64 p.unit, .int .i64 p.hold, .int .i64 p.back]⟩] ++ [⟨.own, 46, [.int .i64 0, .int .i64 0]⟩] ++ n1 := ⟨_, rfl⟩
  have hX1 : Ext m M1 := by rw [hM1]; exact (((Ext.refl m).one _ _).one _ _).app nr1
  have hb1 : OwnB M1 m.length 26 [.int .i64 p.turns, u, .int .i64 p.setup, .int .i64 p.unit, .int .i64 p.hold, .int .i64 p.back] := by rw [hM1]; exact ((OwnB.here (roM_len m).symm).ext _).ext _
  have hc1 : OwnB M1 (m.length + 1) 46 [.int .i64 0, .int .i64 0] := by rw [hM1]; exact (OwnB.here (by simp [roM_len])).ext _
  rw [← hM1] at hBI
  obtain ⟨B, hBe⟩ : ∃ B, B = billsL p next n := ⟨_, rfl⟩
  have hpair : pairOf p next n = (p.floor + loI B (p.setup * p.pow (n + 1)), p.floor + upI B) := by rw [hBe]; rfl
  rw [← hBe] at hbl hbd hup hu1 hu2 hBI
  rw [hpair]
  have hBL : B.length ≤ 21 := by omega
  simp (config := {implicitDefEqProofs := false, maxDischargeDepth := 20}) (disch := first | omega | (simp only [lenE]; done) | (simp only [lenE]; omega) | rfl | (simp only [lenE, markR_len]; done) | (simp only [lenE, markR_len]; omega)) only [runE, mapE, listE, initT_5, initT_6, initT_7, initT_8, resV, oneV, binA, unA, reduceCtorEq, Nat.reduceEqDiff, Nat.reduceAdd, Nat.reduceLT, Nat.reduceLeDiff, Nat.reduceMul, Nat.reduceSub, ↓reduceIte, decide_true, decide_false, Bool.true_eq_false, Bool.false_eq_true, Bool.not_true, Bool.not_false, if_true, if_false, and_true, true_and, memE, celE, w64, Nat.zero_add, Nat.add_zero, Nat.mul_one, putL, and_self, ldn, id_eq]
  try rw [← hM1]
  refine loop_inv mixed (fun s => ∃ (i up : Nat), 1 ≤ i ∧ i ≤ B.length ∧ IsLeast (fun i => B.getD i.toNat 0) 0 ((i : Int) - 1) up ∧ s.m = M1 ∧ s.t 2 = .int .i64 t ∧ s.t 3 = .pointer (some ⟨m.length, 0, none⟩) ∧ s.t 6 = .pointer (some ⟨m.length + 1, 0, none⟩) ∧ s.t 7 = r ∧ s.t 8 = .int .i64 up ∧ s.t 9 = .int .i64 0 ∧ s.t 10 = .int .i64 i) (fun s => B.length - (intOf (s.t 10)).toNat)
    ⟨1, 0, by omega, by omega, by simpa using IsLeast.one (fun i => B.getD i.toNat 0) 0, rfl, rfl, rfl, rfl, rfl, rfl, rfl, rfl⟩ ?_
  rintro s ⟨i, up, hi1, hi2, hle, tm, t2, t3, t6, t7, t8, t9, t10⟩
  have hul : up < B.length := by have := hle.2.1; omega
  by_cases hlt : i < B.length
  · have hlt' : (i : Int) < B.length := by omega
    have hd := hle.up
    rw [show (i : Int) - 1 + 1 = i by omega] at hd
    simp only [Int.toNat_natCast] at hd
    by_cases hc : B.getD i 0 < B.getD up 0
    · rw [if_pos hc] at hd
      simp (config := {implicitDefEqProofs := false, maxDischargeDepth := 20}) (disch := first | omega | (simp only [lenE]; done) | (simp only [lenE]; omega) | rfl | (simp only [lenE, markR_len]; done) | (simp only [lenE, markR_len]; omega)) only [runE, mapE, listE, initT_5, initT_6, initT_7, initT_8, resV, oneV, binA, unA, reduceCtorEq, Nat.reduceEqDiff, Nat.reduceAdd, Nat.reduceLT, Nat.reduceLeDiff, Nat.reduceMul, Nat.reduceSub, ↓reduceIte, decide_true, decide_false, Bool.true_eq_false, Bool.false_eq_true, Bool.not_true, Bool.not_false, if_true, if_false, and_true, true_and, memE, celE, w64, Nat.zero_add, Nat.add_zero, Nat.mul_one, putL, and_self, ldn, tm, t2, t3, t6, t7, t8, t9, t10, hBI.len, hlt', hBI.at_ i hlt, hBI.ld i hlt, hBI.at_ up hul, hBI.ld up hul, hc]
      refine ⟨⟨i + 1, i, by omega, by omega, by rw [show ((i + 1 : Nat) : Int) - 1 = i by omega]; exact hd, rfl, by simp⟩, by simp [intOf]; omega⟩
    · rw [if_neg hc] at hd
      simp (config := {implicitDefEqProofs := false, maxDischargeDepth := 20}) (disch := first | omega | (simp only [lenE]; done) | (simp only [lenE]; omega) | rfl | (simp only [lenE, markR_len]; done) | (simp only [lenE, markR_len]; omega)) only [runE, mapE, listE, initT_5, initT_6, initT_7, initT_8, resV, oneV, binA, unA, reduceCtorEq, Nat.reduceEqDiff, Nat.reduceAdd, Nat.reduceLT, Nat.reduceLeDiff, Nat.reduceMul, Nat.reduceSub, ↓reduceIte, decide_true, decide_false, Bool.true_eq_false, Bool.false_eq_true, Bool.not_true, Bool.not_false, if_true, if_false, and_true, true_and, memE, celE, w64, Nat.zero_add, Nat.add_zero, Nat.mul_one, putL, and_self, ldn, tm, t2, t3, t6, t7, t8, t9, t10, hBI.len, hlt', hBI.at_ i hlt, hBI.ld i hlt, hBI.at_ up hul, hBI.ld up hul, hc]
      refine ⟨⟨i + 1, up, by omega, by omega, by rw [show ((i + 1 : Nat) : Int) - 1 = i by omega]; exact hd, rfl, by simp⟩, by simp [intOf]; omega⟩
  · have hlt' : ¬ ((i : Int) < B.length) := by omega
    have e : (i : Int) = B.length := by omega
    rw [e] at hle
    have eu := hle.uniq hup
    have eun : (upI B).toNat = up := by omega
    simp (config := {implicitDefEqProofs := false, maxDischargeDepth := 20}) (disch := first | omega | (simp only [lenE]; done) | (simp only [lenE]; omega) | rfl | (simp only [lenE, markR_len]; done) | (simp only [lenE, markR_len]; omega)) only [runE, mapE, listE, initT_5, initT_6, initT_7, initT_8, resV, oneV, binA, unA, reduceCtorEq, Nat.reduceEqDiff, Nat.reduceAdd, Nat.reduceLT, Nat.reduceLeDiff, Nat.reduceMul, Nat.reduceSub, ↓reduceIte, decide_true, decide_false, Bool.true_eq_false, Bool.false_eq_true, Bool.not_true, Bool.not_false, if_true, if_false, and_true, true_and, memE, celE, w64, Nat.zero_add, Nat.add_zero, Nat.mul_one, putL, and_self, ldn, tm, t2, t3, t6, t7, t8, t9, t10, hBI.len, hlt']
    refine loop_inv mixed (fun s => ∃ (lo : Nat) (M : Mem), lo ≤ up ∧ (∀ j, j < lo → B.getD up 0 + p.setup * p.pow (n + 1) < B.getD j 0) ∧ s.m = M ∧ Ext m M ∧ OwnB M m.length 26 [.int .i64 p.turns, u, .int .i64 p.setup, .int .i64 p.unit, .int .i64 p.hold, .int .i64 p.back] ∧ OwnB M (m.length + 1) 46 [.int .i64 0, .int .i64 0] ∧ IntsA M r B ∧ s.t 2 = .int .i64 t ∧ s.t 3 = .pointer (some ⟨m.length, 0, none⟩) ∧ s.t 6 = .pointer (some ⟨m.length + 1, 0, none⟩) ∧ s.t 7 = r ∧ s.t 8 = .int .i64 up ∧ s.t 9 = .int .i64 lo) (fun s => up + 1 - (intOf (s.t 9)).toNat)
      ⟨0, M1, by omega, fun j hj => absurd hj (by omega), tm, hX1, hb1, hc1, hBI, t2, t3, t6, t7, t8, t9⟩ ?_
    rintro s ⟨lo, M, hlo, hno, tm, hX, hb, hcx, hBM, t2, t3, t6, t7, t8, t9⟩
    have hll : lo < B.length := by omega
    simp (config := {implicitDefEqProofs := false, maxDischargeDepth := 20}) (disch := first | omega | (simp only [lenE]; done) | (simp only [lenE]; omega) | rfl | (simp only [lenE, markR_len]; done) | (simp only [lenE, markR_len]; omega)) only [runE, mapE, listE, initT_5, initT_6, initT_7, initT_8, resV, oneV, binA, unA, reduceCtorEq, Nat.reduceEqDiff, Nat.reduceAdd, Nat.reduceLT, Nat.reduceLeDiff, Nat.reduceMul, Nat.reduceSub, ↓reduceIte, decide_true, decide_false, Bool.true_eq_false, Bool.false_eq_true, Bool.not_true, Bool.not_false, if_true, if_false, and_true, true_and, memE, celE, w64, Nat.zero_add, Nat.add_zero, Nat.mul_one, putL, and_self, ldn, tm, t2, t3, t6, t7, t8, t9, hBM.at_ lo hll, hBM.ld lo hll, hBM.at_ up hul, hBM.ld up hul, hb.rd]
    refine rcallH_rc (l6Power_rc _ _ p _ (n + 1) (ProcA.mk (hX.ints hu)) hg (by omega) (by omega)) ?_
    rintro r2 n2 ⟨rfl, nr2⟩
    rw [eun] at hbd
    have hX2 := hX.app nr2
    have hb2 := hb.ext n2
    have hc2 := hcx.ext n2
    have hB2 := hBM.ext n2
    by_cases hq : B.getD up 0 + p.setup * p.pow (n + 1) < B.getD lo 0
    · have hne : lo ≠ up := fun e => by rw [e] at hq; omega
      simp (config := {implicitDefEqProofs := false, maxDischargeDepth := 20}) (disch := first | omega | (simp only [lenE]; done) | (simp only [lenE]; omega) | rfl | (simp only [lenE, markR_len]; done) | (simp only [lenE, markR_len]; omega)) only [runE, mapE, listE, initT_5, initT_6, initT_7, initT_8, resV, oneV, binA, unA, reduceCtorEq, Nat.reduceEqDiff, Nat.reduceAdd, Nat.reduceLT, Nat.reduceLeDiff, Nat.reduceMul, Nat.reduceSub, ↓reduceIte, decide_true, decide_false, Bool.true_eq_false, Bool.false_eq_true, Bool.not_true, Bool.not_false, if_true, if_false, and_true, true_and, memE, celE, w64, Nat.zero_add, Nat.add_zero, Nat.mul_one, putL, and_self, ldn, t2, t3, t6, t7, t8, t9, gt_iff_lt, hq]
      refine ⟨⟨lo + 1, _, by omega, fun j hj => ?_, rfl, hX2, hb2, hc2, hB2, by simp⟩, by simp [intOf]; omega⟩
      by_cases e2 : j = lo
      · rw [e2]; exact hq
      · exact hno j (by omega)
    · have hloI : loI B (p.setup * p.pow (n + 1)) = lo := by
        unfold loI
        rw [eun]
        exact firstAt_is hll (fun j hj => decide_eq_false (by have := hno j hj; omega)) (decide_eq_true (by omega))
      rw [hloI, ← eu]
      simp (config := {implicitDefEqProofs := false, maxDischargeDepth := 20}) (disch := first | omega | (simp only [lenE]; done) | (simp only [lenE]; omega) | rfl | (simp only [lenE, markR_len]; done) | (simp only [lenE, markR_len]; omega)) only [runE, mapE, listE, initT_5, initT_6, initT_7, initT_8, resV, oneV, binA, unA, reduceCtorEq, Nat.reduceEqDiff, Nat.reduceAdd, Nat.reduceLT, Nat.reduceLeDiff, Nat.reduceMul, Nat.reduceSub, ↓reduceIte, decide_true, decide_false, Bool.true_eq_false, Bool.false_eq_true, Bool.not_true, Bool.not_false, if_true, if_false, and_true, true_and, memE, celE, w64, Nat.zero_add, Nat.add_zero, Nat.mul_one, putL, and_self, ldn, t2, t3, t6, t7, t8, t9, gt_iff_lt, hq, hb2.rd]
      refine rcallH_rc (l6Floor_rc _ _ p (ProcA.mk (hX2.ints hu)) hg) ?_
      rintro r3 n3 ⟨rfl, nr3⟩
      have hb3 := hb2.ext n3
      simp (config := {implicitDefEqProofs := false, maxDischargeDepth := 20}) (disch := first | omega | (simp only [lenE]; done) | (simp only [lenE]; omega) | rfl | (simp only [lenE, markR_len]; done) | (simp only [lenE, markR_len]; omega)) only [runE, mapE, listE, initT_5, initT_6, initT_7, initT_8, resV, oneV, binA, unA, reduceCtorEq, Nat.reduceEqDiff, Nat.reduceAdd, Nat.reduceLT, Nat.reduceLeDiff, Nat.reduceMul, Nat.reduceSub, ↓reduceIte, decide_true, decide_false, Bool.true_eq_false, Bool.false_eq_true, Bool.not_true, Bool.not_false, if_true, if_false, and_true, true_and, memE, celE, w64, Nat.zero_add, Nat.add_zero, Nat.mul_one, putL, and_self, ldn, t2, t3, t6, t7, t8, t9, hb3.rd]
      refine rcallH_rc (l6Floor_rc _ _ p (ProcA.mk ((hX2.ints hu).ext n3)) hg) ?_
      rintro r4 n4 ⟨rfl, nr4⟩
      have hc4 := (hc2.ext n3).ext n4
      have hst := hc4.st (off := 0) (vs := [.int .i64 (lo + p.floor), .int .i64 (up + p.floor)]) (by simp) rfl
      have hrd := (hc4.set_self 46 [.int .i64 (lo + p.floor), .int .i64 (up + p.floor)]).rd
      simp (config := {implicitDefEqProofs := false, maxDischargeDepth := 20}) (disch := first | omega | (simp only [lenE]; done) | (simp only [lenE]; omega) | rfl | (simp only [lenE, markR_len]; done) | (simp only [lenE, markR_len]; omega)) only [runE, mapE, listE, initT_5, initT_6, initT_7, initT_8, resV, oneV, binA, unA, reduceCtorEq, Nat.reduceEqDiff, Nat.reduceAdd, Nat.reduceLT, Nat.reduceLeDiff, Nat.reduceMul, Nat.reduceSub, ↓reduceIte, decide_true, decide_false, Bool.true_eq_false, Bool.false_eq_true, Bool.not_true, Bool.not_false, if_true, if_false, and_true, true_and, memE, celE, w64, Nat.zero_add, Nat.add_zero, Nat.mul_one, putL, and_self, ldn, t6, bld_pair, hst, hrd]
      rw [Int.add_comm p.floor, Int.add_comm p.floor]
      exact ext_ansV2 (((hX2.app nr3).app nr4).put (id := m.length + 1) (by omega) _ _)
def levelsL (p : Pr) (N : Nat) : List (Int × Int) := (List.range N).map fun t => pairOf p (p.rowsN p.bestC (N - 1 - t)) (N - 1 - t)
theorem levelsL_len (p : Pr) (N : Nat) : (levelsL p N).length = N := by simp [levelsL]
theorem levelsL_at {p : Pr} {N t : Nat} (h : t < N) : (levelsL p N).getD t (0, 0) = pairOf p (p.rowsN p.bestC (N - 1 - t)) (N - 1 - t) := by
  simp [levelsL, List.getD_eq_getElem?_getD, h]
def levelsA (p : Pr) : List (Int × Int) := if p.good then levelsL p p.turns.toNat else []
theorem take_nextP {l : List (Int × Int)} {i : Nat} (h : i < l.length) : l.take (i + 1) = l.take i ++ [l.getD i (0, 0)] := by
  rw [List.take_add_one, List.getD_eq_getElem?_getD, List.getElem?_eq_getElem h]; rfl
theorem pairsC_one (q : Int × Int) : pairsC [q] = [.int .i64 q.1, .int .i64 q.2] := rfl
theorem implBestLevels_rc (m : Mem) (v : Value) (p : Pr) (h : ProcA m v p) : RC Try.prog 16 [v] m (AnsO m (PairsO 46 (levelsA p)) fun v => .tuple #[v, .bool p.good]) := by
  refine rc_of_run mixed ok_impl_BestLevels (by simp) (go_start _ _ _ ?_)
  obtain ⟨u, rfl, hu⟩ := h.ro
  unfold levelsA
  simp (config := {implicitDefEqProofs := false, maxDischargeDepth := 20}) (disch := first | omega | (simp only [lenE]; done) | (simp only [lenE]; omega) | rfl | (simp only [lenE, markR_len]; done) | (simp only [lenE, markR_len]; omega)) only [runE, mapE, listE, initT_5, initT_6, initT_7, initT_8, resV, oneV, binA, unA, reduceCtorEq, Nat.reduceEqDiff, Nat.reduceAdd, Nat.reduceLT, Nat.reduceLeDiff, Nat.reduceMul, Nat.reduceSub, ↓reduceIte, decide_true, decide_false, Bool.true_eq_false, Bool.false_eq_true, Bool.not_true, Bool.not_false, if_true, if_false, and_true, true_and, memE, celE, w64, Nat.zero_add, Nat.add_zero, Nat.mul_one, putL, and_self, ldn, c_impl_BestLevels, r_impl_BestLevels]
  refine callH_rc (implIsProcess_rc _ _ p (ProcA.mk (hu.ext _))) ?_
  rintro r n1 ⟨rfl, nr1⟩
  cases hg : p.good with
  | false =>
    simp (config := {implicitDefEqProofs := false, maxDischargeDepth := 20}) (disch := first | omega | (simp only [lenE]; done) | (simp only [lenE]; omega) | rfl | (simp only [lenE, markR_len]; done) | (simp only [lenE, markR_len]; omega)) only [runE, mapE, listE, initT_5, initT_6, initT_7, initT_8, resV, oneV, binA, unA, reduceCtorEq, Nat.reduceEqDiff, Nat.reduceAdd, Nat.reduceLT, Nat.reduceLeDiff, Nat.reduceMul, Nat.reduceSub, ↓reduceIte, decide_true, decide_false, Bool.true_eq_false, Bool.false_eq_true, Bool.not_true, Bool.not_false, if_true, if_false, and_true, true_and, memE, celE, w64, Nat.zero_add, Nat.add_zero, Nat.mul_one, putL, and_self, ldn, bsl_no]
    exact ext_noPairs (f := fun v => .tuple #[v, .bool false]) (((Ext.refl m).one _ _).app nr1) (by simp [roM_len]; omega)
  | true =>
  have hG := goodP_iff.1 hg
  have ht := hG.turns
  simp (config := {implicitDefEqProofs := false, maxDischargeDepth := 20}) (disch := first | omega | (simp only [lenE]; done) | (simp only [lenE]; omega) | rfl | (simp only [lenE, markR_len]; done) | (simp only [lenE, markR_len]; omega)) only [runE, mapE, listE, initT_5, initT_6, initT_7, initT_8, resV, oneV, binA, unA, reduceCtorEq, Nat.reduceEqDiff, Nat.reduceAdd, Nat.reduceLT, Nat.reduceLeDiff, Nat.reduceMul, Nat.reduceSub, ↓reduceIte, decide_true, decide_false, Bool.true_eq_false, Bool.false_eq_true, Bool.not_true, Bool.not_false, if_true, if_false, and_true, true_and, memE, celE, w64, Nat.zero_add, Nat.add_zero, Nat.mul_one, putL, and_self, ldn]
  refine callH_rc (worthTable_rc _ _ p (ProcA.mk ((hu.ext _).ext _)) hG) ?_
  rintro r n2 ⟨nr2, w, rfl, hw⟩
  have hTA := hw.mono fun M h => h.in
  obtain ⟨A, hA⟩ : ∃ A : Mem, A = roM m ++ [⟨.own, 26, [.int .i64 p.turns, u, .int .i64 p.setup, .int .i64 p.unit, .int .i64 p.hold, .int .i64 p.back]⟩] ++ n1 ++ n2 := ⟨_, rfl⟩
  have hXA : Ext m A := by rw [hA]; exact (((Ext.refl m).one _ _).app nr1).app nr2
  have hbA : OwnB A m.length 26 [.int .i64 p.turns, u, .int .i64 p.setup, .int .i64 p.unit, .int .i64 p.hold, .int .i64 p.back] := by rw [hA]; exact ((OwnB.here (roM_len m).symm).ext _).ext _
  rw [← hA] at hTA
  simp (config := {implicitDefEqProofs := false, maxDischargeDepth := 20}) (disch := first | omega | (simp only [lenE]; done) | (simp only [lenE]; omega) | rfl | (simp only [lenE, markR_len]; done) | (simp only [lenE, markR_len]; omega)) only [runE, mapE, listE, initT_5, initT_6, initT_7, initT_8, resV, oneV, binA, unA, reduceCtorEq, Nat.reduceEqDiff, Nat.reduceAdd, Nat.reduceLT, Nat.reduceLeDiff, Nat.reduceMul, Nat.reduceSub, ↓reduceIte, decide_true, decide_false, Bool.true_eq_false, Bool.false_eq_true, Bool.not_true, Bool.not_false, if_true, if_false, and_true, true_and, memE, celE, w64, Nat.zero_add, Nat.add_zero, Nat.mul_one, putL, and_self, ldn, id_eq, bsl_no]
  try rw [← hA]
  obtain ⟨N, hN⟩ : ∃ N, N = p.turns.toNat := ⟨_, rfl⟩
  rw [← hN] at hTA ⊢
  obtain ⟨lo, hlo⟩ : ∃ lo, lo = (roM m ++ [(⟨.own, 26, [.int .i64 p.turns, u, .int .i64 p.setup, .int .i64 p.unit, .int .i64 p.hold, .int .i64 p.back]⟩ : Blk)] ++ n1).length := ⟨_, rfl⟩
  obtain ⟨hi, hhi⟩ : ∃ hi, hi = lo + n2.length := ⟨_, rfl⟩
  rw [← hlo, ← hhi] at hTA
  have hNt : p.turns = (N : Int) := by omega
  have hll := levelsL_len p N
  refine loop_inv mixed (fun s => ∃ (k : Nat) (M : Mem) (id : Nat), k ≤ N ∧ s.m = M ∧ Ext m M ∧ OwnB M m.length 26 [.int .i64 p.turns, u, .int .i64 p.setup, .int .i64 p.unit, .int .i64 p.hold, .int .i64 p.back] ∧ Lv lo hi M (fun M => TabA M r (p.tab p.bestC N)) ∧ (id < lo ∨ hi ≤ id) ∧ m.length < id ∧ OwnB M id 46 (pairsC ((levelsL p N).take k)) ∧ s.t 5 = .slice (some ⟨id, 0, none⟩) k 2 ∧ s.t 16 = .int .i64 k ∧ s.t 4 = r ∧ s.t 1 = .pointer (some ⟨m.length, 0, none⟩) ∧ s.t 15 = .int .i64 N) (fun s => N - (intOf (s.t 16)).toNat)
    ⟨0, _, A.length, by omega, rfl, hXA.one _ _, hbA.ext _, hTA.ext _, .inr (by have := hTA.2.1; omega), by have := hbA.lt; omega, OwnB.here rfl, by simp only [put_t, put_t', put_m, putT_t, putT_t', putT_m, init_t, init_m, initT_0, initT_1, initT_2, initT_3, initT_4, initT_5, initT_6, initT_7, initT_8, Nat.reduceEqDiff, ↓reduceIte]; try rw [hA]; simp [roM_len, Nat.add_assoc], rfl, rfl, rfl, by simp only [put_t, put_t', put_m, putT_t, putT_t', putT_m, init_t, init_m, initT_0, initT_1, initT_2, initT_3, initT_4, initT_5, initT_6, initT_7, initT_8, Nat.reduceEqDiff, ↓reduceIte]; rw [hNt]⟩ ?_
  rintro s ⟨k, M, id, hk, tm, hX, hb, hTL, hidd, hid, ho, t5, t16, t4, t1, t15⟩
  have hTM := hTL.now
  by_cases hlt : k < N
  · have hlt' : (k : Int) < N := by omega
    have hrow : (p.tab p.bestC N).getD (k + 1) [] = p.rowsN p.bestC (N - 1 - k) := by
      rw [Pr.tab_at p _ (by omega)]; congr 1; omega
    have hl21 := Pr.rowsN_len p p.bestC (N - 1 - k)
    have hBB := Pr.rows_big hG (N := 5) (by omega) (Pr.best_fair hG 5) (k := N - 1 - k) (by omega)
    have a1 := hTM.at_ (k + 1) (by rw [Pr.tab_len]; omega)
    rw [Int.natCast_add] at a1
    obtain ⟨y, a2, a3⟩ := hTM.ld (k + 1) (by rw [Pr.tab_len]; omega)
    rw [hrow] at a3
    simp (config := {implicitDefEqProofs := false, maxDischargeDepth := 20}) (disch := first | omega | (simp only [lenE]; done) | (simp only [lenE]; omega) | rfl | (simp only [lenE, markR_len]; done) | (simp only [lenE, markR_len]; omega)) only [runE, mapE, listE, initT_5, initT_6, initT_7, initT_8, resV, oneV, binA, unA, reduceCtorEq, Nat.reduceEqDiff, Nat.reduceAdd, Nat.reduceLT, Nat.reduceLeDiff, Nat.reduceMul, Nat.reduceSub, ↓reduceIte, decide_true, decide_false, Bool.true_eq_false, Bool.false_eq_true, Bool.not_true, Bool.not_false, if_true, if_false, and_true, true_and, memE, celE, w64, Nat.zero_add, Nat.add_zero, Nat.mul_one, putL, and_self, ldn, tm, t5, t16, t4, t1, t15, hlt', hb.rd, show (k : Int) + 1 = (k : Int) + ((1 : Nat) : Int) by rfl, a1, a2]
    refine rcallH_rc (bestPair_rc _ _ y p _ k (N - 1 - k) (ProcA.mk (hX.ints hu)) a3 hG hl21 hBB (by omega) (by omega) (by omega)) ?_
    rintro r2 n3 ⟨rfl, nr3⟩
    rw [← levelsL_at hlt]
    have ho3 := ho.ext n3
    have hidl := ho3.lt
    have happ := app_back (M := M ++ n3) (id2 := (M ++ n3).length) (sz := 2) (byt := 16) (n := k) (ys := [.int .i64 ((levelsL p N).getD k (0, 0)).1, .int .i64 ((levelsL p N).getD k (0, 0)).2]) ho3 rfl (by rw [pairsC_len, List.length_take]; omega) rfl rfl (by omega) (by omega)
    have hX3 := hX.app nr3
    have hXl := hX3.len
    have hb3 := hb.ext n3
    have hT3 := hTL.ext n3
    obtain ⟨M3, hM3⟩ : ∃ M', M' = M ++ n3 := ⟨_, rfl⟩
    rw [← hM3] at happ hidl hX3 hXl hb3 hT3 ho3
    rw [← hM3]
    simp (config := {implicitDefEqProofs := false, maxDischargeDepth := 20}) (disch := first | omega | (simp only [lenE]; done) | (simp only [lenE]; omega) | rfl | (simp only [lenE, markR_len]; done) | (simp only [lenE, markR_len]; omega)) only [runE, mapE, listE, initT_5, initT_6, initT_7, initT_8, resV, oneV, binA, unA, reduceCtorEq, Nat.reduceEqDiff, Nat.reduceAdd, Nat.reduceLT, Nat.reduceLeDiff, Nat.reduceMul, Nat.reduceSub, ↓reduceIte, decide_true, decide_false, Bool.true_eq_false, Bool.false_eq_true, Bool.not_true, Bool.not_false, if_true, if_false, and_true, true_and, memE, celE, w64, Nat.zero_add, Nat.add_zero, Nat.mul_one, putL, and_self, ldn, t5, t16, t4, t1, t15, bsl_pair, happ]
    refine ⟨⟨k + 1, _, M3.length + 1, by omega, rfl, ((hX3.dead (by omega)).one _ _).one _ _, hb3.at_ (same_gen (by omega) hidl), hT3.but ((((But.refl id (id + 1) M3).set (Nat.le_refl _) (Nat.lt_succ_self _) deadB).ext _).ext _) (by omega), .inr (by have := hT3.2.1; omega), by omega, ?_, rfl, by simp⟩, by simp [intOf]; omega⟩
    · rw [take_nextP (by omega), pairsC_app, pairsC_one]
      exact OwnB.here (by simp)
  · have hlt' : ¬ ((k : Int) < N) := by omega
    have e : k = N := by omega
    subst e
    simp (config := {implicitDefEqProofs := false, maxDischargeDepth := 20}) (disch := first | omega | (simp only [lenE]; done) | (simp only [lenE]; omega) | rfl | (simp only [lenE, markR_len]; done) | (simp only [lenE, markR_len]; omega)) only [runE, mapE, listE, initT_5, initT_6, initT_7, initT_8, resV, oneV, binA, unA, reduceCtorEq, Nat.reduceEqDiff, Nat.reduceAdd, Nat.reduceLT, Nat.reduceLeDiff, Nat.reduceMul, Nat.reduceSub, ↓reduceIte, decide_true, decide_false, Bool.true_eq_false, Bool.false_eq_true, Bool.not_true, Bool.not_false, if_true, if_false, and_true, true_and, memE, celE, w64, Nat.zero_add, Nat.add_zero, Nat.mul_one, putL, and_self, ldn, tm, t5, t16, t4, t1, t15, hlt', hb.rd]
    rw [List.take_of_length_le (by omega)] at ho
    refine ext_ansO (f := fun v => .tuple #[v, .bool true]) hX fun M' hM => ⟨by omega, id, 2, by rw [hll], by omega, ho.lt, ho.at_ (hM _ (by omega) ho.lt)⟩
def PairsQ (e : TypeId) (L : List (Int × Int)) (lo hi : Nat) (M : Mem) (v : Value) : Prop := PairsO e L lo hi M v ∧ ∃ id, v = .slice (some ⟨id, 0, none⟩) L.length 2
theorem specBestLevels_q (m : Mem) (v : Value) (p : Pr) (h : ProcA m v p) : RC Try.prog 17 [v] m (AnsO m (PairsQ 46 (levelsA p)) fun v => .tuple #[v, .bool p.good]) := by
  refine rc_of_run mixed ok_spec_BestLevels (by simp) (go_start _ _ _ ?_)
  obtain ⟨u, rfl, hu⟩ := h.ro
  unfold levelsA
  simp (config := {implicitDefEqProofs := false, maxDischargeDepth := 20}) (disch := first | omega | (simp only [lenE]; done) | (simp only [lenE]; omega) | rfl | (simp only [lenE, markR_len]; done) | (simp only [lenE, markR_len]; omega)) only [runE, mapE, listE, initT_5, initT_6, initT_7, initT_8, resV, oneV, binA, unA, reduceCtorEq, Nat.reduceEqDiff, Nat.reduceAdd, Nat.reduceLT, Nat.reduceLeDiff, Nat.reduceMul, Nat.reduceSub, ↓reduceIte, decide_true, decide_false, Bool.true_eq_false, Bool.false_eq_true, Bool.not_true, Bool.not_false, if_true, if_false, and_true, true_and, memE, celE, w64, Nat.zero_add, Nat.add_zero, Nat.mul_one, putL, and_self, ldn, c_spec_BestLevels, r_spec_BestLevels, bsl_no]
  refine callH_rc (l6Good_rc _ _ p (ProcA.mk ((hu.ext _).ext _))) ?_
  rintro r n1 ⟨rfl, nr1⟩
  cases hg : p.good with
  | false =>
    simp (config := {implicitDefEqProofs := false, maxDischargeDepth := 20}) (disch := first | omega | (simp only [lenE]; done) | (simp only [lenE]; omega) | rfl | (simp only [lenE, markR_len]; done) | (simp only [lenE, markR_len]; omega)) only [runE, mapE, listE, initT_5, initT_6, initT_7, initT_8, resV, oneV, binA, unA, reduceCtorEq, Nat.reduceEqDiff, Nat.reduceAdd, Nat.reduceLT, Nat.reduceLeDiff, Nat.reduceMul, Nat.reduceSub, ↓reduceIte, decide_true, decide_false, Bool.true_eq_false, Bool.false_eq_true, Bool.not_true, Bool.not_false, if_true, if_false, and_true, true_and, memE, celE, w64, Nat.zero_add, Nat.add_zero, Nat.mul_one, putL, and_self, ldn]
    refine ext_ansO (f := fun v => .tuple #[v, .bool false]) ((((Ext.refl m).one _ _).one _ _).app nr1) fun M' hM => ⟨⟨by simp, m.length + 1, 2, rfl, by omega, by simp [roM_len], ?_⟩, m.length + 1, rfl⟩
    refine OwnB.at_ ?_ (hM _ (by omega) (by simp [roM_len]))
    exact (OwnB.here (by simp [roM_len])).ext _
  | true =>
  have hG := goodP_iff.1 hg
  have ht := hG.turns
  simp (config := {implicitDefEqProofs := false, maxDischargeDepth := 20}) (disch := first | omega | (simp only [lenE]; done) | (simp only [lenE]; omega) | rfl | (simp only [lenE, markR_len]; done) | (simp only [lenE, markR_len]; omega)) only [runE, mapE, listE, initT_5, initT_6, initT_7, initT_8, resV, oneV, binA, unA, reduceCtorEq, Nat.reduceEqDiff, Nat.reduceAdd, Nat.reduceLT, Nat.reduceLeDiff, Nat.reduceMul, Nat.reduceSub, ↓reduceIte, decide_true, decide_false, Bool.true_eq_false, Bool.false_eq_true, Bool.not_true, Bool.not_false, if_true, if_false, and_true, true_and, memE, celE, w64, Nat.zero_add, Nat.add_zero, Nat.mul_one, putL, and_self, ldn]
  refine callH_rc (l6Worths_rc _ _ p (ProcA.mk (((hu.ext _).ext _).ext _)) hG) ?_
  rintro r n2 ⟨nr2, w, rfl, hw⟩
  have hTA := hw.mono fun M h => h.in
  obtain ⟨A, hA⟩ : ∃ A : Mem, A = roM m ++ [⟨.own, 26, [.int .i64 p.turns, u, .int .i64 p.setup, .int .i64 p.unit, .int .i64 p.hold, .int .i64 p.back]⟩] ++ [⟨.own, 46, []⟩] ++ n1 ++ n2 := ⟨_, rfl⟩
  have hXA : Ext m A := by rw [hA]; exact ((((Ext.refl m).one _ _).one _ _).app nr1).app nr2
  have hbA : OwnB A m.length 26 [.int .i64 p.turns, u, .int .i64 p.setup, .int .i64 p.unit, .int .i64 p.hold, .int .i64 p.back] := by rw [hA]; exact (((OwnB.here (roM_len m).symm).ext _).ext _).ext _
  rw [← hA] at hTA
  simp (config := {implicitDefEqProofs := false, maxDischargeDepth := 20}) (disch := first | omega | (simp only [lenE]; done) | (simp only [lenE]; omega) | rfl | (simp only [lenE, markR_len]; done) | (simp only [lenE, markR_len]; omega)) only [runE, mapE, listE, initT_5, initT_6, initT_7, initT_8, resV, oneV, binA, unA, reduceCtorEq, Nat.reduceEqDiff, Nat.reduceAdd, Nat.reduceLT, Nat.reduceLeDiff, Nat.reduceMul, Nat.reduceSub, ↓reduceIte, decide_true, decide_false, Bool.true_eq_false, Bool.false_eq_true, Bool.not_true, Bool.not_false, if_true, if_false, and_true, true_and, memE, celE, w64, Nat.zero_add, Nat.add_zero, Nat.mul_one, putL, and_self, ldn, id_eq]
  try rw [← hA]
  obtain ⟨N, hN⟩ : ∃ N, N = p.turns.toNat := ⟨_, rfl⟩
  rw [← hN] at hTA ⊢
  obtain ⟨lo, hlo⟩ : ∃ lo, lo = (roM m ++ [(⟨.own, 26, [.int .i64 p.turns, u, .int .i64 p.setup, .int .i64 p.unit, .int .i64 p.hold, .int .i64 p.back]⟩ : Blk)] ++ [(⟨.own, 46, []⟩ : Blk)] ++ n1).length := ⟨_, rfl⟩
  obtain ⟨hi, hhi⟩ : ∃ hi, hi = lo + n2.length := ⟨_, rfl⟩
  rw [← hlo, ← hhi] at hTA
  have hNt : p.turns = (N : Int) := by omega
  have hll := levelsL_len p N
  refine loop_inv mixed (fun s => ∃ (k : Nat) (M : Mem) (id : Nat), k ≤ N ∧ s.m = M ∧ Ext m M ∧ OwnB M m.length 26 [.int .i64 p.turns, u, .int .i64 p.setup, .int .i64 p.unit, .int .i64 p.hold, .int .i64 p.back] ∧ Lv lo hi M (fun M => TabA M r (p.tab p.bestC N)) ∧ (id < lo ∨ hi ≤ id) ∧ m.length < id ∧ OwnB M id 46 (pairsC ((levelsL p N).take k)) ∧ s.t 4 = .slice (some ⟨id, 0, none⟩) k 2 ∧ s.t 6 = .int .i64 k ∧ s.t 5 = r ∧ s.t 1 = .pointer (some ⟨m.length, 0, none⟩)) (fun s => N - (intOf (s.t 6)).toNat)
    ⟨0, A, m.length + 1, by omega, rfl, hXA, hbA, hTA, .inl (by rw [hlo]; simp [roM_len]), by omega, by rw [hA]; exact ((OwnB.here (by simp [roM_len])).ext _).ext _, rfl, rfl, rfl, rfl⟩ ?_
  rintro s ⟨k, M, id, hk, tm, hX, hb, hTL, hidd, hid, ho, t4, t6, t5, t1⟩
  have hTM := hTL.now
  by_cases hlt : k < N
  · have hlt' : (k : Int) < N := by omega
    have hrow : (p.tab p.bestC N).getD (k + 1) [] = p.rowsN p.bestC (N - 1 - k) := by
      rw [Pr.tab_at p _ (by omega)]; congr 1; omega
    have hl21 := Pr.rowsN_len p p.bestC (N - 1 - k)
    have hBB := Pr.rows_big hG (N := 5) (by omega) (Pr.best_fair hG 5) (k := N - 1 - k) (by omega)
    have hltT : (k : Int) < p.turns := by omega
    simp (config := {implicitDefEqProofs := false, maxDischargeDepth := 20}) (disch := first | omega | (simp only [lenE]; done) | (simp only [lenE]; omega) | rfl | (simp only [lenE, markR_len]; done) | (simp only [lenE, markR_len]; omega)) only [runE, mapE, listE, initT_5, initT_6, initT_7, initT_8, resV, oneV, binA, unA, reduceCtorEq, Nat.reduceEqDiff, Nat.reduceAdd, Nat.reduceLT, Nat.reduceLeDiff, Nat.reduceMul, Nat.reduceSub, ↓reduceIte, decide_true, decide_false, Bool.true_eq_false, Bool.false_eq_true, Bool.not_true, Bool.not_false, if_true, if_false, and_true, true_and, memE, celE, w64, Nat.zero_add, Nat.add_zero, Nat.mul_one, putL, and_self, ldn, tm, t4, t6, t5, t1, hltT, hb.rd]
    refine callH_rc (l6Levels_rc _ _ r p (p.tab p.bestC N) _ k (N - 1 - k) (ProcA.mk (hX.ints hu)) hTM hG (by rw [show ((k : Int) + 1).toNat = k + 1 by omega]; exact hrow) (by rw [Pr.tab_len]; omega) hl21 hBB (by omega) (by omega) (by omega)) ?_
    rintro r2 n3 ⟨rfl, nr3⟩
    rw [← levelsL_at hlt]
    have ho3 := ho.ext n3
    have hidl := ho3.lt
    have happ := app_back (M := M ++ n3) (id2 := (M ++ n3).length) (sz := 2) (byt := 16) (n := k) (ys := [.int .i64 ((levelsL p N).getD k (0, 0)).1, .int .i64 ((levelsL p N).getD k (0, 0)).2]) ho3 rfl (by rw [pairsC_len, List.length_take]; omega) rfl rfl (by omega) (by omega)
    have hX3 := hX.app nr3
    have hXl := hX3.len
    have hb3 := hb.ext n3
    have hT3 := hTL.ext n3
    obtain ⟨M3, hM3⟩ : ∃ M', M' = M ++ n3 := ⟨_, rfl⟩
    rw [← hM3] at happ hidl hX3 hXl hb3 hT3 ho3
    rw [← hM3]
    simp (config := {implicitDefEqProofs := false, maxDischargeDepth := 20}) (disch := first | omega | (simp only [lenE]; done) | (simp only [lenE]; omega) | rfl | (simp only [lenE, markR_len]; done) | (simp only [lenE, markR_len]; omega)) only [runE, mapE, listE, initT_5, initT_6, initT_7, initT_8, resV, oneV, binA, unA, reduceCtorEq, Nat.reduceEqDiff, Nat.reduceAdd, Nat.reduceLT, Nat.reduceLeDiff, Nat.reduceMul, Nat.reduceSub, ↓reduceIte, decide_true, decide_false, Bool.true_eq_false, Bool.false_eq_true, Bool.not_true, Bool.not_false, if_true, if_false, and_true, true_and, memE, celE, w64, Nat.zero_add, Nat.add_zero, Nat.mul_one, putL, and_self, ldn, t4, t6, t5, t1, bsl_pair, happ]
    refine ⟨⟨k + 1, _, M3.length + 1, by omega, rfl, ((hX3.dead (by omega)).one _ _).one _ _, hb3.at_ (same_gen (by omega) hidl), hT3.but ((((But.refl id (id + 1) M3).set (Nat.le_refl _) (Nat.lt_succ_self _) deadB).ext _).ext _) (by omega), .inr (by have := hT3.2.1; omega), by omega, ?_, rfl, by simp⟩, by simp [intOf]; omega⟩
    · rw [take_nextP (by omega), pairsC_app, pairsC_one]
      exact OwnB.here (by simp)
  · have hlt' : ¬ ((k : Int) < N) := by omega
    have e : k = N := by omega
    subst e
    have hltT : ¬ ((k : Int) < p.turns) := by omega
    simp (config := {implicitDefEqProofs := false, maxDischargeDepth := 20}) (disch := first | omega | (simp only [lenE]; done) | (simp only [lenE]; omega) | rfl | (simp only [lenE, markR_len]; done) | (simp only [lenE, markR_len]; omega)) only [runE, mapE, listE, initT_5, initT_6, initT_7, initT_8, resV, oneV, binA, unA, reduceCtorEq, Nat.reduceEqDiff, Nat.reduceAdd, Nat.reduceLT, Nat.reduceLeDiff, Nat.reduceMul, Nat.reduceSub, ↓reduceIte, decide_true, decide_false, Bool.true_eq_false, Bool.false_eq_true, Bool.not_true, Bool.not_false, if_true, if_false, and_true, true_and, memE, celE, w64, Nat.zero_add, Nat.add_zero, Nat.mul_one, putL, and_self, ldn, tm, t4, t6, t5, t1, hltT, hb.rd]
    rw [List.take_of_length_le (by omega)] at ho
    refine ext_ansO (f := fun v => .tuple #[v, .bool true]) hX fun M' hM => ⟨⟨by omega, id, 2, by rw [hll], by omega, ho.lt, ho.at_ (hM _ (by omega) ho.lt)⟩, id, by rw [hll]⟩
theorem specBestLevels_rc (m : Mem) (v : Value) (p : Pr) (h : ProcA m v p) : RC Try.prog 17 [v] m (AnsO m (PairsO 46 (levelsA p)) fun v => .tuple #[v, .bool p.good]) := by
  refine (specBestLevels_q m v p h).mono ?_
  rintro r new ⟨h1, w, h2, h3⟩
  exact ⟨h1, w, h2, h3.mono fun M h => h.1⟩
end Go.Proofs.Ytbchcbhleldhiaa.Ab
end
section
namespace Go.Proofs.Ytbchcbhleldhiaa.Ab
open Go Go.RowKit
set_option linter.unusedVariables false
set_option linter.unusedSimpArgs false
structure BytesA (m : Mem) (cb : Nat) (l : List Int) : Prop where
  blk : ∃ kd, kd ≠ Kd.dead ∧ m[cb]? = some ⟨kd, 5, l.map (Value.int .u8)⟩
  byte : ∀ x ∈ l, 0 ≤ x ∧ x ≤ 255
  few : l.length ≤ 65536
theorem BytesA.ro {m : Mem} {cb : Nat} {l : List Int} (h : BytesA m cb l) : (roM m)[cb]? = some ⟨.ro, 5, l.map (Value.int .u8)⟩ := by
  obtain ⟨kd, hk, hb⟩ := h.blk
  unfold roM
  rw [List.getElem?_map, hb]
  cases kd with
  | dead => exact absurd rfl hk
  | ro => rfl
  | own => rfl
theorem BytesA.ext {m : Mem} {cb : Nat} {l : List Int} (h : BytesA m cb l) (new : Mem) : BytesA (m ++ new) cb l := by
  obtain ⟨kd, hk, hb⟩ := h.blk
  exact ⟨⟨kd, hk, by rw [List.getElem?_append_left (List.getElem?_eq_some_iff.1 hb).1]; exact hb⟩, h.byte, h.few⟩
theorem bldCur (A : Option Addr) (n c : Nat) : bldA [.slice none 0 0, .int .i64 0, .int .u64 0] [(0, 1, .slice A n c)] = some (.agg #[.slice A n c, .int .i64 0, .int .u64 0]) := rfl

theorem argB {W : World} {A : Option Addr} {c : Nat} {l : List Int} (hr : Rd W W.heap.size A (l.map (Value.int .u8))) (hlc : l.length ≤ c) (hc : c ≤ maxLen) :
    ∃ p, MRel W W.heap.size [p] [⟨.ro, 5, l.map (Value.int .u8)⟩] W ∧ VR [p] (.slice (some ⟨0, 0, none⟩) l.length 0) (.slice A l.length c) := by
  have h := MRel.start W
  by_cases hl : 0 < l.length
  · obtain ⟨b, off, rfl, hb, hcell⟩ := hr (by simpa using hl)
    refine ⟨(b, off, 0), by
      have := h.addRo (e := 5) (xs := l.map (Value.int .u8)) (b := b) (o := off) (tot := 0) (fun k x hx => ⟨hb, x, hcell k x hx, by
        rw [List.getElem?_map] at hx
        cases hk : l[k]? with
        | none => rw [hk] at hx; cases hx
        | some z => rw [hk] at hx; cases hx; exact .int _ _⟩)
      simpa using this, .sl (b := b) (o := off) (tot := 0) (by simp) hlc hc (fun _ _ => by simp) (fun hf => absurd hf (by omega))⟩
  · have hl0 : l = [] := List.eq_nil_of_length_eq_zero (by omega)
    subst hl0
    exact ⟨(0, 0, 0), by
      have := h.addRo (e := 5) (xs := []) (b := 0) (o := 0) (tot := 0) (fun k x hx => by simp at hx)
      simpa using this, .sl (b := 0) (o := 0) (tot := 0) (by simp) hlc hc (fun _ hp => absurd hp (by simp)) (fun hf => absurd hf (by omega))⟩
end Go.Proofs.Ytbchcbhleldhiaa.Ab
end
section
namespace Go.Proofs.Ytbchcbhleldhiaa.Ab
open Go Go.RowKit
set_option linter.unusedVariables false
set_option linter.unusedSimpArgs false
theorem bl_pT (m : Mem) : bslA m 3 1 7 [.int .i64 0, .int .i64 0, .int .i64 0, .int .i64 0, .int .i64 0, .int .i64 0, .int .i64 0] [(0, 1, .int .i64 2), (1, 1, .int .i64 3), (2, 1, .int .i64 1), (3, 1, .int .i64 2), (4, 1, .int .i64 0), (5, 1, .int .i64 4), (6, 1, .int .i64 5)] = some (.slice (some ⟨m.length, 0, none⟩) 7 1, m ++ [rowB [2, 3, 1, 2, 0, 4, 5]]) := rfl
theorem bl_pS (m : Mem) : bslA m 3 1 5 [.int .i64 0, .int .i64 0, .int .i64 0, .int .i64 0, .int .i64 0] [(0, 1, .int .i64 0), (1, 1, .int .i64 3), (2, 1, .int .i64 6), (3, 1, .int .i64 10), (4, 1, .int .i64 99)] = some (.slice (some ⟨m.length, 0, none⟩) 5 1, m ++ [rowB [0, 3, 6, 10, 99]]) := rfl
theorem bl_pB (m : Mem) : bslA m 3 1 5 [.int .i64 0, .int .i64 0, .int .i64 0, .int .i64 0, .int .i64 0] [(0, 1, .int .i64 2), (1, 1, .int .i64 4), (2, 1, .int .i64 6), (3, 1, .int .i64 9), (4, 1, .int .i64 0)] = some (.slice (some ⟨m.length, 0, none⟩) 5 1, m ++ [rowB [2, 4, 6, 9, 0]]) := rfl
theorem bl_pW (m : Mem) : bslA m 3 1 5 [.int .i64 0, .int .i64 0, .int .i64 0, .int .i64 0, .int .i64 0] [(0, 1, .int .i64 1), (1, 1, .int .i64 2), (2, 1, .int .i64 1), (3, 1, .int .i64 0), (4, 1, .int .i64 3)] = some (.slice (some ⟨m.length, 0, none⟩) 5 1, m ++ [rowB [1, 2, 1, 0, 3]]) := rfl
theorem bl_p0 (m : Mem) : bslA m 3 1 2 [.int .i64 0, .int .i64 0] [(0, 1, .int .i64 (-1)), (1, 1, .int .i64 6)] = some (.slice (some ⟨m.length, 0, none⟩) 2 1, m ++ [rowB [-1, 6]]) := rfl
theorem bl_p1 (m : Mem) : bslA m 3 1 3 [.int .i64 0, .int .i64 0, .int .i64 0] [(0, 1, .int .i64 (-1)), (1, 1, .int .i64 4), (2, 1, .int .i64 5)] = some (.slice (some ⟨m.length, 0, none⟩) 3 1, m ++ [rowB [-1, 4, 5]]) := rfl
theorem bl_p2 (m : Mem) : bslA m 3 1 2 [.int .i64 0, .int .i64 0] [(0, 1, .int .i64 (-1)), (1, 1, .int .i64 100)] = some (.slice (some ⟨m.length, 0, none⟩) 2 1, m ++ [rowB [-1, 100]]) := rfl
theorem bl_p3 (m : Mem) : bslA m 3 1 3 [.int .i64 0, .int .i64 0, .int .i64 0] [(0, 1, .int .i64 (-1)), (1, 1, .int .i64 9), (2, 1, .int .i64 10)] = some (.slice (some ⟨m.length, 0, none⟩) 3 1, m ++ [rowB [-1, 9, 10]]) := rfl
theorem bl_q1 (m : Mem) : bslA m 3 1 3 [.int .i64 0, .int .i64 0, .int .i64 0] [(0, 1, .int .i64 (-11)), (1, 1, .int .i64 3), (2, 1, .int .i64 0)] = some (.slice (some ⟨m.length, 0, none⟩) 3 1, m ++ [rowB [-11, 3, 0]]) := rfl
theorem bl_q2 (m : Mem) : bslA m 3 1 3 [.int .i64 0, .int .i64 0, .int .i64 0] [(0, 1, .int .i64 11), (1, 1, .int .i64 0), (2, 1, .int .i64 (-10))] = some (.slice (some ⟨m.length, 0, none⟩) 3 1, m ++ [rowB [11, 0, -10]]) := rfl
theorem bl_w (m : Mem) (x : Int) : bslA m 3 1 1 [.int .i64 0] [(0, 1, .int .i64 x)] = some (.slice (some ⟨m.length, 0, none⟩) 1 1, m ++ [⟨.own, 3, [.int .i64 x]⟩]) := rfl
theorem bld_p (a b c d f : Int) : bldA [.int .i64 0, .slice none 0 0, .int .i64 0, .int .i64 0, .int .i64 0, .int .i64 0] [(0, 1, .int .i64 a), (2, 1, .int .i64 b), (3, 1, .int .i64 c), (4, 1, .int .i64 d), (5, 1, .int .i64 f)] = some (.agg #[.int .i64 a, .slice none 0 0, .int .i64 b, .int .i64 c, .int .i64 d, .int .i64 f]) := rfl
theorem fin6 {M M0 M' : Mem} {cb id a : Nat} {l : List Int} {p : Pr} {u : Value} (hM0 : M0 = M ++ [⟨.own, 26, [.int .i64 0, .slice none 0 0, .int .i64 0, .int .i64 0, .int .i64 0, .int .i64 0]⟩]) (hid : id < M.length) (hcb : cb < M.length) (cw : Cw id M0 M') (cur : CurA M' cb l id a) (pl : PL M0.length M' u p.w) (ho : onesB [u] = true) : ∃ M2,
    stA M' M.length 0 (procC p u) = some M2 ∧ (∀ j, rdc M2 M.length j = (procC p u)[j]?) ∧ (Cw id M M2 ∧ CurA M2 cb l id a ∧ PL M.length M2 u p.w) := by
  have hl0 : M0.length = M.length + 1 := by rw [hM0]; simp
  have hres : OwnB M' M.length 26 [.int .i64 0, .slice none 0 0, .int .i64 0, .int .i64 0, .int .i64 0, .int .i64 0] := by
    refine OwnB.at_ (M := M0) ?_ (cw.old _ (by omega) (by omega))
    rw [hM0]; exact OwnB.here rfl
  have cw1 : Cw id M M' := by rw [hM0] at cw; exact cw.pre (noRo_own noRo_nil) hid
  refine ⟨_, hres.st (by simp) (by
    have e : u.oneCell' = true := by simpa [onesB] using ho
    simp only [onesB, procC, List.all_cons, List.all_nil, Bool.and_true, e]
    rfl), fun j => ?_, cw1.put (Nat.le_refl _) (by simp), cur.put (by omega) (by omega) _, fun M3 h3 => ?_⟩
  · rw [(hres.set_self _ _).rd]; rfl
  · refine pl M3 fun i h1 h2 => ?_
    rw [h3 i (by omega) (by rw [List.length_set]; exact h2), List.getElem?_set_ne (by omega)]
theorem process_ac (M : Mem) (cb id a : Nat) (l : List Int) (h : CurA M cb l id a) (ha : a ≤ 999999000) :
    AC Try.prog 57 [.pointer (some ⟨id, 0, none⟩)] M fun v M' => ∃ (p : Pr) (u : Value) (a' : Nat), v = procV p u ∧ a' ≤ a + 100 ∧ Cw id M M' ∧ CurA M' cb l id a' ∧ PL M.length M' u p.w := by
  refine ac_of_run mixed ok_spec_l1Cur__process (by simp) (go_start _ _ _ ?_)
  have hid := h.lt
  have hcb := h.cblt
  simp (config := {implicitDefEqProofs := false, maxDischargeDepth := 20}) (disch := first | omega | (simp only [lenE]; done) | (simp only [lenE]; omega) | rfl | (simp only [lenE, markR_len]; done) | (simp only [lenE, markR_len]; omega)) only [runE, mapE, listE, initT_5, initT_6, initT_7, initT_8, resV, oneV, binA, unA, reduceCtorEq, Nat.reduceEqDiff, Nat.reduceAdd, Nat.reduceLT, Nat.reduceLeDiff, Nat.reduceMul, Nat.reduceSub, ↓reduceIte, decide_true, decide_false, Bool.true_eq_false, Bool.false_eq_true, Bool.not_true, Bool.not_false, if_true, if_false, and_true, true_and, memE, celE, w64, Nat.zero_add, Nat.add_zero, Nat.mul_one, putL, and_self, ldn, c_spec_l1Cur__process, r_spec_l1Cur__process, bl_pT]
  obtain ⟨M0, hM0⟩ : ∃ M0 : Mem, M0 = M ++ [⟨.own, 26, [.int .i64 0, .slice none 0 0, .int .i64 0, .int .i64 0, .int .i64 0, .int .i64 0]⟩] := ⟨_, rfl⟩
  have h0 : CurA M0 cb l id a := by rw [hM0]; exact h.ext _
  have hres : OwnB M0 M.length 26 [.int .i64 0, .slice none 0 0, .int .i64 0, .int .i64 0, .int .i64 0, .int .i64 0] := by rw [hM0]; exact OwnB.here rfl
  have hl0 : M0.length = M.length + 1 := by rw [hM0]; simp
  have cw0 : Cw id M M0 := by rw [hM0]; exact (Cw.refl id M).ext (noRo_own noRo_nil)
  rw [← hM0]
  refine callH_ac (among_new M0 cb id a l [2, 3, 1, 2, 0, 4, 5] h0 (by omega) (by omega) rfl (by simp) (by simp)) ?_
  rintro v M1 ⟨xT, -, rfl, w1, a1, ha1, k1⟩
  simp (config := {implicitDefEqProofs := false, maxDischargeDepth := 20}) (disch := first | omega | (simp only [lenE]; done) | (simp only [lenE]; omega) | rfl | (simp only [lenE, markR_len]; done) | (simp only [lenE, markR_len]; omega)) only [runE, mapE, listE, initT_5, initT_6, initT_7, initT_8, resV, oneV, binA, unA, reduceCtorEq, Nat.reduceEqDiff, Nat.reduceAdd, Nat.reduceLT, Nat.reduceLeDiff, Nat.reduceMul, Nat.reduceSub, ↓reduceIte, decide_true, decide_false, Bool.true_eq_false, Bool.false_eq_true, Bool.not_true, Bool.not_false, if_true, if_false, and_true, true_and, memE, celE, w64, Nat.zero_add, Nat.add_zero, Nat.mul_one, putL, and_self, ldn, bl_pS]
  refine callH_ac (among_new M1 cb id a1 l [0, 3, 6, 10, 99] k1 (by omega) rfl rfl (by simp) (by simp)) ?_
  rintro v M2 ⟨xS, -, rfl, w2, a2, ha2, k2⟩
  have c2 := Cw.trans (by omega) w1 w2
  clear w1 w2 k1
  simp (config := {implicitDefEqProofs := false, maxDischargeDepth := 20}) (disch := first | omega | (simp only [lenE]; done) | (simp only [lenE]; omega) | rfl | (simp only [lenE, markR_len]; done) | (simp only [lenE, markR_len]; omega)) only [runE, mapE, listE, initT_5, initT_6, initT_7, initT_8, resV, oneV, binA, unA, reduceCtorEq, Nat.reduceEqDiff, Nat.reduceAdd, Nat.reduceLT, Nat.reduceLeDiff, Nat.reduceMul, Nat.reduceSub, ↓reduceIte, decide_true, decide_false, Bool.true_eq_false, Bool.false_eq_true, Bool.not_true, Bool.not_false, if_true, if_false, and_true, true_and, memE, celE, w64, Nat.zero_add, Nat.add_zero, Nat.mul_one, putL, and_self, ldn]
  refine callH_ac (pick_ac M2 cb id a2 l 3 k2 (by omega) (by omega) (by omega)) ?_
  rintro v M3 ⟨xU, rfl, hU0, hU1, w3, a3, ha3, k3⟩
  have c3 := Cw.trans (by omega) c2 w3
  clear c2 w3 k2
  simp (config := {implicitDefEqProofs := false, maxDischargeDepth := 20}) (disch := first | omega | (simp only [lenE]; done) | (simp only [lenE]; omega) | rfl | (simp only [lenE, markR_len]; done) | (simp only [lenE, markR_len]; omega)) only [runE, mapE, listE, initT_5, initT_6, initT_7, initT_8, resV, oneV, binA, unA, reduceCtorEq, Nat.reduceEqDiff, Nat.reduceAdd, Nat.reduceLT, Nat.reduceLeDiff, Nat.reduceMul, Nat.reduceSub, ↓reduceIte, decide_true, decide_false, Bool.true_eq_false, Bool.false_eq_true, Bool.not_true, Bool.not_false, if_true, if_false, and_true, true_and, memE, celE, w64, Nat.zero_add, Nat.add_zero, Nat.mul_one, putL, and_self, ldn]
  refine callH_ac (pick_ac M3 cb id a3 l 3 k3 (by omega) (by omega) (by omega)) ?_
  rintro v M4 ⟨xH, rfl, hH0, hH1, w4, a4, ha4, k4⟩
  have c4 := Cw.trans (by omega) c3 w4
  clear c3 w4 k3
  simp (config := {implicitDefEqProofs := false, maxDischargeDepth := 20}) (disch := first | omega | (simp only [lenE]; done) | (simp only [lenE]; omega) | rfl | (simp only [lenE, markR_len]; done) | (simp only [lenE, markR_len]; omega)) only [runE, mapE, listE, initT_5, initT_6, initT_7, initT_8, resV, oneV, binA, unA, reduceCtorEq, Nat.reduceEqDiff, Nat.reduceAdd, Nat.reduceLT, Nat.reduceLeDiff, Nat.reduceMul, Nat.reduceSub, ↓reduceIte, decide_true, decide_false, Bool.true_eq_false, Bool.false_eq_true, Bool.not_true, Bool.not_false, if_true, if_false, and_true, true_and, memE, celE, w64, Nat.zero_add, Nat.add_zero, Nat.mul_one, putL, and_self, ldn, bl_pB]
  refine callH_ac (among_new M4 cb id a4 l [2, 4, 6, 9, 0] k4 (by omega) rfl rfl (by simp) (by simp)) ?_
  rintro v M5 ⟨xB, -, rfl, w5, a5, ha5, k5⟩
  have c5 := Cw.trans (by omega) c4 w5
  clear c4 w5 k4
  have s1 : stA (M5 ++ [⟨.own, 26, [.int .i64 0, .slice none 0 0, .int .i64 0, .int .i64 0, .int .i64 0, .int .i64 0]⟩]) M5.length 0 [.int .i64 xT, .slice none 0 0, .int .i64 xS, .int .i64 xU, .int .i64 (1 + xH), .int .i64 xB] = some (M5 ++ [⟨.own, 26, procC ⟨xT, [], xS, xU, 1 + xH, xB⟩ (.slice none 0 0)⟩]) := by
    rw [(OwnB.here rfl).st (by simp) rfl]
    simp [putL]
  have b5 : PB M0 (M5 ++ [⟨.own, 26, procC ⟨xT, [], xS, xU, 1 + xH, xB⟩ (.slice none 0 0)⟩]) cb id a5 M5.length 0 l ⟨xT, [], xS, xU, 1 + xH, xB⟩ (.slice none 0 0) :=
    ⟨by omega, by omega, c5.ext (noRo_own noRo_nil), k5.ext _, OwnB.here rfl, c5.len, .inl ⟨rfl, rfl⟩, fun e => absurd rfl e⟩
  simp (config := {implicitDefEqProofs := false, maxDischargeDepth := 20}) (disch := first | omega | (simp only [lenE]; done) | (simp only [lenE]; omega) | rfl | (simp only [lenE, markR_len]; done) | (simp only [lenE, markR_len]; omega)) only [runE, mapE, listE, initT_5, initT_6, initT_7, initT_8, resV, oneV, binA, unA, reduceCtorEq, Nat.reduceEqDiff, Nat.reduceAdd, Nat.reduceLT, Nat.reduceLeDiff, Nat.reduceMul, Nat.reduceSub, ↓reduceIte, decide_true, decide_false, Bool.true_eq_false, Bool.false_eq_true, Bool.not_true, Bool.not_false, if_true, if_false, and_true, true_and, memE, celE, w64, Nat.zero_add, Nat.add_zero, Nat.mul_one, putL, and_self, ldn, bld_p, stP_aggL, s1]
  generalize M5 ++ [(⟨.own, 26, procC ⟨xT, [], xS, xU, 1 + xH, xB⟩ (.slice none 0 0)⟩ : Blk)] = N0 at *
  generalize M5.length = bx at *
  clear s1 c5 k5
  refine callH_ac (pick_ac N0 cb id a5 l 5 b5.cur (by omega) (by omega) (by omega)) ?_
  rintro v N1 ⟨n0, rfl, hn0, hn1, w6, a6, ha6, k6⟩
  have b6 := b5.draw w6 k6
  clear b5 w6 k6
  simp (config := {implicitDefEqProofs := false, maxDischargeDepth := 20}) (disch := first | omega | (simp only [lenE]; done) | (simp only [lenE]; omega) | rfl | (simp only [lenE, markR_len]; done) | (simp only [lenE, markR_len]; omega)) only [runE, mapE, listE, initT_5, initT_6, initT_7, initT_8, resV, oneV, binA, unA, reduceCtorEq, Nat.reduceEqDiff, Nat.reduceAdd, Nat.reduceLT, Nat.reduceLeDiff, Nat.reduceMul, Nat.reduceSub, ↓reduceIte, decide_true, decide_false, Bool.true_eq_false, Bool.false_eq_true, Bool.not_true, Bool.not_false, if_true, if_false, and_true, true_and, memE, celE, w64, Nat.zero_add, Nat.add_zero, Nat.mul_one, putL, and_self, ldn]
  obtain ⟨N, hN, hN6⟩ : ∃ N : Nat, 1 + n0 = N ∧ N ≤ 5 := ⟨(1 + n0).toNat, by omega, by omega⟩
  rw [hN]
  refine loop_inv mixed (fun s => ∃ (M' : Mem) (r : Nat) (p : Pr) (u : Value) (a' k : Nat), s.m = M' ∧ PB M0 M' cb id a' bx r l p u ∧ p.w.length + k = N ∧ (∀ x ∈ p.w, 0 ≤ x ∧ x ≤ 3) ∧ a' + 2 * k ≤ a6 + 10 ∧ s.t 0 = .pointer (some ⟨id, 0, none⟩) ∧ s.t 2 = .pointer (some ⟨M.length, 0, none⟩) ∧ s.t 3 = .pointer (some ⟨bx, 0, none⟩) ∧ s.t 4 = .int .i64 k) (fun s => (intOf (s.t 4)).toNat)
    ⟨N1, 0, _, _, a6, N, rfl, b6, by simp, by simp, by omega, rfl, rfl, rfl, rfl⟩ ?_
  rintro s ⟨M', r, p, u, a', k, tm, d, hk, hw, hak, t0, t2, t3, t4⟩
  by_cases hlt : 0 < k
  · have hlt' : (0 : Int) < k := by omega
    have dx := d.ext (new := [rowB [1, 2, 1, 0, 3]]) (noRo_own noRo_nil)
    simp (config := {implicitDefEqProofs := false, maxDischargeDepth := 20}) (disch := first | omega | (simp only [lenE]; done) | (simp only [lenE]; omega) | rfl | (simp only [lenE, markR_len]; done) | (simp only [lenE, markR_len]; omega)) only [runE, mapE, listE, initT_5, initT_6, initT_7, initT_8, resV, oneV, binA, unA, reduceCtorEq, Nat.reduceEqDiff, Nat.reduceAdd, Nat.reduceLT, Nat.reduceLeDiff, Nat.reduceMul, Nat.reduceSub, ↓reduceIte, decide_true, decide_false, Bool.true_eq_false, Bool.false_eq_true, Bool.not_true, Bool.not_false, if_true, if_false, and_true, true_and, memE, celE, w64, Nat.zero_add, Nat.add_zero, Nat.mul_one, putL, and_self, ldn, tm, t0, t2, t3, t4, gt_iff_lt, hlt', bl_pW, d.rd, dx.rd]
    with_reducible refine ⟨?_, ?_, ?_⟩
    all_goals
      refine callH_ac (among_new M' cb id a' l [1, 2, 1, 0, 3] d.cur (by omega) rfl rfl (by simp) (by simp)) ?_
      rintro v M2 ⟨x, hx, rfl, w2, a2, ha2, k2⟩
      have d2 := d.draw w2 k2
      obtain ⟨M3, M4, ap, sp, d4⟩ := d2.app (by omega) x
      simp (config := {implicitDefEqProofs := false, maxDischargeDepth := 20}) (disch := first | omega | (simp only [lenE]; done) | (simp only [lenE]; omega) | rfl | (simp only [lenE, markR_len]; done) | (simp only [lenE, markR_len]; omega)) only [runE, mapE, listE, initT_5, initT_6, initT_7, initT_8, resV, oneV, binA, unA, reduceCtorEq, Nat.reduceEqDiff, Nat.reduceAdd, Nat.reduceLT, Nat.reduceLeDiff, Nat.reduceMul, Nat.reduceSub, ↓reduceIte, decide_true, decide_false, Bool.true_eq_false, Bool.false_eq_true, Bool.not_true, Bool.not_false, if_true, if_false, and_true, true_and, memE, celE, w64, Nat.zero_add, Nat.add_zero, Nat.mul_one, putL, and_self, ldn, tm, t0, t2, t3, t4, d2.rd, bl_w, ap, sp]
      refine ⟨⟨M4, _, _, _, a2, k - 1, rfl, d4, by simp; omega, fun y hy => ?_, by omega, by congr 1; omega⟩, by simp [intOf]; omega⟩
      rcases List.mem_append.1 hy with g | g
      · exact hw y g
      · rw [List.mem_singleton.1 g]
        simp at hx
        omega
  · have hlt' : ¬ ((0 : Int) < k) := by omega
    have e : k = 0 := by omega
    subst e
    have hwl : p.w.length ≤ 5 := by omega
    have hwp : 0 < p.w.length := by omega
    clear b6
    simp (config := {implicitDefEqProofs := false, maxDischargeDepth := 20}) (disch := first | omega | (simp only [lenE]; done) | (simp only [lenE]; omega) | rfl | (simp only [lenE, markR_len]; done) | (simp only [lenE, markR_len]; omega)) only [runE, mapE, listE, initT_5, initT_6, initT_7, initT_8, resV, oneV, binA, unA, reduceCtorEq, Nat.reduceEqDiff, Nat.reduceAdd, Nat.reduceLT, Nat.reduceLeDiff, Nat.reduceMul, Nat.reduceSub, ↓reduceIte, decide_true, decide_false, Bool.true_eq_false, Bool.false_eq_true, Bool.not_true, Bool.not_false, if_true, if_false, and_true, true_and, memE, celE, w64, Nat.zero_add, Nat.add_zero, Nat.mul_one, putL, and_self, ldn, tm, t0, t2, t3, t4, gt_iff_lt, hlt', d.rd]
    refine callH_rc (l2Sum_rc _ u p.w (d.gr.ints (by omega)) (fun k hk => by have := sumTo_bound (m := 3) (by omega) hw k; omega)) ?_
    rintro v new ⟨rfl, rfl⟩
    generalize sumTo p.w p.w.length = sm
    cases hs : (sm == 0) with
    | false =>
      simp (config := {implicitDefEqProofs := false, maxDischargeDepth := 20}) (disch := first | omega | (simp only [lenE]; done) | (simp only [lenE]; omega) | rfl | (simp only [lenE, markR_len]; done) | (simp only [lenE, markR_len]; omega)) only [runE, mapE, listE, initT_5, initT_6, initT_7, initT_8, resV, oneV, binA, unA, reduceCtorEq, Nat.reduceEqDiff, Nat.reduceAdd, Nat.reduceLT, Nat.reduceLeDiff, Nat.reduceMul, Nat.reduceSub, ↓reduceIte, decide_true, decide_false, Bool.true_eq_false, Bool.false_eq_true, Bool.not_true, Bool.not_false, if_true, if_false, and_true, true_and, memE, celE, w64, Nat.zero_add, Nat.add_zero, Nat.mul_one, putL, and_self, ldn, tm, t0, t2, t3, t4, hs]
      refine callH_ac (pick_ac M' cb id a' l 40 d.cur (by omega) (by omega) (by omega)) ?_
      rintro v M2 ⟨x, rfl, hx0, hx1, w2, a2, ha2, k2⟩
      have d2 := d.draw w2 k2
      clear w2 k2 d
      by_cases x0 : x = 0
      · have x0' : (x == 0) = true := by simp [x0]
        simp (config := {implicitDefEqProofs := false, maxDischargeDepth := 20}) (disch := first | omega | (simp only [lenE]; done) | (simp only [lenE]; omega) | rfl | (simp only [lenE, markR_len]; done) | (simp only [lenE, markR_len]; omega)) only [runE, mapE, listE, initT_5, initT_6, initT_7, initT_8, resV, oneV, binA, unA, reduceCtorEq, Nat.reduceEqDiff, Nat.reduceAdd, Nat.reduceLT, Nat.reduceLeDiff, Nat.reduceMul, Nat.reduceSub, ↓reduceIte, decide_true, decide_false, Bool.true_eq_false, Bool.false_eq_true, Bool.not_true, Bool.not_false, if_true, if_false, and_true, true_and, memE, celE, w64, Nat.zero_add, Nat.add_zero, Nat.mul_one, putL, and_self, ldn, tm, t0, t2, t3, t4, x0', bl_p0]
        refine callH_ac (among_new M2 cb id a2 l [-1, 6] d2.cur (by omega) rfl rfl (by simp) (by simp)) ?_
        rintro v M3 ⟨y, -, rfl, w3, a3, ha3, k3⟩
        have d3 := d2.draw w3 k3
        obtain ⟨s1, d4⟩ := d3.st 0 y { p with turns := y } (by omega) (by simp [putL]) rfl
        obtain ⟨M5, f1, f2, f3⟩ := fin6 (p := { p with turns := y }) hM0 hid hcb d4.cw d4.cur (d4.pl (by show p.w.length ≤ 1000; omega)) d4.gr.one'
        simp (config := {implicitDefEqProofs := false, maxDischargeDepth := 20}) (disch := first | omega | (simp only [lenE]; done) | (simp only [lenE]; omega) | rfl | (simp only [lenE, markR_len]; done) | (simp only [lenE, markR_len]; omega)) only [runE, mapE, listE, initT_5, initT_6, initT_7, initT_8, resV, oneV, binA, unA, reduceCtorEq, Nat.reduceEqDiff, Nat.reduceAdd, Nat.reduceLT, Nat.reduceLeDiff, Nat.reduceMul, Nat.reduceSub, ↓reduceIte, decide_true, decide_false, Bool.true_eq_false, Bool.false_eq_true, Bool.not_true, Bool.not_false, if_true, if_false, and_true, true_and, memE, celE, w64, Nat.zero_add, Nat.add_zero, Nat.mul_one, putL, and_self, ldn, tm, t0, t2, t3, t4, s1, d4.rd, f1, f2]
        exact ⟨{ p with turns := y }, _, a3, rfl, by omega, f3⟩
      · have x0' : (x == 0) = false := by simp [x0]
        by_cases x1 : x = 1
        · have x1' : (x == 1) = true := by simp [x1]
          have dx := d2.ext (new := [rowB [-1, 4, 5]]) (noRo_own noRo_nil)
          simp (config := {implicitDefEqProofs := false, maxDischargeDepth := 20}) (disch := first | omega | (simp only [lenE]; done) | (simp only [lenE]; omega) | rfl | (simp only [lenE, markR_len]; done) | (simp only [lenE, markR_len]; omega)) only [runE, mapE, listE, initT_5, initT_6, initT_7, initT_8, resV, oneV, binA, unA, reduceCtorEq, Nat.reduceEqDiff, Nat.reduceAdd, Nat.reduceLT, Nat.reduceLeDiff, Nat.reduceMul, Nat.reduceSub, ↓reduceIte, decide_true, decide_false, Bool.true_eq_false, Bool.false_eq_true, Bool.not_true, Bool.not_false, if_true, if_false, and_true, true_and, memE, celE, w64, Nat.zero_add, Nat.add_zero, Nat.mul_one, putL, and_self, ldn, tm, t0, t2, t3, t4, x0', x1', bl_p1, d2.rd, dx.rd]
          with_reducible refine ⟨?_, ?_, ?_⟩
          all_goals
            refine callH_ac (among_new M2 cb id a2 l [-1, 4, 5] d2.cur (by omega) rfl rfl (by simp) (by simp)) ?_
            rintro v M3 ⟨y, -, rfl, w3, a3, ha3, k3⟩
            have d3 := d2.draw w3 k3
            obtain ⟨M4, i0, s1, d4⟩ := d3.put (by omega) hwp y
            obtain ⟨M5, f1, f2, f3⟩ := fin6 (p := { p with w := p.w.set 0 y }) hM0 hid hcb d4.cw d4.cur (d4.pl (by simp; omega)) d4.gr.one'
            simp (config := {implicitDefEqProofs := false, maxDischargeDepth := 20}) (disch := first | omega | (simp only [lenE]; done) | (simp only [lenE]; omega) | rfl | (simp only [lenE, markR_len]; done) | (simp only [lenE, markR_len]; omega)) only [runE, mapE, listE, initT_5, initT_6, initT_7, initT_8, resV, oneV, binA, unA, reduceCtorEq, Nat.reduceEqDiff, Nat.reduceAdd, Nat.reduceLT, Nat.reduceLeDiff, Nat.reduceMul, Nat.reduceSub, ↓reduceIte, decide_true, decide_false, Bool.true_eq_false, Bool.false_eq_true, Bool.not_true, Bool.not_false, if_true, if_false, and_true, true_and, memE, celE, w64, Nat.zero_add, Nat.add_zero, Nat.mul_one, putL, and_self, ldn, tm, t0, t2, t3, t4, d3.rd, i0, s1, d4.rd, f1, f2]
            exact ⟨{ p with w := p.w.set 0 y }, _, a3, rfl, by omega, f3⟩
        · have x1' : (x == 1) = false := by simp [x1]
          by_cases x2 : x = 2
          · have x2' : (x == 2) = true := by simp [x2]
            simp (config := {implicitDefEqProofs := false, maxDischargeDepth := 20}) (disch := first | omega | (simp only [lenE]; done) | (simp only [lenE]; omega) | rfl | (simp only [lenE, markR_len]; done) | (simp only [lenE, markR_len]; omega)) only [runE, mapE, listE, initT_5, initT_6, initT_7, initT_8, resV, oneV, binA, unA, reduceCtorEq, Nat.reduceEqDiff, Nat.reduceAdd, Nat.reduceLT, Nat.reduceLeDiff, Nat.reduceMul, Nat.reduceSub, ↓reduceIte, decide_true, decide_false, Bool.true_eq_false, Bool.false_eq_true, Bool.not_true, Bool.not_false, if_true, if_false, and_true, true_and, memE, celE, w64, Nat.zero_add, Nat.add_zero, Nat.mul_one, putL, and_self, ldn, tm, t0, t2, t3, t4, x0', x1', x2', bl_p2]
            refine callH_ac (among_new M2 cb id a2 l [-1, 100] d2.cur (by omega) rfl rfl (by simp) (by simp)) ?_
            rintro v M3 ⟨y, -, rfl, w3, a3, ha3, k3⟩
            have d3 := d2.draw w3 k3
            obtain ⟨s1, d4⟩ := d3.st 2 y { p with setup := y } (by omega) (by simp [putL]) rfl
            obtain ⟨M5, f1, f2, f3⟩ := fin6 (p := { p with setup := y }) hM0 hid hcb d4.cw d4.cur (d4.pl (by show p.w.length ≤ 1000; omega)) d4.gr.one'
            simp (config := {implicitDefEqProofs := false, maxDischargeDepth := 20}) (disch := first | omega | (simp only [lenE]; done) | (simp only [lenE]; omega) | rfl | (simp only [lenE, markR_len]; done) | (simp only [lenE, markR_len]; omega)) only [runE, mapE, listE, initT_5, initT_6, initT_7, initT_8, resV, oneV, binA, unA, reduceCtorEq, Nat.reduceEqDiff, Nat.reduceAdd, Nat.reduceLT, Nat.reduceLeDiff, Nat.reduceMul, Nat.reduceSub, ↓reduceIte, decide_true, decide_false, Bool.true_eq_false, Bool.false_eq_true, Bool.not_true, Bool.not_false, if_true, if_false, and_true, true_and, memE, celE, w64, Nat.zero_add, Nat.add_zero, Nat.mul_one, putL, and_self, ldn, tm, t0, t2, t3, t4, s1, d4.rd, f1, f2]
            exact ⟨{ p with setup := y }, _, a3, rfl, by omega, f3⟩
          · have x2' : (x == 2) = false := by simp [x2]
            by_cases x3 : x = 3
            · have x3' : (x == 3) = true := by simp [x3]
              simp (config := {implicitDefEqProofs := false, maxDischargeDepth := 20}) (disch := first | omega | (simp only [lenE]; done) | (simp only [lenE]; omega) | rfl | (simp only [lenE, markR_len]; done) | (simp only [lenE, markR_len]; omega)) only [runE, mapE, listE, initT_5, initT_6, initT_7, initT_8, resV, oneV, binA, unA, reduceCtorEq, Nat.reduceEqDiff, Nat.reduceAdd, Nat.reduceLT, Nat.reduceLeDiff, Nat.reduceMul, Nat.reduceSub, ↓reduceIte, decide_true, decide_false, Bool.true_eq_false, Bool.false_eq_true, Bool.not_true, Bool.not_false, if_true, if_false, and_true, true_and, memE, celE, w64, Nat.zero_add, Nat.add_zero, Nat.mul_one, putL, and_self, ldn, tm, t0, t2, t3, t4, x0', x1', x2', x3', bl_p3]
              refine callH_ac (among_new M2 cb id a2 l [-1, 9, 10] d2.cur (by omega) rfl rfl (by simp) (by simp)) ?_
              rintro v M3 ⟨y, -, rfl, w3, a3, ha3, k3⟩
              have d3 := d2.draw w3 k3
              obtain ⟨s1, d4⟩ := d3.st 5 y { p with back := y } (by omega) (by simp [putL]) rfl
              obtain ⟨M5, f1, f2, f3⟩ := fin6 (p := { p with back := y }) hM0 hid hcb d4.cw d4.cur (d4.pl (by show p.w.length ≤ 1000; omega)) d4.gr.one'
              simp (config := {implicitDefEqProofs := false, maxDischargeDepth := 20}) (disch := first | omega | (simp only [lenE]; done) | (simp only [lenE]; omega) | rfl | (simp only [lenE, markR_len]; done) | (simp only [lenE, markR_len]; omega)) only [runE, mapE, listE, initT_5, initT_6, initT_7, initT_8, resV, oneV, binA, unA, reduceCtorEq, Nat.reduceEqDiff, Nat.reduceAdd, Nat.reduceLT, Nat.reduceLeDiff, Nat.reduceMul, Nat.reduceSub, ↓reduceIte, decide_true, decide_false, Bool.true_eq_false, Bool.false_eq_true, Bool.not_true, Bool.not_false, if_true, if_false, and_true, true_and, memE, celE, w64, Nat.zero_add, Nat.add_zero, Nat.mul_one, putL, and_self, ldn, tm, t0, t2, t3, t4, s1, d4.rd, f1, f2]
              exact ⟨{ p with back := y }, _, a3, rfl, by omega, f3⟩
            · have x3' : (x == 3) = false := by simp [x3]
              by_cases x4 : x = 4
              · have x4' : (x == 4) = true := by simp [x4]
                have d3 := d2.ext (new := [(⟨.own, 3, []⟩ : Blk)]) (noRo_own noRo_nil)
                have s1 : stA (M2 ++ [(⟨.own, 3, []⟩ : Blk)]) bx 1 [.slice (some ⟨M2.length, 0, none⟩) 0 1] = some ((M2 ++ [(⟨.own, 3, []⟩ : Blk)]).set bx ⟨.own, 26, procC { p with w := [] } (.slice (some ⟨M2.length, 0, none⟩) 0 1)⟩) := by
                  rw [d3.box.st (by simp) rfl]; simp [putL]
                have b3 := d3.box.set_self 26 (procC { p with w := [] } (.slice (some ⟨M2.length, 0, none⟩) 0 1))
                have hbl := d2.box.lt
                have g3 := d2.ge
                have q3 := d2.hid
                have q4 := d2.hcb
                obtain ⟨M5, f1, f2, f3⟩ := fin6 (p := { p with w := [] }) (u := .slice (some ⟨M2.length, 0, none⟩) 0 1) (M' := (M2 ++ [(⟨.own, 3, []⟩ : Blk)]).set bx ⟨.own, 26, procC { p with w := [] } (.slice (some ⟨M2.length, 0, none⟩) 0 1)⟩) hM0 hid hcb (d3.cw.put (by omega) (by simp)) (d3.cur.put (by omega) (by omega) _) (fun M3 h3 => by
                  have e := h3 M2.length (by have := d2.cw.len; omega) (by simp)
                  rw [List.getElem?_set_ne (by omega), List.getElem?_append_right (Nat.le_refl _), Nat.sub_self] at e
                  exact OwnR.ints (l := []) e (by simp) 1) rfl
                simp (config := {implicitDefEqProofs := false, maxDischargeDepth := 20}) (disch := first | omega | (simp only [lenE]; done) | (simp only [lenE]; omega) | rfl | (simp only [lenE, markR_len]; done) | (simp only [lenE, markR_len]; omega)) only [runE, mapE, listE, initT_5, initT_6, initT_7, initT_8, resV, oneV, binA, unA, reduceCtorEq, Nat.reduceEqDiff, Nat.reduceAdd, Nat.reduceLT, Nat.reduceLeDiff, Nat.reduceMul, Nat.reduceSub, ↓reduceIte, decide_true, decide_false, Bool.true_eq_false, Bool.false_eq_true, Bool.not_true, Bool.not_false, if_true, if_false, and_true, true_and, memE, celE, w64, Nat.zero_add, Nat.add_zero, Nat.mul_one, putL, and_self, ldn, tm, t0, t2, t3, t4, x0', x1', x2', x3', x4', bsl_no, s1, b3.rd, f1, f2]
                exact ⟨{ p with w := [] }, _, a2, rfl, by omega, f3⟩
              · have x4' : (x == 4) = false := by simp [x4]
                obtain ⟨M5, f1, f2, f3⟩ := fin6 (p := p) hM0 hid hcb d2.cw d2.cur (d2.pl (by omega)) d2.gr.one'
                simp (config := {implicitDefEqProofs := false, maxDischargeDepth := 20}) (disch := first | omega | (simp only [lenE]; done) | (simp only [lenE]; omega) | rfl | (simp only [lenE, markR_len]; done) | (simp only [lenE, markR_len]; omega)) only [runE, mapE, listE, initT_5, initT_6, initT_7, initT_8, resV, oneV, binA, unA, reduceCtorEq, Nat.reduceEqDiff, Nat.reduceAdd, Nat.reduceLT, Nat.reduceLeDiff, Nat.reduceMul, Nat.reduceSub, ↓reduceIte, decide_true, decide_false, Bool.true_eq_false, Bool.false_eq_true, Bool.not_true, Bool.not_false, if_true, if_false, and_true, true_and, memE, celE, w64, Nat.zero_add, Nat.add_zero, Nat.mul_one, putL, and_self, ldn, tm, t0, t2, t3, t4, x0', x1', x2', x3', x4', d2.rd, f1, f2]
                exact ⟨_, _, a2, rfl, by omega, f3⟩
    | true =>
      simp (config := {implicitDefEqProofs := false, maxDischargeDepth := 20}) (disch := first | omega | (simp only [lenE]; done) | (simp only [lenE]; omega) | rfl | (simp only [lenE, markR_len]; done) | (simp only [lenE, markR_len]; omega)) only [runE, mapE, listE, initT_5, initT_6, initT_7, initT_8, resV, oneV, binA, unA, reduceCtorEq, Nat.reduceEqDiff, Nat.reduceAdd, Nat.reduceLT, Nat.reduceLeDiff, Nat.reduceMul, Nat.reduceSub, ↓reduceIte, decide_true, decide_false, Bool.true_eq_false, Bool.false_eq_true, Bool.not_true, Bool.not_false, if_true, if_false, and_true, true_and, memE, celE, w64, Nat.zero_add, Nat.add_zero, Nat.mul_one, putL, and_self, ldn, tm, t0, t2, t3, t4, hs]
      refine callH_ac (one_ac M' cb id a' l 4 d.cur (by omega) (by omega) (by omega)) ?_
      rintro v M'' ⟨b, rfl, w2, a'', ha2, k2⟩
      have d := d.draw w2 k2
      obtain ⟨M', hM'⟩ : ∃ M', M' = M'' := ⟨_, rfl⟩
      obtain ⟨a', haa, ha3⟩ : ∃ a', a' = a'' ∧ a' ≤ a + 40 := ⟨a'', rfl, by omega⟩
      rw [← hM', ← haa] at d
      rw [← hM']
      cases b with
      | true =>
        simp (config := {implicitDefEqProofs := false, maxDischargeDepth := 20}) (disch := first | omega | (simp only [lenE]; done) | (simp only [lenE]; omega) | rfl | (simp only [lenE, markR_len]; done) | (simp only [lenE, markR_len]; omega)) only [runE, mapE, listE, initT_5, initT_6, initT_7, initT_8, resV, oneV, binA, unA, reduceCtorEq, Nat.reduceEqDiff, Nat.reduceAdd, Nat.reduceLT, Nat.reduceLeDiff, Nat.reduceMul, Nat.reduceSub, ↓reduceIte, decide_true, decide_false, Bool.true_eq_false, Bool.false_eq_true, Bool.not_true, Bool.not_false, if_true, if_false, and_true, true_and, memE, celE, w64, Nat.zero_add, Nat.add_zero, Nat.mul_one, putL, and_self, ldn, tm, t0, t2, t3, t4]
        refine callH_ac (pick_ac M' cb id a' l 40 d.cur (by omega) (by omega) (by omega)) ?_
        rintro v M2 ⟨x, rfl, hx0, hx1, w2, a2, ha2, k2⟩
        have d2 := d.draw w2 k2
        clear w2 k2 d
        by_cases x0 : x = 0
        · have x0' : (x == 0) = true := by simp [x0]
          simp (config := {implicitDefEqProofs := false, maxDischargeDepth := 20}) (disch := first | omega | (simp only [lenE]; done) | (simp only [lenE]; omega) | rfl | (simp only [lenE, markR_len]; done) | (simp only [lenE, markR_len]; omega)) only [runE, mapE, listE, initT_5, initT_6, initT_7, initT_8, resV, oneV, binA, unA, reduceCtorEq, Nat.reduceEqDiff, Nat.reduceAdd, Nat.reduceLT, Nat.reduceLeDiff, Nat.reduceMul, Nat.reduceSub, ↓reduceIte, decide_true, decide_false, Bool.true_eq_false, Bool.false_eq_true, Bool.not_true, Bool.not_false, if_true, if_false, and_true, true_and, memE, celE, w64, Nat.zero_add, Nat.add_zero, Nat.mul_one, putL, and_self, ldn, tm, t0, t2, t3, t4, x0', bl_p0]
          refine callH_ac (among_new M2 cb id a2 l [-1, 6] d2.cur (by omega) rfl rfl (by simp) (by simp)) ?_
          rintro v M3 ⟨y, -, rfl, w3, a3, ha3, k3⟩
          have d3 := d2.draw w3 k3
          obtain ⟨s1, d4⟩ := d3.st 0 y { p with turns := y } (by omega) (by simp [putL]) rfl
          obtain ⟨M5, f1, f2, f3⟩ := fin6 (p := { p with turns := y }) hM0 hid hcb d4.cw d4.cur (d4.pl (by show p.w.length ≤ 1000; omega)) d4.gr.one'
          simp (config := {implicitDefEqProofs := false, maxDischargeDepth := 20}) (disch := first | omega | (simp only [lenE]; done) | (simp only [lenE]; omega) | rfl | (simp only [lenE, markR_len]; done) | (simp only [lenE, markR_len]; omega)) only [runE, mapE, listE, initT_5, initT_6, initT_7, initT_8, resV, oneV, binA, unA, reduceCtorEq, Nat.reduceEqDiff, Nat.reduceAdd, Nat.reduceLT, Nat.reduceLeDiff, Nat.reduceMul, Nat.reduceSub, ↓reduceIte, decide_true, decide_false, Bool.true_eq_false, Bool.false_eq_true, Bool.not_true, Bool.not_false, if_true, if_false, and_true, true_and, memE, celE, w64, Nat.zero_add, Nat.add_zero, Nat.mul_one, putL, and_self, ldn, tm, t0, t2, t3, t4, s1, d4.rd, f1, f2]
          exact ⟨{ p with turns := y }, _, a3, rfl, by omega, f3⟩
        · have x0' : (x == 0) = false := by simp [x0]
          by_cases x1 : x = 1
          · have x1' : (x == 1) = true := by simp [x1]
            have dx := d2.ext (new := [rowB [-1, 4, 5]]) (noRo_own noRo_nil)
            simp (config := {implicitDefEqProofs := false, maxDischargeDepth := 20}) (disch := first | omega | (simp only [lenE]; done) | (simp only [lenE]; omega) | rfl | (simp only [lenE, markR_len]; done) | (simp only [lenE, markR_len]; omega)) only [runE, mapE, listE, initT_5, initT_6, initT_7, initT_8, resV, oneV, binA, unA, reduceCtorEq, Nat.reduceEqDiff, Nat.reduceAdd, Nat.reduceLT, Nat.reduceLeDiff, Nat.reduceMul, Nat.reduceSub, ↓reduceIte, decide_true, decide_false, Bool.true_eq_false, Bool.false_eq_true, Bool.not_true, Bool.not_false, if_true, if_false, and_true, true_and, memE, celE, w64, Nat.zero_add, Nat.add_zero, Nat.mul_one, putL, and_self, ldn, tm, t0, t2, t3, t4, x0', x1', bl_p1, d2.rd, dx.rd]
            with_reducible refine ⟨?_, ?_, ?_⟩
            all_goals
              refine callH_ac (among_new M2 cb id a2 l [-1, 4, 5] d2.cur (by omega) rfl rfl (by simp) (by simp)) ?_
              rintro v M3 ⟨y, -, rfl, w3, a3, ha3, k3⟩
              have d3 := d2.draw w3 k3
              obtain ⟨M4, i0, s1, d4⟩ := d3.put (by omega) hwp y
              obtain ⟨M5, f1, f2, f3⟩ := fin6 (p := { p with w := p.w.set 0 y }) hM0 hid hcb d4.cw d4.cur (d4.pl (by simp; omega)) d4.gr.one'
              simp (config := {implicitDefEqProofs := false, maxDischargeDepth := 20}) (disch := first | omega | (simp only [lenE]; done) | (simp only [lenE]; omega) | rfl | (simp only [lenE, markR_len]; done) | (simp only [lenE, markR_len]; omega)) only [runE, mapE, listE, initT_5, initT_6, initT_7, initT_8, resV, oneV, binA, unA, reduceCtorEq, Nat.reduceEqDiff, Nat.reduceAdd, Nat.reduceLT, Nat.reduceLeDiff, Nat.reduceMul, Nat.reduceSub, ↓reduceIte, decide_true, decide_false, Bool.true_eq_false, Bool.false_eq_true, Bool.not_true, Bool.not_false, if_true, if_false, and_true, true_and, memE, celE, w64, Nat.zero_add, Nat.add_zero, Nat.mul_one, putL, and_self, ldn, tm, t0, t2, t3, t4, d3.rd, i0, s1, d4.rd, f1, f2]
              exact ⟨{ p with w := p.w.set 0 y }, _, a3, rfl, by omega, f3⟩
          · have x1' : (x == 1) = false := by simp [x1]
            by_cases x2 : x = 2
            · have x2' : (x == 2) = true := by simp [x2]
              simp (config := {implicitDefEqProofs := false, maxDischargeDepth := 20}) (disch := first | omega | (simp only [lenE]; done) | (simp only [lenE]; omega) | rfl | (simp only [lenE, markR_len]; done) | (simp only [lenE, markR_len]; omega)) only [runE, mapE, listE, initT_5, initT_6, initT_7, initT_8, resV, oneV, binA, unA, reduceCtorEq, Nat.reduceEqDiff, Nat.reduceAdd, Nat.reduceLT, Nat.reduceLeDiff, Nat.reduceMul, Nat.reduceSub, ↓reduceIte, decide_true, decide_false, Bool.true_eq_false, Bool.false_eq_true, Bool.not_true, Bool.not_false, if_true, if_false, and_true, true_and, memE, celE, w64, Nat.zero_add, Nat.add_zero, Nat.mul_one, putL, and_self, ldn, tm, t0, t2, t3, t4, x0', x1', x2', bl_p2]
              refine callH_ac (among_new M2 cb id a2 l [-1, 100] d2.cur (by omega) rfl rfl (by simp) (by simp)) ?_
              rintro v M3 ⟨y, -, rfl, w3, a3, ha3, k3⟩
              have d3 := d2.draw w3 k3
              obtain ⟨s1, d4⟩ := d3.st 2 y { p with setup := y } (by omega) (by simp [putL]) rfl
              obtain ⟨M5, f1, f2, f3⟩ := fin6 (p := { p with setup := y }) hM0 hid hcb d4.cw d4.cur (d4.pl (by show p.w.length ≤ 1000; omega)) d4.gr.one'
              simp (config := {implicitDefEqProofs := false, maxDischargeDepth := 20}) (disch := first | omega | (simp only [lenE]; done) | (simp only [lenE]; omega) | rfl | (simp only [lenE, markR_len]; done) | (simp only [lenE, markR_len]; omega)) only [runE, mapE, listE, initT_5, initT_6, initT_7, initT_8, resV, oneV, binA, unA, reduceCtorEq, Nat.reduceEqDiff, Nat.reduceAdd, Nat.reduceLT, Nat.reduceLeDiff, Nat.reduceMul, Nat.reduceSub, ↓reduceIte, decide_true, decide_false, Bool.true_eq_false, Bool.false_eq_true, Bool.not_true, Bool.not_false, if_true, if_false, and_true, true_and, memE, celE, w64, Nat.zero_add, Nat.add_zero, Nat.mul_one, putL, and_self, ldn, tm, t0, t2, t3, t4, s1, d4.rd, f1, f2]
              exact ⟨{ p with setup := y }, _, a3, rfl, by omega, f3⟩
            · have x2' : (x == 2) = false := by simp [x2]
              by_cases x3 : x = 3
              · have x3' : (x == 3) = true := by simp [x3]
                simp (config := {implicitDefEqProofs := false, maxDischargeDepth := 20}) (disch := first | omega | (simp only [lenE]; done) | (simp only [lenE]; omega) | rfl | (simp only [lenE, markR_len]; done) | (simp only [lenE, markR_len]; omega)) only [runE, mapE, listE, initT_5, initT_6, initT_7, initT_8, resV, oneV, binA, unA, reduceCtorEq, Nat.reduceEqDiff, Nat.reduceAdd, Nat.reduceLT, Nat.reduceLeDiff, Nat.reduceMul, Nat.reduceSub, ↓reduceIte, decide_true, decide_false, Bool.true_eq_false, Bool.false_eq_true, Bool.not_true, Bool.not_false, if_true, if_false, and_true, true_and, memE, celE, w64, Nat.zero_add, Nat.add_zero, Nat.mul_one, putL, and_self, ldn, tm, t0, t2, t3, t4, x0', x1', x2', x3', bl_p3]
                refine callH_ac (among_new M2 cb id a2 l [-1, 9, 10] d2.cur (by omega) rfl rfl (by simp) (by simp)) ?_
                rintro v M3 ⟨y, -, rfl, w3, a3, ha3, k3⟩
                have d3 := d2.draw w3 k3
                obtain ⟨s1, d4⟩ := d3.st 5 y { p with back := y } (by omega) (by simp [putL]) rfl
                obtain ⟨M5, f1, f2, f3⟩ := fin6 (p := { p with back := y }) hM0 hid hcb d4.cw d4.cur (d4.pl (by show p.w.length ≤ 1000; omega)) d4.gr.one'
                simp (config := {implicitDefEqProofs := false, maxDischargeDepth := 20}) (disch := first | omega | (simp only [lenE]; done) | (simp only [lenE]; omega) | rfl | (simp only [lenE, markR_len]; done) | (simp only [lenE, markR_len]; omega)) only [runE, mapE, listE, initT_5, initT_6, initT_7, initT_8, resV, oneV, binA, unA, reduceCtorEq, Nat.reduceEqDiff, Nat.reduceAdd, Nat.reduceLT, Nat.reduceLeDiff, Nat.reduceMul, Nat.reduceSub, ↓reduceIte, decide_true, decide_false, Bool.true_eq_false, Bool.false_eq_true, Bool.not_true, Bool.not_false, if_true, if_false, and_true, true_and, memE, celE, w64, Nat.zero_add, Nat.add_zero, Nat.mul_one, putL, and_self, ldn, tm, t0, t2, t3, t4, s1, d4.rd, f1, f2]
                exact ⟨{ p with back := y }, _, a3, rfl, by omega, f3⟩
              · have x3' : (x == 3) = false := by simp [x3]
                by_cases x4 : x = 4
                · have x4' : (x == 4) = true := by simp [x4]
                  have d3 := d2.ext (new := [(⟨.own, 3, []⟩ : Blk)]) (noRo_own noRo_nil)
                  have s1 : stA (M2 ++ [(⟨.own, 3, []⟩ : Blk)]) bx 1 [.slice (some ⟨M2.length, 0, none⟩) 0 1] = some ((M2 ++ [(⟨.own, 3, []⟩ : Blk)]).set bx ⟨.own, 26, procC { p with w := [] } (.slice (some ⟨M2.length, 0, none⟩) 0 1)⟩) := by
                    rw [d3.box.st (by simp) rfl]; simp [putL]
                  have b3 := d3.box.set_self 26 (procC { p with w := [] } (.slice (some ⟨M2.length, 0, none⟩) 0 1))
                  have hbl := d2.box.lt
                  have g3 := d2.ge
                  have q3 := d2.hid
                  have q4 := d2.hcb
                  obtain ⟨M5, f1, f2, f3⟩ := fin6 (p := { p with w := [] }) (u := .slice (some ⟨M2.length, 0, none⟩) 0 1) (M' := (M2 ++ [(⟨.own, 3, []⟩ : Blk)]).set bx ⟨.own, 26, procC { p with w := [] } (.slice (some ⟨M2.length, 0, none⟩) 0 1)⟩) hM0 hid hcb (d3.cw.put (by omega) (by simp)) (d3.cur.put (by omega) (by omega) _) (fun M3 h3 => by
                    have e := h3 M2.length (by have := d2.cw.len; omega) (by simp)
                    rw [List.getElem?_set_ne (by omega), List.getElem?_append_right (Nat.le_refl _), Nat.sub_self] at e
                    exact OwnR.ints (l := []) e (by simp) 1) rfl
                  simp (config := {implicitDefEqProofs := false, maxDischargeDepth := 20}) (disch := first | omega | (simp only [lenE]; done) | (simp only [lenE]; omega) | rfl | (simp only [lenE, markR_len]; done) | (simp only [lenE, markR_len]; omega)) only [runE, mapE, listE, initT_5, initT_6, initT_7, initT_8, resV, oneV, binA, unA, reduceCtorEq, Nat.reduceEqDiff, Nat.reduceAdd, Nat.reduceLT, Nat.reduceLeDiff, Nat.reduceMul, Nat.reduceSub, ↓reduceIte, decide_true, decide_false, Bool.true_eq_false, Bool.false_eq_true, Bool.not_true, Bool.not_false, if_true, if_false, and_true, true_and, memE, celE, w64, Nat.zero_add, Nat.add_zero, Nat.mul_one, putL, and_self, ldn, tm, t0, t2, t3, t4, x0', x1', x2', x3', x4', bsl_no, s1, b3.rd, f1, f2]
                  exact ⟨{ p with w := [] }, _, a2, rfl, by omega, f3⟩
                · have x4' : (x == 4) = false := by simp [x4]
                  obtain ⟨M5, f1, f2, f3⟩ := fin6 (p := p) hM0 hid hcb d2.cw d2.cur (d2.pl (by omega)) d2.gr.one'
                  simp (config := {implicitDefEqProofs := false, maxDischargeDepth := 20}) (disch := first | omega | (simp only [lenE]; done) | (simp only [lenE]; omega) | rfl | (simp only [lenE, markR_len]; done) | (simp only [lenE, markR_len]; omega)) only [runE, mapE, listE, initT_5, initT_6, initT_7, initT_8, resV, oneV, binA, unA, reduceCtorEq, Nat.reduceEqDiff, Nat.reduceAdd, Nat.reduceLT, Nat.reduceLeDiff, Nat.reduceMul, Nat.reduceSub, ↓reduceIte, decide_true, decide_false, Bool.true_eq_false, Bool.false_eq_true, Bool.not_true, Bool.not_false, if_true, if_false, and_true, true_and, memE, celE, w64, Nat.zero_add, Nat.add_zero, Nat.mul_one, putL, and_self, ldn, tm, t0, t2, t3, t4, x0', x1', x2', x3', x4', d2.rd, f1, f2]
                  exact ⟨_, _, a2, rfl, by omega, f3⟩
      | false =>
        obtain ⟨Mq, i0, sp, dq⟩ := d.put (by omega) hwp 1
        simp (config := {implicitDefEqProofs := false, maxDischargeDepth := 20}) (disch := first | omega | (simp only [lenE]; done) | (simp only [lenE]; omega) | rfl | (simp only [lenE, markR_len]; done) | (simp only [lenE, markR_len]; omega)) only [runE, mapE, listE, initT_5, initT_6, initT_7, initT_8, resV, oneV, binA, unA, reduceCtorEq, Nat.reduceEqDiff, Nat.reduceAdd, Nat.reduceLT, Nat.reduceLeDiff, Nat.reduceMul, Nat.reduceSub, ↓reduceIte, decide_true, decide_false, Bool.true_eq_false, Bool.false_eq_true, Bool.not_true, Bool.not_false, if_true, if_false, and_true, true_and, memE, celE, w64, Nat.zero_add, Nat.add_zero, Nat.mul_one, putL, and_self, ldn, tm, t0, t2, t3, t4, d.rd, i0, sp]
        clear d
        have d := dq
        clear dq sp i0
        generalize hpp : ({ p with w := p.w.set 0 1 } : Pr) = p' at d
        clear hw hs
        have hwl : p'.w.length ≤ 5 := by rw [← hpp]; simpa using hwl
        have hwp : 0 < p'.w.length := by rw [← hpp]; simpa using hwp
        clear hpp
        obtain ⟨M', hM'⟩ : ∃ M', M' = Mq := ⟨_, rfl⟩
        rw [← hM'] at d
        rw [← hM']
        refine callH_ac (pick_ac M' cb id a' l 40 d.cur (by omega) (by omega) (by omega)) ?_
        rintro v M2 ⟨x, rfl, hx0, hx1, w2, a2, ha2, k2⟩
        have d2 := d.draw w2 k2
        clear w2 k2 d
        by_cases x0 : x = 0
        · have x0' : (x == 0) = true := by simp [x0]
          simp (config := {implicitDefEqProofs := false, maxDischargeDepth := 20}) (disch := first | omega | (simp only [lenE]; done) | (simp only [lenE]; omega) | rfl | (simp only [lenE, markR_len]; done) | (simp only [lenE, markR_len]; omega)) only [runE, mapE, listE, initT_5, initT_6, initT_7, initT_8, resV, oneV, binA, unA, reduceCtorEq, Nat.reduceEqDiff, Nat.reduceAdd, Nat.reduceLT, Nat.reduceLeDiff, Nat.reduceMul, Nat.reduceSub, ↓reduceIte, decide_true, decide_false, Bool.true_eq_false, Bool.false_eq_true, Bool.not_true, Bool.not_false, if_true, if_false, and_true, true_and, memE, celE, w64, Nat.zero_add, Nat.add_zero, Nat.mul_one, putL, and_self, ldn, tm, t0, t2, t3, t4, x0', bl_p0]
          refine callH_ac (among_new M2 cb id a2 l [-1, 6] d2.cur (by omega) rfl rfl (by simp) (by simp)) ?_
          rintro v M3 ⟨y, -, rfl, w3, a3, ha3, k3⟩
          have d3 := d2.draw w3 k3
          obtain ⟨s1, d4⟩ := d3.st 0 y { p' with turns := y } (by omega) (by simp [putL]) rfl
          obtain ⟨M5, f1, f2, f3⟩ := fin6 (p := { p' with turns := y }) hM0 hid hcb d4.cw d4.cur (d4.pl (by show p'.w.length ≤ 1000; omega)) d4.gr.one'
          simp (config := {implicitDefEqProofs := false, maxDischargeDepth := 20}) (disch := first | omega | (simp only [lenE]; done) | (simp only [lenE]; omega) | rfl | (simp only [lenE, markR_len]; done) | (simp only [lenE, markR_len]; omega)) only [runE, mapE, listE, initT_5, initT_6, initT_7, initT_8, resV, oneV, binA, unA, reduceCtorEq, Nat.reduceEqDiff, Nat.reduceAdd, Nat.reduceLT, Nat.reduceLeDiff, Nat.reduceMul, Nat.reduceSub, ↓reduceIte, decide_true, decide_false, Bool.true_eq_false, Bool.false_eq_true, Bool.not_true, Bool.not_false, if_true, if_false, and_true, true_and, memE, celE, w64, Nat.zero_add, Nat.add_zero, Nat.mul_one, putL, and_self, ldn, tm, t0, t2, t3, t4, s1, d4.rd, f1, f2]
          exact ⟨{ p' with turns := y }, _, a3, rfl, by omega, f3⟩
        · have x0' : (x == 0) = false := by simp [x0]
          by_cases x1 : x = 1
          · have x1' : (x == 1) = true := by simp [x1]
            have dx := d2.ext (new := [rowB [-1, 4, 5]]) (noRo_own noRo_nil)
            simp (config := {implicitDefEqProofs := false, maxDischargeDepth := 20}) (disch := first | omega | (simp only [lenE]; done) | (simp only [lenE]; omega) | rfl | (simp only [lenE, markR_len]; done) | (simp only [lenE, markR_len]; omega)) only [runE, mapE, listE, initT_5, initT_6, initT_7, initT_8, resV, oneV, binA, unA, reduceCtorEq, Nat.reduceEqDiff, Nat.reduceAdd, Nat.reduceLT, Nat.reduceLeDiff, Nat.reduceMul, Nat.reduceSub, ↓reduceIte, decide_true, decide_false, Bool.true_eq_false, Bool.false_eq_true, Bool.not_true, Bool.not_false, if_true, if_false, and_true, true_and, memE, celE, w64, Nat.zero_add, Nat.add_zero, Nat.mul_one, putL, and_self, ldn, tm, t0, t2, t3, t4, x0', x1', bl_p1, d2.rd, dx.rd]
            with_reducible refine ⟨?_, ?_, ?_⟩
            all_goals
              refine callH_ac (among_new M2 cb id a2 l [-1, 4, 5] d2.cur (by omega) rfl rfl (by simp) (by simp)) ?_
              rintro v M3 ⟨y, -, rfl, w3, a3, ha3, k3⟩
              have d3 := d2.draw w3 k3
              obtain ⟨M4, i0, s1, d4⟩ := d3.put (by omega) hwp y
              obtain ⟨M5, f1, f2, f3⟩ := fin6 (p := { p' with w := p'.w.set 0 y }) hM0 hid hcb d4.cw d4.cur (d4.pl (by simp; omega)) d4.gr.one'
              simp (config := {implicitDefEqProofs := false, maxDischargeDepth := 20}) (disch := first | omega | (simp only [lenE]; done) | (simp only [lenE]; omega) | rfl | (simp only [lenE, markR_len]; done) | (simp only [lenE, markR_len]; omega)) only [runE, mapE, listE, initT_5, initT_6, initT_7, initT_8, resV, oneV, binA, unA, reduceCtorEq, Nat.reduceEqDiff, Nat.reduceAdd, Nat.reduceLT, Nat.reduceLeDiff, Nat.reduceMul, Nat.reduceSub, ↓reduceIte, decide_true, decide_false, Bool.true_eq_false, Bool.false_eq_true, Bool.not_true, Bool.not_false, if_true, if_false, and_true, true_and, memE, celE, w64, Nat.zero_add, Nat.add_zero, Nat.mul_one, putL, and_self, ldn, tm, t0, t2, t3, t4, d3.rd, i0, s1, d4.rd, f1, f2]
              exact ⟨{ p' with w := p'.w.set 0 y }, _, a3, rfl, by omega, f3⟩
          · have x1' : (x == 1) = false := by simp [x1]
            by_cases x2 : x = 2
            · have x2' : (x == 2) = true := by simp [x2]
              simp (config := {implicitDefEqProofs := false, maxDischargeDepth := 20}) (disch := first | omega | (simp only [lenE]; done) | (simp only [lenE]; omega) | rfl | (simp only [lenE, markR_len]; done) | (simp only [lenE, markR_len]; omega)) only [runE, mapE, listE, initT_5, initT_6, initT_7, initT_8, resV, oneV, binA, unA, reduceCtorEq, Nat.reduceEqDiff, Nat.reduceAdd, Nat.reduceLT, Nat.reduceLeDiff, Nat.reduceMul, Nat.reduceSub, ↓reduceIte, decide_true, decide_false, Bool.true_eq_false, Bool.false_eq_true, Bool.not_true, Bool.not_false, if_true, if_false, and_true, true_and, memE, celE, w64, Nat.zero_add, Nat.add_zero, Nat.mul_one, putL, and_self, ldn, tm, t0, t2, t3, t4, x0', x1', x2', bl_p2]
              refine callH_ac (among_new M2 cb id a2 l [-1, 100] d2.cur (by omega) rfl rfl (by simp) (by simp)) ?_
              rintro v M3 ⟨y, -, rfl, w3, a3, ha3, k3⟩
              have d3 := d2.draw w3 k3
              obtain ⟨s1, d4⟩ := d3.st 2 y { p' with setup := y } (by omega) (by simp [putL]) rfl
              obtain ⟨M5, f1, f2, f3⟩ := fin6 (p := { p' with setup := y }) hM0 hid hcb d4.cw d4.cur (d4.pl (by show p'.w.length ≤ 1000; omega)) d4.gr.one'
              simp (config := {implicitDefEqProofs := false, maxDischargeDepth := 20}) (disch := first | omega | (simp only [lenE]; done) | (simp only [lenE]; omega) | rfl | (simp only [lenE, markR_len]; done) | (simp only [lenE, markR_len]; omega)) only [runE, mapE, listE, initT_5, initT_6, initT_7, initT_8, resV, oneV, binA, unA, reduceCtorEq, Nat.reduceEqDiff, Nat.reduceAdd, Nat.reduceLT, Nat.reduceLeDiff, Nat.reduceMul, Nat.reduceSub, ↓reduceIte, decide_true, decide_false, Bool.true_eq_false, Bool.false_eq_true, Bool.not_true, Bool.not_false, if_true, if_false, and_true, true_and, memE, celE, w64, Nat.zero_add, Nat.add_zero, Nat.mul_one, putL, and_self, ldn, tm, t0, t2, t3, t4, s1, d4.rd, f1, f2]
              exact ⟨{ p' with setup := y }, _, a3, rfl, by omega, f3⟩
            · have x2' : (x == 2) = false := by simp [x2]
              by_cases x3 : x = 3
              · have x3' : (x == 3) = true := by simp [x3]
                simp (config := {implicitDefEqProofs := false, maxDischargeDepth := 20}) (disch := first | omega | (simp only [lenE]; done) | (simp only [lenE]; omega) | rfl | (simp only [lenE, markR_len]; done) | (simp only [lenE, markR_len]; omega)) only [runE, mapE, listE, initT_5, initT_6, initT_7, initT_8, resV, oneV, binA, unA, reduceCtorEq, Nat.reduceEqDiff, Nat.reduceAdd, Nat.reduceLT, Nat.reduceLeDiff, Nat.reduceMul, Nat.reduceSub, ↓reduceIte, decide_true, decide_false, Bool.true_eq_false, Bool.false_eq_true, Bool.not_true, Bool.not_false, if_true, if_false, and_true, true_and, memE, celE, w64, Nat.zero_add, Nat.add_zero, Nat.mul_one, putL, and_self, ldn, tm, t0, t2, t3, t4, x0', x1', x2', x3', bl_p3]
                refine callH_ac (among_new M2 cb id a2 l [-1, 9, 10] d2.cur (by omega) rfl rfl (by simp) (by simp)) ?_
                rintro v M3 ⟨y, -, rfl, w3, a3, ha3, k3⟩
                have d3 := d2.draw w3 k3
                obtain ⟨s1, d4⟩ := d3.st 5 y { p' with back := y } (by omega) (by simp [putL]) rfl
                obtain ⟨M5, f1, f2, f3⟩ := fin6 (p := { p' with back := y }) hM0 hid hcb d4.cw d4.cur (d4.pl (by show p'.w.length ≤ 1000; omega)) d4.gr.one'
                simp (config := {implicitDefEqProofs := false, maxDischargeDepth := 20}) (disch := first | omega | (simp only [lenE]; done) | (simp only [lenE]; omega) | rfl | (simp only [lenE, markR_len]; done) | (simp only [lenE, markR_len]; omega)) only [runE, mapE, listE, initT_5, initT_6, initT_7, initT_8, resV, oneV, binA, unA, reduceCtorEq, Nat.reduceEqDiff, Nat.reduceAdd, Nat.reduceLT, Nat.reduceLeDiff, Nat.reduceMul, Nat.reduceSub, ↓reduceIte, decide_true, decide_false, Bool.true_eq_false, Bool.false_eq_true, Bool.not_true, Bool.not_false, if_true, if_false, and_true, true_and, memE, celE, w64, Nat.zero_add, Nat.add_zero, Nat.mul_one, putL, and_self, ldn, tm, t0, t2, t3, t4, s1, d4.rd, f1, f2]
                exact ⟨{ p' with back := y }, _, a3, rfl, by omega, f3⟩
              · have x3' : (x == 3) = false := by simp [x3]
                by_cases x4 : x = 4
                · have x4' : (x == 4) = true := by simp [x4]
                  have d3 := d2.ext (new := [(⟨.own, 3, []⟩ : Blk)]) (noRo_own noRo_nil)
                  have s1 : stA (M2 ++ [(⟨.own, 3, []⟩ : Blk)]) bx 1 [.slice (some ⟨M2.length, 0, none⟩) 0 1] = some ((M2 ++ [(⟨.own, 3, []⟩ : Blk)]).set bx ⟨.own, 26, procC { p' with w := [] } (.slice (some ⟨M2.length, 0, none⟩) 0 1)⟩) := by
                    rw [d3.box.st (by simp) rfl]; simp [putL]
                  have b3 := d3.box.set_self 26 (procC { p' with w := [] } (.slice (some ⟨M2.length, 0, none⟩) 0 1))
                  have hbl := d2.box.lt
                  have g3 := d2.ge
                  have q3 := d2.hid
                  have q4 := d2.hcb
                  obtain ⟨M5, f1, f2, f3⟩ := fin6 (p := { p' with w := [] }) (u := .slice (some ⟨M2.length, 0, none⟩) 0 1) (M' := (M2 ++ [(⟨.own, 3, []⟩ : Blk)]).set bx ⟨.own, 26, procC { p' with w := [] } (.slice (some ⟨M2.length, 0, none⟩) 0 1)⟩) hM0 hid hcb (d3.cw.put (by omega) (by simp)) (d3.cur.put (by omega) (by omega) _) (fun M3 h3 => by
                    have e := h3 M2.length (by have := d2.cw.len; omega) (by simp)
                    rw [List.getElem?_set_ne (by omega), List.getElem?_append_right (Nat.le_refl _), Nat.sub_self] at e
                    exact OwnR.ints (l := []) e (by simp) 1) rfl
                  simp (config := {implicitDefEqProofs := false, maxDischargeDepth := 20}) (disch := first | omega | (simp only [lenE]; done) | (simp only [lenE]; omega) | rfl | (simp only [lenE, markR_len]; done) | (simp only [lenE, markR_len]; omega)) only [runE, mapE, listE, initT_5, initT_6, initT_7, initT_8, resV, oneV, binA, unA, reduceCtorEq, Nat.reduceEqDiff, Nat.reduceAdd, Nat.reduceLT, Nat.reduceLeDiff, Nat.reduceMul, Nat.reduceSub, ↓reduceIte, decide_true, decide_false, Bool.true_eq_false, Bool.false_eq_true, Bool.not_true, Bool.not_false, if_true, if_false, and_true, true_and, memE, celE, w64, Nat.zero_add, Nat.add_zero, Nat.mul_one, putL, and_self, ldn, tm, t0, t2, t3, t4, x0', x1', x2', x3', x4', bsl_no, s1, b3.rd, f1, f2]
                  exact ⟨{ p' with w := [] }, _, a2, rfl, by omega, f3⟩
                · have x4' : (x == 4) = false := by simp [x4]
                  obtain ⟨M5, f1, f2, f3⟩ := fin6 (p := p') hM0 hid hcb d2.cw d2.cur (d2.pl (by omega)) d2.gr.one'
                  simp (config := {implicitDefEqProofs := false, maxDischargeDepth := 20}) (disch := first | omega | (simp only [lenE]; done) | (simp only [lenE]; omega) | rfl | (simp only [lenE, markR_len]; done) | (simp only [lenE, markR_len]; omega)) only [runE, mapE, listE, initT_5, initT_6, initT_7, initT_8, resV, oneV, binA, unA, reduceCtorEq, Nat.reduceEqDiff, Nat.reduceAdd, Nat.reduceLT, Nat.reduceLeDiff, Nat.reduceMul, Nat.reduceSub, ↓reduceIte, decide_true, decide_false, Bool.true_eq_false, Bool.false_eq_true, Bool.not_true, Bool.not_false, if_true, if_false, and_true, true_and, memE, celE, w64, Nat.zero_add, Nat.add_zero, Nat.mul_one, putL, and_self, ldn, tm, t0, t2, t3, t4, x0', x1', x2', x3', x4', d2.rd, f1, f2]
                  exact ⟨_, _, a2, rfl, by omega, f3⟩

theorem bld_2 (a b : Int) : bldA [.int .i64 0, .int .i64 0] [(0, 1, .int .i64 a), (1, 1, .int .i64 b)] = some (.agg #[.int .i64 a, .int .i64 b]) := rfl
theorem policy_ac (M : Mem) (cb id a : Nat) (l : List Int) (p : Pr) (u : Value) (h : CurA M cb l id a) (ha : a ≤ 999999000) (hu : IntsA M u p.w) :
    AC Try.prog 71 [.pointer (some ⟨id, 0, none⟩), procV p u] M fun v M' => ∃ (L : List (Int × Int)) (a' : Nat), a' ≤ a + 100 ∧ Cw id M M' ∧ CurA M' cb l id a' ∧ QL M.length M' v L := by
  refine ac_of_run mixed ok_spec_l1Cur__policy (by simp) (go_start _ _ _ ?_)
  have hid := h.lt
  have hcb := h.cblt
  simp (config := {implicitDefEqProofs := false, maxDischargeDepth := 20}) (disch := first | omega | (simp only [lenE]; done) | (simp only [lenE]; omega) | rfl | (simp only [lenE, markR_len]; done) | (simp only [lenE, markR_len]; omega)) only [runE, mapE, listE, initT_5, initT_6, initT_7, initT_8, resV, oneV, binA, unA, reduceCtorEq, Nat.reduceEqDiff, Nat.reduceAdd, Nat.reduceLT, Nat.reduceLeDiff, Nat.reduceMul, Nat.reduceSub, ↓reduceIte, decide_true, decide_false, Bool.true_eq_false, Bool.false_eq_true, Bool.not_true, Bool.not_false, if_true, if_false, and_true, true_and, memE, celE, w64, Nat.zero_add, Nat.add_zero, Nat.mul_one, putL, and_self, ldn, c_spec_l1Cur__policy, r_spec_l1Cur__policy, bsl_no]
  refine callH_rc (specBestLevels_q _ _ p ⟨u, rfl, (hu.ext _).ext _⟩) ?_
  rintro r new ⟨nr, w, rfl, hw⟩
  have q0 := hw.now
  have k0 : CurA (M ++ [⟨.own, 26, procC p u⟩] ++ [⟨.own, 46, []⟩] ++ new) cb l id a := ((h.ext _).ext _).ext _
  have w0 : Cw id M (M ++ [⟨.own, 26, procC p u⟩] ++ [⟨.own, 46, []⟩] ++ new) := (((Cw.refl id M).ext (noRo_own noRo_nil)).ext (noRo_own noRo_nil)).ext nr
  have b0 : OwnB (M ++ [⟨.own, 26, procC p u⟩] ++ [⟨.own, 46, []⟩] ++ new) M.length 26 (procC p u) := ((OwnB.here rfl).ext _).ext _
  have e0 : OwnB (M ++ [⟨.own, 26, procC p u⟩] ++ [⟨.own, 46, []⟩] ++ new) (M.length + 1) 46 [] := (OwnB.here (by simp)).ext _
  have hlo : M.length + 2 = (M ++ [(⟨.own, 26, procC p u⟩ : Blk)] ++ [(⟨.own, 46, []⟩ : Blk)]).length := by simp
  rw [← hlo] at q0
  clear hw hlo
  have hf : (levelsA p).length ≤ 5 := by
    unfold levelsA
    cases hg : p.good with
    | false => simp
    | true => rw [if_pos rfl, levelsL_len]; have := (goodP_iff.1 hg).turns; omega
  obtain ⟨N, hN⟩ : ∃ N : Mem, N = M ++ [(⟨.own, 26, procC p u⟩ : Blk)] ++ [(⟨.own, 46, []⟩ : Blk)] ++ new := ⟨_, rfl⟩
  rw [← hN] at q0 k0 w0 b0 e0 ⊢
  clear hN
  obtain ⟨⟨hq, qi, qf, qe, qlo, qhi, qo⟩, q2, qe2⟩ := q0
  rw [qe] at qe2
  cases qe2
  subst qe
  have dL : QB M N cb id a qi l (levelsA p) (procC p u) := ⟨hid, hcb, w0, k0, b0, qo, by omega, by omega⟩
  have dE : QB M N cb id a (M.length + 1) l [] (procC p u) := ⟨hid, hcb, w0, k0, b0, e0, by omega, by simp⟩
  clear w0 k0 b0 e0 qo hq qlo qhi nr
  -- the loop over the turns and what follows
  have rest : ∀ (M' : Mem) (a' : Nat), QB M M' cb id a' (M.length + 1) l [] (procC p u) → a' ≤ a + 4 → True := fun _ _ _ _ => trivial
  cases hg : p.good with
  | true =>
    simp (config := {implicitDefEqProofs := false, maxDischargeDepth := 20}) (disch := first | omega | (simp only [lenE]; done) | (simp only [lenE]; omega) | rfl | (simp only [lenE, markR_len]; done) | (simp only [lenE, markR_len]; omega)) only [runE, mapE, listE, initT_5, initT_6, initT_7, initT_8, resV, oneV, binA, unA, reduceCtorEq, Nat.reduceEqDiff, Nat.reduceAdd, Nat.reduceLT, Nat.reduceLeDiff, Nat.reduceMul, Nat.reduceSub, ↓reduceIte, decide_true, decide_false, Bool.true_eq_false, Bool.false_eq_true, Bool.not_true, Bool.not_false, if_true, if_false, and_true, true_and, memE, celE, w64, Nat.zero_add, Nat.add_zero, Nat.mul_one, putL, and_self, ldn, ext_2_0, ext_2_1]
    refine callH_ac (one_ac N cb id a l 3 dL.cur (by omega) (by omega) (by omega)) ?_
    rintro v M' ⟨b, rfl, w1, a', ha1, k1⟩
    cases b with
    | true =>
      as_aux_lemma =>
      have d := dL.draw w1 k1
      obtain ⟨L, hL⟩ : ∃ L, L = levelsA p := ⟨_, rfl⟩
      rw [← hL] at d hf ⊢
      simp (config := {implicitDefEqProofs := false, maxDischargeDepth := 20}) (disch := first | omega | (simp only [lenE]; done) | (simp only [lenE]; omega) | rfl | (simp only [lenE, markR_len]; done) | (simp only [lenE, markR_len]; omega)) only [runE, mapE, listE, initT_5, initT_6, initT_7, initT_8, resV, oneV, binA, unA, reduceCtorEq, Nat.reduceEqDiff, Nat.reduceAdd, Nat.reduceLT, Nat.reduceLeDiff, Nat.reduceMul, Nat.reduceSub, ↓reduceIte, decide_true, decide_false, Bool.true_eq_false, Bool.false_eq_true, Bool.not_true, Bool.not_false, if_true, if_false, and_true, true_and, memE, celE, w64, Nat.zero_add, Nat.add_zero, Nat.mul_one, putL, and_self, ldn]
      refine callH_ac (pick_ac M' cb id a' l 20 d.cur (by omega) (by omega) (by omega)) ?_
      rintro v M2 ⟨x, rfl, hx0, hx1, w2, a2, ha2, k2⟩
      have d2 := d.draw w2 k2
      clear w2 k2 d
      by_cases x0 : x = 0
      · have x0' : (x == 0) = true := by simp [x0]
        obtain ⟨M3, ap, d3⟩ := d2.app 0 1 (by omega)
        simp (config := {implicitDefEqProofs := false, maxDischargeDepth := 20}) (disch := first | omega | (simp only [lenE]; done) | (simp only [lenE]; omega) | rfl | (simp only [lenE, markR_len]; done) | (simp only [lenE, markR_len]; omega)) only [runE, mapE, listE, initT_5, initT_6, initT_7, initT_8, resV, oneV, binA, unA, reduceCtorEq, Nat.reduceEqDiff, Nat.reduceAdd, Nat.reduceLT, Nat.reduceLeDiff, Nat.reduceMul, Nat.reduceSub, ↓reduceIte, decide_true, decide_false, Bool.true_eq_false, Bool.false_eq_true, Bool.not_true, Bool.not_false, if_true, if_false, and_true, true_and, memE, celE, w64, Nat.zero_add, Nat.add_zero, Nat.mul_one, putL, and_self, ldn, x0', bld_2, bsl_pair, ap]
        exact ⟨_, a2, by omega, d3.cw, d3.cur, by simpa using d3.ql⟩
      · have x0' : (x == 0) = false := by simp [x0]
        by_cases x1 : x = 1
        · have x1' : (x == 1) = true := by simp [x1]
          by_cases hL : 0 < L.length
          · have hL' : (0 : Int) < L.length := by omega
            simp (config := {implicitDefEqProofs := false, maxDischargeDepth := 20}) (disch := first | omega | (simp only [lenE]; done) | (simp only [lenE]; omega) | rfl | (simp only [lenE, markR_len]; done) | (simp only [lenE, markR_len]; omega)) only [runE, mapE, listE, initT_5, initT_6, initT_7, initT_8, resV, oneV, binA, unA, reduceCtorEq, Nat.reduceEqDiff, Nat.reduceAdd, Nat.reduceLT, Nat.reduceLeDiff, Nat.reduceMul, Nat.reduceSub, ↓reduceIte, decide_true, decide_false, Bool.true_eq_false, Bool.false_eq_true, Bool.not_true, Bool.not_false, if_true, if_false, and_true, true_and, memE, celE, w64, Nat.zero_add, Nat.add_zero, Nat.mul_one, putL, and_self, ldn, x0', x1', gt_iff_lt, hL', bl_q1]
            refine callH_ac (among_new M2 cb id a2 l [-11, 3, 0] d2.cur (by omega) rfl rfl (by simp) (by simp)) ?_
            rintro v M3 ⟨y, -, rfl, w3, a3, ha3, k3⟩
            have d3 := d2.draw w3 k3
            simp (config := {implicitDefEqProofs := false, maxDischargeDepth := 20}) (disch := first | omega | (simp only [lenE]; done) | (simp only [lenE]; omega) | rfl | (simp only [lenE, markR_len]; done) | (simp only [lenE, markR_len]; omega)) only [runE, mapE, listE, initT_5, initT_6, initT_7, initT_8, resV, oneV, binA, unA, reduceCtorEq, Nat.reduceEqDiff, Nat.reduceAdd, Nat.reduceLT, Nat.reduceLeDiff, Nat.reduceMul, Nat.reduceSub, ↓reduceIte, decide_true, decide_false, Bool.true_eq_false, Bool.false_eq_true, Bool.not_true, Bool.not_false, if_true, if_false, and_true, true_and, memE, celE, w64, Nat.zero_add, Nat.add_zero, Nat.mul_one, putL, and_self, ldn, bl_q2]
            refine callH_ac (among_new M3 cb id a3 l [11, 0, -10] d3.cur (by omega) rfl rfl (by simp) (by simp)) ?_
            rintro v M4 ⟨z, -, rfl, w4, a4, ha4, k4⟩
            have d4 := d3.draw w4 k4
            obtain ⟨M5, q1, q2, d5⟩ := d4.set0 y z hL
            simp (config := {implicitDefEqProofs := false, maxDischargeDepth := 20}) (disch := first | omega | (simp only [lenE]; done) | (simp only [lenE]; omega) | rfl | (simp only [lenE, markR_len]; done) | (simp only [lenE, markR_len]; omega)) only [runE, mapE, listE, initT_5, initT_6, initT_7, initT_8, resV, oneV, binA, unA, reduceCtorEq, Nat.reduceEqDiff, Nat.reduceAdd, Nat.reduceLT, Nat.reduceLeDiff, Nat.reduceMul, Nat.reduceSub, ↓reduceIte, decide_true, decide_false, Bool.true_eq_false, Bool.false_eq_true, Bool.not_true, Bool.not_false, if_true, if_false, and_true, true_and, memE, celE, w64, Nat.zero_add, Nat.add_zero, Nat.mul_one, putL, and_self, ldn, bld_2, q1, stP_aggL, q2]
            exact ⟨_, a4, by omega, d5.cw, d5.cur, by simpa using d5.ql⟩
          · have hL' : ¬ ((0 : Int) < L.length) := by omega
            simp (config := {implicitDefEqProofs := false, maxDischargeDepth := 20}) (disch := first | omega | (simp only [lenE]; done) | (simp only [lenE]; omega) | rfl | (simp only [lenE, markR_len]; done) | (simp only [lenE, markR_len]; omega)) only [runE, mapE, listE, initT_5, initT_6, initT_7, initT_8, resV, oneV, binA, unA, reduceCtorEq, Nat.reduceEqDiff, Nat.reduceAdd, Nat.reduceLT, Nat.reduceLeDiff, Nat.reduceMul, Nat.reduceSub, ↓reduceIte, decide_true, decide_false, Bool.true_eq_false, Bool.false_eq_true, Bool.not_true, Bool.not_false, if_true, if_false, and_true, true_and, memE, celE, w64, Nat.zero_add, Nat.add_zero, Nat.mul_one, putL, and_self, ldn, x0', x1', gt_iff_lt, hL']
            exact ⟨_, a2, by omega, d2.cw, d2.cur, by simpa using d2.ql⟩
        · have x1' : (x == 1) = false := by simp [x1]
          simp (config := {implicitDefEqProofs := false, maxDischargeDepth := 20}) (disch := first | omega | (simp only [lenE]; done) | (simp only [lenE]; omega) | rfl | (simp only [lenE, markR_len]; done) | (simp only [lenE, markR_len]; omega)) only [runE, mapE, listE, initT_5, initT_6, initT_7, initT_8, resV, oneV, binA, unA, reduceCtorEq, Nat.reduceEqDiff, Nat.reduceAdd, Nat.reduceLT, Nat.reduceLeDiff, Nat.reduceMul, Nat.reduceSub, ↓reduceIte, decide_true, decide_false, Bool.true_eq_false, Bool.false_eq_true, Bool.not_true, Bool.not_false, if_true, if_false, and_true, true_and, memE, celE, w64, Nat.zero_add, Nat.add_zero, Nat.mul_one, putL, and_self, ldn, x0', x1']
          exact ⟨_, a2, by omega, d2.cw, d2.cur, by simpa using d2.ql⟩
    | false =>
      as_aux_lemma =>
      have dE := dE.draw w1 k1
      clear dL
      simp (config := {implicitDefEqProofs := false, maxDischargeDepth := 20}) (disch := first | omega | (simp only [lenE]; done) | (simp only [lenE]; omega) | rfl | (simp only [lenE, markR_len]; done) | (simp only [lenE, markR_len]; omega)) only [runE, mapE, listE, initT_5, initT_6, initT_7, initT_8, resV, oneV, binA, unA, reduceCtorEq, Nat.reduceEqDiff, Nat.reduceAdd, Nat.reduceLT, Nat.reduceLeDiff, Nat.reduceMul, Nat.reduceSub, ↓reduceIte, decide_true, decide_false, Bool.true_eq_false, Bool.false_eq_true, Bool.not_true, Bool.not_false, if_true, if_false, and_true, true_and, memE, celE, w64, Nat.zero_add, Nat.add_zero, Nat.mul_one, putL, and_self, ldn]
      refine loop_inv mixed (fun s => ∃ (M' : Mem) (r : Nat) (L : List (Int × Int)) (a2 k : Nat), s.m = M' ∧ QB M M' cb id a2 r l L (procC p u) ∧ k ≤ 6 ∧ L.length = k ∧ a2 ≤ a' + 4 * k ∧ s.t 0 = .pointer (some ⟨id, 0, none⟩) ∧ s.t 3 = .pointer (some ⟨M.length, 0, none⟩) ∧ s.t 5 = .slice (some ⟨r, 0, none⟩) L.length 2 ∧ s.t 8 = .int .i64 k) (fun s => 6 - (intOf (s.t 8)).toNat)
        ⟨M', _, [], a', 0, rfl, dE, by omega, rfl, by omega, rfl, rfl, rfl, rfl⟩ ?_
      clear dE
      rintro s ⟨M', r, L, a2, k, tm, d, hk, hLk, ha2, t0, t3, t5, t8⟩
      by_cases hlt : (k : Int) < p.turns ∧ k < 6
      · have h1 := hlt.1
        have h2 : (k : Int) < 6 := by omega
        simp (config := {implicitDefEqProofs := false, maxDischargeDepth := 20}) (disch := first | omega | (simp only [lenE]; done) | (simp only [lenE]; omega) | rfl | (simp only [lenE, markR_len]; done) | (simp only [lenE, markR_len]; omega)) only [runE, mapE, listE, initT_5, initT_6, initT_7, initT_8, resV, oneV, binA, unA, reduceCtorEq, Nat.reduceEqDiff, Nat.reduceAdd, Nat.reduceLT, Nat.reduceLeDiff, Nat.reduceMul, Nat.reduceSub, ↓reduceIte, decide_true, decide_false, Bool.true_eq_false, Bool.false_eq_true, Bool.not_true, Bool.not_false, if_true, if_false, and_true, true_and, memE, celE, w64, Nat.zero_add, Nat.add_zero, Nat.mul_one, putL, and_self, ldn, tm, t0, t3, t5, t8, d.rd, h1, h2]
        refine callH_ac (pick_ac M' cb id a2 l 14 d.cur (by omega) (by omega) (by omega)) ?_
        rintro v M2 ⟨x, rfl, hx0, hx1, w2, a3, ha3, k2⟩
        have d2 := d.draw w2 k2
        simp (config := {implicitDefEqProofs := false, maxDischargeDepth := 20}) (disch := first | omega | (simp only [lenE]; done) | (simp only [lenE]; omega) | rfl | (simp only [lenE, markR_len]; done) | (simp only [lenE, markR_len]; omega)) only [runE, mapE, listE, initT_5, initT_6, initT_7, initT_8, resV, oneV, binA, unA, reduceCtorEq, Nat.reduceEqDiff, Nat.reduceAdd, Nat.reduceLT, Nat.reduceLeDiff, Nat.reduceMul, Nat.reduceSub, ↓reduceIte, decide_true, decide_false, Bool.true_eq_false, Bool.false_eq_true, Bool.not_true, Bool.not_false, if_true, if_false, and_true, true_and, memE, celE, w64, Nat.zero_add, Nat.add_zero, Nat.mul_one, putL, and_self, ldn, tm, t0, t3, t5, t8]
        refine callH_ac (pick_ac M2 cb id a3 l 4 d2.cur (by omega) (by omega) (by omega)) ?_
        rintro v M3 ⟨y, rfl, hy0, hy1, w3, a4, ha4, k3⟩
        have d3 := d2.draw w3 k3
        obtain ⟨M4, ap, d4⟩ := d3.app (x - 6 - y) (x - 6) (by omega)
        simp (config := {implicitDefEqProofs := false, maxDischargeDepth := 20}) (disch := first | omega | (simp only [lenE]; done) | (simp only [lenE]; omega) | rfl | (simp only [lenE, markR_len]; done) | (simp only [lenE, markR_len]; omega)) only [runE, mapE, listE, initT_5, initT_6, initT_7, initT_8, resV, oneV, binA, unA, reduceCtorEq, Nat.reduceEqDiff, Nat.reduceAdd, Nat.reduceLT, Nat.reduceLeDiff, Nat.reduceMul, Nat.reduceSub, ↓reduceIte, decide_true, decide_false, Bool.true_eq_false, Bool.false_eq_true, Bool.not_true, Bool.not_false, if_true, if_false, and_true, true_and, memE, celE, w64, Nat.zero_add, Nat.add_zero, Nat.mul_one, putL, and_self, ldn, tm, t0, t3, t5, t8, bld_2, bsl_pair, ap]
        exact ⟨⟨_, _, _, a4, k + 1, rfl, d4, by omega, by simp; omega, by omega, by simp⟩, by simp [intOf]; omega⟩
      · have hA : a2 ≤ a + 40 := by omega
        obtain ⟨a', haa, ha1⟩ : ∃ a', a' = a2 ∧ a' ≤ a + 40 := ⟨a2, rfl, hA⟩
        rw [← haa] at d
        have hc : (k : Int) < p.turns → ¬ ((k : Int) < 6) := fun e1 e2 => hlt ⟨e1, by omega⟩
        by_cases h1 : (k : Int) < p.turns
        · have h2 := hc h1
          simp (config := {implicitDefEqProofs := false, maxDischargeDepth := 20}) (disch := first | omega | (simp only [lenE]; done) | (simp only [lenE]; omega) | rfl | (simp only [lenE, markR_len]; done) | (simp only [lenE, markR_len]; omega)) only [runE, mapE, listE, initT_5, initT_6, initT_7, initT_8, resV, oneV, binA, unA, reduceCtorEq, Nat.reduceEqDiff, Nat.reduceAdd, Nat.reduceLT, Nat.reduceLeDiff, Nat.reduceMul, Nat.reduceSub, ↓reduceIte, decide_true, decide_false, Bool.true_eq_false, Bool.false_eq_true, Bool.not_true, Bool.not_false, if_true, if_false, and_true, true_and, memE, celE, w64, Nat.zero_add, Nat.add_zero, Nat.mul_one, putL, and_self, ldn, tm, t0, t3, t5, t8, d.rd, h1, h2]
          refine callH_ac (pick_ac M' cb id a' l 20 d.cur (by omega) (by omega) (by omega)) ?_
          rintro v M2 ⟨x, rfl, hx0, hx1, w2, a2, ha2, k2⟩
          have d2 := d.draw w2 k2
          clear w2 k2 d
          by_cases x0 : x = 0
          · have x0' : (x == 0) = true := by simp [x0]
            obtain ⟨M3, ap, d3⟩ := d2.app 0 1 (by omega)
            simp (config := {implicitDefEqProofs := false, maxDischargeDepth := 20}) (disch := first | omega | (simp only [lenE]; done) | (simp only [lenE]; omega) | rfl | (simp only [lenE, markR_len]; done) | (simp only [lenE, markR_len]; omega)) only [runE, mapE, listE, initT_5, initT_6, initT_7, initT_8, resV, oneV, binA, unA, reduceCtorEq, Nat.reduceEqDiff, Nat.reduceAdd, Nat.reduceLT, Nat.reduceLeDiff, Nat.reduceMul, Nat.reduceSub, ↓reduceIte, decide_true, decide_false, Bool.true_eq_false, Bool.false_eq_true, Bool.not_true, Bool.not_false, if_true, if_false, and_true, true_and, memE, celE, w64, Nat.zero_add, Nat.add_zero, Nat.mul_one, putL, and_self, ldn, tm, t0, t3, t5, t8, x0', bld_2, bsl_pair, ap]
            exact ⟨_, a2, by omega, d3.cw, d3.cur, by simpa using d3.ql⟩
          · have x0' : (x == 0) = false := by simp [x0]
            by_cases x1 : x = 1
            · have x1' : (x == 1) = true := by simp [x1]
              by_cases hL : 0 < L.length
              · have hL' : (0 : Int) < L.length := by omega
                simp (config := {implicitDefEqProofs := false, maxDischargeDepth := 20}) (disch := first | omega | (simp only [lenE]; done) | (simp only [lenE]; omega) | rfl | (simp only [lenE, markR_len]; done) | (simp only [lenE, markR_len]; omega)) only [runE, mapE, listE, initT_5, initT_6, initT_7, initT_8, resV, oneV, binA, unA, reduceCtorEq, Nat.reduceEqDiff, Nat.reduceAdd, Nat.reduceLT, Nat.reduceLeDiff, Nat.reduceMul, Nat.reduceSub, ↓reduceIte, decide_true, decide_false, Bool.true_eq_false, Bool.false_eq_true, Bool.not_true, Bool.not_false, if_true, if_false, and_true, true_and, memE, celE, w64, Nat.zero_add, Nat.add_zero, Nat.mul_one, putL, and_self, ldn, tm, t0, t3, t5, t8, x0', x1', gt_iff_lt, hL', bl_q1]
                refine callH_ac (among_new M2 cb id a2 l [-11, 3, 0] d2.cur (by omega) rfl rfl (by simp) (by simp)) ?_
                rintro v M3 ⟨y, -, rfl, w3, a3, ha3, k3⟩
                have d3 := d2.draw w3 k3
                simp (config := {implicitDefEqProofs := false, maxDischargeDepth := 20}) (disch := first | omega | (simp only [lenE]; done) | (simp only [lenE]; omega) | rfl | (simp only [lenE, markR_len]; done) | (simp only [lenE, markR_len]; omega)) only [runE, mapE, listE, initT_5, initT_6, initT_7, initT_8, resV, oneV, binA, unA, reduceCtorEq, Nat.reduceEqDiff, Nat.reduceAdd, Nat.reduceLT, Nat.reduceLeDiff, Nat.reduceMul, Nat.reduceSub, ↓reduceIte, decide_true, decide_false, Bool.true_eq_false, Bool.false_eq_true, Bool.not_true, Bool.not_false, if_true, if_false, and_true, true_and, memE, celE, w64, Nat.zero_add, Nat.add_zero, Nat.mul_one, putL, and_self, ldn, tm, t0, t3, t5, t8, bl_q2]
                refine callH_ac (among_new M3 cb id a3 l [11, 0, -10] d3.cur (by omega) rfl rfl (by simp) (by simp)) ?_
                rintro v M4 ⟨z, -, rfl, w4, a4, ha4, k4⟩
                have d4 := d3.draw w4 k4
                obtain ⟨M5, q1, q2, d5⟩ := d4.set0 y z hL
                simp (config := {implicitDefEqProofs := false, maxDischargeDepth := 20}) (disch := first | omega | (simp only [lenE]; done) | (simp only [lenE]; omega) | rfl | (simp only [lenE, markR_len]; done) | (simp only [lenE, markR_len]; omega)) only [runE, mapE, listE, initT_5, initT_6, initT_7, initT_8, resV, oneV, binA, unA, reduceCtorEq, Nat.reduceEqDiff, Nat.reduceAdd, Nat.reduceLT, Nat.reduceLeDiff, Nat.reduceMul, Nat.reduceSub, ↓reduceIte, decide_true, decide_false, Bool.true_eq_false, Bool.false_eq_true, Bool.not_true, Bool.not_false, if_true, if_false, and_true, true_and, memE, celE, w64, Nat.zero_add, Nat.add_zero, Nat.mul_one, putL, and_self, ldn, tm, t0, t3, t5, t8, bld_2, q1, stP_aggL, q2]
                exact ⟨_, a4, by omega, d5.cw, d5.cur, by simpa using d5.ql⟩
              · have hL' : ¬ ((0 : Int) < L.length) := by omega
                simp (config := {implicitDefEqProofs := false, maxDischargeDepth := 20}) (disch := first | omega | (simp only [lenE]; done) | (simp only [lenE]; omega) | rfl | (simp only [lenE, markR_len]; done) | (simp only [lenE, markR_len]; omega)) only [runE, mapE, listE, initT_5, initT_6, initT_7, initT_8, resV, oneV, binA, unA, reduceCtorEq, Nat.reduceEqDiff, Nat.reduceAdd, Nat.reduceLT, Nat.reduceLeDiff, Nat.reduceMul, Nat.reduceSub, ↓reduceIte, decide_true, decide_false, Bool.true_eq_false, Bool.false_eq_true, Bool.not_true, Bool.not_false, if_true, if_false, and_true, true_and, memE, celE, w64, Nat.zero_add, Nat.add_zero, Nat.mul_one, putL, and_self, ldn, tm, t0, t3, t5, t8, x0', x1', gt_iff_lt, hL']
                exact ⟨_, a2, by omega, d2.cw, d2.cur, by simpa using d2.ql⟩
            · have x1' : (x == 1) = false := by simp [x1]
              simp (config := {implicitDefEqProofs := false, maxDischargeDepth := 20}) (disch := first | omega | (simp only [lenE]; done) | (simp only [lenE]; omega) | rfl | (simp only [lenE, markR_len]; done) | (simp only [lenE, markR_len]; omega)) only [runE, mapE, listE, initT_5, initT_6, initT_7, initT_8, resV, oneV, binA, unA, reduceCtorEq, Nat.reduceEqDiff, Nat.reduceAdd, Nat.reduceLT, Nat.reduceLeDiff, Nat.reduceMul, Nat.reduceSub, ↓reduceIte, decide_true, decide_false, Bool.true_eq_false, Bool.false_eq_true, Bool.not_true, Bool.not_false, if_true, if_false, and_true, true_and, memE, celE, w64, Nat.zero_add, Nat.add_zero, Nat.mul_one, putL, and_self, ldn, tm, t0, t3, t5, t8, x0', x1']
              exact ⟨_, a2, by omega, d2.cw, d2.cur, by simpa using d2.ql⟩
        · skip
          simp (config := {implicitDefEqProofs := false, maxDischargeDepth := 20}) (disch := first | omega | (simp only [lenE]; done) | (simp only [lenE]; omega) | rfl | (simp only [lenE, markR_len]; done) | (simp only [lenE, markR_len]; omega)) only [runE, mapE, listE, initT_5, initT_6, initT_7, initT_8, resV, oneV, binA, unA, reduceCtorEq, Nat.reduceEqDiff, Nat.reduceAdd, Nat.reduceLT, Nat.reduceLeDiff, Nat.reduceMul, Nat.reduceSub, ↓reduceIte, decide_true, decide_false, Bool.true_eq_false, Bool.false_eq_true, Bool.not_true, Bool.not_false, if_true, if_false, and_true, true_and, memE, celE, w64, Nat.zero_add, Nat.add_zero, Nat.mul_one, putL, and_self, ldn, tm, t0, t3, t5, t8, d.rd, h1]
          refine callH_ac (pick_ac M' cb id a' l 20 d.cur (by omega) (by omega) (by omega)) ?_
          rintro v M2 ⟨x, rfl, hx0, hx1, w2, a2, ha2, k2⟩
          have d2 := d.draw w2 k2
          clear w2 k2 d
          by_cases x0 : x = 0
          · have x0' : (x == 0) = true := by simp [x0]
            obtain ⟨M3, ap, d3⟩ := d2.app 0 1 (by omega)
            simp (config := {implicitDefEqProofs := false, maxDischargeDepth := 20}) (disch := first | omega | (simp only [lenE]; done) | (simp only [lenE]; omega) | rfl | (simp only [lenE, markR_len]; done) | (simp only [lenE, markR_len]; omega)) only [runE, mapE, listE, initT_5, initT_6, initT_7, initT_8, resV, oneV, binA, unA, reduceCtorEq, Nat.reduceEqDiff, Nat.reduceAdd, Nat.reduceLT, Nat.reduceLeDiff, Nat.reduceMul, Nat.reduceSub, ↓reduceIte, decide_true, decide_false, Bool.true_eq_false, Bool.false_eq_true, Bool.not_true, Bool.not_false, if_true, if_false, and_true, true_and, memE, celE, w64, Nat.zero_add, Nat.add_zero, Nat.mul_one, putL, and_self, ldn, tm, t0, t3, t5, t8, x0', bld_2, bsl_pair, ap]
            exact ⟨_, a2, by omega, d3.cw, d3.cur, by simpa using d3.ql⟩
          · have x0' : (x == 0) = false := by simp [x0]
            by_cases x1 : x = 1
            · have x1' : (x == 1) = true := by simp [x1]
              by_cases hL : 0 < L.length
              · have hL' : (0 : Int) < L.length := by omega
                simp (config := {implicitDefEqProofs := false, maxDischargeDepth := 20}) (disch := first | omega | (simp only [lenE]; done) | (simp only [lenE]; omega) | rfl | (simp only [lenE, markR_len]; done) | (simp only [lenE, markR_len]; omega)) only [runE, mapE, listE, initT_5, initT_6, initT_7, initT_8, resV, oneV, binA, unA, reduceCtorEq, Nat.reduceEqDiff, Nat.reduceAdd, Nat.reduceLT, Nat.reduceLeDiff, Nat.reduceMul, Nat.reduceSub, ↓reduceIte, decide_true, decide_false, Bool.true_eq_false, Bool.false_eq_true, Bool.not_true, Bool.not_false, if_true, if_false, and_true, true_and, memE, celE, w64, Nat.zero_add, Nat.add_zero, Nat.mul_one, putL, and_self, ldn, tm, t0, t3, t5, t8, x0', x1', gt_iff_lt, hL', bl_q1]
                refine callH_ac (among_new M2 cb id a2 l [-11, 3, 0] d2.cur (by omega) rfl rfl (by simp) (by simp)) ?_
                rintro v M3 ⟨y, -, rfl, w3, a3, ha3, k3⟩
                have d3 := d2.draw w3 k3
                simp (config := {implicitDefEqProofs := false, maxDischargeDepth := 20}) (disch := first | omega | (simp only [lenE]; done) | (simp only [lenE]; omega) | rfl | (simp only [lenE, markR_len]; done) | (simp only [lenE, markR_len]; omega)) only [runE, mapE, listE, initT_5, initT_6, initT_7, initT_8, resV, oneV, binA, unA, reduceCtorEq, Nat.reduceEqDiff, Nat.reduceAdd, Nat.reduceLT, Nat.reduceLeDiff, Nat.reduceMul, Nat.reduceSub, ↓reduceIte, decide_true, decide_false, Bool.true_eq_false, Bool.false_eq_true, Bool.not_true, Bool.not_false, if_true, if_false, and_true, true_and, memE, celE, w64, Nat.zero_add, Nat.add_zero, Nat.mul_one, putL, and_self, ldn, tm, t0, t3, t5, t8, bl_q2]
                refine callH_ac (among_new M3 cb id a3 l [11, 0, -10] d3.cur (by omega) rfl rfl (by simp) (by simp)) ?_
                rintro v M4 ⟨z, -, rfl, w4, a4, ha4, k4⟩
                have d4 := d3.draw w4 k4
                obtain ⟨M5, q1, q2, d5⟩ := d4.set0 y z hL
                simp (config := {implicitDefEqProofs := false, maxDischargeDepth := 20}) (disch := first | omega | (simp only [lenE]; done) | (simp only [lenE]; omega) | rfl | (simp only [lenE, markR_len]; done) | (simp only [lenE, markR_len]; omega)) only [runE, mapE, listE, initT_5, initT_6, initT_7, initT_8, resV, oneV, binA, unA, reduceCtorEq, Nat.reduceEqDiff, Nat.reduceAdd, Nat.reduceLT, Nat.reduceLeDiff, Nat.reduceMul, Nat.reduceSub, ↓reduceIte, decide_true, decide_false, Bool.true_eq_false, Bool.false_eq_true, Bool.not_true, Bool.not_false, if_true, if_false, and_true, true_and, memE, celE, w64, Nat.zero_add, Nat.add_zero, Nat.mul_one, putL, and_self, ldn, tm, t0, t3, t5, t8, bld_2, q1, stP_aggL, q2]
                exact ⟨_, a4, by omega, d5.cw, d5.cur, by simpa using d5.ql⟩
              · have hL' : ¬ ((0 : Int) < L.length) := by omega
                simp (config := {implicitDefEqProofs := false, maxDischargeDepth := 20}) (disch := first | omega | (simp only [lenE]; done) | (simp only [lenE]; omega) | rfl | (simp only [lenE, markR_len]; done) | (simp only [lenE, markR_len]; omega)) only [runE, mapE, listE, initT_5, initT_6, initT_7, initT_8, resV, oneV, binA, unA, reduceCtorEq, Nat.reduceEqDiff, Nat.reduceAdd, Nat.reduceLT, Nat.reduceLeDiff, Nat.reduceMul, Nat.reduceSub, ↓reduceIte, decide_true, decide_false, Bool.true_eq_false, Bool.false_eq_true, Bool.not_true, Bool.not_false, if_true, if_false, and_true, true_and, memE, celE, w64, Nat.zero_add, Nat.add_zero, Nat.mul_one, putL, and_self, ldn, tm, t0, t3, t5, t8, x0', x1', gt_iff_lt, hL']
                exact ⟨_, a2, by omega, d2.cw, d2.cur, by simpa using d2.ql⟩
            · have x1' : (x == 1) = false := by simp [x1]
              simp (config := {implicitDefEqProofs := false, maxDischargeDepth := 20}) (disch := first | omega | (simp only [lenE]; done) | (simp only [lenE]; omega) | rfl | (simp only [lenE, markR_len]; done) | (simp only [lenE, markR_len]; omega)) only [runE, mapE, listE, initT_5, initT_6, initT_7, initT_8, resV, oneV, binA, unA, reduceCtorEq, Nat.reduceEqDiff, Nat.reduceAdd, Nat.reduceLT, Nat.reduceLeDiff, Nat.reduceMul, Nat.reduceSub, ↓reduceIte, decide_true, decide_false, Bool.true_eq_false, Bool.false_eq_true, Bool.not_true, Bool.not_false, if_true, if_false, and_true, true_and, memE, celE, w64, Nat.zero_add, Nat.add_zero, Nat.mul_one, putL, and_self, ldn, tm, t0, t3, t5, t8, x0', x1']
              exact ⟨_, a2, by omega, d2.cw, d2.cur, by simpa using d2.ql⟩
  | false =>
    as_aux_lemma =>
    obtain ⟨M', hM'⟩ : ∃ M', M' = N := ⟨_, rfl⟩
    obtain ⟨a', ha1, hA'⟩ : ∃ a', a' ≤ a + 2 ∧ a' = a := ⟨a, by omega, rfl⟩
    rw [← hM', ← hA'] at dE
    rw [← hM']
    clear dL
    simp (config := {implicitDefEqProofs := false, maxDischargeDepth := 20}) (disch := first | omega | (simp only [lenE]; done) | (simp only [lenE]; omega) | rfl | (simp only [lenE, markR_len]; done) | (simp only [lenE, markR_len]; omega)) only [runE, mapE, listE, initT_5, initT_6, initT_7, initT_8, resV, oneV, binA, unA, reduceCtorEq, Nat.reduceEqDiff, Nat.reduceAdd, Nat.reduceLT, Nat.reduceLeDiff, Nat.reduceMul, Nat.reduceSub, ↓reduceIte, decide_true, decide_false, Bool.true_eq_false, Bool.false_eq_true, Bool.not_true, Bool.not_false, if_true, if_false, and_true, true_and, memE, celE, w64, Nat.zero_add, Nat.add_zero, Nat.mul_one, putL, and_self, ldn, ext_2_0, ext_2_1]
    refine loop_inv mixed (fun s => ∃ (M' : Mem) (r : Nat) (L : List (Int × Int)) (a2 k : Nat), s.m = M' ∧ QB M M' cb id a2 r l L (procC p u) ∧ k ≤ 6 ∧ L.length = k ∧ a2 ≤ a' + 4 * k ∧ s.t 0 = .pointer (some ⟨id, 0, none⟩) ∧ s.t 3 = .pointer (some ⟨M.length, 0, none⟩) ∧ s.t 5 = .slice (some ⟨r, 0, none⟩) L.length 2 ∧ s.t 8 = .int .i64 k) (fun s => 6 - (intOf (s.t 8)).toNat)
      ⟨M', _, [], a', 0, rfl, dE, by omega, rfl, by omega, rfl, rfl, rfl, rfl⟩ ?_
    clear dE
    rintro s ⟨M', r, L, a2, k, tm, d, hk, hLk, ha2, t0, t3, t5, t8⟩
    by_cases hlt : (k : Int) < p.turns ∧ k < 6
    · have h1 := hlt.1
      have h2 : (k : Int) < 6 := by omega
      simp (config := {implicitDefEqProofs := false, maxDischargeDepth := 20}) (disch := first | omega | (simp only [lenE]; done) | (simp only [lenE]; omega) | rfl | (simp only [lenE, markR_len]; done) | (simp only [lenE, markR_len]; omega)) only [runE, mapE, listE, initT_5, initT_6, initT_7, initT_8, resV, oneV, binA, unA, reduceCtorEq, Nat.reduceEqDiff, Nat.reduceAdd, Nat.reduceLT, Nat.reduceLeDiff, Nat.reduceMul, Nat.reduceSub, ↓reduceIte, decide_true, decide_false, Bool.true_eq_false, Bool.false_eq_true, Bool.not_true, Bool.not_false, if_true, if_false, and_true, true_and, memE, celE, w64, Nat.zero_add, Nat.add_zero, Nat.mul_one, putL, and_self, ldn, tm, t0, t3, t5, t8, d.rd, h1, h2]
      refine callH_ac (pick_ac M' cb id a2 l 14 d.cur (by omega) (by omega) (by omega)) ?_
      rintro v M2 ⟨x, rfl, hx0, hx1, w2, a3, ha3, k2⟩
      have d2 := d.draw w2 k2
      simp (config := {implicitDefEqProofs := false, maxDischargeDepth := 20}) (disch := first | omega | (simp only [lenE]; done) | (simp only [lenE]; omega) | rfl | (simp only [lenE, markR_len]; done) | (simp only [lenE, markR_len]; omega)) only [runE, mapE, listE, initT_5, initT_6, initT_7, initT_8, resV, oneV, binA, unA, reduceCtorEq, Nat.reduceEqDiff, Nat.reduceAdd, Nat.reduceLT, Nat.reduceLeDiff, Nat.reduceMul, Nat.reduceSub, ↓reduceIte, decide_true, decide_false, Bool.true_eq_false, Bool.false_eq_true, Bool.not_true, Bool.not_false, if_true, if_false, and_true, true_and, memE, celE, w64, Nat.zero_add, Nat.add_zero, Nat.mul_one, putL, and_self, ldn, tm, t0, t3, t5, t8]
      refine callH_ac (pick_ac M2 cb id a3 l 4 d2.cur (by omega) (by omega) (by omega)) ?_
      rintro v M3 ⟨y, rfl, hy0, hy1, w3, a4, ha4, k3⟩
      have d3 := d2.draw w3 k3
      obtain ⟨M4, ap, d4⟩ := d3.app (x - 6 - y) (x - 6) (by omega)
      simp (config := {implicitDefEqProofs := false, maxDischargeDepth := 20}) (disch := first | omega | (simp only [lenE]; done) | (simp only [lenE]; omega) | rfl | (simp only [lenE, markR_len]; done) | (simp only [lenE, markR_len]; omega)) only [runE, mapE, listE, initT_5, initT_6, initT_7, initT_8, resV, oneV, binA, unA, reduceCtorEq, Nat.reduceEqDiff, Nat.reduceAdd, Nat.reduceLT, Nat.reduceLeDiff, Nat.reduceMul, Nat.reduceSub, ↓reduceIte, decide_true, decide_false, Bool.true_eq_false, Bool.false_eq_true, Bool.not_true, Bool.not_false, if_true, if_false, and_true, true_and, memE, celE, w64, Nat.zero_add, Nat.add_zero, Nat.mul_one, putL, and_self, ldn, tm, t0, t3, t5, t8, bld_2, bsl_pair, ap]
      exact ⟨⟨_, _, _, a4, k + 1, rfl, d4, by omega, by simp; omega, by omega, by simp⟩, by simp [intOf]; omega⟩
    · have hA : a2 ≤ a + 40 := by omega
      obtain ⟨a', haa, ha1⟩ : ∃ a', a' = a2 ∧ a' ≤ a + 40 := ⟨a2, rfl, hA⟩
      rw [← haa] at d
      have hc : (k : Int) < p.turns → ¬ ((k : Int) < 6) := fun e1 e2 => hlt ⟨e1, by omega⟩
      by_cases h1 : (k : Int) < p.turns
      · have h2 := hc h1
        simp (config := {implicitDefEqProofs := false, maxDischargeDepth := 20}) (disch := first | omega | (simp only [lenE]; done) | (simp only [lenE]; omega) | rfl | (simp only [lenE, markR_len]; done) | (simp only [lenE, markR_len]; omega)) only [runE, mapE, listE, initT_5, initT_6, initT_7, initT_8, resV, oneV, binA, unA, reduceCtorEq, Nat.reduceEqDiff, Nat.reduceAdd, Nat.reduceLT, Nat.reduceLeDiff, Nat.reduceMul, Nat.reduceSub, ↓reduceIte, decide_true, decide_false, Bool.true_eq_false, Bool.false_eq_true, Bool.not_true, Bool.not_false, if_true, if_false, and_true, true_and, memE, celE, w64, Nat.zero_add, Nat.add_zero, Nat.mul_one, putL, and_self, ldn, tm, t0, t3, t5, t8, d.rd, h1, h2]
        refine callH_ac (pick_ac M' cb id a' l 20 d.cur (by omega) (by omega) (by omega)) ?_
        rintro v M2 ⟨x, rfl, hx0, hx1, w2, a2, ha2, k2⟩
        have d2 := d.draw w2 k2
        clear w2 k2 d
        by_cases x0 : x = 0
        · have x0' : (x == 0) = true := by simp [x0]
          obtain ⟨M3, ap, d3⟩ := d2.app 0 1 (by omega)
          simp (config := {implicitDefEqProofs := false, maxDischargeDepth := 20}) (disch := first | omega | (simp only [lenE]; done) | (simp only [lenE]; omega) | rfl | (simp only [lenE, markR_len]; done) | (simp only [lenE, markR_len]; omega)) only [runE, mapE, listE, initT_5, initT_6, initT_7, initT_8, resV, oneV, binA, unA, reduceCtorEq, Nat.reduceEqDiff, Nat.reduceAdd, Nat.reduceLT, Nat.reduceLeDiff, Nat.reduceMul, Nat.reduceSub, ↓reduceIte, decide_true, decide_false, Bool.true_eq_false, Bool.false_eq_true, Bool.not_true, Bool.not_false, if_true, if_false, and_true, true_and, memE, celE, w64, Nat.zero_add, Nat.add_zero, Nat.mul_one, putL, and_self, ldn, tm, t0, t3, t5, t8, x0', bld_2, bsl_pair, ap]
          exact ⟨_, a2, by omega, d3.cw, d3.cur, by simpa using d3.ql⟩
        · have x0' : (x == 0) = false := by simp [x0]
          by_cases x1 : x = 1
          · have x1' : (x == 1) = true := by simp [x1]
            by_cases hL : 0 < L.length
            · have hL' : (0 : Int) < L.length := by omega
              simp (config := {implicitDefEqProofs := false, maxDischargeDepth := 20}) (disch := first | omega | (simp only [lenE]; done) | (simp only [lenE]; omega) | rfl | (simp only [lenE, markR_len]; done) | (simp only [lenE, markR_len]; omega)) only [runE, mapE, listE, initT_5, initT_6, initT_7, initT_8, resV, oneV, binA, unA, reduceCtorEq, Nat.reduceEqDiff, Nat.reduceAdd, Nat.reduceLT, Nat.reduceLeDiff, Nat.reduceMul, Nat.reduceSub, ↓reduceIte, decide_true, decide_false, Bool.true_eq_false, Bool.false_eq_true, Bool.not_true, Bool.not_false, if_true, if_false, and_true, true_and, memE, celE, w64, Nat.zero_add, Nat.add_zero, Nat.mul_one, putL, and_self, ldn, tm, t0, t3, t5, t8, x0', x1', gt_iff_lt, hL', bl_q1]
              refine callH_ac (among_new M2 cb id a2 l [-11, 3, 0] d2.cur (by omega) rfl rfl (by simp) (by simp)) ?_
              rintro v M3 ⟨y, -, rfl, w3, a3, ha3, k3⟩
              have d3 := d2.draw w3 k3
              simp (config := {implicitDefEqProofs := false, maxDischargeDepth := 20}) (disch := first | omega | (simp only [lenE]; done) | (simp only [lenE]; omega) | rfl | (simp only [lenE, markR_len]; done) | (simp only [lenE, markR_len]; omega)) only [runE, mapE, listE, initT_5, initT_6, initT_7, initT_8, resV, oneV, binA, unA, reduceCtorEq, Nat.reduceEqDiff, Nat.reduceAdd, Nat.reduceLT, Nat.reduceLeDiff, Nat.reduceMul, Nat.reduceSub, ↓reduceIte, decide_true, decide_false, Bool.true_eq_false, Bool.false_eq_true, Bool.not_true, Bool.not_false, if_true, if_false, and_true, true_and, memE, celE, w64, Nat.zero_add, Nat.add_zero, Nat.mul_one, putL, and_self, ldn, tm, t0, t3, t5, t8, bl_q2]
              refine callH_ac (among_new M3 cb id a3 l [11, 0, -10] d3.cur (by omega) rfl rfl (by simp) (by simp)) ?_
              rintro v M4 ⟨z, -, rfl, w4, a4, ha4, k4⟩
              have d4 := d3.draw w4 k4
              obtain ⟨M5, q1, q2, d5⟩ := d4.set0 y z hL
              simp (config := {implicitDefEqProofs := false, maxDischargeDepth := 20}) (disch := first | omega | (simp only [lenE]; done) | (simp only [lenE]; omega) | rfl | (simp only [lenE, markR_len]; done) | (simp only [lenE, markR_len]; omega)) only [runE, mapE, listE, initT_5, initT_6, initT_7, initT_8, resV, oneV, binA, unA, reduceCtorEq, Nat.reduceEqDiff, Nat.reduceAdd, Nat.reduceLT, Nat.reduceLeDiff, Nat.reduceMul, Nat.reduceSub, ↓reduceIte, decide_true, decide_false, Bool.true_eq_false, Bool.false_eq_true, Bool.not_true, Bool.not_false, if_true, if_false, and_true, true_and, memE, celE, w64, Nat.zero_add, Nat.add_zero, Nat.mul_one, putL, and_self, ldn, tm, t0, t3, t5, t8, bld_2, q1, stP_aggL, q2]
              exact ⟨_, a4, by omega, d5.cw, d5.cur, by simpa using d5.ql⟩
            · have hL' : ¬ ((0 : Int) < L.length) := by omega
              simp (config := {implicitDefEqProofs := false, maxDischargeDepth := 20}) (disch := first | omega | (simp only [lenE]; done) | (simp only [lenE]; omega) | rfl | (simp only [lenE, markR_len]; done) | (simp only [lenE, markR_len]; omega)) only [runE, mapE, listE, initT_5, initT_6, initT_7, initT_8, resV, oneV, binA, unA, reduceCtorEq, Nat.reduceEqDiff, Nat.reduceAdd, Nat.reduceLT, Nat.reduceLeDiff, Nat.reduceMul, Nat.reduceSub, ↓reduceIte, decide_true, decide_false, Bool.true_eq_false, Bool.false_eq_true, Bool.not_true, Bool.not_false, if_true, if_false, and_true, true_and, memE, celE, w64, Nat.zero_add, Nat.add_zero, Nat.mul_one, putL, and_self, ldn, tm, t0, t3, t5, t8, x0', x1', gt_iff_lt, hL']
              exact ⟨_, a2, by omega, d2.cw, d2.cur, by simpa using d2.ql⟩
          · have x1' : (x == 1) = false := by simp [x1]
            simp (config := {implicitDefEqProofs := false, maxDischargeDepth := 20}) (disch := first | omega | (simp only [lenE]; done) | (simp only [lenE]; omega) | rfl | (simp only [lenE, markR_len]; done) | (simp only [lenE, markR_len]; omega)) only [runE, mapE, listE, initT_5, initT_6, initT_7, initT_8, resV, oneV, binA, unA, reduceCtorEq, Nat.reduceEqDiff, Nat.reduceAdd, Nat.reduceLT, Nat.reduceLeDiff, Nat.reduceMul, Nat.reduceSub, ↓reduceIte, decide_true, decide_false, Bool.true_eq_false, Bool.false_eq_true, Bool.not_true, Bool.not_false, if_true, if_false, and_true, true_and, memE, celE, w64, Nat.zero_add, Nat.add_zero, Nat.mul_one, putL, and_self, ldn, tm, t0, t3, t5, t8, x0', x1']
            exact ⟨_, a2, by omega, d2.cw, d2.cur, by simpa using d2.ql⟩
      · skip
        simp (config := {implicitDefEqProofs := false, maxDischargeDepth := 20}) (disch := first | omega | (simp only [lenE]; done) | (simp only [lenE]; omega) | rfl | (simp only [lenE, markR_len]; done) | (simp only [lenE, markR_len]; omega)) only [runE, mapE, listE, initT_5, initT_6, initT_7, initT_8, resV, oneV, binA, unA, reduceCtorEq, Nat.reduceEqDiff, Nat.reduceAdd, Nat.reduceLT, Nat.reduceLeDiff, Nat.reduceMul, Nat.reduceSub, ↓reduceIte, decide_true, decide_false, Bool.true_eq_false, Bool.false_eq_true, Bool.not_true, Bool.not_false, if_true, if_false, and_true, true_and, memE, celE, w64, Nat.zero_add, Nat.add_zero, Nat.mul_one, putL, and_self, ldn, tm, t0, t3, t5, t8, d.rd, h1]
        refine callH_ac (pick_ac M' cb id a' l 20 d.cur (by omega) (by omega) (by omega)) ?_
        rintro v M2 ⟨x, rfl, hx0, hx1, w2, a2, ha2, k2⟩
        have d2 := d.draw w2 k2
        clear w2 k2 d
        by_cases x0 : x = 0
        · have x0' : (x == 0) = true := by simp [x0]
          obtain ⟨M3, ap, d3⟩ := d2.app 0 1 (by omega)
          simp (config := {implicitDefEqProofs := false, maxDischargeDepth := 20}) (disch := first | omega | (simp only [lenE]; done) | (simp only [lenE]; omega) | rfl | (simp only [lenE, markR_len]; done) | (simp only [lenE, markR_len]; omega)) only [runE, mapE, listE, initT_5, initT_6, initT_7, initT_8, resV, oneV, binA, unA, reduceCtorEq, Nat.reduceEqDiff, Nat.reduceAdd, Nat.reduceLT, Nat.reduceLeDiff, Nat.reduceMul, Nat.reduceSub, ↓reduceIte, decide_true, decide_false, Bool.true_eq_false, Bool.false_eq_true, Bool.not_true, Bool.not_false, if_true, if_false, and_true, true_and, memE, celE, w64, Nat.zero_add, Nat.add_zero, Nat.mul_one, putL, and_self, ldn, tm, t0, t3, t5, t8, x0', bld_2, bsl_pair, ap]
          exact ⟨_, a2, by omega, d3.cw, d3.cur, by simpa using d3.ql⟩
        · have x0' : (x == 0) = false := by simp [x0]
          by_cases x1 : x = 1
          · have x1' : (x == 1) = true := by simp [x1]
            by_cases hL : 0 < L.length
            · have hL' : (0 : Int) < L.length := by omega
              simp (config := {implicitDefEqProofs := false, maxDischargeDepth := 20}) (disch := first | omega | (simp only [lenE]; done) | (simp only [lenE]; omega) | rfl | (simp only [lenE, markR_len]; done) | (simp only [lenE, markR_len]; omega)) only [runE, mapE, listE, initT_5, initT_6, initT_7, initT_8, resV, oneV, binA, unA, reduceCtorEq, Nat.reduceEqDiff, Nat.reduceAdd, Nat.reduceLT, Nat.reduceLeDiff, Nat.reduceMul, Nat.reduceSub, ↓reduceIte, decide_true, decide_false, Bool.true_eq_false, Bool.false_eq_true, Bool.not_true, Bool.not_false, if_true, if_false, and_true, true_and, memE, celE, w64, Nat.zero_add, Nat.add_zero, Nat.mul_one, putL, and_self, ldn, tm, t0, t3, t5, t8, x0', x1', gt_iff_lt, hL', bl_q1]
              refine callH_ac (among_new M2 cb id a2 l [-11, 3, 0] d2.cur (by omega) rfl rfl (by simp) (by simp)) ?_
              rintro v M3 ⟨y, -, rfl, w3, a3, ha3, k3⟩
              have d3 := d2.draw w3 k3
              simp (config := {implicitDefEqProofs := false, maxDischargeDepth := 20}) (disch := first | omega | (simp only [lenE]; done) | (simp only [lenE]; omega) | rfl | (simp only [lenE, markR_len]; done) | (simp only [lenE, markR_len]; omega)) only [runE, mapE, listE, initT_5, initT_6, initT_7, initT_8, resV, oneV, binA, unA, reduceCtorEq, Nat.reduceEqDiff, Nat.reduceAdd, Nat.reduceLT, Nat.reduceLeDiff, Nat.reduceMul, Nat.reduceSub, ↓reduceIte, decide_true, decide_false, Bool.true_eq_false, Bool.false_eq_true, Bool.not_true, Bool.not_false, if_true, if_false, and_true, true_and, memE, celE, w64, Nat.zero_add, Nat.add_zero, Nat.mul_one, putL, and_self, ldn, tm, t0, t3, t5, t8, bl_q2]
              refine callH_ac (among_new M3 cb id a3 l [11, 0, -10] d3.cur (by omega) rfl rfl (by simp) (by simp)) ?_
              rintro v M4 ⟨z, -, rfl, w4, a4, ha4, k4⟩
              have d4 := d3.draw w4 k4
              obtain ⟨M5, q1, q2, d5⟩ := d4.set0 y z hL
              simp (config := {implicitDefEqProofs := false, maxDischargeDepth := 20}) (disch := first | omega | (simp only [lenE]; done) | (simp only [lenE]; omega) | rfl | (simp only [lenE, markR_len]; done) | (simp only [lenE, markR_len]; omega)) only [runE, mapE, listE, initT_5, initT_6, initT_7, initT_8, resV, oneV, binA, unA, reduceCtorEq, Nat.reduceEqDiff, Nat.reduceAdd, Nat.reduceLT, Nat.reduceLeDiff, Nat.reduceMul, Nat.reduceSub, ↓reduceIte, decide_true, decide_false, Bool.true_eq_false, Bool.false_eq_true, Bool.not_true, Bool.not_false, if_true, if_false, and_true, true_and, memE, celE, w64, Nat.zero_add, Nat.add_zero, Nat.mul_one, putL, and_self, ldn, tm, t0, t3, t5, t8, bld_2, q1, stP_aggL, q2]
              exact ⟨_, a4, by omega, d5.cw, d5.cur, by simpa using d5.ql⟩
            · have hL' : ¬ ((0 : Int) < L.length) := by omega
              simp (config := {implicitDefEqProofs := false, maxDischargeDepth := 20}) (disch := first | omega | (simp only [lenE]; done) | (simp only [lenE]; omega) | rfl | (simp only [lenE, markR_len]; done) | (simp only [lenE, markR_len]; omega)) only [runE, mapE, listE, initT_5, initT_6, initT_7, initT_8, resV, oneV, binA, unA, reduceCtorEq, Nat.reduceEqDiff, Nat.reduceAdd, Nat.reduceLT, Nat.reduceLeDiff, Nat.reduceMul, Nat.reduceSub, ↓reduceIte, decide_true, decide_false, Bool.true_eq_false, Bool.false_eq_true, Bool.not_true, Bool.not_false, if_true, if_false, and_true, true_and, memE, celE, w64, Nat.zero_add, Nat.add_zero, Nat.mul_one, putL, and_self, ldn, tm, t0, t3, t5, t8, x0', x1', gt_iff_lt, hL']
              exact ⟨_, a2, by omega, d2.cw, d2.cur, by simpa using d2.ql⟩
          · have x1' : (x == 1) = false := by simp [x1]
            simp (config := {implicitDefEqProofs := false, maxDischargeDepth := 20}) (disch := first | omega | (simp only [lenE]; done) | (simp only [lenE]; omega) | rfl | (simp only [lenE, markR_len]; done) | (simp only [lenE, markR_len]; omega)) only [runE, mapE, listE, initT_5, initT_6, initT_7, initT_8, resV, oneV, binA, unA, reduceCtorEq, Nat.reduceEqDiff, Nat.reduceAdd, Nat.reduceLT, Nat.reduceLeDiff, Nat.reduceMul, Nat.reduceSub, ↓reduceIte, decide_true, decide_false, Bool.true_eq_false, Bool.false_eq_true, Bool.not_true, Bool.not_false, if_true, if_false, and_true, true_and, memE, celE, w64, Nat.zero_add, Nat.add_zero, Nat.mul_one, putL, and_self, ldn, tm, t0, t3, t5, t8, x0', x1']
            exact ⟨_, a2, by omega, d2.cw, d2.cur, by simpa using d2.ql⟩

end Go.Proofs.Ytbchcbhleldhiaa.Ab
end
section
namespace Go.Proofs.Ytbchcbhleldhiaa.Ab
open Go Go.RowKit
set_option linter.unusedVariables false
set_option linter.unusedSimpArgs false
theorem ext_of {m M' : Mem} (hl : m.length ≤ M'.length) (old : ∀ i, i < m.length → M'[i]? = (roM m)[i]?) (new : ∀ (i : Nat) (b : Blk), m.length ≤ i → M'[i]? = some b → b.kd ≠ .ro) : Ext m M' := by
  have e : M' = roM m ++ M'.drop m.length := by
    apply List.ext_getElem?
    intro i
    by_cases hi : i < m.length
    · rw [List.getElem?_append_left (by rw [roM_len]; exact hi), old i hi]
    · rw [List.getElem?_append_right (by rw [roM_len]; omega), List.getElem?_drop, roM_len, Nat.add_sub_cancel' (by omega)]
  refine ⟨M'.drop m.length, e, fun c hc => ?_⟩
  obtain ⟨j, hj, rfl⟩ := List.getElem_of_mem hc
  have hg : M'[m.length + j]? = some (M'.drop m.length)[j] := by
    rw [← List.getElem?_drop, List.getElem?_eq_getElem hj]
  exact new (m.length + j) _ (by omega) hg
theorem Cw.noRo {id : Nat} {A B : Mem} {lo : Nat} (h : Cw id A B) (hA : ∀ (i : Nat) (b : Blk), lo ≤ i → A[i]? = some b → b.kd ≠ .ro) {cb a : Nat} {l : List Int} (k : CurA B cb l id a) : ∀ (i : Nat) (b : Blk), lo ≤ i → B[i]? = some b → b.kd ≠ .ro := fun i b hi hb => by
  by_cases e : i = id
  · subst e
    obtain ⟨s, h2⟩ := k.box
    rw [h2] at hb
    cases hb
    simp
  · by_cases hl : i < A.length
    · rw [h.old i e hl] at hb; exact hA i b hi hb
    · exact h.new i b (by omega) hb
theorem PL.up {lo : Nat} {M M' : Mem} {u : Value} {w : List Int} (h : PL lo M u w) (hl : M.length ≤ M'.length) (hs : ∀ i, lo ≤ i → i < M.length → M'[i]? = M[i]?) : PL lo M' u w := fun M3 h3 =>
  h M3 fun i a b => (h3 i a (by omega)).trans (hs i a b)
theorem PL.lower {lo lo' : Nat} {M : Mem} {u : Value} {w : List Int} (h : PL lo M u w) (hl : lo' ≤ lo) : PL lo' M u w := fun M3 h3 => h M3 fun i a b => h3 i (by omega) b
theorem QL.up {lo : Nat} {M M' : Mem} {v : Value} {L : List (Int × Int)} (h : QL lo M v L) (hl : M.length ≤ M'.length) (hs : ∀ i, lo ≤ i → i < M.length → M'[i]? = M[i]?) : QL lo M' v L := fun M3 h3 =>
  h M3 fun i a b => (h3 i a (by omega)).trans (hs i a b)
theorem QL.lower {lo lo' : Nat} {M : Mem} {v : Value} {L : List (Int × Int)} (h : QL lo M v L) (hl : lo' ≤ lo) : QL lo' M v L := fun M3 h3 => h M3 fun i a b => h3 i (by omega) b
def AnsPP (m : Mem) (r : Value) (new : Mem) : Prop :=
  NoRo new ∧ ∃ (p : Pr) (u v : Value) (L : List (Int × Int)), r = .tuple #[procV p u, v] ∧ PL m.length (m ++ new) u p.w ∧ QL m.length (m ++ new) v L
theorem fin_pp {m M : Mem} {p : Pr} {u v : Value} {L : List (Int × Int)} (hX : Ext m M) (hp : PL m.length M u p.w) (hq : QL m.length M v L) : newQ m (AnsPP m) (.tuple #[procV p u, v]) M := by
  obtain ⟨n0, rfl, h0⟩ := hX
  have e : ∀ i, m.length ≤ i → (m ++ n0)[i]? = (roM m ++ n0)[i]? := fun i hi => by
    rw [List.getElem?_append_right hi, List.getElem?_append_right (by rw [roM_len]; exact hi), roM_len]
  exact ⟨n0, rfl, h0, h0, p, u, v, L, rfl, hp.up (by simp [roM_len]) fun i a _ => e i a, hq.up (by simp [roM_len]) fun i a _ => e i a⟩
theorem ones_proc {M : Mem} {p : Pr} {u : Value} (h : IntsA M u p.w) : onesB (procC p u) = true := by
  have e : u.oneCell' = true := by simpa [onesB] using h.one []
  simp only [onesB, procC, List.all_cons, List.all_nil, Bool.and_true, e]
  rfl
theorem DrawIsPolicy_rc (m : Mem) (cb fl : Nat) (l : List Int) (h : BytesA m cb l) :
    RC Try.prog 32 [.slice (some ⟨cb, 0, none⟩) l.length fl] m (AnsPP m) := by
  refine rc_of_run mixed ok_spec_DrawIsPolicy (by simp) (go_start _ _ _ ?_)
  simp (config := {implicitDefEqProofs := false, maxDischargeDepth := 20}) (disch := first | omega | (simp only [lenE]; done) | (simp only [lenE]; omega) | rfl | (simp only [lenE, markR_len]; done) | (simp only [lenE, markR_len]; omega)) only [runE, mapE, listE, initT_5, initT_6, initT_7, initT_8, resV, oneV, binA, unA, reduceCtorEq, Nat.reduceEqDiff, Nat.reduceAdd, Nat.reduceLT, Nat.reduceLeDiff, Nat.reduceMul, Nat.reduceSub, ↓reduceIte, decide_true, decide_false, Bool.true_eq_false, Bool.false_eq_true, Bool.not_true, Bool.not_false, if_true, if_false, and_true, true_and, memE, celE, w64, Nat.zero_add, Nat.add_zero, Nat.mul_one, putL, and_self, ldn, c_spec_DrawIsPolicy, r_spec_DrawIsPolicy, bldCur]
  obtain ⟨M0, hM0⟩ : ∃ M0 : Mem, M0 = roM m ++ [⟨.own, 26, [.int .i64 0, .slice none 0 0, .int .i64 0, .int .i64 0, .int .i64 0, .int .i64 0]⟩] := ⟨_, rfl⟩
  have hl0 : M0.length = m.length + 1 := by rw [hM0]; simp [roM_len]
  have hres : OwnB M0 m.length 26 [.int .i64 0, .slice none 0 0, .int .i64 0, .int .i64 0, .int .i64 0, .int .i64 0] := by rw [hM0]; exact OwnB.here (roM_len m).symm
  have hx0 : Ext m M0 := by rw [hM0]; exact (Ext.refl m).one _ _
  have hb0 : M0[cb]? = some ⟨.ro, 5, l.map (Value.int .u8)⟩ := by
    have := h.ro
    rw [hM0, List.getElem?_append_left (List.getElem?_eq_some_iff.1 this).1]; exact this
  rw [← hM0]
  have k0 : CurA (M0 ++ [⟨.own, 78, [.slice (some ⟨cb, 0, none⟩) l.length fl, .int .i64 0, .int .u64 0]⟩]) cb l M0.length 0 :=
    ⟨by rw [List.getElem?_append_left (List.getElem?_eq_some_iff.1 hb0).1]; exact hb0, h.byte, h.few, (fl, 0), by simp⟩
  have hx1 : Ext m (M0 ++ [⟨.own, 78, [.slice (some ⟨cb, 0, none⟩) l.length fl, .int .i64 0, .int .u64 0]⟩]) := hx0.one _ _
  have hl1 : (M0 ++ [(⟨.own, 78, [.slice (some ⟨cb, 0, none⟩) l.length fl, .int .i64 0, .int .u64 0]⟩ : Blk)]).length = m.length + 2 := by simp; omega
  have hres1 := hres.ext [⟨.own, 78, [.slice (some ⟨cb, 0, none⟩) l.length fl, .int .i64 0, .int .u64 0]⟩]
  obtain ⟨id, hid⟩ : ∃ id, id = m.length + 1 := ⟨_, rfl⟩
  rw [hl0, ← hid] at k0
  rw [← hid]
  generalize M0 ++ [(⟨.own, 78, [.slice (some ⟨cb, 0, none⟩) l.length fl, .int .i64 0, .int .u64 0]⟩ : Blk)] = M1 at *
  clear hres hx0 hM0
  refine callH_ac (process_ac M1 cb id 0 l k0 (by omega)) ?_
  rintro v M2 ⟨p, u, a2, rfl, ha2, w2, k2, pl2⟩
  have hu := pl2.here
  have on := ones_proc hu
  have l2 := w2.len
  have s1 : stA (M2 ++ [⟨.own, 26, [.int .i64 0, .slice none 0 0, .int .i64 0, .int .i64 0, .int .i64 0, .int .i64 0]⟩]) M2.length 0 (procC p u) = some (M2 ++ [⟨.own, 26, procC p u⟩]) := by
    rw [(OwnB.here rfl).st (by simp) on]
    simp [putL]
  have b3 : OwnB (M2 ++ [⟨.own, 26, procC p u⟩]) M2.length 26 (procC p u) := OwnB.here rfl
  have w3 : Cw id M1 (M2 ++ [⟨.own, 26, procC p u⟩]) := w2.ext (noRo_own noRo_nil)
  have k3 := k2.ext [⟨.own, 26, procC p u⟩]
  have hu3 := hu.ext [⟨.own, 26, procC p u⟩]
  simp (config := {implicitDefEqProofs := false, maxDischargeDepth := 20}) (disch := first | omega | (simp only [lenE]; done) | (simp only [lenE]; omega) | rfl | (simp only [lenE, markR_len]; done) | (simp only [lenE, markR_len]; omega)) only [runE, mapE, listE, initT_5, initT_6, initT_7, initT_8, resV, oneV, binA, unA, reduceCtorEq, Nat.reduceEqDiff, Nat.reduceAdd, Nat.reduceLT, Nat.reduceLeDiff, Nat.reduceMul, Nat.reduceSub, ↓reduceIte, decide_true, decide_false, Bool.true_eq_false, Bool.false_eq_true, Bool.not_true, Bool.not_false, if_true, if_false, and_true, true_and, memE, celE, w64, Nat.zero_add, Nat.add_zero, Nat.mul_one, putL, and_self, ldn, stP_aggL, s1, b3.rd]
  with_reducible refine ⟨?_, ?_⟩
  all_goals
    refine callH_ac (policy_ac _ cb id a2 l p u k3 (by omega) hu3) ?_
    rintro v M4 ⟨L, a4, ha4, w4, k4, ql⟩
    have w14 := Cw.trans (by omega) w3 w4
    have l3 : (M2 ++ [(⟨.own, 26, procC p u⟩ : Blk)]).length = M2.length + 1 := by simp
    have l4 := w4.len
    have b4 : OwnB M4 M2.length 26 (procC p u) := b3.at_ (w4.old _ (by omega) (by omega))
    have r4 : OwnB M4 m.length 26 [.int .i64 0, .slice none 0 0, .int .i64 0, .int .i64 0, .int .i64 0, .int .i64 0] := hres1.at_ (w14.old _ (by omega) (by omega))
    have s4 := (r4.st (off := 0) (vs := procC p u) (by simp) on).trans (show _ = some (M4.set m.length ⟨.own, 26, procC p u⟩) by simp [putL])
    have b5 := r4.set_self 26 (procC p u)
    simp (config := {implicitDefEqProofs := false, maxDischargeDepth := 20}) (disch := first | omega | (simp only [lenE]; done) | (simp only [lenE]; omega) | rfl | (simp only [lenE, markR_len]; done) | (simp only [lenE, markR_len]; omega)) only [runE, mapE, listE, initT_5, initT_6, initT_7, initT_8, resV, oneV, binA, unA, reduceCtorEq, Nat.reduceEqDiff, Nat.reduceAdd, Nat.reduceLT, Nat.reduceLeDiff, Nat.reduceMul, Nat.reduceSub, ↓reduceIte, decide_true, decide_false, Bool.true_eq_false, Bool.false_eq_true, Bool.not_true, Bool.not_false, if_true, if_false, and_true, true_and, memE, celE, w64, Nat.zero_add, Nat.add_zero, Nat.mul_one, putL, and_self, ldn, stP_aggL, b4.rd, s4, b5.rd]
    refine fin_pp (L := L) ?_ ?_ ?_
    · obtain ⟨n1, e1, h1⟩ := hx1
      have nro1 : ∀ (i : Nat) (b : Blk), m.length ≤ i → M1[i]? = some b → b.kd ≠ .ro := fun i b hi hb => by
        rw [e1, List.getElem?_append_right (by rw [roM_len]; exact hi)] at hb
        exact h1 b (List.mem_of_getElem? hb)
      have nro4 := w14.noRo nro1 k4
      refine ext_of (by rw [List.length_set]; omega) (fun i hi => ?_) (fun i b hi hb => ?_)
      · rw [List.getElem?_set_ne (by omega), w14.old i (by omega) (by omega), e1, List.getElem?_append_left (by rw [roM_len]; exact hi)]
      · by_cases e : i = m.length
        · subst e
          rw [List.getElem?_set_self r4.lt] at hb
          cases hb
          simp
        · rw [List.getElem?_set_ne (by omega)] at hb
          exact nro4 i b hi hb
    · refine ((pl2.lower (lo' := m.length + 2) (by omega)).up (M' := M4.set m.length ⟨.own, 26, procC p u⟩) (by rw [List.length_set]; omega) fun i h1 h2 => ?_).lower (by omega)
      rw [List.getElem?_set_ne (by omega), w4.old i (by omega) (by omega), List.getElem?_append_left h2]
    · refine ((ql.lower (lo' := m.length + 2) (by omega)).up (M' := M4.set m.length ⟨.own, 26, procC p u⟩) (by rw [List.length_set]; omega) fun i h1 h2 => ?_).lower (by omega)
      rw [List.getElem?_set_ne (by omega)]
theorem DrawPolicyWorth_rc (m : Mem) (cb fl : Nat) (l : List Int) (h : BytesA m cb l) :
    RC Try.prog 6 [.slice (some ⟨cb, 0, none⟩) l.length fl] m (AnsPP m) := by
  refine rc_of_run mixed ok_spec_DrawPolicyWorth (by simp) (go_start _ _ _ ?_)
  have hB : BytesA (roM m ++ [⟨.own, 26, [.int .i64 0, .slice none 0 0, .int .i64 0, .int .i64 0, .int .i64 0, .int .i64 0]⟩]) cb l :=
    BytesA.ext ⟨⟨.ro, by simp, h.ro⟩, h.byte, h.few⟩ _
  simp (config := {implicitDefEqProofs := false, maxDischargeDepth := 20}) (disch := first | omega | (simp only [lenE]; done) | (simp only [lenE]; omega) | rfl | (simp only [lenE, markR_len]; done) | (simp only [lenE, markR_len]; omega)) only [runE, mapE, listE, initT_5, initT_6, initT_7, initT_8, resV, oneV, binA, unA, reduceCtorEq, Nat.reduceEqDiff, Nat.reduceAdd, Nat.reduceLT, Nat.reduceLeDiff, Nat.reduceMul, Nat.reduceSub, ↓reduceIte, decide_true, decide_false, Bool.true_eq_false, Bool.false_eq_true, Bool.not_true, Bool.not_false, if_true, if_false, and_true, true_and, memE, celE, w64, Nat.zero_add, Nat.add_zero, Nat.mul_one, putL, and_self, ldn, c_spec_DrawPolicyWorth, r_spec_DrawPolicyWorth]
  refine callH_rc (DrawIsPolicy_rc _ cb fl l hB) ?_
  rintro r new ⟨nr, p, u, v, L, rfl, pl, ql⟩
  have on := ones_proc pl.here
  have r4 : OwnB (roM m ++ [⟨.own, 26, [.int .i64 0, .slice none 0 0, .int .i64 0, .int .i64 0, .int .i64 0, .int .i64 0]⟩] ++ new) m.length 26 [.int .i64 0, .slice none 0 0, .int .i64 0, .int .i64 0, .int .i64 0, .int .i64 0] := (OwnB.here (roM_len m).symm).ext _
  have hX : Ext m (roM m ++ [⟨.own, 26, [.int .i64 0, .slice none 0 0, .int .i64 0, .int .i64 0, .int .i64 0, .int .i64 0]⟩] ++ new) := ((Ext.refl m).one _ _).app nr
  have hl1 : (roM m ++ [(⟨.own, 26, [.int .i64 0, .slice none 0 0, .int .i64 0, .int .i64 0, .int .i64 0, .int .i64 0]⟩ : Blk)]).length = m.length + 1 := by simp [roM_len]
  rw [hl1] at pl ql
  clear hl1 hB
  generalize roM m ++ [(⟨.own, 26, [.int .i64 0, .slice none 0 0, .int .i64 0, .int .i64 0, .int .i64 0, .int .i64 0]⟩ : Blk)] ++ new = M4 at *
  have s4 := (r4.st (off := 0) (vs := procC p u) (by simp) on).trans (show _ = some (M4.set m.length ⟨.own, 26, procC p u⟩) by simp [putL])
  have b5 := r4.set_self 26 (procC p u)
  simp (config := {implicitDefEqProofs := false, maxDischargeDepth := 20}) (disch := first | omega | (simp only [lenE]; done) | (simp only [lenE]; omega) | rfl | (simp only [lenE, markR_len]; done) | (simp only [lenE, markR_len]; omega)) only [runE, mapE, listE, initT_5, initT_6, initT_7, initT_8, resV, oneV, binA, unA, reduceCtorEq, Nat.reduceEqDiff, Nat.reduceAdd, Nat.reduceLT, Nat.reduceLeDiff, Nat.reduceMul, Nat.reduceSub, ↓reduceIte, decide_true, decide_false, Bool.true_eq_false, Bool.false_eq_true, Bool.not_true, Bool.not_false, if_true, if_false, and_true, true_and, memE, celE, w64, Nat.zero_add, Nat.add_zero, Nat.mul_one, putL, and_self, ldn, ext_2_0, ext_2_1, stP_aggL, s4, b5.rd]
  refine fin_pp (L := L) (hX.put (Nat.le_refl _) _ _) ?_ ?_
  · refine (pl.up (M' := M4.set m.length ⟨.own, 26, procC p u⟩) (by rw [List.length_set]; omega) fun i h1 h2 => ?_).lower (by omega)
    rw [List.getElem?_set_ne (by omega)]
  · refine (ql.up (M' := M4.set m.length ⟨.own, 26, procC p u⟩) (by rw [List.length_set]; omega) fun i h1 h2 => ?_).lower (by omega)
    rw [List.getElem?_set_ne (by omega)]
theorem rBig_rc (m : Mem) (cb fl : Nat) (n : Nat) : RC Try.prog 5 [.slice (some ⟨cb, 0, none⟩) n fl] m fun r new => r = .bool (decide (65536 < n)) ∧ new = [] := by
  refine rc_of_run mixed ok_laws_rBig (by simp) (go_start _ _ _ ?_)
  simp (config := {implicitDefEqProofs := false, maxDischargeDepth := 20}) (disch := first | omega | (simp only [lenE]; done) | (simp only [lenE]; omega) | rfl | (simp only [lenE, markR_len]; done) | (simp only [lenE, markR_len]; omega)) only [runE, mapE, listE, initT_5, initT_6, initT_7, initT_8, resV, oneV, binA, unA, reduceCtorEq, Nat.reduceEqDiff, Nat.reduceAdd, Nat.reduceLT, Nat.reduceLeDiff, Nat.reduceMul, Nat.reduceSub, ↓reduceIte, decide_true, decide_false, Bool.true_eq_false, Bool.false_eq_true, Bool.not_true, Bool.not_false, if_true, if_false, and_true, true_and, memE, celE, w64, Nat.zero_add, Nat.add_zero, Nat.mul_one, putL, and_self, ldn, c_laws_rBig, r_laws_rBig, gt_iff_lt]
  refine newQ_nil ⟨?_, rfl⟩
  congr 1
  rw [decide_eq_decide]
  omega
theorem rInts_rc (m : Mem) (v u : Value) (l : List Int) (h : IntsA m v l) (h' : IntsA m u l) : RC Try.prog 9 [v, u] m fun r new => r = .bool true ∧ new = [] := by
  refine rc_of_run mixed ok_laws_rInts (by simp) (go_start _ _ _ ?_)
  obtain ⟨e1, e2, e3, e4, -⟩ := h.ro
  obtain ⟨d1, d2, d3, d4, -⟩ := h'.ro
  simp (config := {implicitDefEqProofs := false, maxDischargeDepth := 20}) (disch := first | omega | (simp only [lenE]; done) | (simp only [lenE]; omega) | rfl | (simp only [lenE, markR_len]; done) | (simp only [lenE, markR_len]; omega)) only [runE, mapE, listE, initT_5, initT_6, initT_7, initT_8, resV, oneV, binA, unA, reduceCtorEq, Nat.reduceEqDiff, Nat.reduceAdd, Nat.reduceLT, Nat.reduceLeDiff, Nat.reduceMul, Nat.reduceSub, ↓reduceIte, decide_true, decide_false, Bool.true_eq_false, Bool.false_eq_true, Bool.not_true, Bool.not_false, if_true, if_false, and_true, true_and, memE, celE, w64, Nat.zero_add, Nat.add_zero, Nat.mul_one, putL, and_self, ldn, c_laws_rInts, r_laws_rInts, e1, d1, bne_self_eq_false]
  refine loop_inv mixed (fun s => ∃ k : Nat, k ≤ l.length ∧ s.t 0 = v ∧ s.t 1 = u ∧ s.t 5 = .int .i64 k ∧ s.m = roM m) (fun s => l.length - (intOf (s.t 5)).toNat) ⟨0, by omega, rfl, rfl, rfl, rfl⟩ ?_
  rintro s ⟨k, hk, t0, t1, t5, tm⟩
  by_cases hlt : k < l.length
  · have hlt' : (k : Int) < l.length := by omega
    simp (config := {implicitDefEqProofs := false, maxDischargeDepth := 20}) (disch := first | omega | (simp only [lenE]; done) | (simp only [lenE]; omega) | rfl | (simp only [lenE, markR_len]; done) | (simp only [lenE, markR_len]; omega)) only [runE, mapE, listE, initT_5, initT_6, initT_7, initT_8, resV, oneV, binA, unA, reduceCtorEq, Nat.reduceEqDiff, Nat.reduceAdd, Nat.reduceLT, Nat.reduceLeDiff, Nat.reduceMul, Nat.reduceSub, ↓reduceIte, decide_true, decide_false, Bool.true_eq_false, Bool.false_eq_true, Bool.not_true, Bool.not_false, if_true, if_false, and_true, true_and, memE, celE, w64, Nat.zero_add, Nat.add_zero, Nat.mul_one, putL, and_self, ldn, t0, t1, t5, tm, e1, e3 k hlt, e4 k hlt, d3 k hlt, d4 k hlt, hlt', bne_self_eq_false]
    exact ⟨⟨k + 1, by omega, by simp⟩, by simp [intOf]; omega⟩
  · have hlt' : ¬ ((k : Int) < l.length) := by omega
    simp (config := {implicitDefEqProofs := false, maxDischargeDepth := 20}) (disch := first | omega | (simp only [lenE]; done) | (simp only [lenE]; omega) | rfl | (simp only [lenE, markR_len]; done) | (simp only [lenE, markR_len]; omega)) only [runE, mapE, listE, initT_5, initT_6, initT_7, initT_8, resV, oneV, binA, unA, reduceCtorEq, Nat.reduceEqDiff, Nat.reduceAdd, Nat.reduceLT, Nat.reduceLeDiff, Nat.reduceMul, Nat.reduceSub, ↓reduceIte, decide_true, decide_false, Bool.true_eq_false, Bool.false_eq_true, Bool.not_true, Bool.not_false, if_true, if_false, and_true, true_and, memE, celE, w64, Nat.zero_add, Nat.add_zero, Nat.mul_one, putL, and_self, ldn, t0, t1, t5, tm, e1, hlt']
    exact newQ_nil ⟨rfl, rfl⟩
theorem rTable_rc (m : Mem) (v u : Value) (T : List (List Int)) (h : TabA m v T) (h' : TabA m u T) : RC Try.prog 15 [v, u] m (AnsV (.bool true)) := by
  refine rc_of_run mixed ok_laws_rTable (by simp) (go_start _ _ _ ?_)
  have hr := h.ro
  have hr' := h'.ro
  have hb := hr.bd
  simp (config := {implicitDefEqProofs := false, maxDischargeDepth := 20}) (disch := first | omega | (simp only [lenE]; done) | (simp only [lenE]; omega) | rfl | (simp only [lenE, markR_len]; done) | (simp only [lenE, markR_len]; omega)) only [runE, mapE, listE, initT_5, initT_6, initT_7, initT_8, resV, oneV, binA, unA, reduceCtorEq, Nat.reduceEqDiff, Nat.reduceAdd, Nat.reduceLT, Nat.reduceLeDiff, Nat.reduceMul, Nat.reduceSub, ↓reduceIte, decide_true, decide_false, Bool.true_eq_false, Bool.false_eq_true, Bool.not_true, Bool.not_false, if_true, if_false, and_true, true_and, memE, celE, w64, Nat.zero_add, Nat.add_zero, Nat.mul_one, putL, and_self, ldn, c_laws_rTable, r_laws_rTable, hr.len, hr'.len, bne_self_eq_false]
  refine loop_inv mixed (fun s => ∃ (k : Nat), k ≤ T.length ∧ s.m = roM m ∧ s.t 0 = v ∧ s.t 1 = u ∧ s.t 5 = .int .i64 k) (fun s => T.length - (intOf (s.t 5)).toNat)
    ⟨0, by omega, rfl, rfl, rfl, rfl⟩ ?_
  rintro s ⟨k, hk, tm, t0, t1, t5⟩
  by_cases hlt : k < T.length
  · have hlt' : (k : Int) < T.length := by omega
    obtain ⟨x, hx, hl⟩ := hr.ld k hlt
    obtain ⟨y, hy, hl'⟩ := hr'.ld k hlt
    simp (config := {implicitDefEqProofs := false, maxDischargeDepth := 20}) (disch := first | omega | (simp only [lenE]; done) | (simp only [lenE]; omega) | rfl | (simp only [lenE, markR_len]; done) | (simp only [lenE, markR_len]; omega)) only [runE, mapE, listE, initT_5, initT_6, initT_7, initT_8, resV, oneV, binA, unA, reduceCtorEq, Nat.reduceEqDiff, Nat.reduceAdd, Nat.reduceLT, Nat.reduceLeDiff, Nat.reduceMul, Nat.reduceSub, ↓reduceIte, decide_true, decide_false, Bool.true_eq_false, Bool.false_eq_true, Bool.not_true, Bool.not_false, if_true, if_false, and_true, true_and, memE, celE, w64, Nat.zero_add, Nat.add_zero, Nat.mul_one, putL, and_self, ldn, tm, t0, t1, t5, hlt', hr.len, hr.at_ k hlt, hr'.at_ k hlt, hx, hy]
    refine rcallH_rc (rInts_rc _ x y _ hl hl') ?_
    rintro r new ⟨rfl, rfl⟩
    simp (config := {implicitDefEqProofs := false, maxDischargeDepth := 20}) (disch := first | omega | (simp only [lenE]; done) | (simp only [lenE]; omega) | rfl | (simp only [lenE, markR_len]; done) | (simp only [lenE, markR_len]; omega)) only [runE, mapE, listE, initT_5, initT_6, initT_7, initT_8, resV, oneV, binA, unA, reduceCtorEq, Nat.reduceEqDiff, Nat.reduceAdd, Nat.reduceLT, Nat.reduceLeDiff, Nat.reduceMul, Nat.reduceSub, ↓reduceIte, decide_true, decide_false, Bool.true_eq_false, Bool.false_eq_true, Bool.not_true, Bool.not_false, if_true, if_false, and_true, true_and, memE, celE, w64, Nat.zero_add, Nat.add_zero, Nat.mul_one, putL, and_self, ldn, tm, t0, t1, t5]
    refine ⟨⟨k + 1, by omega, by simp⟩, ?_⟩
    simp [intOf]; omega
  · have hlt' : ¬ ((k : Int) < T.length) := by omega
    simp (config := {implicitDefEqProofs := false, maxDischargeDepth := 20}) (disch := first | omega | (simp only [lenE]; done) | (simp only [lenE]; omega) | rfl | (simp only [lenE, markR_len]; done) | (simp only [lenE, markR_len]; omega)) only [runE, mapE, listE, initT_5, initT_6, initT_7, initT_8, resV, oneV, binA, unA, reduceCtorEq, Nat.reduceEqDiff, Nat.reduceAdd, Nat.reduceLT, Nat.reduceLeDiff, Nat.reduceMul, Nat.reduceSub, ↓reduceIte, decide_true, decide_false, Bool.true_eq_false, Bool.false_eq_true, Bool.not_true, Bool.not_false, if_true, if_false, and_true, true_and, memE, celE, w64, Nat.zero_add, Nat.add_zero, Nat.mul_one, putL, and_self, ldn, tm, t0, t1, t5, hlt', hr.len]
    exact newQ_nil ⟨rfl, noRo_nil⟩
theorem ae2 (a b : Int) : aeqA true 2 (.agg #[.int .i64 a, .int .i64 b]) (.agg #[.int .i64 a, .int .i64 b]) = some (.bool false) := by
  simp [aeqA, intsEq]
theorem rPairs_rc (m : Mem) (v u : Value) (L : List (Int × Int)) (h : PairsA m v L) (h' : PairsA m u L) : RC Try.prog 18 [v, u] m (AnsV (.bool true)) := by
  refine rc_of_run mixed ok_laws_rPairs (by simp) (go_start _ _ _ ?_)
  obtain ⟨hb, id, fl, rfl, hc⟩ := h.ro
  obtain ⟨-, id', fl', rfl, hc'⟩ := h'.ro
  simp (config := {implicitDefEqProofs := false, maxDischargeDepth := 20}) (disch := first | omega | (simp only [lenE]; done) | (simp only [lenE]; omega) | rfl | (simp only [lenE, markR_len]; done) | (simp only [lenE, markR_len]; omega)) only [runE, mapE, listE, initT_5, initT_6, initT_7, initT_8, resV, oneV, binA, unA, reduceCtorEq, Nat.reduceEqDiff, Nat.reduceAdd, Nat.reduceLT, Nat.reduceLeDiff, Nat.reduceMul, Nat.reduceSub, ↓reduceIte, decide_true, decide_false, Bool.true_eq_false, Bool.false_eq_true, Bool.not_true, Bool.not_false, if_true, if_false, and_true, true_and, memE, celE, w64, Nat.zero_add, Nat.add_zero, Nat.mul_one, putL, and_self, ldn, c_laws_rPairs, r_laws_rPairs, bne_self_eq_false]
  refine loop_inv mixed (fun s => ∃ (k : Nat), k ≤ L.length ∧ s.m = roM m ∧ s.t 0 = .slice (some ⟨id, 0, none⟩) L.length fl ∧ s.t 1 = .slice (some ⟨id', 0, none⟩) L.length fl' ∧ s.t 5 = .int .i64 k) (fun s => L.length - (intOf (s.t 5)).toNat)
    ⟨0, by omega, rfl, rfl, rfl, rfl⟩ ?_
  rintro s ⟨k, hk, tm, t0, t1, t5⟩
  by_cases hlt : k < L.length
  · have hlt' : (k : Int) < L.length := by omega
    simp (config := {implicitDefEqProofs := false, maxDischargeDepth := 20}) (disch := first | omega | (simp only [lenE]; done) | (simp only [lenE]; omega) | rfl | (simp only [lenE, markR_len]; done) | (simp only [lenE, markR_len]; omega)) only [runE, mapE, listE, initT_5, initT_6, initT_7, initT_8, resV, oneV, binA, unA, reduceCtorEq, Nat.reduceEqDiff, Nat.reduceAdd, Nat.reduceLT, Nat.reduceLeDiff, Nat.reduceMul, Nat.reduceSub, ↓reduceIte, decide_true, decide_false, Bool.true_eq_false, Bool.false_eq_true, Bool.not_true, Bool.not_false, if_true, if_false, and_true, true_and, memE, celE, w64, Nat.zero_add, Nat.add_zero, Nat.mul_one, putL, and_self, ldn, tm, t0, t1, t5, hlt', iadA_in hlt, (hc k hlt).1, (hc k hlt).2, (hc' k hlt).1, (hc' k hlt).2, ae2]
    refine ⟨⟨k + 1, by omega, by simp⟩, ?_⟩
    simp [intOf]; omega
  · have hlt' : ¬ ((k : Int) < L.length) := by omega
    simp (config := {implicitDefEqProofs := false, maxDischargeDepth := 20}) (disch := first | omega | (simp only [lenE]; done) | (simp only [lenE]; omega) | rfl | (simp only [lenE, markR_len]; done) | (simp only [lenE, markR_len]; omega)) only [runE, mapE, listE, initT_5, initT_6, initT_7, initT_8, resV, oneV, binA, unA, reduceCtorEq, Nat.reduceEqDiff, Nat.reduceAdd, Nat.reduceLT, Nat.reduceLeDiff, Nat.reduceMul, Nat.reduceSub, ↓reduceIte, decide_true, decide_false, Bool.true_eq_false, Bool.false_eq_true, Bool.not_true, Bool.not_false, if_true, if_false, and_true, true_and, memE, celE, w64, Nat.zero_add, Nat.add_zero, Nat.mul_one, putL, and_self, ldn, tm, t0, t1, t5, hlt']
    exact newQ_nil ⟨rfl, noRo_nil⟩
end Go.Proofs.Ytbchcbhleldhiaa.Ab
end
