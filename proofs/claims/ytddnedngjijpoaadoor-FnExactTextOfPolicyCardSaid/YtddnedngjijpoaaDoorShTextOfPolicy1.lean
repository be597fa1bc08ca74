/- What the law needs of the texts that it rests on. -/
import Derived.Test.YtddnedngjijpoaaDoorShTextOfPolicy0
section
namespace Go.Proofs.YtddnedngjijpoaaDoor.Ab
open Go Go.RowKit
set_option linter.unusedVariables false
set_option linter.unusedSimpArgs false
abbrev pairV (q : Int × Int) : Value := .agg #[.int .i64 q.1, .int .i64 q.2]
def TestP (M : Mem) (fv : Value) (f : Int × Int → Bool) : Prop :=
  ∃ g cap, fv = .func (.func g) #[] cap ∧ ∀ q, RC Tryd.prog g (pairV q :: cap.toList) M (AnsV (.bool (f q)))
theorem noPair_rc (m : Mem) (id : Nat) (u : Value) (p : Pr) (q : Int × Int) (hid : id < m.length) (hb : ∀ j, rdc m id j = [.int .i64 p.turns, u, .int .i64 p.setup, .int .i64 p.unit, .int .i64 p.hold, .int .i64 p.back][j]?) (hu : IntsA m u p.w) (hl : p.w.length ≤ 5) :
    RC Tryd.prog 54 [pairV q, .pointer (some ⟨id, 0, none⟩)] m (AnsV (.bool (!p.pairB q))) := by
  refine rc_of_run mixed ok_impl_isPolicy_1 (by simp) (go_start _ _ _ ?_)
  have hrd : ∀ j, rdc (roM m) id j = [.int .i64 p.turns, u, .int .i64 p.setup, .int .i64 p.unit, .int .i64 p.hold, .int .i64 p.back][j]? := fun j => by rw [rdc_roM]; exact hb j
  obtain ⟨a, b⟩ := q
  unfold Pr.pairB
  simp (config := {implicitDefEqProofs := false, maxDischargeDepth := 20}) (disch := first | omega | (simp only [lenE]; done) | (simp only [lenE]; omega) | rfl | (simp only [lenE, markR_len]; done) | (simp only [lenE, markR_len]; omega)) only [runE, mapE, listE, initT_5, initT_6, initT_7, initT_8, resV, oneV, binA, unA, reduceCtorEq, Nat.reduceEqDiff, Nat.reduceAdd, Nat.reduceLT, Nat.reduceLeDiff, Nat.reduceMul, Nat.reduceSub, ↓reduceIte, decide_true, decide_false, Bool.true_eq_false, Bool.false_eq_true, Bool.not_true, Bool.not_false, if_true, if_false, and_true, true_and, memE, celE, w64, Nat.zero_add, Nat.add_zero, Nat.mul_one, putL, and_self, ldn, c_impl_isPolicy_1, r_impl_isPolicy_1, iada_0, iada_1]
  refine rcallH_rc (isLevel_rc _ a) ?_
  rintro r n1 ⟨rfl, rfl⟩
  cases h1 : levB a with
  | false =>
    simp (config := {implicitDefEqProofs := false, maxDischargeDepth := 20}) (disch := first | omega | (simp only [lenE]; done) | (simp only [lenE]; omega) | rfl | (simp only [lenE, markR_len]; done) | (simp only [lenE, markR_len]; omega)) only [runE, mapE, listE, initT_5, initT_6, initT_7, initT_8, resV, oneV, binA, unA, reduceCtorEq, Nat.reduceEqDiff, Nat.reduceAdd, Nat.reduceLT, Nat.reduceLeDiff, Nat.reduceMul, Nat.reduceSub, ↓reduceIte, decide_true, decide_false, Bool.true_eq_false, Bool.false_eq_true, Bool.not_true, Bool.not_false, if_true, if_false, and_true, true_and, memE, celE, w64, Nat.zero_add, Nat.add_zero, Nat.mul_one, putL, and_self, ldn]
    try simp only [List.append_assoc, List.cons_append, List.nil_append, List.append_nil]
    exact ⟨_, rfl, by (repeat (first | exact noRo_nil | assumption | apply noRo_own | apply noRo_dead | apply noRo_app)), by simp, by (repeat (first | exact noRo_nil | assumption | apply noRo_own | apply noRo_dead | apply noRo_app))⟩
  | true =>
  simp (config := {implicitDefEqProofs := false, maxDischargeDepth := 20}) (disch := first | omega | (simp only [lenE]; done) | (simp only [lenE]; omega) | rfl | (simp only [lenE, markR_len]; done) | (simp only [lenE, markR_len]; omega)) only [runE, mapE, listE, initT_5, initT_6, initT_7, initT_8, resV, oneV, binA, unA, reduceCtorEq, Nat.reduceEqDiff, Nat.reduceAdd, Nat.reduceLT, Nat.reduceLeDiff, Nat.reduceMul, Nat.reduceSub, ↓reduceIte, decide_true, decide_false, Bool.true_eq_false, Bool.false_eq_true, Bool.not_true, Bool.not_false, if_true, if_false, and_true, true_and, memE, celE, w64, Nat.zero_add, Nat.add_zero, Nat.mul_one, putL, and_self, ldn, iada_0, iada_1]
  refine rcallH_rc (isLevel_rc _ b) ?_
  rintro r n1 ⟨rfl, rfl⟩
  cases h2 : levB b with
  | false =>
    simp (config := {implicitDefEqProofs := false, maxDischargeDepth := 20}) (disch := first | omega | (simp only [lenE]; done) | (simp only [lenE]; omega) | rfl | (simp only [lenE, markR_len]; done) | (simp only [lenE, markR_len]; omega)) only [runE, mapE, listE, initT_5, initT_6, initT_7, initT_8, resV, oneV, binA, unA, reduceCtorEq, Nat.reduceEqDiff, Nat.reduceAdd, Nat.reduceLT, Nat.reduceLeDiff, Nat.reduceMul, Nat.reduceSub, ↓reduceIte, decide_true, decide_false, Bool.true_eq_false, Bool.false_eq_true, Bool.not_true, Bool.not_false, if_true, if_false, and_true, true_and, memE, celE, w64, Nat.zero_add, Nat.add_zero, Nat.mul_one, putL, and_self, ldn]
    try simp only [List.append_assoc, List.cons_append, List.nil_append, List.append_nil]
    exact ⟨_, rfl, by (repeat (first | exact noRo_nil | assumption | apply noRo_own | apply noRo_dead | apply noRo_app)), by simp, by (repeat (first | exact noRo_nil | assumption | apply noRo_own | apply noRo_dead | apply noRo_app))⟩
  | true =>
  by_cases h3 : b < a
  · simp (config := {implicitDefEqProofs := false, maxDischargeDepth := 20}) (disch := first | omega | (simp only [lenE]; done) | (simp only [lenE]; omega) | rfl | (simp only [lenE, markR_len]; done) | (simp only [lenE, markR_len]; omega)) only [runE, mapE, listE, initT_5, initT_6, initT_7, initT_8, resV, oneV, binA, unA, reduceCtorEq, Nat.reduceEqDiff, Nat.reduceAdd, Nat.reduceLT, Nat.reduceLeDiff, Nat.reduceMul, Nat.reduceSub, ↓reduceIte, decide_true, decide_false, Bool.true_eq_false, Bool.false_eq_true, Bool.not_true, Bool.not_false, if_true, if_false, and_true, true_and, memE, celE, w64, Nat.zero_add, Nat.add_zero, Nat.mul_one, putL, and_self, ldn, iada_0, iada_1, gt_iff_lt, h3]
    try simp only [List.append_assoc, List.cons_append, List.nil_append, List.append_nil]
    exact ⟨_, rfl, by (repeat (first | exact noRo_nil | assumption | apply noRo_own | apply noRo_dead | apply noRo_app)), by simp; omega, by (repeat (first | exact noRo_nil | assumption | apply noRo_own | apply noRo_dead | apply noRo_app))⟩
  · simp (config := {implicitDefEqProofs := false, maxDischargeDepth := 20}) (disch := first | omega | (simp only [lenE]; done) | (simp only [lenE]; omega) | rfl | (simp only [lenE, markR_len]; done) | (simp only [lenE, markR_len]; omega)) only [runE, mapE, listE, initT_5, initT_6, initT_7, initT_8, resV, oneV, binA, unA, reduceCtorEq, Nat.reduceEqDiff, Nat.reduceAdd, Nat.reduceLT, Nat.reduceLeDiff, Nat.reduceMul, Nat.reduceSub, ↓reduceIte, decide_true, decide_false, Bool.true_eq_false, Bool.false_eq_true, Bool.not_true, Bool.not_false, if_true, if_false, and_true, true_and, memE, celE, w64, Nat.zero_add, Nat.add_zero, Nat.mul_one, putL, and_self, ldn, iada_0, iada_1, gt_iff_lt, h3, hrd]
    refine rcallH_rc (floorOf_rc _ _ p (ProcA.mk (hu.ro.ext _)) hl) ?_
    rintro r n2 ⟨rfl, nr2⟩
    simp (config := {implicitDefEqProofs := false, maxDischargeDepth := 20}) (disch := first | omega | (simp only [lenE]; done) | (simp only [lenE]; omega) | rfl | (simp only [lenE, markR_len]; done) | (simp only [lenE, markR_len]; omega)) only [runE, mapE, listE, initT_5, initT_6, initT_7, initT_8, resV, oneV, binA, unA, reduceCtorEq, Nat.reduceEqDiff, Nat.reduceAdd, Nat.reduceLT, Nat.reduceLeDiff, Nat.reduceMul, Nat.reduceSub, ↓reduceIte, decide_true, decide_false, Bool.true_eq_false, Bool.false_eq_true, Bool.not_true, Bool.not_false, if_true, if_false, and_true, true_and, memE, celE, w64, Nat.zero_add, Nat.add_zero, Nat.mul_one, putL, and_self, ldn]
    try simp only [List.append_assoc, List.cons_append, List.nil_append, List.append_nil]
    refine ⟨_, rfl, by (repeat (first | exact noRo_nil | assumption | apply noRo_own | apply noRo_dead | apply noRo_app)), ?_, by (repeat (first | exact noRo_nil | assumption | apply noRo_own | apply noRo_dead | apply noRo_app))⟩
    have h3' : a ≤ b := by omega
    by_cases h4 : b < p.floor
    · simp [h4]
      try (intro _; omega)
    · simp [h4, h3']
      try omega
theorem indexFuncP_rc (m : Mem) (v fv : Value) (L : List (Int × Int)) (f : Int × Int → Bool) (h : PairsA m v L) (hf : ∀ M, Ext m M → TestP M fv f) :
    RC Tryd.prog 68 [v, fv] m fun r new => NoRo new ∧ ∃ z : Int, r = .int .i64 z ∧ decide (0 ≤ z) = L.any f := by
  refine rc_of_run mixed ok_slices_IndexFunc_a2int (by simp) (go_start _ _ _ ?_)
  obtain ⟨hb, id, fl, rfl, hc⟩ := h.ro
  obtain ⟨g, cap, rfl, -⟩ := hf _ (Ext.refl m)
  simp (config := {implicitDefEqProofs := false, maxDischargeDepth := 20}) (disch := first | omega | (simp only [lenE]; done) | (simp only [lenE]; omega) | rfl | (simp only [lenE, markR_len]; done) | (simp only [lenE, markR_len]; omega)) only [runE, mapE, listE, initT_5, initT_6, initT_7, initT_8, resV, oneV, binA, unA, reduceCtorEq, Nat.reduceEqDiff, Nat.reduceAdd, Nat.reduceLT, Nat.reduceLeDiff, Nat.reduceMul, Nat.reduceSub, ↓reduceIte, decide_true, decide_false, Bool.true_eq_false, Bool.false_eq_true, Bool.not_true, Bool.not_false, if_true, if_false, and_true, true_and, memE, celE, w64, Nat.zero_add, Nat.add_zero, Nat.mul_one, putL, and_self, ldn, c_slices_IndexFunc_a2int, r_slices_IndexFunc_a2int]
  refine loop_inv mixed (fun s => ∃ (k : Nat) (M : Mem), k ≤ L.length ∧ s.m = M ∧ Ext m M ∧ s.t 0 = .slice (some ⟨id, 0, none⟩) L.length fl ∧ s.t 1 = .func (.func g) #[] cap ∧ s.t 7 = .int .i64 L.length ∧ s.t 8 = .int .i64 k ∧ ∀ j, j < k → f (L.getD j (0, 0)) = false) (fun s => L.length - (intOf (s.t 8)).toNat)
    ⟨0, _, by omega, rfl, Ext.refl m, rfl, rfl, rfl, rfl, fun j hj => absurd hj (by omega)⟩ ?_
  rintro s ⟨k, M, hk, tm, hx, t0, t1, t7, t8, hno⟩
  by_cases hlt : k < L.length
  · have hlt' : (k : Int) < L.length := by omega
    have r1 := hx.rd ((rdc_roM m id (k * 2)).symm.trans (hc k hlt).1)
    have r2 := hx.rd ((rdc_roM m id (k * 2 + 1)).symm.trans (hc k hlt).2)
    obtain ⟨g', cap', e, hcall⟩ := hf M hx
    cases e
    simp (config := {implicitDefEqProofs := false, maxDischargeDepth := 20}) (disch := first | omega | (simp only [lenE]; done) | (simp only [lenE]; omega) | rfl | (simp only [lenE, markR_len]; done) | (simp only [lenE, markR_len]; omega)) only [runE, mapE, listE, initT_5, initT_6, initT_7, initT_8, resV, oneV, binA, unA, reduceCtorEq, Nat.reduceEqDiff, Nat.reduceAdd, Nat.reduceLT, Nat.reduceLeDiff, Nat.reduceMul, Nat.reduceSub, ↓reduceIte, decide_true, decide_false, Bool.true_eq_false, Bool.false_eq_true, Bool.not_true, Bool.not_false, if_true, if_false, and_true, true_and, memE, celE, w64, Nat.zero_add, Nat.add_zero, Nat.mul_one, putL, and_self, ldn, tm, t0, t1, t7, t8, hlt', iadA_in hlt, r1, r2]
    refine callH_rc (hcall (L.getD k (0, 0))) ?_
    rintro r new ⟨rfl, hn⟩
    cases hb2 : f (L.getD k (0, 0)) with
    | true =>
      simp (config := {implicitDefEqProofs := false, maxDischargeDepth := 20}) (disch := first | omega | (simp only [lenE]; done) | (simp only [lenE]; omega) | rfl | (simp only [lenE, markR_len]; done) | (simp only [lenE, markR_len]; omega)) only [runE, mapE, listE, initT_5, initT_6, initT_7, initT_8, resV, oneV, binA, unA, reduceCtorEq, Nat.reduceEqDiff, Nat.reduceAdd, Nat.reduceLT, Nat.reduceLeDiff, Nat.reduceMul, Nat.reduceSub, ↓reduceIte, decide_true, decide_false, Bool.true_eq_false, Bool.false_eq_true, Bool.not_true, Bool.not_false, if_true, if_false, and_true, true_and, memE, celE, w64, Nat.zero_add, Nat.add_zero, Nat.mul_one, putL, and_self, ldn, tm, t0, t1, t7, t8]
      obtain ⟨n0, rfl, h0⟩ := hx
      refine ⟨n0 ++ new, by rw [List.append_assoc], noRo_app h0 hn, noRo_app h0 hn, _, rfl, ?_⟩
      have : L.any f = true := by
        rw [List.any_eq_true]
        refine ⟨L.getD k (0, 0), ?_, hb2⟩
        rw [List.getD_eq_getElem?_getD, List.getElem?_eq_getElem hlt]; exact List.getElem_mem hlt
      rw [this]; simp
    | false =>
      simp (config := {implicitDefEqProofs := false, maxDischargeDepth := 20}) (disch := first | omega | (simp only [lenE]; done) | (simp only [lenE]; omega) | rfl | (simp only [lenE, markR_len]; done) | (simp only [lenE, markR_len]; omega)) only [runE, mapE, listE, initT_5, initT_6, initT_7, initT_8, resV, oneV, binA, unA, reduceCtorEq, Nat.reduceEqDiff, Nat.reduceAdd, Nat.reduceLT, Nat.reduceLeDiff, Nat.reduceMul, Nat.reduceSub, ↓reduceIte, decide_true, decide_false, Bool.true_eq_false, Bool.false_eq_true, Bool.not_true, Bool.not_false, if_true, if_false, and_true, true_and, memE, celE, w64, Nat.zero_add, Nat.add_zero, Nat.mul_one, putL, and_self, ldn, tm, t0, t1, t7, t8]
      refine ⟨⟨k + 1, _, by omega, rfl, hx.app hn, by simp, fun j hj => ?_⟩, ?_⟩
      · by_cases e : j = k
        · rw [e]; exact hb2
        · exact hno j (by omega)
      · simp [intOf]; omega
  · have hlt' : ¬ ((k : Int) < L.length) := by omega
    simp (config := {implicitDefEqProofs := false, maxDischargeDepth := 20}) (disch := first | omega | (simp only [lenE]; done) | (simp only [lenE]; omega) | rfl | (simp only [lenE, markR_len]; done) | (simp only [lenE, markR_len]; omega)) only [runE, mapE, listE, initT_5, initT_6, initT_7, initT_8, resV, oneV, binA, unA, reduceCtorEq, Nat.reduceEqDiff, Nat.reduceAdd, Nat.reduceLT, Nat.reduceLeDiff, Nat.reduceMul, Nat.reduceSub, ↓reduceIte, decide_true, decide_false, Bool.true_eq_false, Bool.false_eq_true, Bool.not_true, Bool.not_false, if_true, if_false, and_true, true_and, memE, celE, w64, Nat.zero_add, Nat.add_zero, Nat.mul_one, putL, and_self, ldn, tm, t0, t1, t7, t8, hlt']
    obtain ⟨n0, rfl, h0⟩ := hx
    refine ⟨n0, rfl, h0, h0, _, rfl, ?_⟩
    have : L.any f = false := by
      rw [List.any_eq_false]
      intro q hq
      obtain ⟨j, hj, rfl⟩ := List.getElem_of_mem hq
      have := hno j (by omega)
      rw [List.getD_eq_getElem?_getD, List.getElem?_eq_getElem hj] at this
      simpa using this
    rw [this]; rfl
theorem containsFuncP_rc (m : Mem) (v fv : Value) (L : List (Int × Int)) (f : Int × Int → Bool) (h : PairsA m v L) (hf : ∀ M, Ext m M → TestP M fv f) :
    RC Tryd.prog 57 [v, fv] m (AnsV (.bool (L.any f))) := by
  refine rc_of_run mixed ok_slices_ContainsFunc_a2int (by simp) (go_start _ _ _ ?_)
  simp (config := {implicitDefEqProofs := false, maxDischargeDepth := 20}) (disch := first | omega | (simp only [lenE]; done) | (simp only [lenE]; omega) | rfl | (simp only [lenE, markR_len]; done) | (simp only [lenE, markR_len]; omega)) only [runE, mapE, listE, initT_5, initT_6, initT_7, initT_8, resV, oneV, binA, unA, reduceCtorEq, Nat.reduceEqDiff, Nat.reduceAdd, Nat.reduceLT, Nat.reduceLeDiff, Nat.reduceMul, Nat.reduceSub, ↓reduceIte, decide_true, decide_false, Bool.true_eq_false, Bool.false_eq_true, Bool.not_true, Bool.not_false, if_true, if_false, and_true, true_and, memE, celE, w64, Nat.zero_add, Nat.add_zero, Nat.mul_one, putL, and_self, ldn, c_slices_ContainsFunc_a2int, r_slices_ContainsFunc_a2int]
  have hf' : ∀ M, Ext (roM m) M → TestP M fv f := fun M hM => hf M (by obtain ⟨n0, rfl, h0⟩ := hM; exact ⟨n0, by rw [show roM (roM m) = roM m by unfold roM; rw [List.map_map]; congr 1; funext b; obtain ⟨kd, e, cs⟩ := b; cases kd <;> rfl], h0⟩)
  refine callH_rc (indexFuncP_rc _ v fv L f h.ro hf') ?_
  rintro r new ⟨nr, z, rfl, hz⟩
  simp (config := {implicitDefEqProofs := false, maxDischargeDepth := 20}) (disch := first | omega | (simp only [lenE]; done) | (simp only [lenE]; omega) | rfl | (simp only [lenE, markR_len]; done) | (simp only [lenE, markR_len]; omega)) only [runE, mapE, listE, initT_5, initT_6, initT_7, initT_8, resV, oneV, binA, unA, reduceCtorEq, Nat.reduceEqDiff, Nat.reduceAdd, Nat.reduceLT, Nat.reduceLeDiff, Nat.reduceMul, Nat.reduceSub, ↓reduceIte, decide_true, decide_false, Bool.true_eq_false, Bool.false_eq_true, Bool.not_true, Bool.not_false, if_true, if_false, and_true, true_and, memE, celE, w64, Nat.zero_add, Nat.add_zero, Nat.mul_one, putL, and_self, ldn, ge_iff_le]
  try simp only [List.append_assoc, List.cons_append, List.nil_append, List.append_nil]
  exact ⟨_, rfl, by (repeat (first | exact noRo_nil | assumption | apply noRo_own | apply noRo_dead | apply noRo_app)), by rw [hz], by (repeat (first | exact noRo_nil | assumption | apply noRo_own | apply noRo_dead | apply noRo_app))⟩
theorem polB_any {p : Pr} {L : List (Int × Int)} : (L.any fun q => !p.pairB q) = !L.all p.pairB := by
  induction L with
  | nil => rfl
  | cons q L ih => rw [List.any_cons, List.all_cons, ih]; cases p.pairB q <;> simp
theorem isPolicy_rc (m : Mem) (v vl : Value) (p : Pr) (L : List (Int × Int)) (h : ProcA m v p) (hL : PairsA m vl L) : RC Tryd.prog 28 [v, vl] m (AnsV (.bool (p.good && p.polB L))) := by
  refine rc_of_run mixed ok_impl_isPolicy (by simp) (go_start _ _ _ ?_)
  obtain ⟨u, rfl, hu⟩ := h.ro
  have hLr := hL.ro
  obtain ⟨hb, id, fl, rfl, hc⟩ := hL.ro
  simp (config := {implicitDefEqProofs := false, maxDischargeDepth := 20}) (disch := first | omega | (simp only [lenE]; done) | (simp only [lenE]; omega) | rfl | (simp only [lenE, markR_len]; done) | (simp only [lenE, markR_len]; omega)) only [runE, mapE, listE, initT_5, initT_6, initT_7, initT_8, resV, oneV, binA, unA, reduceCtorEq, Nat.reduceEqDiff, Nat.reduceAdd, Nat.reduceLT, Nat.reduceLeDiff, Nat.reduceMul, Nat.reduceSub, ↓reduceIte, decide_true, decide_false, Bool.true_eq_false, Bool.false_eq_true, Bool.not_true, Bool.not_false, if_true, if_false, and_true, true_and, memE, celE, w64, Nat.zero_add, Nat.add_zero, Nat.mul_one, putL, and_self, ldn, c_impl_isPolicy, r_impl_isPolicy]
  refine callH_rc (implIsProcess_rc _ _ p (ProcA.mk (hu.ext _))) ?_
  rintro r n1 ⟨rfl, nr1⟩
  cases hg : p.good with
  | false =>
    simp (config := {implicitDefEqProofs := false, maxDischargeDepth := 20}) (disch := first | omega | (simp only [lenE]; done) | (simp only [lenE]; omega) | rfl | (simp only [lenE, markR_len]; done) | (simp only [lenE, markR_len]; omega)) only [runE, mapE, listE, initT_5, initT_6, initT_7, initT_8, resV, oneV, binA, unA, reduceCtorEq, Nat.reduceEqDiff, Nat.reduceAdd, Nat.reduceLT, Nat.reduceLeDiff, Nat.reduceMul, Nat.reduceSub, ↓reduceIte, decide_true, decide_false, Bool.true_eq_false, Bool.false_eq_true, Bool.not_true, Bool.not_false, if_true, if_false, and_true, true_and, memE, celE, w64, Nat.zero_add, Nat.add_zero, Nat.mul_one, putL, and_self, ldn]
    try simp only [List.append_assoc, List.cons_append, List.nil_append, List.append_nil]
    exact ⟨_, rfl, by (repeat (first | exact noRo_nil | assumption | apply noRo_own | apply noRo_dead | apply noRo_app)), by simp, by (repeat (first | exact noRo_nil | assumption | apply noRo_own | apply noRo_dead | apply noRo_app))⟩
  | true =>
  have hG := goodP_iff.1 hg
  by_cases hlen : (L.length : Int) = p.turns
  · simp (config := {implicitDefEqProofs := false, maxDischargeDepth := 20}) (disch := first | omega | (simp only [lenE]; done) | (simp only [lenE]; omega) | rfl | (simp only [lenE, markR_len]; done) | (simp only [lenE, markR_len]; omega)) only [runE, mapE, listE, initT_5, initT_6, initT_7, initT_8, resV, oneV, binA, unA, reduceCtorEq, Nat.reduceEqDiff, Nat.reduceAdd, Nat.reduceLT, Nat.reduceLeDiff, Nat.reduceMul, Nat.reduceSub, ↓reduceIte, decide_true, decide_false, Bool.true_eq_false, Bool.false_eq_true, Bool.not_true, Bool.not_false, if_true, if_false, and_true, true_and, memE, celE, w64, Nat.zero_add, Nat.add_zero, Nat.mul_one, putL, and_self, ldn, hlen, beq_self_eq_true]
    refine callH_rc (containsFuncP_rc _ _ _ L (fun q => !p.pairB q) ((hLr.ext _).ext _) ?_) ?_
    · intro M hX
      refine ⟨_, _, rfl, fun q => ?_⟩
      have hl0 := hX.len
      simp only [List.length_append, roM_len, List.length_cons, List.length_nil] at hl0
      refine noPair_rc _ m.length u p q (by omega) (fun j => ?_) (((hu.ext _).ext _).xt2 hX) hG.len.2
      obtain ⟨n0, rfl, h0⟩ := hX
      rw [rdc_left (by simp [roM_len]), rdc_roM, rdc_left (by simp [roM_len]), rdc_lastH (roM_len m).symm]
      rfl
    · rintro r n2 ⟨rfl, nr2⟩
      simp (config := {implicitDefEqProofs := false, maxDischargeDepth := 20}) (disch := first | omega | (simp only [lenE]; done) | (simp only [lenE]; omega) | rfl | (simp only [lenE, markR_len]; done) | (simp only [lenE, markR_len]; omega)) only [runE, mapE, listE, initT_5, initT_6, initT_7, initT_8, resV, oneV, binA, unA, reduceCtorEq, Nat.reduceEqDiff, Nat.reduceAdd, Nat.reduceLT, Nat.reduceLeDiff, Nat.reduceMul, Nat.reduceSub, ↓reduceIte, decide_true, decide_false, Bool.true_eq_false, Bool.false_eq_true, Bool.not_true, Bool.not_false, if_true, if_false, and_true, true_and, memE, celE, w64, Nat.zero_add, Nat.add_zero, Nat.mul_one, putL, and_self, ldn]
      try simp only [List.append_assoc, List.cons_append, List.nil_append, List.append_nil]
      refine ⟨_, rfl, by (repeat (first | exact noRo_nil | assumption | apply noRo_own | apply noRo_dead | apply noRo_app)), ?_, by (repeat (first | exact noRo_nil | assumption | apply noRo_own | apply noRo_dead | apply noRo_app))⟩
      rw [polB_any]
      simp [Pr.polB, hlen]
  · have hlen' : ((L.length : Int) == p.turns) = false := by simp [hlen]
    simp (config := {implicitDefEqProofs := false, maxDischargeDepth := 20}) (disch := first | omega | (simp only [lenE]; done) | (simp only [lenE]; omega) | rfl | (simp only [lenE, markR_len]; done) | (simp only [lenE, markR_len]; omega)) only [runE, mapE, listE, initT_5, initT_6, initT_7, initT_8, resV, oneV, binA, unA, reduceCtorEq, Nat.reduceEqDiff, Nat.reduceAdd, Nat.reduceLT, Nat.reduceLeDiff, Nat.reduceMul, Nat.reduceSub, ↓reduceIte, decide_true, decide_false, Bool.true_eq_false, Bool.false_eq_true, Bool.not_true, Bool.not_false, if_true, if_false, and_true, true_and, memE, celE, w64, Nat.zero_add, Nat.add_zero, Nat.mul_one, putL, and_self, ldn, hlen']
    try simp only [List.append_assoc, List.cons_append, List.nil_append, List.append_nil]
    exact ⟨_, rfl, by (repeat (first | exact noRo_nil | assumption | apply noRo_own | apply noRo_dead | apply noRo_app)), by simp [Pr.polB, hlen], by (repeat (first | exact noRo_nil | assumption | apply noRo_own | apply noRo_dead | apply noRo_app))⟩
theorem l6Policy_rc (m : Mem) (v vl : Value) (p : Pr) (L : List (Int × Int)) (h : ProcA m v p) (hL : PairsA m vl L) (hg : GoodP p) : RC Tryd.prog 31 [v, vl] m (AnsV (.bool (p.polB L))) := by
  refine rc_of_run mixed ok_spec_l6Policy (by simp) (go_start _ _ _ ?_)
  obtain ⟨u, rfl, hu⟩ := h.ro
  obtain ⟨hb, id, fl, rfl, hc⟩ := hL.ro
  simp (config := {implicitDefEqProofs := false, maxDischargeDepth := 20}) (disch := first | omega | (simp only [lenE]; done) | (simp only [lenE]; omega) | rfl | (simp only [lenE, markR_len]; done) | (simp only [lenE, markR_len]; omega)) only [runE, mapE, listE, initT_5, initT_6, initT_7, initT_8, resV, oneV, binA, unA, reduceCtorEq, Nat.reduceEqDiff, Nat.reduceAdd, Nat.reduceLT, Nat.reduceLeDiff, Nat.reduceMul, Nat.reduceSub, ↓reduceIte, decide_true, decide_false, Bool.true_eq_false, Bool.false_eq_true, Bool.not_true, Bool.not_false, if_true, if_false, and_true, true_and, memE, celE, w64, Nat.zero_add, Nat.add_zero, Nat.mul_one, putL, and_self, ldn, c_spec_l6Policy, r_spec_l6Policy]
  refine loop_inv mixed (fun s => ∃ (k : Nat) (M : Mem), k ≤ L.length ∧ s.m = M ∧ Ext m M ∧ OwnB M m.length 26 [.int .i64 p.turns, u, .int .i64 p.setup, .int .i64 p.unit, .int .i64 p.hold, .int .i64 p.back] ∧ (∀ j, j < k → p.pairB (L.getD j (0, 0)) = true) ∧ s.t 1 = .slice (some ⟨id, 0, none⟩) L.length fl ∧ s.t 2 = .pointer (some ⟨m.length, 0, none⟩) ∧ s.t 5 = .int .i64 k) (fun s => L.length - (intOf (s.t 5)).toNat)
    ⟨0, _, by omega, rfl, (Ext.refl m).one _ _, OwnB.here (roM_len m).symm, fun j hj => absurd hj (by omega), rfl, rfl, rfl⟩ ?_
  rintro s ⟨k, M, hk, tm, hX, hbx, hall, t1, t2, t5⟩
  by_cases hlt : k < L.length
  · have hlt' : (k : Int) < L.length := by omega
    have r1 := hX.rd ((rdc_roM m id (k * 2)).symm.trans (hc k hlt).1)
    have r2 := hX.rd ((rdc_roM m id (k * 2 + 1)).symm.trans (hc k hlt).2)
    have hidM := rdc_blk2 r1
    obtain ⟨a, ha⟩ : ∃ a, a = (L.getD k (0, 0)).1 := ⟨_, rfl⟩
    obtain ⟨b, hb'⟩ : ∃ b, b = (L.getD k (0, 0)).2 := ⟨_, rfl⟩
    have hq : L.getD k (0, 0) = (a, b) := by rw [ha, hb']
    rw [← ha] at r1
    rw [← hb'] at r2
    obtain ⟨M1, hM1⟩ : ∃ M', M' = M ++ [⟨.own, 61, [.int .i64 a, .int .i64 b]⟩] := ⟨_, rfl⟩
    have hX1 : Ext m M1 := by rw [hM1]; exact hX.one _ _
    have hb1 : OwnB M1 m.length 26 [.int .i64 p.turns, u, .int .i64 p.setup, .int .i64 p.unit, .int .i64 p.hold, .int .i64 p.back] := by rw [hM1]; exact hbx.ext _
    have hbp : OwnB M1 M.length 61 [.int .i64 a, .int .i64 b] := by rw [hM1]; exact OwnB.here rfl
    have hno : ∀ {x : Bool}, p.pairB (a, b) = false → L.all p.pairB = false := fun hx => by
      cases hr : L.all p.pairB with
      | false => rfl
      | true =>
        rw [List.all_eq_true] at hr
        have := hr (L.getD k (0, 0)) (by rw [List.getD_eq_getElem?_getD, List.getElem?_eq_getElem hlt]; exact List.getElem_mem hlt)
        rw [hq, hx] at this; cases this
    simp (config := {implicitDefEqProofs := false, maxDischargeDepth := 20}) (disch := first | omega | (simp only [lenE]; done) | (simp only [lenE]; omega) | rfl | (simp only [lenE, markR_len]; done) | (simp only [lenE, markR_len]; omega)) only [runE, mapE, listE, initT_5, initT_6, initT_7, initT_8, resV, oneV, binA, unA, reduceCtorEq, Nat.reduceEqDiff, Nat.reduceAdd, Nat.reduceLT, Nat.reduceLeDiff, Nat.reduceMul, Nat.reduceSub, ↓reduceIte, decide_true, decide_false, Bool.true_eq_false, Bool.false_eq_true, Bool.not_true, Bool.not_false, if_true, if_false, and_true, true_and, memE, celE, w64, Nat.zero_add, Nat.add_zero, Nat.mul_one, putL, and_self, ldn, tm, t1, t2, t5, hlt', iadA_in hlt, r1, r2]
    rw [← hM1]
    simp (config := {implicitDefEqProofs := false, maxDischargeDepth := 20}) (disch := first | omega | (simp only [lenE]; done) | (simp only [lenE]; omega) | rfl | (simp only [lenE, markR_len]; done) | (simp only [lenE, markR_len]; omega)) only [runE, mapE, listE, initT_5, initT_6, initT_7, initT_8, resV, oneV, binA, unA, reduceCtorEq, Nat.reduceEqDiff, Nat.reduceAdd, Nat.reduceLT, Nat.reduceLeDiff, Nat.reduceMul, Nat.reduceSub, ↓reduceIte, decide_true, decide_false, Bool.true_eq_false, Bool.false_eq_true, Bool.not_true, Bool.not_false, if_true, if_false, and_true, true_and, memE, celE, w64, Nat.zero_add, Nat.add_zero, Nat.mul_one, putL, and_self, ldn, t1, t2, t5, iada_0, iada_1, hbp.rd]
    refine rcallH_rc (l6Level_rc _ a) ?_
    rintro r n1 ⟨rfl, rfl⟩
    rw [List.append_nil]
    have fin : ∀ (A : Mem), Ext m A → p.pairB (a, b) = false → newQ m (AnsV (.bool (p.polB L))) (.bool false) A := fun A hA hx => ext_ansV3 hA (by rw [Pr.polB, hno (x := true) hx]; simp)
    cases h1 : levB a with
    | false =>
      simp (config := {implicitDefEqProofs := false, maxDischargeDepth := 20}) (disch := first | omega | (simp only [lenE]; done) | (simp only [lenE]; omega) | rfl | (simp only [lenE, markR_len]; done) | (simp only [lenE, markR_len]; omega)) only [runE, mapE, listE, initT_5, initT_6, initT_7, initT_8, resV, oneV, binA, unA, reduceCtorEq, Nat.reduceEqDiff, Nat.reduceAdd, Nat.reduceLT, Nat.reduceLeDiff, Nat.reduceMul, Nat.reduceSub, ↓reduceIte, decide_true, decide_false, Bool.true_eq_false, Bool.false_eq_true, Bool.not_true, Bool.not_false, if_true, if_false, and_true, true_and, memE, celE, w64, Nat.zero_add, Nat.add_zero, Nat.mul_one, putL, and_self, ldn, t1, t2, t5]
      exact fin _ hX1 (by simp [Pr.pairB, h1])
    | true =>
    simp (config := {implicitDefEqProofs := false, maxDischargeDepth := 20}) (disch := first | omega | (simp only [lenE]; done) | (simp only [lenE]; omega) | rfl | (simp only [lenE, markR_len]; done) | (simp only [lenE, markR_len]; omega)) only [runE, mapE, listE, initT_5, initT_6, initT_7, initT_8, resV, oneV, binA, unA, reduceCtorEq, Nat.reduceEqDiff, Nat.reduceAdd, Nat.reduceLT, Nat.reduceLeDiff, Nat.reduceMul, Nat.reduceSub, ↓reduceIte, decide_true, decide_false, Bool.true_eq_false, Bool.false_eq_true, Bool.not_true, Bool.not_false, if_true, if_false, and_true, true_and, memE, celE, w64, Nat.zero_add, Nat.add_zero, Nat.mul_one, putL, and_self, ldn, t1, t2, t5, iada_0, iada_1, hbp.rd]
    refine rcallH_rc (l6Level_rc _ b) ?_
    rintro r n1 ⟨rfl, rfl⟩
    rw [List.append_nil]
    cases h2 : levB b with
    | false =>
      simp (config := {implicitDefEqProofs := false, maxDischargeDepth := 20}) (disch := first | omega | (simp only [lenE]; done) | (simp only [lenE]; omega) | rfl | (simp only [lenE, markR_len]; done) | (simp only [lenE, markR_len]; omega)) only [runE, mapE, listE, initT_5, initT_6, initT_7, initT_8, resV, oneV, binA, unA, reduceCtorEq, Nat.reduceEqDiff, Nat.reduceAdd, Nat.reduceLT, Nat.reduceLeDiff, Nat.reduceMul, Nat.reduceSub, ↓reduceIte, decide_true, decide_false, Bool.true_eq_false, Bool.false_eq_true, Bool.not_true, Bool.not_false, if_true, if_false, and_true, true_and, memE, celE, w64, Nat.zero_add, Nat.add_zero, Nat.mul_one, putL, and_self, ldn, t1, t2, t5]
      exact fin _ hX1 (by simp [Pr.pairB, h2])
    | true =>
    by_cases h3 : b < a
    · simp (config := {implicitDefEqProofs := false, maxDischargeDepth := 20}) (disch := first | omega | (simp only [lenE]; done) | (simp only [lenE]; omega) | rfl | (simp only [lenE, markR_len]; done) | (simp only [lenE, markR_len]; omega)) only [runE, mapE, listE, initT_5, initT_6, initT_7, initT_8, resV, oneV, binA, unA, reduceCtorEq, Nat.reduceEqDiff, Nat.reduceAdd, Nat.reduceLT, Nat.reduceLeDiff, Nat.reduceMul, Nat.reduceSub, ↓reduceIte, decide_true, decide_false, Bool.true_eq_false, Bool.false_eq_true, Bool.not_true, Bool.not_false, if_true, if_false, and_true, true_and, memE, celE, w64, Nat.zero_add, Nat.add_zero, Nat.mul_one, putL, and_self, ldn, t1, t2, t5, iada_0, iada_1, hbp.rd, gt_iff_lt, h3]
      exact fin _ hX1 (by simp [Pr.pairB]; intros; omega)
    · simp (config := {implicitDefEqProofs := false, maxDischargeDepth := 20}) (disch := first | omega | (simp only [lenE]; done) | (simp only [lenE]; omega) | rfl | (simp only [lenE, markR_len]; done) | (simp only [lenE, markR_len]; omega)) only [runE, mapE, listE, initT_5, initT_6, initT_7, initT_8, resV, oneV, binA, unA, reduceCtorEq, Nat.reduceEqDiff, Nat.reduceAdd, Nat.reduceLT, Nat.reduceLeDiff, Nat.reduceMul, Nat.reduceSub, ↓reduceIte, decide_true, decide_false, Bool.true_eq_false, Bool.false_eq_true, Bool.not_true, Bool.not_false, if_true, if_false, and_true, true_and, memE, celE, w64, Nat.zero_add, Nat.add_zero, Nat.mul_one, putL, and_self, ldn, t1, t2, t5, iada_0, iada_1, hbp.rd, gt_iff_lt, h3, hb1.rd]
      refine rcallH_rc (l6Floor_rc _ _ p (ProcA.mk (hX1.ints hu)) hg) ?_
      rintro r n2 ⟨rfl, nr2⟩
      by_cases h4 : b < p.floor
      · simp (config := {implicitDefEqProofs := false, maxDischargeDepth := 20}) (disch := first | omega | (simp only [lenE]; done) | (simp only [lenE]; omega) | rfl | (simp only [lenE, markR_len]; done) | (simp only [lenE, markR_len]; omega)) only [runE, mapE, listE, initT_5, initT_6, initT_7, initT_8, resV, oneV, binA, unA, reduceCtorEq, Nat.reduceEqDiff, Nat.reduceAdd, Nat.reduceLT, Nat.reduceLeDiff, Nat.reduceMul, Nat.reduceSub, ↓reduceIte, decide_true, decide_false, Bool.true_eq_false, Bool.false_eq_true, Bool.not_true, Bool.not_false, if_true, if_false, and_true, true_and, memE, celE, w64, Nat.zero_add, Nat.add_zero, Nat.mul_one, putL, and_self, ldn, t1, t2, t5, h4]
        exact fin _ (hX1.app nr2) (by simp [Pr.pairB]; intros; omega)
      · simp (config := {implicitDefEqProofs := false, maxDischargeDepth := 20}) (disch := first | omega | (simp only [lenE]; done) | (simp only [lenE]; omega) | rfl | (simp only [lenE, markR_len]; done) | (simp only [lenE, markR_len]; omega)) only [runE, mapE, listE, initT_5, initT_6, initT_7, initT_8, resV, oneV, binA, unA, reduceCtorEq, Nat.reduceEqDiff, Nat.reduceAdd, Nat.reduceLT, Nat.reduceLeDiff, Nat.reduceMul, Nat.reduceSub, ↓reduceIte, decide_true, decide_false, Bool.true_eq_false, Bool.false_eq_true, Bool.not_true, Bool.not_false, if_true, if_false, and_true, true_and, memE, celE, w64, Nat.zero_add, Nat.add_zero, Nat.mul_one, putL, and_self, ldn, t1, t2, t5, h4]
        refine ⟨⟨k + 1, _, by omega, rfl, hX1.app nr2, hb1.ext _, fun j hj => ?_, by simp⟩, ?_⟩
        · by_cases e : j = k
          · rw [e, hq]; simp [Pr.pairB, h1, h2]; omega
          · exact hall j (by omega)
        · simp [intOf]; omega
  · have hlt' : ¬ ((k : Int) < L.length) := by omega
    have e : k = L.length := by omega
    subst e
    simp (config := {implicitDefEqProofs := false, maxDischargeDepth := 20}) (disch := first | omega | (simp only [lenE]; done) | (simp only [lenE]; omega) | rfl | (simp only [lenE, markR_len]; done) | (simp only [lenE, markR_len]; omega)) only [runE, mapE, listE, initT_5, initT_6, initT_7, initT_8, resV, oneV, binA, unA, reduceCtorEq, Nat.reduceEqDiff, Nat.reduceAdd, Nat.reduceLT, Nat.reduceLeDiff, Nat.reduceMul, Nat.reduceSub, ↓reduceIte, decide_true, decide_false, Bool.true_eq_false, Bool.false_eq_true, Bool.not_true, Bool.not_false, if_true, if_false, and_true, true_and, memE, celE, w64, Nat.zero_add, Nat.add_zero, Nat.mul_one, putL, and_self, ldn, tm, t1, t2, t5, hlt', hbx.rd]
    refine ext_ansV3 hX ?_
    have : L.all p.pairB = true := by
      rw [List.all_eq_true]
      intro q hq
      obtain ⟨j, hj, rfl⟩ := List.getElem_of_mem hq
      have := hall j (by omega)
      rwa [List.getD_eq_getElem?_getD, List.getElem?_eq_getElem hj] at this
    rw [Pr.polB, this]
    by_cases e2 : (L.length : Int) = p.turns <;> simp [e2]
end Go.Proofs.YtddnedngjijpoaaDoor.Ab
end
section
namespace Go.Proofs.YtddnedngjijpoaaDoor
theorem at_byte (s : ByteArray) (k : Nat) (h : k < s.size) : s.data.toList[k]? = some s[k] := by
  rw [List.getElem?_eq_getElem (by simpa using h)]; rfl
theorem drop_at {α : Type} {l : List α} {k : Nat} {x : α} (h : l[k]? = some x) : l.drop k = x :: l.drop (k + 1) := by
  obtain ⟨hl, e⟩ := List.getElem?_eq_some_iff.1 h
  rw [← e]; exact List.drop_eq_getElem_cons hl
theorem data_len (s : ByteArray) : s.data.toList.length = s.size := by simp
theorem data_append (a b : ByteArray) : (a ++ b).data.toList = a.data.toList ++ b.data.toList := by simp [ByteArray.data_append]
theorem mk_app (a b : List UInt8) : (⟨a.toArray⟩ : ByteArray) ++ ⟨b.toArray⟩ = ⟨(a ++ b).toArray⟩ := by
  apply ByteArray.ext; simp [ByteArray.data_append]
theorem size_mk (l : List UInt8) : (⟨l.toArray⟩ : ByteArray).size = l.length := by simp [ByteArray.size]
theorem ret_str {a b : ByteArray} (h : a = b) : Ending.returned (.string a) = .returned (.string b) := by rw [h]
end Go.Proofs.YtddnedngjijpoaaDoor
end
section
namespace Go.Proofs.YtddnedngjijpoaaDoor
open Go.RowKit
set_option linter.unusedVariables false
def digitStr : ByteArray := ⟨#[48, 49, 50, 51, 52, 53, 54, 55, 56, 57]⟩
theorem digit_nat : ∀ d : Nat, d < 10 → digitStr.extract d (d + 1) = ⟨#[UInt8.ofNat (48 + d)]⟩
  | 0, _ | 1, _ | 2, _ | 3, _ | 4, _ | 5, _ | 6, _ | 7, _ | 8, _ | 9, _ => by decide +kernel
  | d + 10, h => absurd h (by omega)
theorem digit_at (d : Int) (h0 : 0 ≤ d) (h1 : d < 10) : digitStr.extract d.toNat (d + 1).toNat = ⟨[UInt8.ofNat (48 + d.toNat)].toArray⟩ := by
  rw [show (d + 1).toNat = d.toNat + 1 from by omega, digit_nat d.toNat (by omega)]
theorem itoa_pos {n : Int} (h : 0 ≤ n) : Lib.itoa n = Lib.decDigits n.toNat := by unfold Lib.itoa; rw [if_neg (by omega)]
theorem itoa_negative {n : Int} (h : n < 0) : Lib.itoa n = 45 :: Lib.decDigits (-n).toNat := by unfold Lib.itoa; rw [if_pos h]; congr 2; omega

theorem dig_len (q : Int) (h0 : 0 ≤ q) (h1 : q ≤ 999999999) : (Lib.decDigits q.toNat).length ≤ 21 := by
  rw [← itoa_pos h0]; exact Lib.itoa_length_le q (by omega) (by omega)

set_option maxHeartbeats 400000 in
theorem l1Num_pos (k : Nat) : ∀ (n : Int) (w : World), 0 ≤ n → n < k → n ≤ 999999999 →
    Calls Tryd.prog 43 #[.int .i64 n] w fun e w' => e = .returned (.string ⟨(Lib.decDigits n.toNat).toArray⟩) ∧ Drew w w' := by
  induction k with
  | zero => intro n w h0 h1 _; exact absurd h1 (by omega)
  | succ k ih =>
    intro n w h0 h1 h2
    by_cases hs : n < 10
    · go_enter Tryd.func43, Tryd.ntmps43
      go_wp2_with fail
      go_ret
      exact ⟨ret_str (by rw [show (⟨#[48, 49, 50, 51, 52, 53, 54, 55, 56, 57]⟩ : ByteArray) = digitStr from rfl, digit_at n h0 hs, Lib.decDigits, dif_pos (by omega)]), Drew.refl _⟩
    · have IH := Lib.hid ih
      clear ih
      obtain ⟨q, hq⟩ : ∃ q, n / 10 = q := ⟨_, rfl⟩
      obtain ⟨d, hd⟩ : ∃ d, n % 10 = d := ⟨_, rfl⟩
      have hq0 : 0 ≤ q := by omega
      have hq1 : q < k := by omega
      have hq2 : q ≤ 999999999 := by omega
      have hd0 : 0 ≤ d := by omega
      have hd1 : d < 10 := by omega
      have HE : Hid ((⟨(Lib.decDigits n.toNat).toArray⟩ : ByteArray) = ⟨(Lib.decDigits q.toNat).toArray⟩ ++ digitStr.extract d.toNat (d + 1).toNat) := by
        rw [digit_at d hd0 hd1, Lib.decDigits, dif_neg (by omega), show n.toNat / 10 = q.toNat from by omega, show n.toNat % 10 = d.toNat from by omega, mk_app]; exact rfl
      have e1 : IntKind.i64.wrap (n.tdiv 10) = q := by rw [Int.tdiv_eq_ediv_of_nonneg h0, hq]; exact IntWalk.i64_in _ (by omega)
      have e3 : IntKind.i64.wrap (d + 1) = d + 1 := IntWalk.i64_in _ (by omega)
      have e4 : ∀ wx : World, (Instr.slice 9 (.string ⟨#[48, 49, 50, 51, 52, 53, 54, 55, 56, 57]⟩) (some (.int .i64 d)) (some (.int .i64 (d + 1))) none).run Tryd.prog wx = .ok (.string (digitStr.extract d.toNat (d + 1).toNat)) wx := fun wx => run_slice_string wx 9 digitStr .i64 .i64 d (d + 1) Tryd.underlying9 hd0 (by omega) (by show d + 1 ≤ 10; omega)
      have e5 : ∀ wx : World, (Op.stringOp .add ⟨(Lib.decDigits q.toNat).toArray⟩ (digitStr.extract d.toNat (d + 1).toNat)).run Tryd.prog wx = .ok (.string (⟨(Lib.decDigits q.toNat).toArray⟩ ++ digitStr.extract d.toNat (d + 1).toNat)) wx := fun wx => run_string_add_sum wx _ _ (by rw [digit_at d hd0 hd1, size_mk, size_mk]; have := dig_len q hq0 hq2; simp only [List.length_cons, List.length_nil]; omega)
      have e2 : n.tmod 10 = d := by rw [Int.tmod_eq_emod_of_nonneg h0, hd]
      clear hq hd
      go_enter Tryd.func43, Tryd.ntmps43
      go_wp2_with fail
      go_quiet ((go_at_call 43; exact Calls.quiet_of (IH.out _ _ hq0 hq1 hq2)))
      clear e1 e2 e3 e4 e5
      go_wp2_with fail
      go_ret
      exact ⟨ret_str HE.out.symm, _, rfl⟩


set_option maxHeartbeats 400000 in
theorem l1Num_any (n : Int) (w : World) (h0 : -999999999 ≤ n) (h1 : n ≤ 999999999) :
    Calls Tryd.prog 43 #[.int .i64 n] w fun e w' => e = .returned (.string ⟨(Lib.itoa n).toArray⟩) ∧ Drew w w' := by
  by_cases hn : n < 0
  · rw [itoa_negative hn]
    have H := Lib.hid (fun wx => l1Num_pos 1000000000 (-n) wx (by omega) (by omega) (by omega))
    have e1 : Hid ((⟨#[45]⟩ : ByteArray) ++ ⟨(Lib.decDigits (-n).toNat).toArray⟩ = ⟨(45 :: Lib.decDigits (-n).toNat).toArray⟩) := mk_app [45] _
    have e2 : ∀ wx : World, (Op.stringOp .add ⟨#[45]⟩ ⟨(Lib.decDigits (-n).toNat).toArray⟩).run Tryd.prog wx = .ok (.string (⟨#[45]⟩ ++ ⟨(Lib.decDigits (-n).toNat).toArray⟩)) wx := fun wx => run_string_add_sum wx _ _ (by rw [show (⟨#[45]⟩ : ByteArray).size = 1 from rfl, size_mk]; have := dig_len (-n) (by omega) (by omega); omega)
    go_enter Tryd.func43, Tryd.ntmps43
    go_wp2_with (go_at_call 43; refine (H.out _).mono ?_; rintro e w' ⟨rfl, hd⟩)
    go_ret
    exact ⟨ret_str e1.out, hd⟩
  · rw [itoa_pos (by omega)]
    exact l1Num_pos 1000000000 n w (by omega) (by omega) h1

def fmtStr (n : Int) : ByteArray := if -999999 ≤ n ∧ n ≤ 999999 then ⟨(Lib.itoa n).toArray⟩ else ⟨#[]⟩
def fmtOk (n : Int) : Bool := decide (-999999 ≤ n ∧ n ≤ 999999)

theorem below_grow (B : Nat) (w : World) (k : Nat) (os : Array Obj) (h : B ≤ w.heap.size) : Below B w (Sort.grow (w.drewN k) os) := by
  refine ⟨rfl, rfl, rfl, ?_, fun j hj => ?_⟩
  · simp [Sort.grow]
  · simp only [Sort.grow]
    rw [Array.getElem?_append_left (by show j < w.heap.size; omega)]
    rfl

set_option maxHeartbeats 400000 in
theorem implFormat_any (n : Int) (w : World) (hn : (Lit.int .i64 n).wf = true) (htab : Lib.TabIs Tryd.prog w "internal/strconv.uint64pow10" .u64 Lib.pow10Tab) :
    Calls Tryd.prog 69 #[.int .i64 n] w fun e w' => e = .returned (.tuple #[.string (fmtStr n), .bool (fmtOk n)]) ∧ Below w.heap.size w w' := by
  by_cases h : -999999 ≤ n ∧ n ≤ 999999
  · have e1 : fmtStr n = ⟨(Lib.itoa n).toArray⟩ := by unfold fmtStr; rw [if_pos h]
    have e2 : fmtOk n = true := by unfold fmtOk; simpa using h
    rw [e1, e2]
    obtain ⟨h1, h2⟩ := h
    have H := Lib.hid (Tryd.strconv_Itoa n (by omega) (by omega) w htab)
    clear e1 e2 htab
    go_enter Tryd.func69, Tryd.ntmps69
    go_wp2_with (go_at_call 77; refine H.out.mono ?_; rintro e w' ⟨rfl, k, os, rfl⟩)
    go_ret2
    exact ⟨rfl, below_grow _ _ _ _ (Nat.le_refl _)⟩
  · have e1 : fmtStr n = ⟨#[]⟩ := by unfold fmtStr; rw [if_neg h]
    have e2 : fmtOk n = false := by unfold fmtOk; simpa using h
    rw [e1, e2]
    clear e1 e2 htab
    by_cases h1 : n < -999999
    · clear h
      go_enter Tryd.func69, Tryd.ntmps69
      go_wp2
      go_ret2
      exact ⟨rfl, Below.refl _ _⟩
    · have h2 : 999999 < n := by omega
      clear h
      go_enter Tryd.func69, Tryd.ntmps69
      go_wp2
      go_ret2
      exact ⟨rfl, Below.refl _ _⟩
end Go.Proofs.YtddnedngjijpoaaDoor
end
section
namespace Go.Proofs.YtddnedngjijpoaaDoor
def hasB (s : List UInt8) (b : UInt8) : Bool := s.any (fun c => c == b)
theorem hasB_no {s : List UInt8} {b : UInt8} (h : ∀ (j : Nat) (c : UInt8), s[j]? = some c → c ≠ b) : hasB s b = false := by
  unfold hasB
  rw [List.any_eq_false]
  intro c hc
  obtain ⟨j, hj⟩ := List.mem_iff_getElem?.1 hc
  simpa using h j c hj
theorem hasB_yes {s : List UInt8} {b : UInt8} {j : Nat} (h : s[j]? = some b) : hasB s b = true := by
  unfold hasB
  rw [List.any_eq_true]
  exact ⟨b, List.mem_of_getElem? h, by simp⟩

def canJ (b : UInt8) : Int → List (List UInt8) → Bool
  | _, [] => true
  | room, s :: r => if room - ((s.length : Int) + 1) < 0 then false else if hasB s b = true then false else canJ b (room - ((s.length : Int) + 1)) r

theorem canJ_length (b : UInt8) : ∀ (l : List (List UInt8)) (room : Int), 0 ≤ room → canJ b room l = true → (Lib.lens l : Int) + l.length ≤ room
  | [], room, h0, _ => by simpa [Lib.lens] using h0
  | s :: r, room, h0, h => by
    unfold canJ at h
    by_cases hr : room - ((s.length : Int) + 1) < 0
    · rw [if_pos hr] at h; cases h
    · rw [if_neg hr] at h
      by_cases hb : hasB s b = true
      · rw [if_pos hb] at h; cases h
      · rw [if_neg hb] at h
        have := canJ_length b r _ (by omega) h
        simp only [Lib.lens, List.map_cons, List.sum_cons, List.length_cons] at this ⊢
        omega
theorem canJ_step (b : UInt8) (room : Int) (s : List UInt8) (r : List (List UInt8)) (h1 : ¬ room - ((s.length : Int) + 1) < 0) (h2 : hasB s b = false) : canJ b room (s :: r) = canJ b (room - ((s.length : Int) + 1)) r := by
  rw [canJ, if_neg h1, h2, if_neg (by simp)]
theorem canJ_full (b : UInt8) (room : Int) (s : List UInt8) (r : List (List UInt8)) (h1 : room - ((s.length : Int) + 1) < 0) : canJ b room (s :: r) = false := by
  rw [canJ, if_pos h1]
theorem canJ_has (b : UInt8) (room : Int) (s : List UInt8) (r : List (List UInt8)) (h2 : hasB s b = true) : canJ b room (s :: r) = false := by
  rw [canJ, h2]; split <;> simp
def joinStr (b : UInt8) (L : List (List UInt8)) : ByteArray := if canJ b 4001 L = true then ⟨(Lib.join L [b]).toArray⟩ else ⟨#[]⟩

theorem joinStr_no {b : UInt8} {L : List (List UInt8)} (h : canJ b 4001 L = false) : joinStr b L = ⟨#[]⟩ := by
  unfold joinStr; rw [h, if_neg (by simp)]
theorem joinStr_yes {b : UInt8} {L : List (List UInt8)} (h : canJ b 4001 L = true) : joinStr b L = ⟨(Lib.join L [b]).toArray⟩ := by
  unfold joinStr; rw [if_pos h]
theorem joinLen {b : UInt8} {L : List (List UInt8)} (h : canJ b 4001 L = true) : (Lib.join L [b]).length ≤ 8002 := by
  have h1 := canJ_length b L 4001 (by omega) h
  cases L with
  | nil => simp [Lib.join_nil]
  | cons s r =>
    rw [Lib.join_length]
    simp only [List.length_cons, List.length_nil] at h1 ⊢
    omega

end Go.Proofs.YtddnedngjijpoaaDoor
end
section
namespace Go.Proofs.YtddnedngjijpoaaDoor
open Go.RowKit
set_option linter.unusedVariables false
set_option maxHeartbeats 1000000 in
theorem canJoin_any (l : List ByteArray) (A : Option Addr) (c B : Nat) (b : UInt8) (w : World) (h : Rd w B A (l.map .string)) (hl : l.length ≤ maxLen) (hs : ∀ s ∈ l, s.size ≤ 1048576) :
    Calls Tryd.prog 70 #[.slice A l.length c, .int .u8 b.toNat] w fun e w' => e = .returned (.bool (canJ b 4001 (l.map (·.data.toList)))) ∧ w = w' := by
  unfold maxLen at hl
  go_enter Tryd.func70, Tryd.ntmps70
  go_wp2
  go_step3
  go_wp2
  try go_step3
  go_wp2
  go_loopg [5, 6, 12] l.length (fun g t5 t6 t12 wr => ∃ (k : Nat) (room : Int), k + g = l.length ∧ t12 = .int .i64 k ∧ t5 = .int .i64 room ∧ t6 = .bool true ∧ 0 ≤ room ∧ room ≤ 4001 ∧ Hid (canJ b room ((l.map (·.data.toList)).drop k) = canJ b 4001 (l.map (·.data.toList))) ∧ wr = w)
  case atStart => exact ⟨0, 4001, by omega, rfl, rfl, rfl, by omega, by omega, rfl, rfl⟩
  case round =>
    obtain ⟨k, room, hkg, rfl, rfl, rfl, hr0, hr1, HC, rfl⟩ := hrel
    cases gk with
    | zero =>
      have hlt : ¬ ((k : Int) < (l.length : Int)) := by omega
      have HY : Hid (canJ b 4001 (l.map (·.data.toList)) = true) := by
        rw [← HC.out, List.drop_eq_nil_of_le (by simp; omega)]; rfl
      clear h hs
      go_wp2
      try rw [Exit.noGoto_ret]
      go_ret
      exact ⟨by rw [HY.out]; rfl, rfl⟩
    | succ g =>
      have hlt : (k : Int) < (l.length : Int) := by omega
      obtain ⟨s, hsk⟩ := at_lt l (k := k) (by omega)
      obtain ⟨b1, o1, rfl, _, hc1⟩ := h.at_ (map_at (f := .string) hsk)
      have hsz := hs s (List.mem_of_getElem? hsk)
      have hd : (l.map (·.data.toList)).drop k = s.data.toList :: (l.map (·.data.toList)).drop (k + 1) := drop_at (by rw [List.getElem?_map, hsk]; rfl)
      have hlen := data_len s
      by_cases hfull : room - ((s.size : Int) + 1) < 0
      · have HY : Hid (canJ b 4001 (l.map (·.data.toList)) = false) := by
          rw [← HC.out, hd]; exact canJ_full b room _ _ (by rw [hlen]; exact hfull)
        clear hsk hd hlen hs h
        go_wp2
        try rw [Exit.noGoto_ret]
        go_ret
        exact ⟨by rw [HY.out]; rfl, rfl⟩
      · have HS : Hid (hasB s.data.toList b = true → canJ b 4001 (l.map (·.data.toList)) = false) := by
          intro hy
          rw [← HC.out, hd]; exact canJ_has b room _ _ hy
        have HT : Hid (hasB s.data.toList b = false → canJ b (room - ((s.size : Int) + 1)) ((l.map (·.data.toList)).drop (k + 1)) = canJ b 4001 (l.map (·.data.toList))) := by
          intro hy
          rw [← HC.out, hd, canJ_step b room _ _ (by rw [hlen]; exact hfull) hy, hlen]
        clear hsk hd hlen hs h
        go_wp2
        go_loopg [6, 25] s.size (fun g2 t6 t25 wy => ∃ j : Nat, j + g2 = s.size ∧ t25 = .int .i64 j ∧ t6 = .bool true ∧ Hid (∀ (i : Nat) (c : UInt8), i < j → s.data.toList[i]? = some c → c ≠ b) ∧ wy = wr)
        case atStart => exact ⟨0, by omega, rfl, rfl, fun j c h => absurd h (by omega), rfl⟩
        case round =>
          obtain ⟨j, hjg, rfl, rfl, HN, rfl⟩ := hrel
          cases gk with
          | zero =>
            have hj : ¬ ((j : Int) < (s.size : Int)) := by omega
            have hno : hasB s.data.toList b = false := hasB_no fun i c hc => HN.out i c (by
              obtain ⟨hi, _⟩ := List.getElem?_eq_some_iff.1 hc
              have := data_len s
              omega) hc
            have HR := Lib.hid (HT.out hno)
            clear hno
            go_wp2
            go_roundg g
            case measure => omega
            case rel => exact ⟨k + 1, _, by omega, by go_num, rfl, rfl, by omega, by omega, HR, rfl⟩
          | succ g2 =>
            have hj : (j : Int) < (s.size : Int) := by omega
            have hj' : j < s.size := by omega
            by_cases hb : s[j] = b
            · have HY := Lib.hid (HS.out (hasB_yes (j := j) (by rw [at_byte s j hj', hb])))
              have ht : (((s[j]).toNat : Int) == (b.toNat : Int)) = true := by rw [hb]; simp
              clear hb
              go_wp2
              try rw [Exit.noGoto_ret]
              go_ret
              exact ⟨by rw [HY.out]; rfl, rfl⟩
            · have ht : (((s[j]).toNat : Int) == (b.toNat : Int)) = false := by
                rw [beq_eq_false_iff_ne]
                intro e
                exact hb (UInt8.toNat_inj.1 (by omega))
              have HN2 : Hid (∀ (i : Nat) (c : UInt8), i < j + 1 → s.data.toList[i]? = some c → c ≠ b) := by
                intro i c hi hc
                by_cases e : i = j
                · subst e
                  rw [at_byte s i hj'] at hc
                  cases hc
                  exact hb
                · exact HN.out i c (by omega) hc
              clear hb
              go_wp2
              go_roundg g2
              case measure => omega
              case rel => exact ⟨j + 1, by omega, by go_num, rfl, HN2, rfl⟩
end Go.Proofs.YtddnedngjijpoaaDoor
end
section
namespace Go.Proofs.YtddnedngjijpoaaDoor
open Go.RowKit
set_option linter.unusedVariables false
set_option maxHeartbeats 1000000 in
theorem implJoin_at (l : List ByteArray) (A : Option Addr) (c : Nat) (b : UInt8) (w : World) (h : Rd w w.heap.size A (l.map .string)) (hl : l.length ≤ 1048576) (hlc : l.length ≤ c) (hs : ∀ s ∈ l, s.size ≤ 1048576) (hne : 0 < l.length) :
    Calls Tryd.prog 64 #[.slice A l.length c, .string ⟨#[b]⟩] w fun e w' => e = .returned (.tuple #[.string (joinStr b (l.map (·.data.toList))), .bool (canJ b 4001 (l.map (·.data.toList)))]) ∧ Below w.heap.size w w' := by
  have hlm : l.length ≤ maxLen := by unfold maxLen; omega
  have t2 : ((l.length : Int) == 0) = false := by rw [beq_eq_false_iff_ne]; omega
  have hcan := fun wx (hx : Drew w wx) => canJoin_any l A c w.heap.size b wx (h.drawn hx) hlm hs
  by_cases hc : canJ b 4001 (l.map (·.data.toList)) = true
  · rw [hc] at hcan ⊢
    rw [joinStr_yes hc]
    obtain ⟨b1, o1, hA, hb1, hcell⟩ := h (by simpa using hne)
    subst hA
    have hj := fun wx (hx : Drew w wx) => Tryd.strings_Join b1 o1 c l ⟨#[b]⟩ wx (fun j x hj => (hx.cell _).trans (hcell j _ (map_at hj))) (by rw [hx.size]; exact hb1) (by omega) hlc (Nat.le_trans (joinLen hc) (by omega))
    have HC := Lib.hid hcan
    have HJ := Lib.hid hj
    clear hcan hj hcell hc h hs hlm
    go_enter Tryd.func64, Tryd.ntmps64
    go_wp2_with (first | (go_at_call 70; refine (HC.out _ (Drew.refl _)).mono ?_; rintro e w' ⟨rfl, rfl⟩) | (go_at_call 71; refine (HJ.out _ (Drew.refl _)).mono ?_; rintro e w' ⟨rfl, hb⟩))
    go_ret2
    exact ⟨rfl, hb⟩
  · have hc2 : canJ b 4001 (l.map (·.data.toList)) = false := by simpa using hc
    rw [hc2] at hcan ⊢
    rw [joinStr_no hc2]
    have HC := Lib.hid hcan
    clear hcan hc hc2 h hs hlm
    go_enter Tryd.func64, Tryd.ntmps64
    go_wp2_with (go_at_call 70; refine (HC.out _ (Drew.refl _)).mono ?_; rintro e w' ⟨rfl, rfl⟩)
    go_ret2
    exact ⟨rfl, Below.refl _ _⟩
end Go.Proofs.YtddnedngjijpoaaDoor
end
section
namespace Go.Proofs.YtddnedngjijpoaaDoor
open Go
set_option linter.unusedVariables false
theorem dec_byte : ∀ (k u : Nat), u ≤ k → ∀ c ∈ Lib.decDigits u, 48 ≤ c.toNat ∧ c.toNat ≤ 57 := by
  intro k
  induction k with
  | zero =>
    intro u hu c hc
    obtain rfl : u = 0 := by omega
    rw [Lib.decDigits, dif_pos (by omega)] at hc
    simp only [List.mem_singleton] at hc
    subst hc
    decide
  | succ k ih =>
    intro u hu c hc
    rw [Lib.decDigits] at hc
    have dig : ∀ d : Nat, d < 10 → 48 ≤ (UInt8.ofNat (48 + d)).toNat ∧ (UInt8.ofNat (48 + d)).toNat ≤ 57 := by decide
    by_cases h : u < 10
    · rw [dif_pos h] at hc
      simp only [List.mem_singleton] at hc
      subst hc
      exact dig u h
    · rw [dif_neg h] at hc
      rcases List.mem_append.1 hc with hc | hc
      · exact ih (u / 10) (by omega) c hc
      · simp only [List.mem_singleton] at hc
        subst hc
        exact dig (u % 10) (by omega)
theorem itoa_byte (x : Int) : ∀ c ∈ Lib.itoa x, c = 45 ∨ (48 ≤ c.toNat ∧ c.toNat ≤ 57) := by
  intro c hc
  unfold Lib.itoa at hc
  split at hc
  · rcases List.mem_cons.1 hc with hc | hc
    · exact .inl hc
    · exact .inr (dec_byte _ _ (Nat.le_refl _) c hc)
  · exact .inr (dec_byte _ _ (Nat.le_refl _) c hc)
theorem itoa_has (x : Int) {b : UInt8} (h1 : b ≠ 45) (h2 : b.toNat < 48) : hasB (Lib.itoa x) b = false := by
  unfold hasB
  rw [List.any_eq_false]
  intro c hc
  rcases itoa_byte x c hc with rfl | h
  · simpa using Ne.symm h1
  · simp only [beq_iff_eq]
    rintro rfl
    omega
theorem dec_len (k : Nat) : ∀ u : Nat, u < 10 ^ k → 1 ≤ k → (Lib.decDigits u).length ≤ k := by
  induction k with
  | zero => intro u hu h; omega
  | succ k ih =>
    intro u hu h
    rw [Lib.decDigits]
    by_cases h10 : u < 10
    · rw [dif_pos h10]; simp
    · rw [dif_neg h10]
      by_cases hk : k = 0
      · subst hk; simp at hu; omega
      · have := ih (u / 10) (by rw [Nat.pow_succ] at hu; omega) (by omega)
        simp only [List.length_append, List.length_cons, List.length_nil]; omega
theorem itoa_len7 {x : Int} (h1 : -999999 ≤ x) (h2 : x ≤ 999999) : (Lib.itoa x).length ≤ 7 := by
  unfold Lib.itoa
  split
  · have := dec_len 6 x.natAbs (by have : (10 : Nat) ^ 6 = 1000000 := rfl; omega) (by omega)
    simp only [List.length_cons]; omega
  · have := dec_len 6 x.toNat (by have : (10 : Nat) ^ 6 = 1000000 := rfl; omega) (by omega)
    omega
theorem canJ_ok {b : UInt8} {n : Nat} : ∀ (L : List (List UInt8)) (room : Int), (∀ s ∈ L, s.length ≤ n ∧ hasB s b = false) → ((L.length * (n + 1) : Nat) : Int) ≤ room → canJ b room L = true
  | [], _, _, _ => rfl
  | s :: r, room, h, hr => by
    obtain ⟨h1, h2⟩ := h s (List.mem_cons_self ..)
    rw [List.length_cons, Nat.succ_mul] at hr
    rw [canJ_step b room s r (by omega) h2]
    exact canJ_ok r _ (fun t ht => h t (List.mem_cons_of_mem _ ht)) (by omega)
theorem tail_has {b c : UInt8} (hbc : b ≠ c) : ∀ (L : List (List UInt8)), (∀ s ∈ L, hasB s c = false) → hasB (Lib.joinTail [b] L) c = false
  | [], _ => rfl
  | s :: r, h => by
    have h1 := h s (List.mem_cons_self ..)
    have h2 := tail_has hbc r fun t ht => h t (List.mem_cons_of_mem _ ht)
    simp only [hasB, Lib.joinTail, List.map_cons, List.flatten_cons, List.any_append, List.any_cons, List.any_nil] at h1 h2 ⊢
    rw [h1, h2]
    simp [hbc]
theorem join_has {b c : UInt8} (hbc : b ≠ c) {L : List (List UInt8)} (h : ∀ s ∈ L, hasB s c = false) : hasB (Lib.join L [b]) c = false := by
  cases L with
  | nil => rfl
  | cons s r =>
    rw [Lib.join_cons]
    have h1 := h s (List.mem_cons_self ..)
    have h2 := tail_has hbc r fun t ht => h t (List.mem_cons_of_mem _ ht)
    simp only [hasB, List.any_append] at h1 h2 ⊢
    rw [h1, h2]; rfl
theorem join_len {b : UInt8} {n : Nat} : ∀ (L : List (List UInt8)), (∀ s ∈ L, s.length ≤ n) → (Lib.joinTail [b] L).length ≤ L.length * (n + 1)
  | [], _ => by simp [Lib.joinTail]
  | s :: r, h => by
    have h1 := h s (List.mem_cons_self ..)
    have h2 := join_len (b := b) r fun t ht => h t (List.mem_cons_of_mem _ ht)
    simp only [Lib.joinTail, List.map_cons, List.flatten_cons, List.length_append, List.length_cons, List.length_nil, Nat.succ_mul] at h2 ⊢
    omega
def numT (l : List Int) : List UInt8 := Lib.join (l.map Lib.itoa) [47]
def SmallL (l : List Int) : Prop := 0 < l.length ∧ l.length ≤ 10 ∧ ∀ x ∈ l, -999999 ≤ x ∧ x ≤ 999999
theorem numT_can {l : List Int} (h : SmallL l) : canJ 47 4001 (l.map Lib.itoa) = true := by
  refine canJ_ok (n := 7) _ _ (fun s hs => ?_) (by rw [List.length_map]; have := h.2.1; omega)
  obtain ⟨x, hx, rfl⟩ := List.mem_map.1 hs
  exact ⟨itoa_len7 (h.2.2 x hx).1 (h.2.2 x hx).2, itoa_has x (by decide) (by decide)⟩
theorem numT_len {l : List Int} (h : SmallL l) : (numT l).length ≤ 80 := by
  unfold numT
  cases l with
  | nil => simp [Lib.join_nil]
  | cons x r =>
    rw [List.map_cons, Lib.join_cons, List.length_append]
    have h1 := h.2.2 x (List.mem_cons_self ..)
    have h2 := itoa_len7 h1.1 h1.2
    have h3 := join_len (b := 47) (n := 7) (r.map Lib.itoa) fun s hs => by
      obtain ⟨y, hy, rfl⟩ := List.mem_map.1 hs
      have := h.2.2 y (List.mem_cons_of_mem _ hy)
      exact itoa_len7 this.1 this.2
    have h4 := h.2.1
    rw [List.length_map] at h3
    simp only [List.length_cons] at h4
    omega
theorem numT_has (l : List Int) : hasB (numT l) 32 = false := join_has (by decide) fun s hs => by
  obtain ⟨x, hx, rfl⟩ := List.mem_map.1 hs
  exact itoa_has x (by decide) (by decide)
def rowT (T : List (List Int)) : List UInt8 := Lib.join (T.map numT) [32]
theorem rowT_can {T : List (List Int)} (h : ∀ l ∈ T, SmallL l) (hT : T.length ≤ 40) : canJ 32 4001 (T.map numT) = true := by
  refine canJ_ok (n := 80) _ _ (fun s hs => ?_) (by rw [List.length_map]; omega)
  obtain ⟨x, hx, rfl⟩ := List.mem_map.1 hs
  exact ⟨numT_len (h x hx), numT_has x⟩
theorem join_snoc {b : UInt8} {L : List (List UInt8)} (s : List UInt8) (h : L ≠ []) : Lib.join (L ++ [s]) [b] = Lib.join L [b] ++ [b] ++ s := by
  cases L with
  | nil => exact absurd rfl h
  | cons x r =>
    rw [List.cons_append, Lib.join_cons, Lib.join_cons]
    simp [Lib.joinTail]
theorem rowT_len {T : List (List Int)} (h : ∀ l ∈ T, SmallL l) : (rowT T).length ≤ T.length * 81 := by
  unfold rowT
  cases T with
  | nil => simp [Lib.join_nil]
  | cons l r =>
    rw [List.map_cons, Lib.join_cons, List.length_append]
    have h1 := numT_len (h l (List.mem_cons_self ..))
    have h3 := join_len (b := 32) (n := 80) (r.map numT) fun s hs => by
      obtain ⟨y, hy, rfl⟩ := List.mem_map.1 hs
      exact numT_len (h y (List.mem_cons_of_mem _ hy))
    rw [List.length_map] at h3
    simp only [List.length_cons]
    omega
theorem numT_two (a b : Int) : numT [a, b] = Lib.itoa a ++ [47] ++ Lib.itoa b := by
  unfold numT
  simp [Lib.join_cons, Lib.joinTail]
end Go.Proofs.YtddnedngjijpoaaDoor
end
section
namespace Go.Proofs.YtddnedngjijpoaaDoor
open Go.ChangeShapes Go.WideShapes Go.ChangeAt Go.RowKit
set_option linter.unusedVariables false
theorem gTab : Tryd.prog.globalNamed "internal/strconv.uint64pow10" = some 1 := by kernel_rfl
theorem gTabType : (Tryd.prog.globals[1]?).map (·.type) = some 117 := by kernel_rfl
theorem cellsTab : Tryd.prog.cellsOf 117 = 20 := by kernel_rfl
theorem cellsU64 : Tryd.prog.cellsOf 48 = 1 := by kernel_rfl

theorem table_of {d1 d2 : String × DataW Unit} {rest : List (String × DataW Unit)} {W : World}
    (h : laidMet Tryd.prog (d1 :: d2 :: ("internal/strconv.uint64pow10", Rows.laid_internal_strconv_uint64pow10) :: rest) W) : Lib.TabIs Tryd.prog W "internal/strconv.uint64pow10" .u64 Lib.pow10Tab :=
  Lib.tabIs_of_head (rest := rest) gTab gTabType Tryd.underlying117 Tryd.underlying48 cellsU64 cellsTab h.tail.tail

def db32 : List Int := [0, 1, 28, 2, 29, 14, 24, 3, 30, 22, 20, 15, 25, 17, 4, 8, 31, 27, 13, 23, 21, 19, 16, 7, 26, 12, 18, 6, 11, 5, 10, 9]
def db64 : List Int := [0, 1, 56, 2, 57, 49, 28, 3, 61, 58, 42, 50, 38, 29, 17, 4, 62, 47, 59, 36, 45, 43, 51, 22, 53, 39, 33, 30, 24, 18, 12, 5, 63, 55, 48, 27, 60, 41, 37, 16, 46, 35, 44, 21, 52, 32, 23, 11, 54, 26, 40, 15, 34, 20, 31, 10, 25, 14, 19, 9, 13, 8, 7, 6]
def p10 : List Int := [1, 10, 100, 1000, 10000, 100000, 1000000, 10000000, 100000000, 1000000000, 10000000000, 100000000000, 1000000000000, 10000000000000, 100000000000000, 1000000000000000, 10000000000000000, 100000000000000000, 1000000000000000000, 10000000000000000000]
def putCells (cs : Array Value) : Obj → Obj
  | .cells _ t frozen => .cells cs t frozen
  | o => o
noncomputable def laidWorld (os : Os) : World :=
  let w0 := World.holding Tryd.prog os ⟨#[], #[], []⟩
  { w0 with heap := ((w0.heap.modify 1 (putCells (p10.map fun z => Value.int .u64 z).toArray)).modify 2 (putCells (db32.map fun z => Value.int .u8 z).toArray)).modify 3 (putCells (db64.map fun z => Value.int .u8 z).toArray) }
end Go.Proofs.YtddnedngjijpoaaDoor
end
section
namespace Go.Proofs.YtddnedngjijpoaaDoor.Ab
open Go Go.RowKit
set_option linter.unusedVariables false
set_option linter.unusedSimpArgs false
theorem TabA.xt2 {m M : Mem} {v : Value} {T : List (List Int)} (h : TabA m v T) (hx : Ext m M) : TabA M v T := by
  obtain ⟨n0, rfl, _⟩ := hx
  exact h.ro.ext n0
theorem rc_plain {P : Program} {f : FuncId} {args : List Value} {m : Mem} {v : Value} (hf : ∃ fn, P.funcs[f]? = some fn ∧ (fn.name == "runtime.NumGoroutine") = false ∧ fn.body.isNone = false) (hv : ∀ ρ, VR ρ v v)
    (H : ∀ (ρ : Places) (w : World) (cargs : List Value), MRel w w.heap.size ρ (roM m) w → VL ρ args cargs → Calls P f cargs.toArray w (fun e w' => e = .returned v ∧ Below w.heap.size w w')) : RC P f args m (AnsV v) :=
  ⟨hf, fun ρ w cargs hm ha => (H ρ w cargs hm ha).mono fun e w' ⟨he, hb⟩ => ⟨v, v, [], [], he, ⟨rfl, noRo_nil⟩, noRo_nil, by simpa using hm.keep hb, by simpa using hv ρ⟩⟩
theorem FnOk.is {P : Program} {f : FuncId} {n : Nat} {c : ACode} {res : List ARes} (hf : FnOk P f n c res) : ∃ fn, P.funcs[f]? = some fn ∧ (fn.name == "runtime.NumGoroutine") = false ∧ fn.body.isNone = false := by
  obtain ⟨fn, C, hfn, hname, hb, _⟩ := hf.ok
  exact ⟨fn, hfn, hname, by rw [hb]; rfl⟩
theorem VL.inv1 {ρ : Places} {x : Value} {cs : List Value} (h : VL ρ [x] cs) : ∃ y, cs = [y] ∧ VR ρ x y := by
  obtain ⟨hl, hp⟩ := h
  match cs, hl with
  | [y], _ => exact ⟨y, rfl, hp 0 x y rfl rfl⟩
theorem VL.inv2 {ρ : Places} {x1 x2 : Value} {cs : List Value} (h : VL ρ [x1, x2] cs) : ∃ y1 y2, cs = [y1, y2] ∧ VR ρ x1 y1 ∧ VR ρ x2 y2 := by
  obtain ⟨hl, hp⟩ := h
  match cs, hl with
  | [y1, y2], _ => exact ⟨y1, y2, rfl, hp 0 x1 y1 rfl rfl, hp 1 x2 y2 rfl rfl⟩
theorem VR.str_inv {ρ : Places} {s : ByteArray} {x : Value} (h : VR ρ (.string s) x) : x = .string s := by cases h; rfl
theorem vr_sb (ρ : Places) (s : ByteArray) (b : Bool) : VR ρ (.tuple #[.string s, .bool b]) (.tuple #[.string s, .bool b]) :=
  .tup rfl fun i x y hx hy => by
    rw [hx] at hy
    cases hy
    match i, hx with
    | 0, hx => cases hx; exact .str _
    | 1, hx => cases hx; exact .bool _
    | i + 2, hx => simp at hx
theorem tab_of {w : World} {base : Nat} (h : TabOk base w) : Lib.TabIs Tryd.prog w "internal/strconv.uint64pow10" .u64 Lib.pow10Tab := by
  obtain ⟨h1, t, fz, h2⟩ := h _ _ rfl
  unfold Lib.TabIs World.var?
  rw [gTab]
  simp only [Option.bind_some, h2]
theorem tab_ok {W : World} (h : Lib.TabIs Tryd.prog W "internal/strconv.uint64pow10" .u64 Lib.pow10Tab) : TabOk W.heap.size W := by
  unfold Lib.TabIs World.var? at h
  rw [gTab] at h
  simp only [Option.bind_some] at h
  intro g vs hg
  obtain ⟨rfl, rfl⟩ : 1 = g ∧ (Lib.pow10Tab.map fun z => Value.int .u64 z).toArray = vs := by
    have := Option.some.inj hg
    exact ⟨congrArg Prod.fst this, congrArg Prod.snd this⟩
  split at h
  · rename_i cs t fz hc
    have := Option.some.inj h
    subst this
    exact ⟨(Array.getElem?_eq_some_iff.1 hc).1, t, fz, hc⟩
  · cases h
theorem implFormat_rc (m : Mem) (n : Int) (h1 : -999999 ≤ n) (h2 : n ≤ 999999) : RC Tryd.prog 69 [.int .i64 n] m (AnsV (.tuple #[.string ⟨(Lib.itoa n).toArray⟩, .bool true])) := by
  have e1 : fmtStr n = ⟨(Lib.itoa n).toArray⟩ := by unfold fmtStr; rw [if_pos ⟨h1, h2⟩]
  have e2 : fmtOk n = true := by unfold fmtOk; exact decide_eq_true ⟨h1, h2⟩
  rw [← e1, ← e2]
  refine rc_plain ok_impl_FormatInt.is (fun ρ => vr_sb ρ _ _) fun ρ w cargs hm ha => ?_
  obtain ⟨y, rfl, hy⟩ := ha.inv1
  obtain rfl := hy.int_inv
  refine implFormat_any n w ?_ (tab_of hm.tab)
  have a1 : (IntKind.i64).min = -9223372036854775808 := by decide
  have a2 : (IntKind.i64).max = 9223372036854775807 := by decide
  simp only [Lit.wf, a1, a2, Bool.and_eq_true, decide_eq_true_eq]
  omega
theorem l1Num_rc (m : Mem) (n : Int) (h1 : -999999 ≤ n) (h2 : n ≤ 999999) : RC Tryd.prog 43 [.int .i64 n] m (AnsV (.string ⟨(Lib.itoa n).toArray⟩)) := by
  refine rc_plain ok_spec_l1Num.is (fun ρ => .str _) fun ρ w cargs hm ha => ?_
  obtain ⟨y, rfl, hy⟩ := ha.inv1
  obtain rfl := hy.int_inv
  exact (l1Num_any n w (by omega) (by omega)).mono fun e w' ⟨he, hd⟩ => ⟨he, hd.below _⟩
theorem cell_lt {w : World} {a : Addr} {v : Value} (h : w.cell? a = some v) : a.block < w.heap.size := by
  rcases Nat.lt_or_ge a.block w.heap.size with h1 | h1
  · exact h1
  · unfold World.cell? at h
    rw [Array.getElem?_eq_none h1] at h
    cases h
theorem implJoin_rc (m : Mem) (id off fl n : Nat) (l : List ByteArray) (b : UInt8) (hn : n = l.length) (hrd : ∀ k s, l[k]? = some s → rdc m id (off + k) = some (.string s)) (hl : 0 < l.length) (hl2 : l.length ≤ 1048576) (hs : ∀ s ∈ l, s.size ≤ 1048576) :
    RC Tryd.prog 64 [.slice (some ⟨id, off, none⟩) n fl, .string ⟨#[b]⟩] m (AnsV (.tuple #[.string (joinStr b (l.map (·.data.toList))), .bool (canJ b 4001 (l.map (·.data.toList)))])) := by
  subst hn
  refine rc_plain ok_impl_JoinStrings.is (fun ρ => vr_sb ρ _ _) fun ρ w cargs hm ha => ?_
  obtain ⟨y1, y2, rfl, g1, g2⟩ := ha.inv2
  obtain rfl := g2.str_inv
  obtain ⟨b1, o, tot, c, A, rfl, hp, hk, hc, h0, hfl⟩ := g1.slice_inv
  have hA : A = _ := VR.slice_addr hl hk h0 hfl
  have cell : ∀ k s, l[k]? = some s → w.cell? ⟨b1, o + off + k, none⟩ = some (.string s) := fun k s h => by
    obtain ⟨y, h1, h2⟩ := hm.load (k := off + k) (x := .string s) (by rw [rdc_roM]; exact hrd k s h) hp
    obtain rfl := h2.str_inv
    rw [Nat.add_assoc]; exact h1
  refine implJoin_at l A c b w (fun _ => ⟨b1, o + off, hA, ?_, fun k u hu => ?_⟩) hl2 hk hs hl
  · exact cell_lt (cell 0 l[0] (List.getElem?_eq_getElem hl))
  · rw [List.getElem?_map] at hu
    cases hs' : l[k]? with
    | none => rw [hs'] at hu; cases hu
    | some s => rw [hs'] at hu; cases hu; exact cell k s hs'

def strC (L : List (List UInt8)) : List Value := L.map fun s => Value.string ⟨s.toArray⟩
theorem strC_len (L : List (List UInt8)) : (strC L).length = L.length := by simp [strC]
theorem strC_app (L : List (List UInt8)) (s : List UInt8) : strC (L ++ [s]) = strC L ++ [.string ⟨s.toArray⟩] := by simp [strC]
theorem strC_at {L : List (List UInt8)} {k : Nat} {s : ByteArray} (h : (L.map fun s => (⟨s.toArray⟩ : ByteArray))[k]? = some s) : (strC L)[k]? = some (.string s) := by
  rw [List.getElem?_map] at h
  rw [strC, List.getElem?_map]
  cases hk : L[k]? with
  | none => rw [hk] at h; cases h
  | some t => rw [hk] at h; cases h; rfl
theorem strC_back (L : List (List UInt8)) : (L.map fun s => (⟨s.toArray⟩ : ByteArray)).map (·.data.toList) = L := by
  rw [List.map_map]; conv => rhs; rw [← List.map_id L]
  exact List.map_congr_left fun x _ => rfl
theorem join_own {m : Mem} {id fl n : Nat} {L : List (List UInt8)} {b : UInt8} {e : TypeId} (h : OwnB m id e (strC L)) (hn : n = L.length) (hl : 0 < L.length) (hl2 : L.length ≤ 1048576) (hs : ∀ s ∈ L, s.length ≤ 1048576) (hc : canJ b 4001 L = true) :
    RC Tryd.prog 64 [.slice (some ⟨id, 0, none⟩) n fl, .string ⟨#[b]⟩] m (AnsV (.tuple #[.string ⟨(Lib.join L [b]).toArray⟩, .bool true])) := by
  have H := implJoin_rc m id 0 fl n (L.map fun s => (⟨s.toArray⟩ : ByteArray)) b (by rw [List.length_map]; exact hn) (fun k s hk => by rw [Nat.zero_add, h.rd]; exact strC_at hk) (by rw [List.length_map]; exact hl) (by rw [List.length_map]; exact hl2)
    (fun s hs' => by
      obtain ⟨t, ht, rfl⟩ := List.mem_map.1 hs'
      exact hs t ht)
  rw [strC_back, joinStr_yes hc, hc] at H
  exact H
theorem bsl_str {m : Mem} {e : TypeId} {s : ByteArray} : bslA m e 1 1 [.string ⟨#[]⟩] [(0, 1, .string s)] = some (.slice (some ⟨m.length, 0, none⟩) 1 1, m ++ [⟨.own, e, [.string s]⟩]) := rfl
theorem take_nextM {α : Type} {f : α → List UInt8} {l : List α} {i : Nat} (h : i < l.length) : (l.take (i + 1)).map f = (l.take i).map f ++ [f l[i]] := by
  rw [List.take_succ_eq_append_getElem h, List.map_append]; rfl
theorem numbersText_rc (m : Mem) (v : Value) (l : List Int) (h : IntsA m v l) (hs : SmallL l) : RC Tryd.prog 63 [v] m (AnsV (.tuple #[.string ⟨(numT l).toArray⟩, .bool true])) := by
  refine rc_of_run mixed ok_impl_numbersText (by simp) (go_start _ _ _ ?_)
  have hr := h.ro
  obtain ⟨p1, p2, p3⟩ := hs
  simp (config := {implicitDefEqProofs := false, maxDischargeDepth := 20}) (disch := first | omega | (simp only [lenE]; done) | (simp only [lenE]; omega) | rfl | (simp only [lenE, markR_len]; done) | (simp only [lenE, markR_len]; omega)) only [runE, mapE, listE, initT_5, initT_6, initT_7, initT_8, resV, oneV, binA, unA, reduceCtorEq, Nat.reduceEqDiff, Nat.reduceAdd, Nat.reduceLT, Nat.reduceLeDiff, Nat.reduceMul, Nat.reduceSub, ↓reduceIte, decide_true, decide_false, Bool.true_eq_false, Bool.false_eq_true, Bool.not_true, Bool.not_false, if_true, if_false, and_true, true_and, memE, celE, w64, Nat.zero_add, Nat.add_zero, Nat.mul_one, putL, and_self, ldn, c_impl_numbersText, r_impl_numbersText, bsl_no, hr.len]
  refine loop_inv mixed (fun s => ∃ (i : Nat) (M : Mem) (id : Nat), i ≤ l.length ∧ s.m = M ∧ Ext m M ∧ OwnB M id 9 (strC ((l.take i).map Lib.itoa)) ∧ m.length ≤ id ∧ s.t 4 = .slice (some ⟨id, 0, none⟩) i 1 ∧ s.t 10 = v ∧ s.t 11 = .int .i64 l.length ∧ s.t 12 = .int .i64 i) (fun s => l.length - (intOf (s.t 12)).toNat)
    ⟨0, _, m.length, by omega, rfl, (Ext.refl m).one _ _, OwnB.here (by simp [roM_len]), by omega, by simp only [put_t, put_t', put_m, putT_t, putT_t', putT_m, init_t, init_m, initT_0, initT_1, initT_2, initT_3, initT_4, initT_5, initT_6, initT_7, initT_8, Nat.reduceEqDiff, ↓reduceIte], rfl, rfl, rfl⟩ ?_
  rintro s ⟨i, M, id, hi, tm, hX, ho, hid, t4, t10, t11, t12⟩
  have hM := hX.ints hr
  by_cases hlt : i < l.length
  · have hlt' : (i : Int) < l.length := by omega
    have hx := p3 l[i] (List.getElem_mem hlt)
    have hg : l.getD i 0 = l[i] := by rw [List.getD_eq_getElem?_getD, List.getElem?_eq_getElem hlt]; rfl
    have c2 := hM.ld i hlt
    rw [hg] at c2
    simp (config := {implicitDefEqProofs := false, maxDischargeDepth := 20}) (disch := first | omega | (simp only [lenE]; done) | (simp only [lenE]; omega) | rfl | (simp only [lenE, markR_len]; done) | (simp only [lenE, markR_len]; omega)) only [runE, mapE, listE, initT_5, initT_6, initT_7, initT_8, resV, oneV, binA, unA, reduceCtorEq, Nat.reduceEqDiff, Nat.reduceAdd, Nat.reduceLT, Nat.reduceLeDiff, Nat.reduceMul, Nat.reduceSub, ↓reduceIte, decide_true, decide_false, Bool.true_eq_false, Bool.false_eq_true, Bool.not_true, Bool.not_false, if_true, if_false, and_true, true_and, memE, celE, w64, Nat.zero_add, Nat.add_zero, Nat.mul_one, putL, and_self, ldn, tm, t4, t10, t11, t12, hlt', hM.at_ i hlt, c2]
    refine callH_rc (implFormat_rc M l[i] hx.1 hx.2) ?_
    rintro r n1 ⟨rfl, nr1⟩
    have ho1 := ho.ext n1
    have hX1 := hX.app nr1
    have hidl := ho1.lt
    have hXl := hX1.len
    obtain ⟨M1, hM1⟩ : ∃ M', M' = M ++ n1 := ⟨_, rfl⟩
    rw [← hM1] at ho1 hX1 hidl hXl
    rw [← hM1]
    have happ := app_back (M := M1) (id2 := M1.length) (sz := 1) (byt := 16) (n := i) (ys := [.string ⟨(Lib.itoa l[i]).toArray⟩]) ho1 rfl (by rw [strC_len, List.length_map, List.length_take]; omega) rfl rfl (by omega) (by omega)
    simp (config := {implicitDefEqProofs := false, maxDischargeDepth := 20}) (disch := first | omega | (simp only [lenE]; done) | (simp only [lenE]; omega) | rfl | (simp only [lenE, markR_len]; done) | (simp only [lenE, markR_len]; omega)) only [runE, mapE, listE, initT_5, initT_6, initT_7, initT_8, resV, oneV, binA, unA, reduceCtorEq, Nat.reduceEqDiff, Nat.reduceAdd, Nat.reduceLT, Nat.reduceLeDiff, Nat.reduceMul, Nat.reduceSub, ↓reduceIte, decide_true, decide_false, Bool.true_eq_false, Bool.false_eq_true, Bool.not_true, Bool.not_false, if_true, if_false, and_true, true_and, memE, celE, w64, Nat.zero_add, Nat.add_zero, Nat.mul_one, putL, and_self, ldn, ext_2_0, ext_2_1, t4, t10, t11, t12, bsl_str, happ]
    refine ⟨⟨i + 1, _, M1.length + 1, by omega, rfl, ((hX1.dead (by omega)).one _ _).one _ _, ?_, by omega, rfl, by simp⟩, by simp [intOf]; omega⟩
    rw [take_nextM hlt, strC_app]
    exact OwnB.here (by simp)
  · have hlt' : ¬ ((i : Int) < l.length) := by omega
    have e : i = l.length := by omega
    subst e
    rw [List.take_of_length_le (Nat.le_refl _)] at ho
    simp (config := {implicitDefEqProofs := false, maxDischargeDepth := 20}) (disch := first | omega | (simp only [lenE]; done) | (simp only [lenE]; omega) | rfl | (simp only [lenE, markR_len]; done) | (simp only [lenE, markR_len]; omega)) only [runE, mapE, listE, initT_5, initT_6, initT_7, initT_8, resV, oneV, binA, unA, reduceCtorEq, Nat.reduceEqDiff, Nat.reduceAdd, Nat.reduceLT, Nat.reduceLeDiff, Nat.reduceMul, Nat.reduceSub, ↓reduceIte, decide_true, decide_false, Bool.true_eq_false, Bool.false_eq_true, Bool.not_true, Bool.not_false, if_true, if_false, and_true, true_and, memE, celE, w64, Nat.zero_add, Nat.add_zero, Nat.mul_one, putL, and_self, ldn, tm, t4, t10, t11, t12, hlt']
    refine callH_rc (join_own (b := 47) ho (by rw [List.length_map]) (by rw [List.length_map]; omega) (by rw [List.length_map]; omega) (fun s hs => ?_) (numT_can ⟨p1, p2, p3⟩)) ?_
    · obtain ⟨x, hx, rfl⟩ := List.mem_map.1 hs
      have := itoa_len7 (p3 x hx).1 (p3 x hx).2
      omega
    rintro r n1 ⟨rfl, nr1⟩
    simp (config := {implicitDefEqProofs := false, maxDischargeDepth := 20}) (disch := first | omega | (simp only [lenE]; done) | (simp only [lenE]; omega) | rfl | (simp only [lenE, markR_len]; done) | (simp only [lenE, markR_len]; omega)) only [runE, mapE, listE, initT_5, initT_6, initT_7, initT_8, resV, oneV, binA, unA, reduceCtorEq, Nat.reduceEqDiff, Nat.reduceAdd, Nat.reduceLT, Nat.reduceLeDiff, Nat.reduceMul, Nat.reduceSub, ↓reduceIte, decide_true, decide_false, Bool.true_eq_false, Bool.false_eq_true, Bool.not_true, Bool.not_false, if_true, if_false, and_true, true_and, memE, celE, w64, Nat.zero_add, Nat.add_zero, Nat.mul_one, putL, and_self, ldn, ext_2_0, ext_2_1]
    exact ext_ansV3 (hX.app nr1) rfl
def rowsS (T : List (List Int)) : ByteArray := if T.length = 0 then ⟨#[110, 111, 110, 101]⟩ else ⟨(rowT T).toArray⟩
theorem rowsText_rc (m : Mem) (v : Value) (T : List (List Int)) (h : TabA m v T) (hs : ∀ l ∈ T, SmallL l) (hT : T.length ≤ 40) : RC Tryd.prog 42 [v] m (AnsV (.tuple #[.string (rowsS T), .bool true])) := by
  refine rc_of_run mixed ok_impl_rowsText (by simp) (go_start _ _ _ ?_)
  have hr := h.ro
  by_cases h0 : T.length = 0
  · have h0' : ((T.length : Int) == 0) = true := by rw [h0]; rfl
    simp (config := {implicitDefEqProofs := false, maxDischargeDepth := 20}) (disch := first | omega | (simp only [lenE]; done) | (simp only [lenE]; omega) | rfl | (simp only [lenE, markR_len]; done) | (simp only [lenE, markR_len]; omega)) only [runE, mapE, listE, initT_5, initT_6, initT_7, initT_8, resV, oneV, binA, unA, reduceCtorEq, Nat.reduceEqDiff, Nat.reduceAdd, Nat.reduceLT, Nat.reduceLeDiff, Nat.reduceMul, Nat.reduceSub, ↓reduceIte, decide_true, decide_false, Bool.true_eq_false, Bool.false_eq_true, Bool.not_true, Bool.not_false, if_true, if_false, and_true, true_and, memE, celE, w64, Nat.zero_add, Nat.add_zero, Nat.mul_one, putL, and_self, ldn, c_impl_rowsText, r_impl_rowsText, hr.len, h0']
    try simp only [List.append_assoc, List.cons_append, List.nil_append, List.append_nil]
    exact ⟨[], by simp, noRo_nil, by simp [rowsS, h0], noRo_nil⟩
  have h0' : ((T.length : Int) == 0) = false := by simpa using h0
  simp (config := {implicitDefEqProofs := false, maxDischargeDepth := 20}) (disch := first | omega | (simp only [lenE]; done) | (simp only [lenE]; omega) | rfl | (simp only [lenE, markR_len]; done) | (simp only [lenE, markR_len]; omega)) only [runE, mapE, listE, initT_5, initT_6, initT_7, initT_8, resV, oneV, binA, unA, reduceCtorEq, Nat.reduceEqDiff, Nat.reduceAdd, Nat.reduceLT, Nat.reduceLeDiff, Nat.reduceMul, Nat.reduceSub, ↓reduceIte, decide_true, decide_false, Bool.true_eq_false, Bool.false_eq_true, Bool.not_true, Bool.not_false, if_true, if_false, and_true, true_and, memE, celE, w64, Nat.zero_add, Nat.add_zero, Nat.mul_one, putL, and_self, ldn, c_impl_rowsText, r_impl_rowsText, bsl_no, hr.len, h0']
  refine loop_inv mixed (fun s => ∃ (i : Nat) (M : Mem) (id : Nat), i ≤ T.length ∧ s.m = M ∧ Ext m M ∧ OwnB M id 9 (strC ((T.take i).map numT)) ∧ m.length ≤ id ∧ s.t 4 = .slice (some ⟨id, 0, none⟩) i 1 ∧ s.t 13 = v ∧ s.t 14 = .int .i64 T.length ∧ s.t 15 = .int .i64 i) (fun s => T.length - (intOf (s.t 15)).toNat)
    ⟨0, _, m.length, by omega, rfl, (Ext.refl m).one _ _, OwnB.here (by simp [roM_len]), by omega, by simp only [put_t, put_t', put_m, putT_t, putT_t', putT_m, init_t, init_m, initT_0, initT_1, initT_2, initT_3, initT_4, initT_5, initT_6, initT_7, initT_8, Nat.reduceEqDiff, ↓reduceIte], rfl, rfl, rfl⟩ ?_
  rintro s ⟨i, M, id, hi, tm, hX, ho, hid, t4, t13, t14, t15⟩
  have hM := TabA.xt2 h hX
  by_cases hlt : i < T.length
  · have hlt' : (i : Int) < T.length := by omega
    have hx := hs T[i] (List.getElem_mem hlt)
    have hg : T.getD i [] = T[i] := by rw [List.getD_eq_getElem?_getD, List.getElem?_eq_getElem hlt]; rfl
    obtain ⟨u, c2, c3⟩ := hM.ld i hlt
    rw [hg] at c3
    simp (config := {implicitDefEqProofs := false, maxDischargeDepth := 20}) (disch := first | omega | (simp only [lenE]; done) | (simp only [lenE]; omega) | rfl | (simp only [lenE, markR_len]; done) | (simp only [lenE, markR_len]; omega)) only [runE, mapE, listE, initT_5, initT_6, initT_7, initT_8, resV, oneV, binA, unA, reduceCtorEq, Nat.reduceEqDiff, Nat.reduceAdd, Nat.reduceLT, Nat.reduceLeDiff, Nat.reduceMul, Nat.reduceSub, ↓reduceIte, decide_true, decide_false, Bool.true_eq_false, Bool.false_eq_true, Bool.not_true, Bool.not_false, if_true, if_false, and_true, true_and, memE, celE, w64, Nat.zero_add, Nat.add_zero, Nat.mul_one, putL, and_self, ldn, tm, t4, t13, t14, t15, hlt', hM.at_ i hlt, c2]
    refine callH_rc (numbersText_rc M u T[i] c3 hx) ?_
    rintro r n1 ⟨rfl, nr1⟩
    have ho1 := ho.ext n1
    have hX1 := hX.app nr1
    have hidl := ho1.lt
    have hXl := hX1.len
    obtain ⟨M1, hM1⟩ : ∃ M', M' = M ++ n1 := ⟨_, rfl⟩
    rw [← hM1] at ho1 hX1 hidl hXl
    rw [← hM1]
    have happ := app_back (M := M1) (id2 := M1.length) (sz := 1) (byt := 16) (n := i) (ys := [.string ⟨(numT T[i]).toArray⟩]) ho1 rfl (by rw [strC_len, List.length_map, List.length_take]; omega) rfl rfl (by omega) (by omega)
    simp (config := {implicitDefEqProofs := false, maxDischargeDepth := 20}) (disch := first | omega | (simp only [lenE]; done) | (simp only [lenE]; omega) | rfl | (simp only [lenE, markR_len]; done) | (simp only [lenE, markR_len]; omega)) only [runE, mapE, listE, initT_5, initT_6, initT_7, initT_8, resV, oneV, binA, unA, reduceCtorEq, Nat.reduceEqDiff, Nat.reduceAdd, Nat.reduceLT, Nat.reduceLeDiff, Nat.reduceMul, Nat.reduceSub, ↓reduceIte, decide_true, decide_false, Bool.true_eq_false, Bool.false_eq_true, Bool.not_true, Bool.not_false, if_true, if_false, and_true, true_and, memE, celE, w64, Nat.zero_add, Nat.add_zero, Nat.mul_one, putL, and_self, ldn, ext_2_0, ext_2_1, t4, t13, t14, t15, bsl_str, happ]
    refine ⟨⟨i + 1, _, M1.length + 1, by omega, rfl, ((hX1.dead (by omega)).one _ _).one _ _, ?_, by omega, rfl, by simp⟩, by simp [intOf]; omega⟩
    rw [take_nextM hlt, strC_app]
    exact OwnB.here (by simp)
  · have hlt' : ¬ ((i : Int) < T.length) := by omega
    have e : i = T.length := by omega
    subst e
    rw [List.take_of_length_le (Nat.le_refl _)] at ho
    simp (config := {implicitDefEqProofs := false, maxDischargeDepth := 20}) (disch := first | omega | (simp only [lenE]; done) | (simp only [lenE]; omega) | rfl | (simp only [lenE, markR_len]; done) | (simp only [lenE, markR_len]; omega)) only [runE, mapE, listE, initT_5, initT_6, initT_7, initT_8, resV, oneV, binA, unA, reduceCtorEq, Nat.reduceEqDiff, Nat.reduceAdd, Nat.reduceLT, Nat.reduceLeDiff, Nat.reduceMul, Nat.reduceSub, ↓reduceIte, decide_true, decide_false, Bool.true_eq_false, Bool.false_eq_true, Bool.not_true, Bool.not_false, if_true, if_false, and_true, true_and, memE, celE, w64, Nat.zero_add, Nat.add_zero, Nat.mul_one, putL, and_self, ldn, tm, t4, t13, t14, t15, hlt']
    refine callH_rc (join_own (b := 32) ho (by rw [List.length_map]) (by rw [List.length_map]; omega) (by rw [List.length_map]; omega) (fun s hs' => ?_) (rowT_can hs hT)) ?_
    · obtain ⟨x, hx, rfl⟩ := List.mem_map.1 hs'
      have := numT_len (hs x hx)
      omega
    rintro r n1 ⟨rfl, nr1⟩
    simp (config := {implicitDefEqProofs := false, maxDischargeDepth := 20}) (disch := first | omega | (simp only [lenE]; done) | (simp only [lenE]; omega) | rfl | (simp only [lenE, markR_len]; done) | (simp only [lenE, markR_len]; omega)) only [runE, mapE, listE, initT_5, initT_6, initT_7, initT_8, resV, oneV, binA, unA, reduceCtorEq, Nat.reduceEqDiff, Nat.reduceAdd, Nat.reduceLT, Nat.reduceLeDiff, Nat.reduceMul, Nat.reduceSub, ↓reduceIte, decide_true, decide_false, Bool.true_eq_false, Bool.false_eq_true, Bool.not_true, Bool.not_false, if_true, if_false, and_true, true_and, memE, celE, w64, Nat.zero_add, Nat.add_zero, Nat.mul_one, putL, and_self, ldn, ext_2_0, ext_2_1]
    exact ext_ansV3 (hX.app nr1) (by rw [rowsS, if_neg h0]; rfl)
end Go.Proofs.YtddnedngjijpoaaDoor.Ab
end
section
namespace Go.Proofs.YtddnedngjijpoaaDoor.Ab
open Go Go.RowKit
set_option linter.unusedVariables false
set_option linter.unusedSimpArgs false
def rowsOf (L : List (Int × Int)) : List (List Int) := L.map fun q => [q.1, q.2]
theorem rowsOf_len (L : List (Int × Int)) : (rowsOf L).length = L.length := by simp [rowsOf]
theorem rowsOf_at {L : List (Int × Int)} {k : Nat} (h : k < L.length) : (rowsOf L).getD k [] = [(L.getD k (0, 0)).1, (L.getD k (0, 0)).2] := by
  rw [List.getD_eq_getElem?_getD, rowsOf, List.getElem?_map, List.getD_eq_getElem?_getD, List.getElem?_eq_getElem h]; rfl
theorem rowsOf_small {p : Pr} {L : List (Int × Int)} (h : p.polB L = true) : ∀ l ∈ rowsOf L, SmallL l := by
  intro l hl
  obtain ⟨q, hq, rfl⟩ := List.mem_map.1 hl
  simp only [Pr.polB, Bool.and_eq_true, List.all_eq_true] at h
  have := h.2 q hq
  simp only [Pr.pairB, levB, Bool.and_eq_true, decide_eq_true_eq] at this
  refine ⟨by simp, by simp, fun x hx => ?_⟩
  simp only [List.mem_cons, List.not_mem_nil, or_false] at hx
  rcases hx with rfl | rfl <;> omega
theorem rowsOf_take {L : List (Int × Int)} {k : Nat} (h : k < L.length) : (rowsOf L).take (k + 1) = (rowsOf L).take k ++ [[(L.getD k (0, 0)).1, (L.getD k (0, 0)).2]] := by
  have h' : k < (rowsOf L).length := by rw [rowsOf_len]; exact h
  rw [List.take_succ_eq_append_getElem h', ← rowsOf_at h, List.getD_eq_getElem?_getD, List.getElem?_eq_getElem h']; rfl
theorem pol_small {p : Pr} {L : List (Int × Int)} (hg : (p.good && p.polB L) = true) : L.length ≤ 5 ∧ p.polB L = true ∧ GoodP p := by
  rw [Bool.and_eq_true] at hg
  have hG := goodP_iff.1 hg.1
  have ht := hG.turns
  have h2 := hg.2
  simp only [Pr.polB, Bool.and_eq_true, decide_eq_true_eq] at h2
  exact ⟨by omega, hg.2, hG⟩
theorem slcp_two {id : Nat} : slcpA 1 2 (.pointer (some ⟨id, 0, none⟩)) none none = some (.slice (some ⟨id, 0, none⟩) 2 0) := rfl
def textP (p : Pr) (L : List (Int × Int)) : ByteArray := if (p.good && p.polB L) = true then rowsS (rowsOf L) else ⟨#[]⟩
theorem implText6_rc (m : Mem) (v vl : Value) (p : Pr) (L : List (Int × Int)) (h : ProcA m v p) (hL : PairsA m vl L) : RC Tryd.prog 13 [v, vl] m (AnsV (.tuple #[.string (textP p L), .bool (p.good && p.polB L)])) := by
  refine rc_of_run mixed ok_impl_TextOfPolicy (by simp) (go_start _ _ _ ?_)
  obtain ⟨u, rfl, hu⟩ := h.ro
  have hLr := hL.ro
  obtain ⟨hbL, id, fl, rfl, hc⟩ := hLr
  simp (config := {implicitDefEqProofs := false, maxDischargeDepth := 20}) (disch := first | omega | (simp only [lenE]; done) | (simp only [lenE]; omega) | rfl | (simp only [lenE, markR_len]; done) | (simp only [lenE, markR_len]; omega)) only [runE, mapE, listE, initT_5, initT_6, initT_7, initT_8, resV, oneV, binA, unA, reduceCtorEq, Nat.reduceEqDiff, Nat.reduceAdd, Nat.reduceLT, Nat.reduceLeDiff, Nat.reduceMul, Nat.reduceSub, ↓reduceIte, decide_true, decide_false, Bool.true_eq_false, Bool.false_eq_true, Bool.not_true, Bool.not_false, if_true, if_false, and_true, true_and, memE, celE, w64, Nat.zero_add, Nat.add_zero, Nat.mul_one, putL, and_self, ldn, c_impl_TextOfPolicy, r_impl_TextOfPolicy]
  refine callH_rc (isPolicy_rc _ _ _ p L (ProcA.mk (hu.ext _)) (hL.ro.ext _)) ?_
  rintro r n1 ⟨rfl, nr1⟩
  cases hg : (p.good && p.polB L) with
  | false =>
    simp (config := {implicitDefEqProofs := false, maxDischargeDepth := 20}) (disch := first | omega | (simp only [lenE]; done) | (simp only [lenE]; omega) | rfl | (simp only [lenE, markR_len]; done) | (simp only [lenE, markR_len]; omega)) only [runE, mapE, listE, initT_5, initT_6, initT_7, initT_8, resV, oneV, binA, unA, reduceCtorEq, Nat.reduceEqDiff, Nat.reduceAdd, Nat.reduceLT, Nat.reduceLeDiff, Nat.reduceMul, Nat.reduceSub, ↓reduceIte, decide_true, decide_false, Bool.true_eq_false, Bool.false_eq_true, Bool.not_true, Bool.not_false, if_true, if_false, and_true, true_and, memE, celE, w64, Nat.zero_add, Nat.add_zero, Nat.mul_one, putL, and_self, ldn]
    try simp only [List.append_assoc, List.cons_append, List.nil_append, List.append_nil]
    exact ⟨_, rfl, by (repeat (first | exact noRo_nil | assumption | apply noRo_own | apply noRo_dead | apply noRo_app)), by simp [textP, hg], by (repeat (first | exact noRo_nil | assumption | apply noRo_own | apply noRo_dead | apply noRo_app))⟩
  | true =>
  obtain ⟨hl5, hp, hG⟩ := pol_small hg
  have hX0 := ((Ext.refl m).one 26 [.int .i64 p.turns, u, .int .i64 p.setup, .int .i64 p.unit, .int .i64 p.hold, .int .i64 p.back]).app nr1
  obtain ⟨A, hA⟩ : ∃ A : Mem, A = roM m ++ [⟨.own, 26, [.int .i64 p.turns, u, .int .i64 p.setup, .int .i64 p.unit, .int .i64 p.hold, .int .i64 p.back]⟩] ++ n1 := ⟨_, rfl⟩
  rw [← hA] at hX0
  simp (config := {implicitDefEqProofs := false, maxDischargeDepth := 20}) (disch := first | omega | (simp only [lenE]; done) | (simp only [lenE]; omega) | rfl | (simp only [lenE, markR_len]; done) | (simp only [lenE, markR_len]; omega)) only [runE, mapE, listE, initT_5, initT_6, initT_7, initT_8, resV, oneV, binA, unA, reduceCtorEq, Nat.reduceEqDiff, Nat.reduceAdd, Nat.reduceLT, Nat.reduceLeDiff, Nat.reduceMul, Nat.reduceSub, ↓reduceIte, decide_true, decide_false, Bool.true_eq_false, Bool.false_eq_true, Bool.not_true, Bool.not_false, if_true, if_false, and_true, true_and, memE, celE, w64, Nat.zero_add, Nat.add_zero, Nat.mul_one, putL, and_self, ldn]
  rw [← hA]
  simp (config := {implicitDefEqProofs := false, maxDischargeDepth := 20}) (disch := first | omega | (simp only [lenE]; done) | (simp only [lenE]; omega) | rfl | (simp only [lenE, markR_len]; done) | (simp only [lenE, markR_len]; omega)) only [runE, mapE, listE, initT_5, initT_6, initT_7, initT_8, resV, oneV, binA, unA, reduceCtorEq, Nat.reduceEqDiff, Nat.reduceAdd, Nat.reduceLT, Nat.reduceLeDiff, Nat.reduceMul, Nat.reduceSub, ↓reduceIte, decide_true, decide_false, Bool.true_eq_false, Bool.false_eq_true, Bool.not_true, Bool.not_false, if_true, if_false, and_true, true_and, memE, celE, w64, Nat.zero_add, Nat.add_zero, Nat.mul_one, putL, and_self, ldn, bsl_no]
  have hAl := hX0.len
  refine loop_inv mixed (fun s => ∃ (k : Nat) (M : Mem) (rid : Nat) (ids : List Nat), k ≤ L.length ∧ s.m = M ∧ Ext m M ∧ ids.length = k ∧ OwnB M rid 24 (ids.map fun b => .slice (some ⟨b, 0, none⟩) 2 0) ∧ m.length ≤ rid ∧ (∀ j b, ids[j]? = some b → b ≠ rid ∧ OwnB M b 61 [.int .i64 (L.getD j (0, 0)).1, .int .i64 (L.getD j (0, 0)).2]) ∧ s.t 6 = .slice (some ⟨rid, 0, none⟩) k 1 ∧ s.t 14 = .slice (some ⟨id, 0, none⟩) L.length fl ∧ s.t 15 = .int .i64 L.length ∧ s.t 16 = .int .i64 k) (fun s => L.length - (intOf (s.t 16)).toNat)
    ⟨0, _, A.length, [], by omega, rfl, hX0.one _ _, rfl, OwnB.here rfl, hAl, fun j b hj => by simp at hj, by simp only [put_t, put_t', put_m, putT_t, putT_t', putT_m, init_t, init_m, initT_0, initT_1, initT_2, initT_3, initT_4, initT_5, initT_6, initT_7, initT_8, Nat.reduceEqDiff, ↓reduceIte], rfl, rfl, rfl⟩ ?_
  rintro s ⟨k, M, rid, ids, hk, tm, hX, hil, ho, hrid, hids, t6, t14, t15, t16⟩
  by_cases hlt : k < L.length
  · have hlt' : (k : Int) < L.length := by omega
    have r1 := hX.rd ((rdc_roM m id (k * 2)).symm.trans (hc k hlt).1)
    have r2 := hX.rd ((rdc_roM m id (k * 2 + 1)).symm.trans (hc k hlt).2)
    have hidM := rdc_blk2 r1
    obtain ⟨a, ha⟩ : ∃ a, a = (L.getD k (0, 0)).1 := ⟨_, rfl⟩
    obtain ⟨b, hb'⟩ : ∃ b, b = (L.getD k (0, 0)).2 := ⟨_, rfl⟩
    rw [← ha] at r1
    rw [← hb'] at r2
    obtain ⟨M1, hM1⟩ : ∃ M', M' = M ++ [⟨.own, 61, [.int .i64 a, .int .i64 b]⟩] := ⟨_, rfl⟩
    have hX1 : Ext m M1 := by rw [hM1]; exact hX.one _ _
    have hbp : OwnB M1 M.length 61 [.int .i64 a, .int .i64 b] := by rw [hM1]; exact OwnB.here rfl
    have ho1 : OwnB M1 rid 24 (ids.map fun b => .slice (some ⟨b, 0, none⟩) 2 0) := by rw [hM1]; exact ho.ext _
    have hM1l : M1.length = M.length + 1 := by rw [hM1]; simp
    have hol := ho.lt
    simp (config := {implicitDefEqProofs := false, maxDischargeDepth := 20}) (disch := first | omega | (simp only [lenE]; done) | (simp only [lenE]; omega) | rfl | (simp only [lenE, markR_len]; done) | (simp only [lenE, markR_len]; omega)) only [runE, mapE, listE, initT_5, initT_6, initT_7, initT_8, resV, oneV, binA, unA, reduceCtorEq, Nat.reduceEqDiff, Nat.reduceAdd, Nat.reduceLT, Nat.reduceLeDiff, Nat.reduceMul, Nat.reduceSub, ↓reduceIte, decide_true, decide_false, Bool.true_eq_false, Bool.false_eq_true, Bool.not_true, Bool.not_false, if_true, if_false, and_true, true_and, memE, celE, w64, Nat.zero_add, Nat.add_zero, Nat.mul_one, putL, and_self, ldn, tm, t6, t14, t15, t16, hlt', iadA_in hlt, r1, r2]
    rw [← hM1]
    have happ := app_back (M := M1) (id2 := M1.length) (sz := 1) (byt := 24) (n := k) (ys := [.slice (some ⟨M.length, 0, none⟩) 2 0]) ho1 rfl (by rw [List.length_map]; omega) rfl rfl (by omega) (by omega)
    simp (config := {implicitDefEqProofs := false, maxDischargeDepth := 20}) (disch := first | omega | (simp only [lenE]; done) | (simp only [lenE]; omega) | rfl | (simp only [lenE, markR_len]; done) | (simp only [lenE, markR_len]; omega)) only [runE, mapE, listE, initT_5, initT_6, initT_7, initT_8, resV, oneV, binA, unA, reduceCtorEq, Nat.reduceEqDiff, Nat.reduceAdd, Nat.reduceLT, Nat.reduceLeDiff, Nat.reduceMul, Nat.reduceSub, ↓reduceIte, decide_true, decide_false, Bool.true_eq_false, Bool.false_eq_true, Bool.not_true, Bool.not_false, if_true, if_false, and_true, true_and, memE, celE, w64, Nat.zero_add, Nat.add_zero, Nat.mul_one, putL, and_self, ldn, t6, t14, t15, t16, Option.map_none, slcp_two, bsl_sl', happ]
    refine ⟨⟨k + 1, _, M1.length + 1, ids ++ [M.length], by omega, rfl, ((hX1.dead (by omega)).one _ _).one _ _, by simp [hil], ?_, by omega, fun j c hj => ?_, rfl, by simp⟩, by simp [intOf]; omega⟩
    · rw [List.map_append]
      exact OwnB.here (by simp)
    · by_cases e : j < ids.length
      · rw [List.getElem?_append_left e] at hj
        obtain ⟨g1, g2⟩ := hids j c hj
        have g3 := g2.lt
        refine ⟨by omega, ((OwnB.set_ne (?_ : OwnB M1 c _ _) (Ne.symm g1) _).ext _).ext _⟩
        rw [hM1]; exact g2.ext _
      · rw [List.getElem?_append_right (by omega)] at hj
        have hj0 : j - ids.length = 0 := by
          rcases Nat.eq_zero_or_pos (j - ids.length) with h0 | h0
          · exact h0
          · rw [List.getElem?_eq_none (by simp; omega)] at hj; cases hj
        rw [hj0] at hj
        obtain rfl : M.length = c := by simpa using hj
        have hjk : j = k := by omega
        subst hjk
        refine ⟨by omega, ?_⟩
        rw [← ha, ← hb']
        exact ((OwnB.set_ne hbp (by omega) _).ext _).ext _
  · have hlt' : ¬ ((k : Int) < L.length) := by omega
    have e : k = L.length := by omega
    subst e
    have hTab : TabA M (.slice (some ⟨rid, 0, none⟩) L.length 1) (rowsOf L) := by
      have := TabA.blk (m := M) (id := rid) (fl := 1) (T := rowsOf L) (by rw [rowsOf_len]; omega) fun k hk => by
        rw [rowsOf_len] at hk
        have hi : ids[k]? = some ids[k] := List.getElem?_eq_getElem (by omega)
        obtain ⟨g1, g2⟩ := hids k _ hi
        refine ⟨.slice (some ⟨ids[k], 0, none⟩) 2 0, ?_, ?_⟩
        · rw [ho.rd, List.getElem?_map, hi]; rfl
        · rw [rowsOf_at hk]
          refine IntsA.of_block (l := [(L.getD k (0, 0)).1, (L.getD k (0, 0)).2]) (by simp) (fun j hj => ?_) (g2.rdl rfl)
          rw [Nat.zero_add, g2.rd]
          match j, hj with
          | 0, _ => rfl
          | 1, _ => rfl
      rwa [rowsOf_len] at this
    simp (config := {implicitDefEqProofs := false, maxDischargeDepth := 20}) (disch := first | omega | (simp only [lenE]; done) | (simp only [lenE]; omega) | rfl | (simp only [lenE, markR_len]; done) | (simp only [lenE, markR_len]; omega)) only [runE, mapE, listE, initT_5, initT_6, initT_7, initT_8, resV, oneV, binA, unA, reduceCtorEq, Nat.reduceEqDiff, Nat.reduceAdd, Nat.reduceLT, Nat.reduceLeDiff, Nat.reduceMul, Nat.reduceSub, ↓reduceIte, decide_true, decide_false, Bool.true_eq_false, Bool.false_eq_true, Bool.not_true, Bool.not_false, if_true, if_false, and_true, true_and, memE, celE, w64, Nat.zero_add, Nat.add_zero, Nat.mul_one, putL, and_self, ldn, tm, t6, t14, t15, t16, hlt']
    refine callH_rc (rowsText_rc _ _ (rowsOf L) hTab (rowsOf_small hp) (by rw [rowsOf_len]; omega)) ?_
    rintro r n2 ⟨rfl, nr2⟩
    simp (config := {implicitDefEqProofs := false, maxDischargeDepth := 20}) (disch := first | omega | (simp only [lenE]; done) | (simp only [lenE]; omega) | rfl | (simp only [lenE, markR_len]; done) | (simp only [lenE, markR_len]; omega)) only [runE, mapE, listE, initT_5, initT_6, initT_7, initT_8, resV, oneV, binA, unA, reduceCtorEq, Nat.reduceEqDiff, Nat.reduceAdd, Nat.reduceLT, Nat.reduceLeDiff, Nat.reduceMul, Nat.reduceSub, ↓reduceIte, decide_true, decide_false, Bool.true_eq_false, Bool.false_eq_true, Bool.not_true, Bool.not_false, if_true, if_false, and_true, true_and, memE, celE, w64, Nat.zero_add, Nat.add_zero, Nat.mul_one, putL, and_self, ldn, ext_2_0, ext_2_1]
    exact ext_ansV3 (hX.app nr2) (by rw [textP, if_pos hg])
theorem add_str {x y z : List UInt8} (h : x.length + y.length ≤ 9223372036854775807) (hz : x ++ y = z) : binA .add (.string ⟨x.toArray⟩) (.string ⟨y.toArray⟩) = some (.string ⟨z.toArray⟩) := by
  subst hz
  rw [← mk_app]
  exact if_pos h
theorem add_if {x y z : List UInt8} (h : x.length + y.length ≤ 9223372036854775807) (hz : x ++ y = z) : (if (⟨x.toArray⟩ : ByteArray).size + (⟨y.toArray⟩ : ByteArray).size ≤ 9223372036854775807 then some (Value.string (⟨x.toArray⟩ ++ ⟨y.toArray⟩)) else none) = some (.string ⟨z.toArray⟩) := by
  subst hz
  rw [← mk_app]
  exact if_pos h
theorem rowT_next {T : List (List Int)} {k : Nat} {a b : Int} (h : T.take (k + 1) = T.take k ++ [[a, b]]) : rowT (T.take (k + 1)) = if k = 0 then Lib.itoa a ++ [47] ++ Lib.itoa b else rowT (T.take k) ++ [32] ++ (Lib.itoa a ++ [47] ++ Lib.itoa b) := by
  by_cases hk : k = 0
  · subst hk
    rw [if_pos rfl, h]
    simp only [List.take_zero, List.nil_append, rowT, List.map_cons, List.map_nil, Lib.join_one]
    exact numT_two a b
  · rw [if_neg hk, h]
    unfold rowT
    rw [List.map_append, List.map_cons, List.map_nil, join_snoc, numT_two]
    intro e
    have hl : (T.take (k + 1)).length = (T.take k).length + 1 := by rw [h]; simp
    have : (T.take k).length = 0 := by rw [← List.length_map (f := numT), e]; rfl
    rw [List.length_take] at hl this
    omega
theorem specText6_rc (m : Mem) (v vl : Value) (p : Pr) (L : List (Int × Int)) (h : ProcA m v p) (hL : PairsA m vl L) : RC Tryd.prog 14 [v, vl] m (AnsV (.tuple #[.string (textP p L), .bool (p.good && p.polB L)])) := by
  refine rc_of_run mixed ok_spec_TextOfPolicy (by simp) (go_start _ _ _ ?_)
  obtain ⟨u, rfl, hu⟩ := h.ro
  have hLr := hL.ro
  obtain ⟨hbL, id, fl, rfl, hc⟩ := hLr
  simp (config := {implicitDefEqProofs := false, maxDischargeDepth := 20}) (disch := first | omega | (simp only [lenE]; done) | (simp only [lenE]; omega) | rfl | (simp only [lenE, markR_len]; done) | (simp only [lenE, markR_len]; omega)) only [runE, mapE, listE, initT_5, initT_6, initT_7, initT_8, resV, oneV, binA, unA, reduceCtorEq, Nat.reduceEqDiff, Nat.reduceAdd, Nat.reduceLT, Nat.reduceLeDiff, Nat.reduceMul, Nat.reduceSub, ↓reduceIte, decide_true, decide_false, Bool.true_eq_false, Bool.false_eq_true, Bool.not_true, Bool.not_false, if_true, if_false, and_true, true_and, memE, celE, w64, Nat.zero_add, Nat.add_zero, Nat.mul_one, putL, and_self, ldn, c_spec_TextOfPolicy, r_spec_TextOfPolicy]
  refine callH_rc (l6Good_rc _ _ p (ProcA.mk (hu.ext _))) ?_
  rintro r n1 ⟨rfl, nr1⟩
  have hX0 := ((Ext.refl m).one 26 [.int .i64 p.turns, u, .int .i64 p.setup, .int .i64 p.unit, .int .i64 p.hold, .int .i64 p.back]).app nr1
  cases h1 : p.good with
  | false =>
    simp (config := {implicitDefEqProofs := false, maxDischargeDepth := 20}) (disch := first | omega | (simp only [lenE]; done) | (simp only [lenE]; omega) | rfl | (simp only [lenE, markR_len]; done) | (simp only [lenE, markR_len]; omega)) only [runE, mapE, listE, initT_5, initT_6, initT_7, initT_8, resV, oneV, binA, unA, reduceCtorEq, Nat.reduceEqDiff, Nat.reduceAdd, Nat.reduceLT, Nat.reduceLeDiff, Nat.reduceMul, Nat.reduceSub, ↓reduceIte, decide_true, decide_false, Bool.true_eq_false, Bool.false_eq_true, Bool.not_true, Bool.not_false, if_true, if_false, and_true, true_and, memE, celE, w64, Nat.zero_add, Nat.add_zero, Nat.mul_one, putL, and_self, ldn]
    exact ext_ansV3 hX0 (by simp [textP, h1])
  | true =>
  have hG := goodP_iff.1 h1
  simp (config := {implicitDefEqProofs := false, maxDischargeDepth := 20}) (disch := first | omega | (simp only [lenE]; done) | (simp only [lenE]; omega) | rfl | (simp only [lenE, markR_len]; done) | (simp only [lenE, markR_len]; omega)) only [runE, mapE, listE, initT_5, initT_6, initT_7, initT_8, resV, oneV, binA, unA, reduceCtorEq, Nat.reduceEqDiff, Nat.reduceAdd, Nat.reduceLT, Nat.reduceLeDiff, Nat.reduceMul, Nat.reduceSub, ↓reduceIte, decide_true, decide_false, Bool.true_eq_false, Bool.false_eq_true, Bool.not_true, Bool.not_false, if_true, if_false, and_true, true_and, memE, celE, w64, Nat.zero_add, Nat.add_zero, Nat.mul_one, putL, and_self, ldn]
  refine callH_rc (l6Policy_rc _ _ _ p L (ProcA.mk ((hu.ext _).ext _)) ((hL.ro.ext _).ext _) hG) ?_
  rintro r n2 ⟨rfl, nr2⟩
  have hX2 := hX0.app nr2
  cases h2 : p.polB L with
  | false =>
    simp (config := {implicitDefEqProofs := false, maxDischargeDepth := 20}) (disch := first | omega | (simp only [lenE]; done) | (simp only [lenE]; omega) | rfl | (simp only [lenE, markR_len]; done) | (simp only [lenE, markR_len]; omega)) only [runE, mapE, listE, initT_5, initT_6, initT_7, initT_8, resV, oneV, binA, unA, reduceCtorEq, Nat.reduceEqDiff, Nat.reduceAdd, Nat.reduceLT, Nat.reduceLeDiff, Nat.reduceMul, Nat.reduceSub, ↓reduceIte, decide_true, decide_false, Bool.true_eq_false, Bool.false_eq_true, Bool.not_true, Bool.not_false, if_true, if_false, and_true, true_and, memE, celE, w64, Nat.zero_add, Nat.add_zero, Nat.mul_one, putL, and_self, ldn]
    exact ext_ansV3 hX2 (by simp [textP, h2])
  | true =>
  have hg : (p.good && p.polB L) = true := by rw [h1, h2]; rfl
  obtain ⟨hl5, hp, _⟩ := pol_small hg
  have hsm := rowsOf_small hp
  obtain ⟨A, hA⟩ : ∃ A : Mem, A = roM m ++ [⟨.own, 26, [.int .i64 p.turns, u, .int .i64 p.setup, .int .i64 p.unit, .int .i64 p.hold, .int .i64 p.back]⟩] ++ n1 ++ n2 := ⟨_, rfl⟩
  rw [← hA] at hX2
  simp (config := {implicitDefEqProofs := false, maxDischargeDepth := 20}) (disch := first | omega | (simp only [lenE]; done) | (simp only [lenE]; omega) | rfl | (simp only [lenE, markR_len]; done) | (simp only [lenE, markR_len]; omega)) only [runE, mapE, listE, initT_5, initT_6, initT_7, initT_8, resV, oneV, binA, unA, reduceCtorEq, Nat.reduceEqDiff, Nat.reduceAdd, Nat.reduceLT, Nat.reduceLeDiff, Nat.reduceMul, Nat.reduceSub, ↓reduceIte, decide_true, decide_false, Bool.true_eq_false, Bool.false_eq_true, Bool.not_true, Bool.not_false, if_true, if_false, and_true, true_and, memE, celE, w64, Nat.zero_add, Nat.add_zero, Nat.mul_one, putL, and_self, ldn]
  rw [← hA]
  have e0 : (⟨#[]⟩ : ByteArray) = ⟨(rowT ((rowsOf L).take 0)).toArray⟩ := rfl
  refine loop_inv mixed (fun s => ∃ (k : Nat) (M : Mem), k ≤ L.length ∧ s.m = M ∧ Ext m M ∧ s.t 1 = .slice (some ⟨id, 0, none⟩) L.length fl ∧ s.t 6 = .string ⟨(rowT ((rowsOf L).take k)).toArray⟩ ∧ s.t 7 = .int .i64 k) (fun s => L.length - (intOf (s.t 7)).toNat)
    ⟨0, A, by omega, rfl, hX2, rfl, by rw [← e0]; rfl, rfl⟩ ?_
  rintro s ⟨k, M, hk, tm, hX, t1, t6, t7⟩
  by_cases hlt : k < L.length
  · have hlt' : (k : Int) < L.length := by omega
    have r1 := hX.rd ((rdc_roM m id (k * 2)).symm.trans (hc k hlt).1)
    have r2 := hX.rd ((rdc_roM m id (k * 2 + 1)).symm.trans (hc k hlt).2)
    have htk := rowT_next (rowsOf_take hlt)
    have hql := hsm _ (by
      have : [(L.getD k (0, 0)).1, (L.getD k (0, 0)).2] ∈ rowsOf L := by
        rw [← rowsOf_at hlt, List.getD_eq_getElem?_getD, List.getElem?_eq_getElem (by rw [rowsOf_len]; exact hlt)]
        exact List.getElem_mem _
      exact this)
    obtain ⟨a, ha⟩ : ∃ a, a = (L.getD k (0, 0)).1 := ⟨_, rfl⟩
    obtain ⟨b, hb'⟩ : ∃ b, b = (L.getD k (0, 0)).2 := ⟨_, rfl⟩
    rw [← ha] at r1 htk hql
    rw [← hb'] at r2 htk hql
    have qa := hql.2.2 a (by simp)
    have qb := hql.2.2 b (by simp)
    have la := itoa_len7 qa.1 qa.2
    have lb := itoa_len7 qb.1 qb.2
    have hXl : (rowT ((rowsOf L).take k)).length ≤ 405 := by
      have := rowT_len (T := (rowsOf L).take k) fun l hl => hsm l (List.mem_of_mem_take hl)
      rw [List.length_take, rowsOf_len] at this
      omega
    obtain ⟨X, hX'⟩ : ∃ X, X = rowT ((rowsOf L).take k) := ⟨_, rfl⟩
    rw [← hX'] at t6 htk hXl
    obtain ⟨TA, hTA⟩ : ∃ TA, TA = Lib.itoa a := ⟨_, rfl⟩
    obtain ⟨TB, hTB⟩ : ∃ TB, TB = Lib.itoa b := ⟨_, rfl⟩
    rw [← hTA] at htk la
    rw [← hTB] at htk lb
    obtain ⟨Y, hY⟩ : ∃ Y, Y = if k = 0 then X else X ++ [32] := ⟨_, rfl⟩
    have hYl : Y.length ≤ 406 := by rw [hY]; split <;> (try simp) <;> omega
    obtain ⟨Z, hZ⟩ : ∃ Z, Z = Y ++ TA ++ [47] ++ TB := ⟨_, rfl⟩
    have htk' : rowT ((rowsOf L).take (k + 1)) = Z := by
      rw [htk, hZ, hY]
      by_cases e : k = 0
      · subst e
        have : X = [] := by rw [hX']; rfl
        rw [this]; simp
      · simp [e]
    have c2 := add_str (x := Y) (y := TA) (by omega) rfl
    have c3 := add_str (x := Y ++ TA) (y := [47]) (by simp; omega) rfl
    have c4 := add_str (x := Y ++ TA ++ [47]) (y := TB) (by simp; omega) hZ.symm
    have c2' := add_if (x := Y) (y := TA) (by omega) rfl
    have c3' := add_if (x := Y ++ TA) (y := [47]) (by simp; omega) rfl
    have c4' := add_if (x := Y ++ TA ++ [47]) (y := TB) (by simp; omega) hZ.symm
    by_cases hk0 : k = 0
    · have hd : ¬ (0 < (k : Int)) := by omega
      rw [if_pos hk0] at hY
      rw [← hY] at t6
      simp (config := {implicitDefEqProofs := false, maxDischargeDepth := 20}) (disch := first | omega | (simp only [lenE]; done) | (simp only [lenE]; omega) | rfl | (simp only [lenE, markR_len]; done) | (simp only [lenE, markR_len]; omega)) only [runE, mapE, listE, initT_5, initT_6, initT_7, initT_8, resV, oneV, binA, unA, reduceCtorEq, Nat.reduceEqDiff, Nat.reduceAdd, Nat.reduceLT, Nat.reduceLeDiff, Nat.reduceMul, Nat.reduceSub, ↓reduceIte, decide_true, decide_false, Bool.true_eq_false, Bool.false_eq_true, Bool.not_true, Bool.not_false, if_true, if_false, and_true, true_and, memE, celE, w64, Nat.zero_add, Nat.add_zero, Nat.mul_one, putL, and_self, ldn, tm, t1, t6, t7, hlt', gt_iff_lt, hd, iadA_in hlt, iada_0, iada_1, r1, r2]
      refine rcallH_rc (l1Num_rc M a qa.1 qa.2) ?_
      rintro r m1 ⟨rfl, nr1⟩
      rw [← hTA]
      simp (config := {implicitDefEqProofs := false, maxDischargeDepth := 20}) (disch := first | omega | (simp only [lenE]; done) | (simp only [lenE]; omega) | rfl | (simp only [lenE, markR_len]; done) | (simp only [lenE, markR_len]; omega)) only [runE, mapE, listE, initT_5, initT_6, initT_7, initT_8, resV, oneV, binA, unA, reduceCtorEq, Nat.reduceEqDiff, Nat.reduceAdd, Nat.reduceLT, Nat.reduceLeDiff, Nat.reduceMul, Nat.reduceSub, ↓reduceIte, decide_true, decide_false, Bool.true_eq_false, Bool.false_eq_true, Bool.not_true, Bool.not_false, if_true, if_false, and_true, true_and, memE, celE, w64, Nat.zero_add, Nat.add_zero, Nat.mul_one, putL, and_self, ldn, c2, c2', c3, c3']
      refine rcallH_rc (l1Num_rc _ b qb.1 qb.2) ?_
      rintro r m2 ⟨rfl, nr2⟩
      rw [← hTB]
      simp (config := {implicitDefEqProofs := false, maxDischargeDepth := 20}) (disch := first | omega | (simp only [lenE]; done) | (simp only [lenE]; omega) | rfl | (simp only [lenE, markR_len]; done) | (simp only [lenE, markR_len]; omega)) only [runE, mapE, listE, initT_5, initT_6, initT_7, initT_8, resV, oneV, binA, unA, reduceCtorEq, Nat.reduceEqDiff, Nat.reduceAdd, Nat.reduceLT, Nat.reduceLeDiff, Nat.reduceMul, Nat.reduceSub, ↓reduceIte, decide_true, decide_false, Bool.true_eq_false, Bool.false_eq_true, Bool.not_true, Bool.not_false, if_true, if_false, and_true, true_and, memE, celE, w64, Nat.zero_add, Nat.add_zero, Nat.mul_one, putL, and_self, ldn, t1, t7, c4, c4']
      exact ⟨⟨k + 1, _, by omega, rfl, (hX.app nr1).app nr2, by rw [htk'], by simp⟩, by simp [intOf]; omega⟩
    · have hd : 0 < (k : Int) := by omega
      rw [if_neg hk0] at hY
      have c1 := add_str (x := X) (y := [32]) (by simp; omega) hY.symm
      have c1' := add_if (x := X) (y := [32]) (by simp; omega) hY.symm
      simp (config := {implicitDefEqProofs := false, maxDischargeDepth := 20}) (disch := first | omega | (simp only [lenE]; done) | (simp only [lenE]; omega) | rfl | (simp only [lenE, markR_len]; done) | (simp only [lenE, markR_len]; omega)) only [runE, mapE, listE, initT_5, initT_6, initT_7, initT_8, resV, oneV, binA, unA, reduceCtorEq, Nat.reduceEqDiff, Nat.reduceAdd, Nat.reduceLT, Nat.reduceLeDiff, Nat.reduceMul, Nat.reduceSub, ↓reduceIte, decide_true, decide_false, Bool.true_eq_false, Bool.false_eq_true, Bool.not_true, Bool.not_false, if_true, if_false, and_true, true_and, memE, celE, w64, Nat.zero_add, Nat.add_zero, Nat.mul_one, putL, and_self, ldn, tm, t1, t6, t7, hlt', gt_iff_lt, hd, c1, c1', iadA_in hlt, iada_0, iada_1, r1, r2]
      refine rcallH_rc (l1Num_rc M a qa.1 qa.2) ?_
      rintro r m1 ⟨rfl, nr1⟩
      rw [← hTA]
      simp (config := {implicitDefEqProofs := false, maxDischargeDepth := 20}) (disch := first | omega | (simp only [lenE]; done) | (simp only [lenE]; omega) | rfl | (simp only [lenE, markR_len]; done) | (simp only [lenE, markR_len]; omega)) only [runE, mapE, listE, initT_5, initT_6, initT_7, initT_8, resV, oneV, binA, unA, reduceCtorEq, Nat.reduceEqDiff, Nat.reduceAdd, Nat.reduceLT, Nat.reduceLeDiff, Nat.reduceMul, Nat.reduceSub, ↓reduceIte, decide_true, decide_false, Bool.true_eq_false, Bool.false_eq_true, Bool.not_true, Bool.not_false, if_true, if_false, and_true, true_and, memE, celE, w64, Nat.zero_add, Nat.add_zero, Nat.mul_one, putL, and_self, ldn, c2, c2', c3, c3']
      refine rcallH_rc (l1Num_rc _ b qb.1 qb.2) ?_
      rintro r m2 ⟨rfl, nr2⟩
      rw [← hTB]
      simp (config := {implicitDefEqProofs := false, maxDischargeDepth := 20}) (disch := first | omega | (simp only [lenE]; done) | (simp only [lenE]; omega) | rfl | (simp only [lenE, markR_len]; done) | (simp only [lenE, markR_len]; omega)) only [runE, mapE, listE, initT_5, initT_6, initT_7, initT_8, resV, oneV, binA, unA, reduceCtorEq, Nat.reduceEqDiff, Nat.reduceAdd, Nat.reduceLT, Nat.reduceLeDiff, Nat.reduceMul, Nat.reduceSub, ↓reduceIte, decide_true, decide_false, Bool.true_eq_false, Bool.false_eq_true, Bool.not_true, Bool.not_false, if_true, if_false, and_true, true_and, memE, celE, w64, Nat.zero_add, Nat.add_zero, Nat.mul_one, putL, and_self, ldn, t1, t7, c4, c4']
      exact ⟨⟨k + 1, _, by omega, rfl, (hX.app nr1).app nr2, by rw [htk'], by simp⟩, by simp [intOf]; omega⟩
  · have hlt' : ¬ ((k : Int) < L.length) := by omega
    have e : k = L.length := by omega
    subst e
    rw [List.take_of_length_le (by rw [rowsOf_len]; omega)] at t6
    by_cases h0 : L.length = 0
    · have h0' : ((L.length : Int) == 0) = true := by rw [h0]; rfl
      simp (config := {implicitDefEqProofs := false, maxDischargeDepth := 20}) (disch := first | omega | (simp only [lenE]; done) | (simp only [lenE]; omega) | rfl | (simp only [lenE, markR_len]; done) | (simp only [lenE, markR_len]; omega)) only [runE, mapE, listE, initT_5, initT_6, initT_7, initT_8, resV, oneV, binA, unA, reduceCtorEq, Nat.reduceEqDiff, Nat.reduceAdd, Nat.reduceLT, Nat.reduceLeDiff, Nat.reduceMul, Nat.reduceSub, ↓reduceIte, decide_true, decide_false, Bool.true_eq_false, Bool.false_eq_true, Bool.not_true, Bool.not_false, if_true, if_false, and_true, true_and, memE, celE, w64, Nat.zero_add, Nat.add_zero, Nat.mul_one, putL, and_self, ldn, tm, t1, t6, t7, hlt', h0']
      exact ext_ansV3 hX (by simp [textP, hg, rowsS, rowsOf_len, h0])
    · have h0' : ((L.length : Int) == 0) = false := by simpa using h0
      simp (config := {implicitDefEqProofs := false, maxDischargeDepth := 20}) (disch := first | omega | (simp only [lenE]; done) | (simp only [lenE]; omega) | rfl | (simp only [lenE, markR_len]; done) | (simp only [lenE, markR_len]; omega)) only [runE, mapE, listE, initT_5, initT_6, initT_7, initT_8, resV, oneV, binA, unA, reduceCtorEq, Nat.reduceEqDiff, Nat.reduceAdd, Nat.reduceLT, Nat.reduceLeDiff, Nat.reduceMul, Nat.reduceSub, ↓reduceIte, decide_true, decide_false, Bool.true_eq_false, Bool.false_eq_true, Bool.not_true, Bool.not_false, if_true, if_false, and_true, true_and, memE, celE, w64, Nat.zero_add, Nat.add_zero, Nat.mul_one, putL, and_self, ldn, tm, t1, t6, t7, hlt', h0']
      exact ext_ansV3 hX (by simp [textP, hg, rowsS, rowsOf_len, h0])
end Go.Proofs.YtddnedngjijpoaaDoor.Ab
end
section
namespace Go.Proofs.YtddnedngjijpoaaDoor.Ab
open Go Go.RowKit
set_option linter.unusedVariables false
set_option linter.unusedSimpArgs false
def Adds (W : World) (ρ ρ' : Places) (m m' : Mem) : Prop := ρ <+: ρ' ∧ MRel W W.heap.size ρ' m' W ∧ ∃ new, m' = m ++ new
theorem Adds.trans {W : World} {ρ1 ρ2 ρ3 : Places} {m1 m2 m3 : Mem} (h : Adds W ρ1 ρ2 m1 m2) (h' : Adds W ρ2 ρ3 m2 m3) : Adds W ρ1 ρ3 m1 m3 := by
  obtain ⟨a, b, n1, rfl⟩ := h
  obtain ⟨c, d, n2, rfl⟩ := h'
  exact ⟨a.trans c, d, n1 ++ n2, by rw [List.append_assoc]⟩
theorem Adds.refl {W : World} {ρ : Places} {m : Mem} (h : MRel W W.heap.size ρ m W) : Adds W ρ ρ m m := ⟨List.prefix_refl _, h, [], by simp⟩
theorem addFlat {W : World} {ρ : Places} {m : Mem} (h : MRel W W.heap.size ρ m W) {v : Value} {n : Nat} {cs xs : List Value} (hi : FlatIn W v n cs) (hx : ∀ (k : Nat) (x : Value), xs[k]? = some x → ∃ y, cs[k]? = some y ∧ VR ρ x y) (hz : 0 < n → 0 < cs.length) :
    ∃ ρ', Adds W ρ ρ' m (m ++ [⟨.ro, 0, xs⟩]) ∧ VR ρ' (.slice (some ⟨m.length, 0, none⟩) n 0) v := by
  obtain ⟨A, c, rfl, hlc, hc, hr⟩ := hi
  by_cases hl : 0 < cs.length
  · obtain ⟨b, off, rfl, hb, hcell⟩ := hr hl
    refine ⟨ρ ++ [(b, off, 0)], ⟨pre_snoc _ _, h.addRo fun k x hk => ?_, _, rfl⟩, ?_⟩
    · obtain ⟨y, hy, hv⟩ := hx k x hk
      exact ⟨hb, y, hcell k y hy, hv⟩
    · exact .sl (b := b) (o := off) (tot := 0) (by rw [← h.len]; simp) hlc hc (fun _ _ => by simp) (fun hf => absurd hf (by omega))
  · refine ⟨ρ ++ [(0, 0, 0)], ⟨pre_snoc _ _, h.addRo fun k x hk => ?_, _, rfl⟩, ?_⟩
    · obtain ⟨y, hy, _⟩ := hx k x hk
      have := (List.getElem?_eq_some_iff.1 hy).1
      omega
    · exact .sl (b := 0) (o := 0) (tot := 0) (by rw [← h.len]; simp) hlc hc (fun _ hp => absurd (hz hp) hl) (fun hf => absurd hf (by omega))
theorem rdc_roNew (m : Mem) (xs : List Value) (k : Nat) : rdc (m ++ [⟨.ro, 0, xs⟩]) m.length k = xs[k]? := by simp [rdc]
theorem argI2 {W : World} {ρ : Places} {m : Mem} (h : MRel W W.heap.size ρ m W) {v : Value} {l : List Int} (hi : IntsIn W v l) :
    ∃ ρ' m', Adds W ρ ρ' m m' ∧ ∃ x, VR ρ' x v ∧ IntsA m' x l := by
  obtain ⟨p, h1, h2⟩ := h.argInts hi
  exact ⟨_, _, ⟨pre_snoc _ _, h1, _, rfl⟩, _, h2, (RowA.arg (IntsIn.bd hi) rfl).ints 0⟩
theorem argPairs {W : World} {ρ : Places} {m : Mem} (h : MRel W W.heap.size ρ m W) {v : Value} {L : List (Int × Int)} (hi : PairsIn W v L) :
    ∃ ρ' m', Adds W ρ ρ' m m' ∧ ∃ x, VR ρ' x v ∧ PairsA m' x L := by
  have hb : L.length ≤ 9223372036854775807 := by
    obtain ⟨A, c, _, h1, h2, _⟩ := hi
    unfold maxLen at h2; omega
  have hall : ∀ (k : Nat) (x : Value), (pairsC L)[k]? = some x → ∃ z, x = .int .i64 z := by
    intro k x hx
    have hk := (List.getElem?_eq_some_iff.1 hx).1
    rw [pairsC_len] at hk
    have p := pairsC_at L (k / 2) (by omega)
    have ei : k = k / 2 * 2 ∨ k = k / 2 * 2 + 1 := by omega
    rcases ei with ei | ei
    · rw [← ei] at p; rw [p.1] at hx; cases hx; exact ⟨_, rfl⟩
    · rw [← ei] at p; rw [p.2] at hx; cases hx; exact ⟨_, rfl⟩
  obtain ⟨ρ', ha, hv⟩ := addFlat h hi (xs := pairsC L) (fun k x hx => ⟨x, hx, by obtain ⟨z, rfl⟩ := hall k x hx; exact .int _ _⟩) (by rw [pairsC_len]; omega)
  exact ⟨ρ', _, ha, _, hv, hb, m.length, 0, rfl, fun k hk => by rw [rdc_roNew, rdc_roNew]; exact pairsC_at L k hk⟩
end Go.Proofs.YtddnedngjijpoaaDoor.Ab
end
section
namespace Go.Proofs.YtddnedngjijpoaaDoor
open Go.RowKit Go.ChangeShapes Go.WideShapes Go.ChangeAt
open Go.WideMaps Go.WideElems
set_option linter.unusedVariables false
def ProcIn (W : World) (v : Value) (p : Pr) : Prop := ∃ u, v = .agg #[.int .i64 p.turns, u, .int .i64 p.setup, .int .i64 p.unit, .int .i64 p.hold, .int .i64 p.back] ∧ IntsIn W u p.w
set_option maxRecDepth 100000 in
theorem open_process {H : Type} {enc : TypeId × Value → H} {W : World} {base : Nat} {v : Value} {d : DataW H} {ps : List MemPlace}
    (hval : Value.okWide Tryd.prog W .any base 39 v) (h : DataW.Trod enc Tryd.prog W 0 (fun _ => true) true 39 v d ps) : ∃ p, ProcIn W v p := by
  simp only [Value.okWide, Tryd.underlying39] at hval
  obtain ⟨cs, rfl, hsz, _⟩ := hval
  have hsz6 : cs.size = 6 := hsz.trans (by kernel_rfl)
  obtain ⟨fuel, hf⟩ := h
  obtain ⟨xs, n, _, _, _, hlen, hfield⟩ := DataW.trod_struct Tryd.underlying39 hf
  obtain ⟨a, b, c, d, e, f, rfl⟩ : ∃ a b c d e f, cs = #[a, b, c, d, e, f] := by
    obtain ⟨l⟩ := cs
    match l, hsz6 with
    | [a, b, c, d, e, f], _ => exact ⟨a, b, c, d, e, f, rfl⟩
  have hci : Tryd.prog.cellsOf 3 = 1 := by kernel_rfl
  have hcs : Tryd.prog.cellsOf 24 = 1 := by kernel_rfl
  match xs, hlen with
  | [y0, y1, y2, y3, y4, y5], _ =>
    obtain ⟨z0, k0, _⟩ := int_trod (cs := [a]) (by simpa [Value.cells, hci] using hfield 0 _ rfl)
    obtain ⟨u1, l1, k1, h1⟩ := ints_trod (cs := [b]) (by simpa [Value.cells, hcs] using hfield 1 _ rfl)
    obtain ⟨z2, k2, _⟩ := int_trod (cs := [c]) (by simpa [Value.cells, hci] using hfield 2 _ rfl)
    obtain ⟨z3, k3, _⟩ := int_trod (cs := [d]) (by simpa [Value.cells, hci] using hfield 3 _ rfl)
    obtain ⟨z4, k4, _⟩ := int_trod (cs := [e]) (by simpa [Value.cells, hci] using hfield 4 _ rfl)
    obtain ⟨z5, k5, _⟩ := int_trod (cs := [f]) (by simpa [Value.cells, hci] using hfield 5 _ rfl)
    cases k0; cases k1; cases k2; cases k3; cases k4; cases k5
    exact ⟨⟨z0, l1, z2, z3, z4, z5⟩, _, rfl, h1⟩
end Go.Proofs.YtddnedngjijpoaaDoor
end
section
namespace Go.Proofs.YtddnedngjijpoaaDoor.Ab
open Go Go.RowKit
set_option linter.unusedVariables false
theorem vr6 {ρ : Places} {a b c d e f x : Value} (h : VR ρ x b) (ha : VR ρ a a) (hc : VR ρ c c) (hd : VR ρ d d) (he : VR ρ e e) (hf : VR ρ f f) : VR ρ (.agg #[a, x, c, d, e, f]) (.agg #[a, b, c, d, e, f]) := by
  obtain ⟨h1, h2⟩ := (VL.cons ha (VL.cons h (VL.cons hc (VL.cons hd (VL.cons he (VL.cons hf (VL.nil ρ))))))).arr
  exact .agg h1 h2
theorem argProc {W : World} {ρ : Places} {m : Mem} (h : MRel W W.heap.size ρ m W) {v : Value} {p : Pr} (hi : ProcIn W v p) :
    ∃ ρ' m', Adds W ρ ρ' m m' ∧ ∃ x, VR ρ' x v ∧ ProcA m' x p := by
  obtain ⟨u, rfl, hu⟩ := hi
  obtain ⟨ρ', m', a, x, hx, hA⟩ := argI2 h hu
  exact ⟨ρ', m', a, _, vr6 hx (.int _ _) (.int _ _) (.int _ _) (.int _ _) (.int _ _), x, rfl, hA⟩
theorem ProcA.one {m : Mem} {p : Pr} {u : Value} (h : ProcA m (procV p u) p) (xs : List Value) : onesB (u :: xs) = onesB xs := by
  obtain ⟨u', e, hu⟩ := h
  have e' : u = u' := by simpa [procV] using e
  rw [e']; exact hu.one xs
end Go.Proofs.YtddnedngjijpoaaDoor.Ab
end
section
namespace Go.Proofs.YtddnedngjijpoaaDoor.Ab
open Go Go.RowKit Go.Proofs
set_option maxRecDepth 100000
def c_laws_FnExactTextOfPolicy : ACode := .seq (.reg [⟨(some 2), .box 39 (.tmp 0), none⟩,
  ⟨(some 4), .mv (.const (.bool false)), none⟩])
 (.seq (.reg [⟨(some 5), .mv (.const (.int .i64 1048576)), none⟩])
 (.seq (.reg [⟨(some 12), .ld (some 6) (.tmp 2), none⟩,
  ⟨(some 13), .mv (.tmp 5), none⟩,
  ⟨(some 14), .call (.func 15) [(.tmp 12), (.tmp 13)], none⟩,
  ⟨(some 5), .mv (.tmp 14), none⟩])
 (.seq (.seq (.reg [⟨(some 15), .mv (.tmp 5), none⟩,
  ⟨(some 16), .bin .lss (.tmp 15) (.const (.int .i64 0)), none⟩])
 (.cond (.tmp 16) (.seq (.reg [⟨(some 4), .mv (.const (.bool true)), none⟩])
 (.ret)) (.skip)))
 (.seq (.reg [⟨(some 17), .mv (.tmp 1), none⟩,
  ⟨(some 18), .mv (.tmp 5), none⟩,
  ⟨(some 19), .call (.func 16) [(.tmp 17), (.tmp 18)], none⟩,
  ⟨(some 5), .mv (.tmp 19), none⟩])
 (.seq (.seq (.reg [⟨(some 20), .mv (.tmp 5), none⟩,
  ⟨(some 21), .bin .lss (.tmp 20) (.const (.int .i64 0)), none⟩])
 (.cond (.tmp 21) (.seq (.reg [⟨(some 4), .mv (.const (.bool true)), none⟩])
 (.ret)) (.skip)))
 (.seq (.reg [⟨(some 23), .ld (some 6) (.tmp 2), none⟩,
  ⟨(some 24), .call (.func 17) [(.tmp 23)], none⟩,
  ⟨(some 25), .mv (.tmp 1), none⟩,
  ⟨(some 26), .call (.func 18) [(.tmp 25)], none⟩,
  ⟨(some 27), .call (.func 14) [(.tmp 24), (.tmp 26)], none⟩,
  ⟨(some 22), .mv (.tmp 27), none⟩,
  ⟨(some 28), .ext 0 (.tmp 22), none⟩,
  ⟨(some 29), .ext 1 (.tmp 22), none⟩,
  ⟨(some 6), .mv (.tmp 28), none⟩,
  ⟨(some 7), .mv (.tmp 29), none⟩])
 (.seq (.reg [⟨(some 30), .ld (some 6) (.tmp 2), none⟩,
  ⟨(some 31), .call (.func 17) [(.tmp 30)], none⟩,
  ⟨(some 8), .alc 26 [(.int .i64 0), (.slice none 0 0), (.int .i64 0), (.int .i64 0), (.int .i64 0), (.int .i64 0)], none⟩,
  ⟨none, .st 6 (.tmp 8) (.tmp 31), none⟩])
 (.seq (.reg [⟨(some 32), .mv (.tmp 1), none⟩,
  ⟨(some 33), .call (.func 18) [(.tmp 32)], none⟩,
  ⟨(some 9), .mv (.tmp 33), none⟩])
 (.seq (.reg [⟨(some 35), .ld (some 6) (.tmp 8), none⟩,
  ⟨(some 36), .mv (.tmp 9), none⟩,
  ⟨(some 37), .call (.func 13) [(.tmp 35), (.tmp 36)], none⟩,
  ⟨(some 34), .mv (.tmp 37), none⟩,
  ⟨(some 38), .ext 0 (.tmp 34), none⟩,
  ⟨(some 39), .ext 1 (.tmp 34), none⟩,
  ⟨(some 10), .mv (.tmp 38), none⟩,
  ⟨(some 11), .mv (.tmp 39), none⟩])
 (.seq (.seq (.reg [⟨(some 40), .mv (.tmp 10), none⟩,
  ⟨(some 41), .mv (.tmp 6), none⟩,
  ⟨(some 42), .bin .neq (.tmp 40) (.tmp 41), none⟩,
  ⟨(some 43), .mv (.tmp 42), none⟩,
  ⟨(some 44), .mv (.tmp 11), (some (43, false))⟩,
  ⟨(some 45), .mv (.tmp 7), (some (43, false))⟩,
  ⟨(some 46), .beq true (.tmp 44) (.tmp 45), (some (43, false))⟩,
  ⟨(some 47), .pick (.tmp 43) (.const (.bool true)) (.tmp 46), none⟩])
 (.cond (.tmp 47) (.seq (.reg [⟨(some 4), .mv (.const (.bool false)), none⟩])
 (.ret)) (.skip)))
 (.seq (.seq (.reg [⟨(some 48), .ld (some 6) (.tmp 8), none⟩,
  ⟨(some 49), .ld (some 6) (.tmp 2), none⟩,
  ⟨(some 50), .rcall (.func 17) [(.tmp 49)], none⟩,
  ⟨(some 51), .rcall (.func 19) [(.tmp 48), (.tmp 50)], none⟩,
  ⟨(some 52), .un .not (.tmp 51), none⟩])
 (.cond (.tmp 52) (.seq (.reg [⟨(some 4), .mv (.const (.bool false)), none⟩])
 (.ret)) (.skip)))
 (.seq (.seq (.reg [⟨(some 53), .mv (.tmp 9), none⟩,
  ⟨(some 54), .mv (.tmp 1), none⟩,
  ⟨(some 55), .call (.func 18) [(.tmp 54)], none⟩,
  ⟨(some 56), .call (.func 20) [(.tmp 53), (.tmp 55)], none⟩,
  ⟨(some 57), .un .not (.tmp 56), none⟩])
 (.cond (.tmp 57) (.seq (.reg [⟨(some 4), .mv (.const (.bool false)), none⟩])
 (.ret)) (.skip)))
 (.seq (.reg [⟨(some 4), .mv (.const (.bool true)), none⟩])
 (.ret))))))))))))))
def r_laws_FnExactTextOfPolicy : List ARes := [.tmp 4]
theorem ok_laws_FnExactTextOfPolicy : FnOk Tryd.prog 4 58 c_laws_FnExactTextOfPolicy r_laws_FnExactTextOfPolicy := ⟨⟨Tryd.f4, _, Tryd.func4, by kernel_rfl, rfl, rfl, by kernel_rfl, by kernel_rfl⟩⟩
end Go.Proofs.YtddnedngjijpoaaDoor.Ab
end
section
namespace Go.Proofs.YtddnedngjijpoaaDoor.Ab
open Go Go.RowKit
set_option linter.unusedVariables false
set_option linter.unusedSimpArgs false
set_option maxRecDepth 100000
set_option maxHeartbeats 4000000 in
theorem law_FnExactTextOfPolicy (M0 : Mem) (d0 : Pr) (v0 : Value) (d1 : List (Int × Int)) (v1 : Value) (A0 : ProcA M0 v0 d0) (A1 : PairsA M0 v1 d1) :
    AC Tryd.prog 4 [v0, v1] M0 fun r _ => r = .bool true := by
  refine ac_of_run mixed ok_laws_FnExactTextOfPolicy (by simp) (go_start _ _ _ ?_)
  have A0c := A0
  obtain ⟨u0, rfl, -⟩ := A0c
  have C0 : Lv 0 M0.length M0 fun M => ProcA M (procV d0 u0) d0 := Lv.all fun new => A0.ext new
  have C1 : Lv 0 M0.length M0 fun M => PairsA M v1 d1 := Lv.all fun new => A1.ext new
  try simp (config := {implicitDefEqProofs := false, maxDischargeDepth := 20}) (disch := first | omega | (simp only [lenE]; done) | (simp only [lenE]; omega) | rfl | (simp only [lenE, markR_len]; done) | (simp only [lenE, markR_len]; omega)) only [runE, mapE, listE, initT_5, initT_6, initT_7, initT_8, resV, oneV, binA, unA, reduceCtorEq, Nat.reduceEqDiff, Nat.reduceAdd, Nat.reduceLT, Nat.reduceLeDiff, Nat.reduceMul, Nat.reduceSub, ↓reduceIte, decide_true, decide_false, Bool.true_eq_false, Bool.false_eq_true, Bool.not_true, Bool.not_false, if_true, if_false, and_true, true_and, memE, celE, w64, Nat.zero_add, Nat.add_zero, Nat.mul_one, putL, and_self, ldn, c_laws_FnExactTextOfPolicy, r_laws_FnExactTextOfPolicy, id_eq, ext_2_0, ext_2_1, ext_3_0, ext_3_1, ext_3_2, ext_4_0, ext_4_1, ext_4_2, ext_4_3, beq_self_eq_true, bne_self_eq_false, gt_iff_lt]
  obtain ⟨M1, hM1⟩ : ∃ M', M' = M0 ++ [⟨.own, 39, [.int .i64 d0.turns, u0, .int .i64 d0.setup, .int .i64 d0.unit, .int .i64 d0.hold, .int .i64 d0.back]⟩] := ⟨_, rfl⟩
  rw [← hM1]
  have LM1 : M1.length = M0.length + 1 := by rw [hM1, List.length_append]; rfl
  replace C0 : Lv 0 M0.length M1 fun M => ProcA M (procV d0 u0) d0 := by rw [hM1]; exact C0.ext _
  replace C1 : Lv 0 M0.length M1 fun M => PairsA M v1 d1 := by rw [hM1]; exact C1.ext _
  have X0 : BoxA M1 M0.length [.int .i64 d0.turns, u0, .int .i64 d0.setup, .int .i64 d0.unit, .int .i64 d0.hold, .int .i64 d0.back] := by rw [hM1]; exact BoxA.here _ _ _ rfl
  try simp (config := {implicitDefEqProofs := false, maxDischargeDepth := 20}) (disch := first | omega | (simp only [lenE]; done) | (simp only [lenE]; omega) | rfl | (simp only [lenE, markR_len]; done) | (simp only [lenE, markR_len]; omega)) only [runE, mapE, listE, initT_5, initT_6, initT_7, initT_8, resV, oneV, binA, unA, reduceCtorEq, Nat.reduceEqDiff, Nat.reduceAdd, Nat.reduceLT, Nat.reduceLeDiff, Nat.reduceMul, Nat.reduceSub, ↓reduceIte, decide_true, decide_false, Bool.true_eq_false, Bool.false_eq_true, Bool.not_true, Bool.not_false, if_true, if_false, and_true, true_and, memE, celE, w64, Nat.zero_add, Nat.add_zero, Nat.mul_one, putL, and_self, ldn, id_eq, ext_2_0, ext_2_1, ext_3_0, ext_3_1, ext_3_2, ext_4_0, ext_4_1, ext_4_2, ext_4_3, beq_self_eq_true, bne_self_eq_false, gt_iff_lt, X0.ld6]
  refine callH_rc (szProcess_rc _ _ d0 1048576 C0.now (by omega) (by omega)) ?_
  rintro r new ⟨nrn, rfl | ⟨z1, za1, zb1, rfl, hs0⟩⟩
  · simp (config := {implicitDefEqProofs := false, maxDischargeDepth := 20}) (disch := first | omega | (simp only [lenE]; done) | (simp only [lenE]; omega) | rfl | (simp only [lenE, markR_len]; done) | (simp only [lenE, markR_len]; omega)) only [runE, mapE, listE, initT_5, initT_6, initT_7, initT_8, resV, oneV, binA, unA, reduceCtorEq, Nat.reduceEqDiff, Nat.reduceAdd, Nat.reduceLT, Nat.reduceLeDiff, Nat.reduceMul, Nat.reduceSub, ↓reduceIte, decide_true, decide_false, Bool.true_eq_false, Bool.false_eq_true, Bool.not_true, Bool.not_false, if_true, if_false, and_true, true_and, memE, celE, w64, Nat.zero_add, Nat.add_zero, Nat.mul_one, putL, and_self, ldn, show ((-1 : Int) < 0) = True by simp]
  have zc1 : ¬ (z1 < 0) := by omega
  obtain ⟨M2, hM2⟩ : ∃ M', M' = M1 ++ new := ⟨_, rfl⟩
  rw [← hM2]
  have LM2 : M2.length = M1.length + new.length := by rw [hM2, List.length_append]
  replace C0 : Lv 0 M0.length M2 fun M => ProcA M (procV d0 u0) d0 := by rw [hM2]; exact C0.ext _
  replace C1 : Lv 0 M0.length M2 fun M => PairsA M v1 d1 := by rw [hM2]; exact C1.ext _
  replace X0 : BoxA M2 M0.length [.int .i64 d0.turns, u0, .int .i64 d0.setup, .int .i64 d0.unit, .int .i64 d0.hold, .int .i64 d0.back] := by rw [hM2]; exact X0.ext _
  clear nrn
  try simp (config := {implicitDefEqProofs := false, maxDischargeDepth := 20}) (disch := first | omega | (simp only [lenE]; done) | (simp only [lenE]; omega) | rfl | (simp only [lenE, markR_len]; done) | (simp only [lenE, markR_len]; omega)) only [runE, mapE, listE, initT_5, initT_6, initT_7, initT_8, resV, oneV, binA, unA, reduceCtorEq, Nat.reduceEqDiff, Nat.reduceAdd, Nat.reduceLT, Nat.reduceLeDiff, Nat.reduceMul, Nat.reduceSub, ↓reduceIte, decide_true, decide_false, Bool.true_eq_false, Bool.false_eq_true, Bool.not_true, Bool.not_false, if_true, if_false, and_true, true_and, memE, celE, w64, Nat.zero_add, Nat.add_zero, Nat.mul_one, putL, and_self, ldn, id_eq, ext_2_0, ext_2_1, ext_3_0, ext_3_1, ext_3_2, ext_4_0, ext_4_1, ext_4_2, ext_4_3, beq_self_eq_true, bne_self_eq_false, gt_iff_lt, zc1, X0.ld6]
  try simp (config := {implicitDefEqProofs := false, maxDischargeDepth := 20}) (disch := first | omega | (simp only [lenE]; done) | (simp only [lenE]; omega) | rfl | (simp only [lenE, markR_len]; done) | (simp only [lenE, markR_len]; omega)) only [runE, mapE, listE, initT_5, initT_6, initT_7, initT_8, resV, oneV, binA, unA, reduceCtorEq, Nat.reduceEqDiff, Nat.reduceAdd, Nat.reduceLT, Nat.reduceLeDiff, Nat.reduceMul, Nat.reduceSub, ↓reduceIte, decide_true, decide_false, Bool.true_eq_false, Bool.false_eq_true, Bool.not_true, Bool.not_false, if_true, if_false, and_true, true_and, memE, celE, w64, Nat.zero_add, Nat.add_zero, Nat.mul_one, putL, and_self, ldn, id_eq, ext_2_0, ext_2_1, ext_3_0, ext_3_1, ext_3_2, ext_4_0, ext_4_1, ext_4_2, ext_4_3, beq_self_eq_true, bne_self_eq_false, gt_iff_lt, X0.ld6]
  refine callH_rc (szIntA2S_rc _ _ d1 z1 C1.now (by omega) (by omega)) ?_
  rintro r new ⟨nrn, rfl | ⟨z2, za2, zb2, rfl, hs1⟩⟩
  · simp (config := {implicitDefEqProofs := false, maxDischargeDepth := 20}) (disch := first | omega | (simp only [lenE]; done) | (simp only [lenE]; omega) | rfl | (simp only [lenE, markR_len]; done) | (simp only [lenE, markR_len]; omega)) only [runE, mapE, listE, initT_5, initT_6, initT_7, initT_8, resV, oneV, binA, unA, reduceCtorEq, Nat.reduceEqDiff, Nat.reduceAdd, Nat.reduceLT, Nat.reduceLeDiff, Nat.reduceMul, Nat.reduceSub, ↓reduceIte, decide_true, decide_false, Bool.true_eq_false, Bool.false_eq_true, Bool.not_true, Bool.not_false, if_true, if_false, and_true, true_and, memE, celE, w64, Nat.zero_add, Nat.add_zero, Nat.mul_one, putL, and_self, ldn, show ((-1 : Int) < 0) = True by simp]
  have zc2 : ¬ (z2 < 0) := by omega
  obtain ⟨M3, hM3⟩ : ∃ M', M' = M2 ++ new := ⟨_, rfl⟩
  rw [← hM3]
  have LM3 : M3.length = M2.length + new.length := by rw [hM3, List.length_append]
  replace C0 : Lv 0 M0.length M3 fun M => ProcA M (procV d0 u0) d0 := by rw [hM3]; exact C0.ext _
  replace C1 : Lv 0 M0.length M3 fun M => PairsA M v1 d1 := by rw [hM3]; exact C1.ext _
  replace X0 : BoxA M3 M0.length [.int .i64 d0.turns, u0, .int .i64 d0.setup, .int .i64 d0.unit, .int .i64 d0.hold, .int .i64 d0.back] := by rw [hM3]; exact X0.ext _
  clear nrn
  try simp (config := {implicitDefEqProofs := false, maxDischargeDepth := 20}) (disch := first | omega | (simp only [lenE]; done) | (simp only [lenE]; omega) | rfl | (simp only [lenE, markR_len]; done) | (simp only [lenE, markR_len]; omega)) only [runE, mapE, listE, initT_5, initT_6, initT_7, initT_8, resV, oneV, binA, unA, reduceCtorEq, Nat.reduceEqDiff, Nat.reduceAdd, Nat.reduceLT, Nat.reduceLeDiff, Nat.reduceMul, Nat.reduceSub, ↓reduceIte, decide_true, decide_false, Bool.true_eq_false, Bool.false_eq_true, Bool.not_true, Bool.not_false, if_true, if_false, and_true, true_and, memE, celE, w64, Nat.zero_add, Nat.add_zero, Nat.mul_one, putL, and_self, ldn, id_eq, ext_2_0, ext_2_1, ext_3_0, ext_3_1, ext_3_2, ext_4_0, ext_4_1, ext_4_2, ext_4_3, beq_self_eq_true, bne_self_eq_false, gt_iff_lt, zc2, X0.ld6]
  obtain ⟨q0, hq0⟩ : ∃ q : ByteArray, q = (textP d0 d1) := ⟨_, rfl⟩
  obtain ⟨q1, hq1⟩ : ∃ q : Bool, q = (d0.good && d0.polB d1) := ⟨_, rfl⟩
  have SPC := fun m u0 u1 => specText6_rc m u0 u1 d0 d1
  have IMP := fun m u0 u1 => implText6_rc m u0 u1 d0 d1
  try rw [← hq0] at SPC
  try rw [← hq0] at IMP
  try rw [← hq1] at SPC
  try rw [← hq1] at IMP
  try simp (config := {implicitDefEqProofs := false, maxDischargeDepth := 20}) (disch := first | omega | (simp only [lenE]; done) | (simp only [lenE]; omega) | rfl | (simp only [lenE, markR_len]; done) | (simp only [lenE, markR_len]; omega)) only [runE, mapE, listE, initT_5, initT_6, initT_7, initT_8, resV, oneV, binA, unA, reduceCtorEq, Nat.reduceEqDiff, Nat.reduceAdd, Nat.reduceLT, Nat.reduceLeDiff, Nat.reduceMul, Nat.reduceSub, ↓reduceIte, decide_true, decide_false, Bool.true_eq_false, Bool.false_eq_true, Bool.not_true, Bool.not_false, if_true, if_false, and_true, true_and, memE, celE, w64, Nat.zero_add, Nat.add_zero, Nat.mul_one, putL, and_self, ldn, id_eq, ext_2_0, ext_2_1, ext_3_0, ext_3_1, ext_3_2, ext_4_0, ext_4_1, ext_4_2, ext_4_3, beq_self_eq_true, bne_self_eq_false, gt_iff_lt, X0.ld6]
  have TT := toProcess_rc M3 _ d0 C0.now hs0
  first | refine callH_rc TT ?_ | refine rcallH_rc TT ?_
  clear TT
  rintro r new ⟨nrn, Sv0, Sv0e, S0⟩
  rw [id_eq] at Sv0e
  subst r
  obtain ⟨M4, hM4⟩ : ∃ M', M' = M3 ++ new := ⟨_, rfl⟩
  rw [← hM4]
  have LM4 : M4.length = M3.length + new.length := by rw [hM4, List.length_append]
  replace C0 : Lv 0 M0.length M4 fun M => ProcA M (procV d0 u0) d0 := by rw [hM4]; exact C0.ext _
  replace C1 : Lv 0 M0.length M4 fun M => PairsA M v1 d1 := by rw [hM4]; exact C1.ext _
  replace X0 : BoxA M4 M0.length [.int .i64 d0.turns, u0, .int .i64 d0.setup, .int .i64 d0.unit, .int .i64 d0.hold, .int .i64 d0.back] := by rw [hM4]; exact X0.ext _
  clear nrn
  rw [← hM4, ← LM4] at S0
  obtain ⟨Su0, rfl, -⟩ := S0.now
  change Lv M3.length M4.length M4 fun M => ProcO d0 M3.length M4.length M (procV d0 Su0) at S0
  try simp (config := {implicitDefEqProofs := false, maxDischargeDepth := 20}) (disch := first | omega | (simp only [lenE]; done) | (simp only [lenE]; omega) | rfl | (simp only [lenE, markR_len]; done) | (simp only [lenE, markR_len]; omega)) only [runE, mapE, listE, initT_5, initT_6, initT_7, initT_8, resV, oneV, binA, unA, reduceCtorEq, Nat.reduceEqDiff, Nat.reduceAdd, Nat.reduceLT, Nat.reduceLeDiff, Nat.reduceMul, Nat.reduceSub, ↓reduceIte, decide_true, decide_false, Bool.true_eq_false, Bool.false_eq_true, Bool.not_true, Bool.not_false, if_true, if_false, and_true, true_and, memE, celE, w64, Nat.zero_add, Nat.add_zero, Nat.mul_one, putL, and_self, ldn, id_eq, ext_2_0, ext_2_1, ext_3_0, ext_3_1, ext_3_2, ext_4_0, ext_4_1, ext_4_2, ext_4_3, beq_self_eq_true, bne_self_eq_false, gt_iff_lt, X0.ld6]
  have TT := toIntA2S_rc M4 _ d1 C1.now hs1
  first | refine callH_rc TT ?_ | refine rcallH_rc TT ?_
  clear TT
  rintro r new ⟨nrn, Sv1, Sv1e, S1⟩
  rw [id_eq] at Sv1e
  subst r
  obtain ⟨M5, hM5⟩ : ∃ M', M' = M4 ++ new := ⟨_, rfl⟩
  rw [← hM5]
  have LM5 : M5.length = M4.length + new.length := by rw [hM5, List.length_append]
  replace C0 : Lv 0 M0.length M5 fun M => ProcA M (procV d0 u0) d0 := by rw [hM5]; exact C0.ext _
  replace C1 : Lv 0 M0.length M5 fun M => PairsA M v1 d1 := by rw [hM5]; exact C1.ext _
  replace X0 : BoxA M5 M0.length [.int .i64 d0.turns, u0, .int .i64 d0.setup, .int .i64 d0.unit, .int .i64 d0.hold, .int .i64 d0.back] := by rw [hM5]; exact X0.ext _
  replace S0 : Lv M3.length M4.length M5 fun M => ProcO d0 M3.length M4.length M (procV d0 Su0) := by rw [hM5]; exact S0.ext _
  clear nrn
  rw [← hM5, ← LM5] at S1
  change Lv M4.length M5.length M5 fun M => PairsO 61 d1 M4.length M5.length M Sv1 at S1
  try simp (config := {implicitDefEqProofs := false, maxDischargeDepth := 20}) (disch := first | omega | (simp only [lenE]; done) | (simp only [lenE]; omega) | rfl | (simp only [lenE, markR_len]; done) | (simp only [lenE, markR_len]; omega)) only [runE, mapE, listE, initT_5, initT_6, initT_7, initT_8, resV, oneV, binA, unA, reduceCtorEq, Nat.reduceEqDiff, Nat.reduceAdd, Nat.reduceLT, Nat.reduceLeDiff, Nat.reduceMul, Nat.reduceSub, ↓reduceIte, decide_true, decide_false, Bool.true_eq_false, Bool.false_eq_true, Bool.not_true, Bool.not_false, if_true, if_false, and_true, true_and, memE, celE, w64, Nat.zero_add, Nat.add_zero, Nat.mul_one, putL, and_self, ldn, id_eq, ext_2_0, ext_2_1, ext_3_0, ext_3_1, ext_3_2, ext_4_0, ext_4_1, ext_4_2, ext_4_3, beq_self_eq_true, bne_self_eq_false, gt_iff_lt, X0.ld6]
  refine callH_rc (SPC _ _ _ S0.now.in S1.now.in) ?_
  rintro r new ⟨rfl, nrn⟩
  obtain ⟨M6, hM6⟩ : ∃ M', M' = M5 ++ new := ⟨_, rfl⟩
  rw [← hM6]
  have LM6 : M6.length = M5.length + new.length := by rw [hM6, List.length_append]
  replace C0 : Lv 0 M0.length M6 fun M => ProcA M (procV d0 u0) d0 := by rw [hM6]; exact C0.ext _
  replace C1 : Lv 0 M0.length M6 fun M => PairsA M v1 d1 := by rw [hM6]; exact C1.ext _
  replace X0 : BoxA M6 M0.length [.int .i64 d0.turns, u0, .int .i64 d0.setup, .int .i64 d0.unit, .int .i64 d0.hold, .int .i64 d0.back] := by rw [hM6]; exact X0.ext _
  replace S0 : Lv M3.length M4.length M6 fun M => ProcO d0 M3.length M4.length M (procV d0 Su0) := by rw [hM6]; exact S0.ext _
  replace S1 : Lv M4.length M5.length M6 fun M => PairsO 61 d1 M4.length M5.length M Sv1 := by rw [hM6]; exact S1.ext _
  clear nrn
  clear S0
  clear S1
  try simp (config := {implicitDefEqProofs := false, maxDischargeDepth := 20}) (disch := first | omega | (simp only [lenE]; done) | (simp only [lenE]; omega) | rfl | (simp only [lenE, markR_len]; done) | (simp only [lenE, markR_len]; omega)) only [runE, mapE, listE, initT_5, initT_6, initT_7, initT_8, resV, oneV, binA, unA, reduceCtorEq, Nat.reduceEqDiff, Nat.reduceAdd, Nat.reduceLT, Nat.reduceLeDiff, Nat.reduceMul, Nat.reduceSub, ↓reduceIte, decide_true, decide_false, Bool.true_eq_false, Bool.false_eq_true, Bool.not_true, Bool.not_false, if_true, if_false, and_true, true_and, memE, celE, w64, Nat.zero_add, Nat.add_zero, Nat.mul_one, putL, and_self, ldn, id_eq, ext_2_0, ext_2_1, ext_3_0, ext_3_1, ext_3_2, ext_4_0, ext_4_1, ext_4_2, ext_4_3, beq_self_eq_true, bne_self_eq_false, gt_iff_lt, X0.ld6]
  have TT := toProcess_rc M6 _ d0 C0.now hs0
  first | refine callH_rc TT ?_ | refine rcallH_rc TT ?_
  clear TT
  rintro r new ⟨nrn, Yv0, Yv0e, Y0⟩
  rw [id_eq] at Yv0e
  subst r
  obtain ⟨M7, hM7⟩ : ∃ M', M' = M6 ++ new := ⟨_, rfl⟩
  rw [← hM7]
  have LM7 : M7.length = M6.length + new.length := by rw [hM7, List.length_append]
  replace C0 : Lv 0 M0.length M7 fun M => ProcA M (procV d0 u0) d0 := by rw [hM7]; exact C0.ext _
  replace C1 : Lv 0 M0.length M7 fun M => PairsA M v1 d1 := by rw [hM7]; exact C1.ext _
  replace X0 : BoxA M7 M0.length [.int .i64 d0.turns, u0, .int .i64 d0.setup, .int .i64 d0.unit, .int .i64 d0.hold, .int .i64 d0.back] := by rw [hM7]; exact X0.ext _
  clear nrn
  rw [← hM7, ← LM7] at Y0
  obtain ⟨Yu0, rfl, -⟩ := Y0.now
  change Lv M6.length M7.length M7 fun M => ProcO d0 M6.length M7.length M (procV d0 Yu0) at Y0
  have on00 := fun xs => ProcA.one Y0.now.in xs
  try simp (config := {implicitDefEqProofs := false, maxDischargeDepth := 20}) (disch := first | omega | (simp only [lenE]; done) | (simp only [lenE]; omega) | rfl | (simp only [lenE, markR_len]; done) | (simp only [lenE, markR_len]; omega)) only [runE, mapE, listE, initT_5, initT_6, initT_7, initT_8, resV, oneV, binA, unA, reduceCtorEq, Nat.reduceEqDiff, Nat.reduceAdd, Nat.reduceLT, Nat.reduceLeDiff, Nat.reduceMul, Nat.reduceSub, ↓reduceIte, decide_true, decide_false, Bool.true_eq_false, Bool.false_eq_true, Bool.not_true, Bool.not_false, if_true, if_false, and_true, true_and, memE, celE, w64, Nat.zero_add, Nat.add_zero, Nat.mul_one, putL, and_self, ldn, id_eq, ext_2_0, ext_2_1, ext_3_0, ext_3_1, ext_3_2, ext_4_0, ext_4_1, ext_4_2, ext_4_3, beq_self_eq_true, bne_self_eq_false, gt_iff_lt, on00, X0.ld6]
  obtain ⟨M8, hM8⟩ : ∃ M', M' = M7 ++ [⟨.own, 26, [.int .i64 d0.turns, Yu0, .int .i64 d0.setup, .int .i64 d0.unit, .int .i64 d0.hold, .int .i64 d0.back]⟩] := ⟨_, rfl⟩
  rw [← hM8]
  have LM8 : M8.length = M7.length + 1 := by rw [hM8, List.length_append]; rfl
  replace C0 : Lv 0 M0.length M8 fun M => ProcA M (procV d0 u0) d0 := by rw [hM8]; exact C0.ext _
  replace C1 : Lv 0 M0.length M8 fun M => PairsA M v1 d1 := by rw [hM8]; exact C1.ext _
  replace X0 : BoxA M8 M0.length [.int .i64 d0.turns, u0, .int .i64 d0.setup, .int .i64 d0.unit, .int .i64 d0.hold, .int .i64 d0.back] := by rw [hM8]; exact X0.ext _
  replace Y0 : Lv M6.length M7.length M8 fun M => ProcO d0 M6.length M7.length M (procV d0 Yu0) := by rw [hM8]; exact Y0.ext _
  have Z0 : BoxA M8 M7.length [.int .i64 d0.turns, Yu0, .int .i64 d0.setup, .int .i64 d0.unit, .int .i64 d0.hold, .int .i64 d0.back] := by rw [hM8]; exact BoxA.here _ _ _ rfl
  try simp (config := {implicitDefEqProofs := false, maxDischargeDepth := 20}) (disch := first | omega | (simp only [lenE]; done) | (simp only [lenE]; omega) | rfl | (simp only [lenE, markR_len]; done) | (simp only [lenE, markR_len]; omega)) only [runE, mapE, listE, initT_5, initT_6, initT_7, initT_8, resV, oneV, binA, unA, reduceCtorEq, Nat.reduceEqDiff, Nat.reduceAdd, Nat.reduceLT, Nat.reduceLeDiff, Nat.reduceMul, Nat.reduceSub, ↓reduceIte, decide_true, decide_false, Bool.true_eq_false, Bool.false_eq_true, Bool.not_true, Bool.not_false, if_true, if_false, and_true, true_and, memE, celE, w64, Nat.zero_add, Nat.add_zero, Nat.mul_one, putL, and_self, ldn, id_eq, ext_2_0, ext_2_1, ext_3_0, ext_3_1, ext_3_2, ext_4_0, ext_4_1, ext_4_2, ext_4_3, beq_self_eq_true, bne_self_eq_false, gt_iff_lt, X0.ld6, Z0.ld6]
  have TT := toIntA2S_rc M8 _ d1 C1.now hs1
  first | refine callH_rc TT ?_ | refine rcallH_rc TT ?_
  clear TT
  rintro r new ⟨nrn, Yv1, Yv1e, Y1⟩
  rw [id_eq] at Yv1e
  subst r
  obtain ⟨M9, hM9⟩ : ∃ M', M' = M8 ++ new := ⟨_, rfl⟩
  rw [← hM9]
  have LM9 : M9.length = M8.length + new.length := by rw [hM9, List.length_append]
  replace C0 : Lv 0 M0.length M9 fun M => ProcA M (procV d0 u0) d0 := by rw [hM9]; exact C0.ext _
  replace C1 : Lv 0 M0.length M9 fun M => PairsA M v1 d1 := by rw [hM9]; exact C1.ext _
  replace X0 : BoxA M9 M0.length [.int .i64 d0.turns, u0, .int .i64 d0.setup, .int .i64 d0.unit, .int .i64 d0.hold, .int .i64 d0.back] := by rw [hM9]; exact X0.ext _
  replace Y0 : Lv M6.length M7.length M9 fun M => ProcO d0 M6.length M7.length M (procV d0 Yu0) := by rw [hM9]; exact Y0.ext _
  replace Z0 : BoxA M9 M7.length [.int .i64 d0.turns, Yu0, .int .i64 d0.setup, .int .i64 d0.unit, .int .i64 d0.hold, .int .i64 d0.back] := by rw [hM9]; exact Z0.ext _
  clear nrn
  rw [← hM9, ← LM9] at Y1
  change Lv M8.length M9.length M9 fun M => PairsO 61 d1 M8.length M9.length M Yv1 at Y1
  try simp (config := {implicitDefEqProofs := false, maxDischargeDepth := 20}) (disch := first | omega | (simp only [lenE]; done) | (simp only [lenE]; omega) | rfl | (simp only [lenE, markR_len]; done) | (simp only [lenE, markR_len]; omega)) only [runE, mapE, listE, initT_5, initT_6, initT_7, initT_8, resV, oneV, binA, unA, reduceCtorEq, Nat.reduceEqDiff, Nat.reduceAdd, Nat.reduceLT, Nat.reduceLeDiff, Nat.reduceMul, Nat.reduceSub, ↓reduceIte, decide_true, decide_false, Bool.true_eq_false, Bool.false_eq_true, Bool.not_true, Bool.not_false, if_true, if_false, and_true, true_and, memE, celE, w64, Nat.zero_add, Nat.add_zero, Nat.mul_one, putL, and_self, ldn, id_eq, ext_2_0, ext_2_1, ext_3_0, ext_3_1, ext_3_2, ext_4_0, ext_4_1, ext_4_2, ext_4_3, beq_self_eq_true, bne_self_eq_false, gt_iff_lt, X0.ld6, Z0.ld6]
  refine callH_rc (IMP _ _ _ Y0.now.in Y1.now.in) ?_
  rintro r new ⟨rfl, nrn⟩
  obtain ⟨M10, hM10⟩ : ∃ M', M' = M9 ++ new := ⟨_, rfl⟩
  rw [← hM10]
  have LM10 : M10.length = M9.length + new.length := by rw [hM10, List.length_append]
  replace C0 : Lv 0 M0.length M10 fun M => ProcA M (procV d0 u0) d0 := by rw [hM10]; exact C0.ext _
  replace C1 : Lv 0 M0.length M10 fun M => PairsA M v1 d1 := by rw [hM10]; exact C1.ext _
  replace X0 : BoxA M10 M0.length [.int .i64 d0.turns, u0, .int .i64 d0.setup, .int .i64 d0.unit, .int .i64 d0.hold, .int .i64 d0.back] := by rw [hM10]; exact X0.ext _
  replace Y0 : Lv M6.length M7.length M10 fun M => ProcO d0 M6.length M7.length M (procV d0 Yu0) := by rw [hM10]; exact Y0.ext _
  replace Z0 : BoxA M10 M7.length [.int .i64 d0.turns, Yu0, .int .i64 d0.setup, .int .i64 d0.unit, .int .i64 d0.hold, .int .i64 d0.back] := by rw [hM10]; exact Z0.ext _
  replace Y1 : Lv M8.length M9.length M10 fun M => PairsO 61 d1 M8.length M9.length M Yv1 := by rw [hM10]; exact Y1.ext _
  clear nrn
  try simp (config := {implicitDefEqProofs := false, maxDischargeDepth := 20}) (disch := first | omega | (simp only [lenE]; done) | (simp only [lenE]; omega) | rfl | (simp only [lenE, markR_len]; done) | (simp only [lenE, markR_len]; omega)) only [runE, mapE, listE, initT_5, initT_6, initT_7, initT_8, resV, oneV, binA, unA, reduceCtorEq, Nat.reduceEqDiff, Nat.reduceAdd, Nat.reduceLT, Nat.reduceLeDiff, Nat.reduceMul, Nat.reduceSub, ↓reduceIte, decide_true, decide_false, Bool.true_eq_false, Bool.false_eq_true, Bool.not_true, Bool.not_false, if_true, if_false, and_true, true_and, memE, celE, w64, Nat.zero_add, Nat.add_zero, Nat.mul_one, putL, and_self, ldn, id_eq, ext_2_0, ext_2_1, ext_3_0, ext_3_1, ext_3_2, ext_4_0, ext_4_1, ext_4_2, ext_4_3, beq_self_eq_true, bne_self_eq_false, gt_iff_lt, X0.ld6, Z0.ld6]
  try simp (config := {implicitDefEqProofs := false, maxDischargeDepth := 20}) (disch := first | omega | (simp only [lenE]; done) | (simp only [lenE]; omega) | rfl | (simp only [lenE, markR_len]; done) | (simp only [lenE, markR_len]; omega)) only [runE, mapE, listE, initT_5, initT_6, initT_7, initT_8, resV, oneV, binA, unA, reduceCtorEq, Nat.reduceEqDiff, Nat.reduceAdd, Nat.reduceLT, Nat.reduceLeDiff, Nat.reduceMul, Nat.reduceSub, ↓reduceIte, decide_true, decide_false, Bool.true_eq_false, Bool.false_eq_true, Bool.not_true, Bool.not_false, if_true, if_false, and_true, true_and, memE, celE, w64, Nat.zero_add, Nat.add_zero, Nat.mul_one, putL, and_self, ldn, id_eq, ext_2_0, ext_2_1, ext_3_0, ext_3_1, ext_3_2, ext_4_0, ext_4_1, ext_4_2, ext_4_3, beq_self_eq_true, bne_self_eq_false, gt_iff_lt, X0.ld6, Z0.ld6]
  have TT := toProcess_rc M10 _ d0 C0.now hs0
  first | refine callH_rc TT ?_ | refine rcallH_rc TT ?_
  clear TT
  rintro r new ⟨nrn, Tv0, Tv0e, T0⟩
  rw [id_eq] at Tv0e
  subst r
  obtain ⟨M11, hM11⟩ : ∃ M', M' = M10 ++ new := ⟨_, rfl⟩
  rw [← hM11]
  have LM11 : M11.length = M10.length + new.length := by rw [hM11, List.length_append]
  replace C0 : Lv 0 M0.length M11 fun M => ProcA M (procV d0 u0) d0 := by rw [hM11]; exact C0.ext _
  replace C1 : Lv 0 M0.length M11 fun M => PairsA M v1 d1 := by rw [hM11]; exact C1.ext _
  replace X0 : BoxA M11 M0.length [.int .i64 d0.turns, u0, .int .i64 d0.setup, .int .i64 d0.unit, .int .i64 d0.hold, .int .i64 d0.back] := by rw [hM11]; exact X0.ext _
  replace Y0 : Lv M6.length M7.length M11 fun M => ProcO d0 M6.length M7.length M (procV d0 Yu0) := by rw [hM11]; exact Y0.ext _
  replace Z0 : BoxA M11 M7.length [.int .i64 d0.turns, Yu0, .int .i64 d0.setup, .int .i64 d0.unit, .int .i64 d0.hold, .int .i64 d0.back] := by rw [hM11]; exact Z0.ext _
  replace Y1 : Lv M8.length M9.length M11 fun M => PairsO 61 d1 M8.length M9.length M Yv1 := by rw [hM11]; exact Y1.ext _
  clear nrn
  rw [← hM11, ← LM11] at T0
  obtain ⟨Tu0, rfl, -⟩ := T0.now
  change Lv M10.length M11.length M11 fun M => ProcO d0 M10.length M11.length M (procV d0 Tu0) at T0
  try simp (config := {implicitDefEqProofs := false, maxDischargeDepth := 20}) (disch := first | omega | (simp only [lenE]; done) | (simp only [lenE]; omega) | rfl | (simp only [lenE, markR_len]; done) | (simp only [lenE, markR_len]; omega)) only [runE, mapE, listE, initT_5, initT_6, initT_7, initT_8, resV, oneV, binA, unA, reduceCtorEq, Nat.reduceEqDiff, Nat.reduceAdd, Nat.reduceLT, Nat.reduceLeDiff, Nat.reduceMul, Nat.reduceSub, ↓reduceIte, decide_true, decide_false, Bool.true_eq_false, Bool.false_eq_true, Bool.not_true, Bool.not_false, if_true, if_false, and_true, true_and, memE, celE, w64, Nat.zero_add, Nat.add_zero, Nat.mul_one, putL, and_self, ldn, id_eq, ext_2_0, ext_2_1, ext_3_0, ext_3_1, ext_3_2, ext_4_0, ext_4_1, ext_4_2, ext_4_3, beq_self_eq_true, bne_self_eq_false, gt_iff_lt, X0.ld6, Z0.ld6]
  have TT := eqProcess_rc M11 _ _ d0 Y0.now.in T0.now.in
  first | refine callH_rc TT ?_ | refine rcallH_rc TT ?_
  clear TT
  rintro r new ⟨rfl, nrn⟩
  obtain ⟨M12, hM12⟩ : ∃ M', M' = M11 ++ new := ⟨_, rfl⟩
  rw [← hM12]
  have LM12 : M12.length = M11.length + new.length := by rw [hM12, List.length_append]
  replace C0 : Lv 0 M0.length M12 fun M => ProcA M (procV d0 u0) d0 := by rw [hM12]; exact C0.ext _
  replace C1 : Lv 0 M0.length M12 fun M => PairsA M v1 d1 := by rw [hM12]; exact C1.ext _
  replace X0 : BoxA M12 M0.length [.int .i64 d0.turns, u0, .int .i64 d0.setup, .int .i64 d0.unit, .int .i64 d0.hold, .int .i64 d0.back] := by rw [hM12]; exact X0.ext _
  replace Y0 : Lv M6.length M7.length M12 fun M => ProcO d0 M6.length M7.length M (procV d0 Yu0) := by rw [hM12]; exact Y0.ext _
  replace Z0 : BoxA M12 M7.length [.int .i64 d0.turns, Yu0, .int .i64 d0.setup, .int .i64 d0.unit, .int .i64 d0.hold, .int .i64 d0.back] := by rw [hM12]; exact Z0.ext _
  replace Y1 : Lv M8.length M9.length M12 fun M => PairsO 61 d1 M8.length M9.length M Yv1 := by rw [hM12]; exact Y1.ext _
  replace T0 : Lv M10.length M11.length M12 fun M => ProcO d0 M10.length M11.length M (procV d0 Tu0) := by rw [hM12]; exact T0.ext _
  clear nrn
  clear T0
  try simp (config := {implicitDefEqProofs := false, maxDischargeDepth := 20}) (disch := first | omega | (simp only [lenE]; done) | (simp only [lenE]; omega) | rfl | (simp only [lenE, markR_len]; done) | (simp only [lenE, markR_len]; omega)) only [runE, mapE, listE, initT_5, initT_6, initT_7, initT_8, resV, oneV, binA, unA, reduceCtorEq, Nat.reduceEqDiff, Nat.reduceAdd, Nat.reduceLT, Nat.reduceLeDiff, Nat.reduceMul, Nat.reduceSub, ↓reduceIte, decide_true, decide_false, Bool.true_eq_false, Bool.false_eq_true, Bool.not_true, Bool.not_false, if_true, if_false, and_true, true_and, memE, celE, w64, Nat.zero_add, Nat.add_zero, Nat.mul_one, putL, and_self, ldn, id_eq, ext_2_0, ext_2_1, ext_3_0, ext_3_1, ext_3_2, ext_4_0, ext_4_1, ext_4_2, ext_4_3, beq_self_eq_true, bne_self_eq_false, gt_iff_lt, X0.ld6, Z0.ld6]
  try simp (config := {implicitDefEqProofs := false, maxDischargeDepth := 20}) (disch := first | omega | (simp only [lenE]; done) | (simp only [lenE]; omega) | rfl | (simp only [lenE, markR_len]; done) | (simp only [lenE, markR_len]; omega)) only [runE, mapE, listE, initT_5, initT_6, initT_7, initT_8, resV, oneV, binA, unA, reduceCtorEq, Nat.reduceEqDiff, Nat.reduceAdd, Nat.reduceLT, Nat.reduceLeDiff, Nat.reduceMul, Nat.reduceSub, ↓reduceIte, decide_true, decide_false, Bool.true_eq_false, Bool.false_eq_true, Bool.not_true, Bool.not_false, if_true, if_false, and_true, true_and, memE, celE, w64, Nat.zero_add, Nat.add_zero, Nat.mul_one, putL, and_self, ldn, id_eq, ext_2_0, ext_2_1, ext_3_0, ext_3_1, ext_3_2, ext_4_0, ext_4_1, ext_4_2, ext_4_3, beq_self_eq_true, bne_self_eq_false, gt_iff_lt, X0.ld6, Z0.ld6]
  have TT := toIntA2S_rc M12 _ d1 C1.now hs1
  first | refine callH_rc TT ?_ | refine rcallH_rc TT ?_
  clear TT
  rintro r new ⟨nrn, Tv1, Tv1e, T1⟩
  rw [id_eq] at Tv1e
  subst r
  obtain ⟨M13, hM13⟩ : ∃ M', M' = M12 ++ new := ⟨_, rfl⟩
  rw [← hM13]
  have LM13 : M13.length = M12.length + new.length := by rw [hM13, List.length_append]
  replace C0 : Lv 0 M0.length M13 fun M => ProcA M (procV d0 u0) d0 := by rw [hM13]; exact C0.ext _
  replace C1 : Lv 0 M0.length M13 fun M => PairsA M v1 d1 := by rw [hM13]; exact C1.ext _
  replace X0 : BoxA M13 M0.length [.int .i64 d0.turns, u0, .int .i64 d0.setup, .int .i64 d0.unit, .int .i64 d0.hold, .int .i64 d0.back] := by rw [hM13]; exact X0.ext _
  replace Y0 : Lv M6.length M7.length M13 fun M => ProcO d0 M6.length M7.length M (procV d0 Yu0) := by rw [hM13]; exact Y0.ext _
  replace Z0 : BoxA M13 M7.length [.int .i64 d0.turns, Yu0, .int .i64 d0.setup, .int .i64 d0.unit, .int .i64 d0.hold, .int .i64 d0.back] := by rw [hM13]; exact Z0.ext _
  replace Y1 : Lv M8.length M9.length M13 fun M => PairsO 61 d1 M8.length M9.length M Yv1 := by rw [hM13]; exact Y1.ext _
  clear nrn
  rw [← hM13, ← LM13] at T1
  change Lv M12.length M13.length M13 fun M => PairsO 61 d1 M12.length M13.length M Tv1 at T1
  try simp (config := {implicitDefEqProofs := false, maxDischargeDepth := 20}) (disch := first | omega | (simp only [lenE]; done) | (simp only [lenE]; omega) | rfl | (simp only [lenE, markR_len]; done) | (simp only [lenE, markR_len]; omega)) only [runE, mapE, listE, initT_5, initT_6, initT_7, initT_8, resV, oneV, binA, unA, reduceCtorEq, Nat.reduceEqDiff, Nat.reduceAdd, Nat.reduceLT, Nat.reduceLeDiff, Nat.reduceMul, Nat.reduceSub, ↓reduceIte, decide_true, decide_false, Bool.true_eq_false, Bool.false_eq_true, Bool.not_true, Bool.not_false, if_true, if_false, and_true, true_and, memE, celE, w64, Nat.zero_add, Nat.add_zero, Nat.mul_one, putL, and_self, ldn, id_eq, ext_2_0, ext_2_1, ext_3_0, ext_3_1, ext_3_2, ext_4_0, ext_4_1, ext_4_2, ext_4_3, beq_self_eq_true, bne_self_eq_false, gt_iff_lt, X0.ld6, Z0.ld6]
  have TT := eqIntA2S_rc M13 _ _ d1 Y1.now.in T1.now.in
  first | refine callH_rc TT ?_ | refine rcallH_rc TT ?_
  clear TT
  rintro r new ⟨rfl, nrn⟩
  obtain ⟨M14, hM14⟩ : ∃ M', M' = M13 ++ new := ⟨_, rfl⟩
  rw [← hM14]
  have LM14 : M14.length = M13.length + new.length := by rw [hM14, List.length_append]
  replace C0 : Lv 0 M0.length M14 fun M => ProcA M (procV d0 u0) d0 := by rw [hM14]; exact C0.ext _
  replace C1 : Lv 0 M0.length M14 fun M => PairsA M v1 d1 := by rw [hM14]; exact C1.ext _
  replace X0 : BoxA M14 M0.length [.int .i64 d0.turns, u0, .int .i64 d0.setup, .int .i64 d0.unit, .int .i64 d0.hold, .int .i64 d0.back] := by rw [hM14]; exact X0.ext _
  replace Y0 : Lv M6.length M7.length M14 fun M => ProcO d0 M6.length M7.length M (procV d0 Yu0) := by rw [hM14]; exact Y0.ext _
  replace Z0 : BoxA M14 M7.length [.int .i64 d0.turns, Yu0, .int .i64 d0.setup, .int .i64 d0.unit, .int .i64 d0.hold, .int .i64 d0.back] := by rw [hM14]; exact Z0.ext _
  replace Y1 : Lv M8.length M9.length M14 fun M => PairsO 61 d1 M8.length M9.length M Yv1 := by rw [hM14]; exact Y1.ext _
  replace T1 : Lv M12.length M13.length M14 fun M => PairsO 61 d1 M12.length M13.length M Tv1 := by rw [hM14]; exact T1.ext _
  clear nrn
  clear T1
  try simp (config := {implicitDefEqProofs := false, maxDischargeDepth := 20}) (disch := first | omega | (simp only [lenE]; done) | (simp only [lenE]; omega) | rfl | (simp only [lenE, markR_len]; done) | (simp only [lenE, markR_len]; omega)) only [runE, mapE, listE, initT_5, initT_6, initT_7, initT_8, resV, oneV, binA, unA, reduceCtorEq, Nat.reduceEqDiff, Nat.reduceAdd, Nat.reduceLT, Nat.reduceLeDiff, Nat.reduceMul, Nat.reduceSub, ↓reduceIte, decide_true, decide_false, Bool.true_eq_false, Bool.false_eq_true, Bool.not_true, Bool.not_false, if_true, if_false, and_true, true_and, memE, celE, w64, Nat.zero_add, Nat.add_zero, Nat.mul_one, putL, and_self, ldn, id_eq, ext_2_0, ext_2_1, ext_3_0, ext_3_1, ext_3_2, ext_4_0, ext_4_1, ext_4_2, ext_4_3, beq_self_eq_true, bne_self_eq_false, gt_iff_lt, X0.ld6, Z0.ld6]
end Go.Proofs.YtddnedngjijpoaaDoor.Ab
end
section
namespace Go.Proofs.YtddnedngjijpoaaDoor.Ab
open Go Go.RowKit
set_option linter.unusedVariables false
theorem ws_word : ∀ (p r : List Char), p.all (fun c => c != ' ') = true → wordsSigns (p ++ ' ' :: r) = p :: wordsSigns r
  | [], r, _ => by rw [List.nil_append, wordsSigns]
  | c :: p, r, h => by
    rw [List.all_cons, Bool.and_eq_true] at h
    have hc : c ≠ ' ' := by simpa using h.1
    rw [List.cons_append, wordsSigns, ws_word p r h.2]
    intro e; exact hc e
def sumW : List Char := ['d', '5', '0', 'f', '0', '6', '6', '0', 'c', 'c', '0', 'e', 'd', '0', '9', 'd', 'f', '7', '2', 'c', 'd', '5', 'd', '6', '0', 'b', '3', 'f', '7', '5', '1', 'a', '4', '6', 'f', '6', '1', '1', '0', '8', '6', '0', '0', 'd', '9', '9', 'f', '9', '8', '0', 'd', 'b', '6', 'd', '1', '6', 'c', '2', '2', '1', '4', '1', 'd', '1']
def restW : List Char := ['a', 't', ' ', 'l', 'o', 'o', 'p', '.', 'e', 'x', 'a', 'm', 'p', 'l', 'e', '/', 'g', '0', '1', '1', '1', '1', '/', 'l', 'a', 'w', 's', '.', 'F', 'n', 'T', 'r', 'a', 'c', 'e', 's', ' ', 'l', 'o', 'o', 'p', '.', 'e', 'x', 'a', 'm', 'p', 'l', 'e', '/', 'g', '0', '1', '1', '1', '1', '/', 'l', 'a', 'w', 's', '.', 'F', 'n', 'E', 'x', 'a', 'c', 't', 'T', 'e', 'x', 't', 'O', 'f', 'P', 'o', 'l', 'i', 'c', 'y']
set_option maxRecDepth 100000 in
theorem head_is : Tryd.prog.initOrder = String.ofList (['h', 'a', 'r', 'n', 'e', 's', 's'] ++ ' ' :: (sumW ++ ' ' :: (['c', 'u', 't'] ++ ' ' :: restW))) := by kernel_rfl
set_option maxRecDepth 100000 in
theorem sum_ok : isSumSigns sumW = true := by kernel_rfl
theorem head_words : behindMainWord (wordsSigns Tryd.prog.initOrder.toList) = ['c', 'u', 't'] :: wordsSigns restW := by
  rw [head_is, String.toList_ofList, ws_word _ _ (by decide), ws_word _ _ (by decide), ws_word _ _ (by decide)]
  simp only [behindMainWord, sum_ok, Bool.and_true]
  rfl
set_option maxRecDepth 100000 in
theorem strip_cut (X : List (List Char)) : stripLifts liftWords (['c', 'u', 't'] :: X) = ([], ['c', 'u', 't'] :: X) := by kernel_rfl
theorem lifts_gen (P : Program) (X : List (List Char)) (h : behindMainWord (wordsSigns P.initOrder.toList) = ['c', 'u', 't'] :: X) : P.headLifts = [] := by
  unfold Program.headLifts
  rw [h, strip_cut]
  rfl
theorem enters_gen (P : Program) (X : List (List Char)) (h : behindMainWord (wordsSigns P.initOrder.toList) = ['c', 'u', 't'] :: X) (h1 : P.laysLater = false) (h2 : P.bearsReflect = false) (h3 : P.doorFits [] = true) : P.mayEnter = true := by
  unfold Program.mayEnter
  rw [h]
  simp only [strip_cut, h1, h2, h3]
  rfl
theorem finals_gen (P : Program) (X : List (List Char)) (h : behindMainWord (wordsSigns P.initOrder.toList) = ['c', 'u', 't'] :: X) : P.liftsFinal = false := by
  unfold Program.liftsFinal
  rw [lifts_gen P X h, h]
  rfl
theorem make_gen (P : Program) (X : List (List Char)) (h : behindMainWord (wordsSigns P.initOrder.toList) = ['c', 'u', 't'] :: X) : P.make = some .cut := by
  unfold Program.make
  rw [h]
  rfl
set_option maxRecDepth 100000 in
theorem enters : Tryd.prog.mayEnter = true := enters_gen _ _ head_words (by kernel_rfl) (by kernel_rfl) (by kernel_rfl)
theorem no_finals : Tryd.prog.liftsFinal = false := finals_gen _ _ head_words
theorem makes : Tryd.prog.make = some .cut := make_gen _ _ head_words
end Go.Proofs.YtddnedngjijpoaaDoor.Ab
end
