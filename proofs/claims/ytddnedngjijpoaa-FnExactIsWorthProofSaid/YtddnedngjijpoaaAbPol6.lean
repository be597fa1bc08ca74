/- Policies: WorthTable and BestOrder, by both programs. -/
import Derived.Test.YtddnedngjijpoaaAbPol5
namespace Go.Proofs.Ytddnedngjijpoaa.Ab
open Go Go.RowKit
set_option linter.unusedVariables false
set_option linter.unusedSimpArgs false

theorem Pr.best_ok {p : Pr} (h : GoodP p) (N : Nat) : Pr.okC p p.bestC N := fun k next x _ hx => Pr.up_may h next hx k
theorem worthTable1_rc (m : Mem) (id : Nat) (u vn : Value) (p : Pr) (next : List Int) (t x : Int) (k : Nat) (hid : id < m.length) (hb : ∀ j, rdc m id j = [.int .i64 p.turns, u, .int .i64 p.setup, .int .i64 p.unit, .int .i64 p.hold, .int .i64 p.back][j]?) (hu : IntsA m u p.w) (hn : IntsA m vn next) (hg : GoodP p) (hl : next.length = 21) (hB : rowIn 30000000000000000 next) (hx : -10 ≤ x ∧ x ≤ 10) (ht : p.turns - t = (k : Int) + 1) (ht0 : 0 ≤ t) (hk : k ≤ 4) :
    RC Try.prog 122 [.int .i64 t, .int .i64 x, vn, .pointer (some ⟨id, 0, none⟩)] m (AnsV (moveV t x (p.up next x k))) := by
  refine rc_of_run mixed ok_impl_worthTable_1 (by simp) (go_start _ _ _ ?_)
  have hrd : ∀ j, rdc (roM m) id j = [.int .i64 p.turns, u, .int .i64 p.setup, .int .i64 p.unit, .int .i64 p.hold, .int .i64 p.back][j]? := fun j => by rw [rdc_roM]; exact hb j
  simp (config := {implicitDefEqProofs := false, maxDischargeDepth := 20}) (disch := first | omega | (simp only [lenE]; done) | (simp only [lenE]; omega) | rfl | (simp only [lenE, markR_len]; done) | (simp only [lenE, markR_len]; omega)) only [runE, mapE, listE, initT_5, initT_6, initT_7, initT_8, resV, oneV, binA, unA, reduceCtorEq, Nat.reduceEqDiff, Nat.reduceAdd, Nat.reduceLT, Nat.reduceLeDiff, Nat.reduceMul, Nat.reduceSub, ↓reduceIte, decide_true, decide_false, Bool.true_eq_false, Bool.false_eq_true, Bool.not_true, Bool.not_false, if_true, if_false, and_true, true_and, memE, celE, w64, Nat.zero_add, Nat.add_zero, Nat.mul_one, putL, and_self, ldn, c_impl_worthTable_1, r_impl_worthTable_1, hrd]
  refine callH_rc (bestMove_rc _ _ vn p next t x k (ProcA.mk (hu.ro.ext _)) (hn.ro.ext _) hg hl hB hx ht ht0 hk) ?_
  rintro r new ⟨rfl, nr⟩
  simp (config := {implicitDefEqProofs := false, maxDischargeDepth := 20}) (disch := first | omega | (simp only [lenE]; done) | (simp only [lenE]; omega) | rfl | (simp only [lenE, markR_len]; done) | (simp only [lenE, markR_len]; omega)) only [runE, mapE, listE, initT_5, initT_6, initT_7, initT_8, resV, oneV, binA, unA, reduceCtorEq, Nat.reduceEqDiff, Nat.reduceAdd, Nat.reduceLT, Nat.reduceLeDiff, Nat.reduceMul, Nat.reduceSub, ↓reduceIte, decide_true, decide_false, Bool.true_eq_false, Bool.false_eq_true, Bool.not_true, Bool.not_false, if_true, if_false, and_true, true_and, memE, celE, w64, Nat.zero_add, Nat.add_zero, Nat.mul_one, putL, and_self, ldn]
  try simp only [List.append_assoc, List.cons_append, List.nil_append, List.append_nil]
  exact ⟨_, rfl, by (repeat (first | exact noRo_nil | assumption | apply noRo_own | apply noRo_dead | apply noRo_app)), rfl, by (repeat (first | exact noRo_nil | assumption | apply noRo_own | apply noRo_dead | apply noRo_app))⟩
theorem worthTable_rc (m : Mem) (v : Value) (p : Pr) (h : ProcA m v p) (hg : GoodP p) : RC Try.prog 80 [v] m (AnsO m (TabO (p.tab p.bestC p.turns.toNat)) id) := by
  refine rc_of_run mixed ok_impl_worthTable (by simp) (go_start _ _ _ ?_)
  obtain ⟨u, rfl, hu⟩ := h.ro
  simp (config := {implicitDefEqProofs := false, maxDischargeDepth := 20}) (disch := first | omega | (simp only [lenE]; done) | (simp only [lenE]; omega) | rfl | (simp only [lenE, markR_len]; done) | (simp only [lenE, markR_len]; omega)) only [runE, mapE, listE, initT_5, initT_6, initT_7, initT_8, resV, oneV, binA, unA, reduceCtorEq, Nat.reduceEqDiff, Nat.reduceAdd, Nat.reduceLT, Nat.reduceLeDiff, Nat.reduceMul, Nat.reduceSub, ↓reduceIte, decide_true, decide_false, Bool.true_eq_false, Bool.false_eq_true, Bool.not_true, Bool.not_false, if_true, if_false, and_true, true_and, memE, celE, w64, Nat.zero_add, Nat.add_zero, Nat.mul_one, putL, and_self, ldn, c_impl_worthTable, r_impl_worthTable]
  refine callH_rc (tableBy_rc _ _ _ p p.bestC (ProcA.mk (hu.ext _)) hg ?_ (Pr.best_ok hg _)) ?_
  · intro M hX
    refine ⟨_, _, rfl, fun t x vn next k ht ht0 hk hx hn hl hB => ?_⟩
    have hl0 := hX.len
    simp only [List.length_append, roM_len, List.length_cons, List.length_nil] at hl0
    refine worthTable1_rc _ m.length u vn p next t x k (by omega) (fun j => ?_) ((hu.ext _).xt2 hX) hn hg hl hB hx ht ht0 hk
    obtain ⟨n0, rfl, h0⟩ := hX
    rw [rdc_left (by simp [roM_len]), rdc_roM, rdc_lastH (roM_len m).symm]
    rfl
  · rintro r new ⟨nr, w, rfl, hw⟩
    simp (config := {implicitDefEqProofs := false, maxDischargeDepth := 20}) (disch := first | omega | (simp only [lenE]; done) | (simp only [lenE]; omega) | rfl | (simp only [lenE, markR_len]; done) | (simp only [lenE, markR_len]; omega)) only [runE, mapE, listE, initT_5, initT_6, initT_7, initT_8, resV, oneV, binA, unA, reduceCtorEq, Nat.reduceEqDiff, Nat.reduceAdd, Nat.reduceLT, Nat.reduceLeDiff, Nat.reduceMul, Nat.reduceSub, ↓reduceIte, decide_true, decide_false, Bool.true_eq_false, Bool.false_eq_true, Bool.not_true, Bool.not_false, if_true, if_false, and_true, true_and, memE, celE, w64, Nat.zero_add, Nat.add_zero, Nat.mul_one, putL, and_self, ldn]
    exact ((Ext.refl m).one _ _).pass nr (TabO.wide _) hw
theorem implWorthTable_rc (m : Mem) (v : Value) (p : Pr) (h : ProcA m v p) : RC Try.prog 25 [v] m (AnsO m (TabO (if p.good then p.tab p.bestC p.turns.toNat else [])) fun v => .tuple #[v, .bool p.good]) := by
  refine rc_of_run mixed ok_impl_WorthTable (by simp) (go_start _ _ _ ?_)
  obtain ⟨u, rfl, hu⟩ := h.ro
  simp (config := {implicitDefEqProofs := false, maxDischargeDepth := 20}) (disch := first | omega | (simp only [lenE]; done) | (simp only [lenE]; omega) | rfl | (simp only [lenE, markR_len]; done) | (simp only [lenE, markR_len]; omega)) only [runE, mapE, listE, initT_5, initT_6, initT_7, initT_8, resV, oneV, binA, unA, reduceCtorEq, Nat.reduceEqDiff, Nat.reduceAdd, Nat.reduceLT, Nat.reduceLeDiff, Nat.reduceMul, Nat.reduceSub, ↓reduceIte, decide_true, decide_false, Bool.true_eq_false, Bool.false_eq_true, Bool.not_true, Bool.not_false, if_true, if_false, and_true, true_and, memE, celE, w64, Nat.zero_add, Nat.add_zero, Nat.mul_one, putL, and_self, ldn, c_impl_WorthTable, r_impl_WorthTable]
  refine callH_rc (implIsProcess_rc _ _ p (ProcA.mk (hu.ext _))) ?_
  rintro r new ⟨rfl, nr⟩
  cases hg : p.good with
  | false =>
    simp (config := {implicitDefEqProofs := false, maxDischargeDepth := 20}) (disch := first | omega | (simp only [lenE]; done) | (simp only [lenE]; omega) | rfl | (simp only [lenE, markR_len]; done) | (simp only [lenE, markR_len]; omega)) only [runE, mapE, listE, initT_5, initT_6, initT_7, initT_8, resV, oneV, binA, unA, reduceCtorEq, Nat.reduceEqDiff, Nat.reduceAdd, Nat.reduceLT, Nat.reduceLeDiff, Nat.reduceMul, Nat.reduceSub, ↓reduceIte, decide_true, decide_false, Bool.true_eq_false, Bool.false_eq_true, Bool.not_true, Bool.not_false, if_true, if_false, and_true, true_and, memE, celE, w64, Nat.zero_add, Nat.add_zero, Nat.mul_one, putL, and_self, ldn, bsl_no]
    exact ext_noTab (f := fun v => .tuple #[v, .bool false]) (((Ext.refl m).one _ _).app nr) (by simp [roM_len]; omega)
  | true =>
    simp (config := {implicitDefEqProofs := false, maxDischargeDepth := 20}) (disch := first | omega | (simp only [lenE]; done) | (simp only [lenE]; omega) | rfl | (simp only [lenE, markR_len]; done) | (simp only [lenE, markR_len]; omega)) only [runE, mapE, listE, initT_5, initT_6, initT_7, initT_8, resV, oneV, binA, unA, reduceCtorEq, Nat.reduceEqDiff, Nat.reduceAdd, Nat.reduceLT, Nat.reduceLeDiff, Nat.reduceMul, Nat.reduceSub, ↓reduceIte, decide_true, decide_false, Bool.true_eq_false, Bool.false_eq_true, Bool.not_true, Bool.not_false, if_true, if_false, and_true, true_and, memE, celE, w64, Nat.zero_add, Nat.add_zero, Nat.mul_one, putL, and_self, ldn]
    refine callH_rc (worthTable_rc _ _ p (ProcA.mk ((hu.ext _).ext _)) (goodP_iff.1 hg)) ?_
    rintro r new' ⟨nr', w, rfl, hw⟩
    simp (config := {implicitDefEqProofs := false, maxDischargeDepth := 20}) (disch := first | omega | (simp only [lenE]; done) | (simp only [lenE]; omega) | rfl | (simp only [lenE, markR_len]; done) | (simp only [lenE, markR_len]; omega)) only [runE, mapE, listE, initT_5, initT_6, initT_7, initT_8, resV, oneV, binA, unA, reduceCtorEq, Nat.reduceEqDiff, Nat.reduceAdd, Nat.reduceLT, Nat.reduceLeDiff, Nat.reduceMul, Nat.reduceSub, ↓reduceIte, decide_true, decide_false, Bool.true_eq_false, Bool.false_eq_true, Bool.not_true, Bool.not_false, if_true, if_false, and_true, true_and, memE, celE, w64, Nat.zero_add, Nat.add_zero, Nat.mul_one, putL, and_self, ldn]
    exact (((Ext.refl m).one _ _).app nr).pass (f := fun v => .tuple #[v, .bool true]) nr' (TabO.wide _) hw
theorem specWorthTable_rc (m : Mem) (v : Value) (p : Pr) (h : ProcA m v p) : RC Try.prog 26 [v] m (AnsO m (TabO (if p.good then p.tab p.bestC p.turns.toNat else [])) fun v => .tuple #[v, .bool p.good]) := by
  refine rc_of_run mixed ok_spec_WorthTable (by simp) (go_start _ _ _ ?_)
  obtain ⟨u, rfl, hu⟩ := h.ro
  simp (config := {implicitDefEqProofs := false, maxDischargeDepth := 20}) (disch := first | omega | (simp only [lenE]; done) | (simp only [lenE]; omega) | rfl | (simp only [lenE, markR_len]; done) | (simp only [lenE, markR_len]; omega)) only [runE, mapE, listE, initT_5, initT_6, initT_7, initT_8, resV, oneV, binA, unA, reduceCtorEq, Nat.reduceEqDiff, Nat.reduceAdd, Nat.reduceLT, Nat.reduceLeDiff, Nat.reduceMul, Nat.reduceSub, ↓reduceIte, decide_true, decide_false, Bool.true_eq_false, Bool.false_eq_true, Bool.not_true, Bool.not_false, if_true, if_false, and_true, true_and, memE, celE, w64, Nat.zero_add, Nat.add_zero, Nat.mul_one, putL, and_self, ldn, c_spec_WorthTable, r_spec_WorthTable]
  refine callH_rc (l6Good_rc _ _ p (ProcA.mk (hu.ext _))) ?_
  rintro r new ⟨rfl, nr⟩
  cases hg : p.good with
  | false =>
    simp (config := {implicitDefEqProofs := false, maxDischargeDepth := 20}) (disch := first | omega | (simp only [lenE]; done) | (simp only [lenE]; omega) | rfl | (simp only [lenE, markR_len]; done) | (simp only [lenE, markR_len]; omega)) only [runE, mapE, listE, initT_5, initT_6, initT_7, initT_8, resV, oneV, binA, unA, reduceCtorEq, Nat.reduceEqDiff, Nat.reduceAdd, Nat.reduceLT, Nat.reduceLeDiff, Nat.reduceMul, Nat.reduceSub, ↓reduceIte, decide_true, decide_false, Bool.true_eq_false, Bool.false_eq_true, Bool.not_true, Bool.not_false, if_true, if_false, and_true, true_and, memE, celE, w64, Nat.zero_add, Nat.add_zero, Nat.mul_one, putL, and_self, ldn, bsl_no]
    exact ext_noTab (f := fun v => .tuple #[v, .bool false]) (((Ext.refl m).one _ _).app nr) (by simp [roM_len]; omega)
  | true =>
    simp (config := {implicitDefEqProofs := false, maxDischargeDepth := 20}) (disch := first | omega | (simp only [lenE]; done) | (simp only [lenE]; omega) | rfl | (simp only [lenE, markR_len]; done) | (simp only [lenE, markR_len]; omega)) only [runE, mapE, listE, initT_5, initT_6, initT_7, initT_8, resV, oneV, binA, unA, reduceCtorEq, Nat.reduceEqDiff, Nat.reduceAdd, Nat.reduceLT, Nat.reduceLeDiff, Nat.reduceMul, Nat.reduceSub, ↓reduceIte, decide_true, decide_false, Bool.true_eq_false, Bool.false_eq_true, Bool.not_true, Bool.not_false, if_true, if_false, and_true, true_and, memE, celE, w64, Nat.zero_add, Nat.add_zero, Nat.mul_one, putL, and_self, ldn]
    refine callH_rc (l6Worths_rc _ _ p (ProcA.mk ((hu.ext _).ext _)) (goodP_iff.1 hg)) ?_
    rintro r new' ⟨nr', w, rfl, hw⟩
    simp (config := {implicitDefEqProofs := false, maxDischargeDepth := 20}) (disch := first | omega | (simp only [lenE]; done) | (simp only [lenE]; omega) | rfl | (simp only [lenE, markR_len]; done) | (simp only [lenE, markR_len]; omega)) only [runE, mapE, listE, initT_5, initT_6, initT_7, initT_8, resV, oneV, binA, unA, reduceCtorEq, Nat.reduceEqDiff, Nat.reduceAdd, Nat.reduceLT, Nat.reduceLeDiff, Nat.reduceMul, Nat.reduceSub, ↓reduceIte, decide_true, decide_false, Bool.true_eq_false, Bool.false_eq_true, Bool.not_true, Bool.not_false, if_true, if_false, and_true, true_and, memE, celE, w64, Nat.zero_add, Nat.add_zero, Nat.mul_one, putL, and_self, ldn]
    exact (((Ext.refl m).one _ _).app nr).pass (f := fun v => .tuple #[v, .bool true]) nr' (TabO.wide _) hw
/-- The row of the next turn, in a table. -/
theorem next_row {M : Mem} {w : Value} {p : Pr} {ch : Nat → List Int → Int → Int} {N lo hi : Nat} (h : TabO (p.tab ch N) lo hi M w) {z : Int} {j : Nat} (hz : z = j) (hj : j ≤ N) :
    iadA 1 w (.int .i64 z) = some (pAt w j) ∧ ∃ x, ldA M none (pAt w j) = some x ∧ IntsA M x (p.rowsN ch (N - j)) := by
  subst hz
  have a := h.in.at_ j (by rw [Pr.tab_len]; omega)
  obtain ⟨x, h1, h2⟩ := h.in.ld j (by rw [Pr.tab_len]; omega)
  rw [Pr.tab_at p ch hj] at h2
  exact ⟨a, x, h1, h2⟩
theorem fld_2 (a b c : Value) : fldA 2 none (.agg #[a, b, c]) = some c := rfl
def orderB (p : Pr) (t x : Int) : Bool := turnB p t && levB x
def orderUp (p : Pr) (t x : Int) : Int := if orderB p t x then p.up (p.rowsN p.bestC ((p.turns - 1 - t).toNat)) x (p.turns - 1 - t).toNat else 0
theorem implBestOrder_rc (m : Mem) (v : Value) (p : Pr) (t x : Int) (h : ProcA m v p) : RC Try.prog 37 [v, .int .i64 t, .int .i64 x] m (AnsV (.tuple #[.int .i64 (orderUp p t x), .bool (orderB p t x)])) := by
  refine rc_of_run mixed ok_impl_BestOrder (by simp) (go_start _ _ _ ?_)
  obtain ⟨u, rfl, hu⟩ := h.ro
  unfold orderUp
  simp (config := {implicitDefEqProofs := false, maxDischargeDepth := 20}) (disch := first | omega | (simp only [lenE]; done) | (simp only [lenE]; omega) | rfl | (simp only [lenE, markR_len]; done) | (simp only [lenE, markR_len]; omega)) only [runE, mapE, listE, initT_5, initT_6, initT_7, initT_8, resV, oneV, binA, unA, reduceCtorEq, Nat.reduceEqDiff, Nat.reduceAdd, Nat.reduceLT, Nat.reduceLeDiff, Nat.reduceMul, Nat.reduceSub, ↓reduceIte, decide_true, decide_false, Bool.true_eq_false, Bool.false_eq_true, Bool.not_true, Bool.not_false, if_true, if_false, and_true, true_and, memE, celE, w64, Nat.zero_add, Nat.add_zero, Nat.mul_one, putL, and_self, ldn, c_impl_BestOrder, r_impl_BestOrder]
  refine callH_rc (isTurn_rc _ _ p t (ProcA.mk (hu.ext _))) ?_
  rintro r n1 ⟨rfl, nr1⟩
  cases b1 : turnB p t with
  | false =>
    simp (config := {implicitDefEqProofs := false, maxDischargeDepth := 20}) (disch := first | omega | (simp only [lenE]; done) | (simp only [lenE]; omega) | rfl | (simp only [lenE, markR_len]; done) | (simp only [lenE, markR_len]; omega)) only [runE, mapE, listE, initT_5, initT_6, initT_7, initT_8, resV, oneV, binA, unA, reduceCtorEq, Nat.reduceEqDiff, Nat.reduceAdd, Nat.reduceLT, Nat.reduceLeDiff, Nat.reduceMul, Nat.reduceSub, ↓reduceIte, decide_true, decide_false, Bool.true_eq_false, Bool.false_eq_true, Bool.not_true, Bool.not_false, if_true, if_false, and_true, true_and, memE, celE, w64, Nat.zero_add, Nat.add_zero, Nat.mul_one, putL, and_self, ldn]
    have e : orderB p t x = false := by simp [orderB, b1]
    rw [e]
    try simp only [List.append_assoc, List.cons_append, List.nil_append, List.append_nil]
    exact ⟨_, rfl, by (repeat (first | exact noRo_nil | assumption | apply noRo_own | apply noRo_dead | apply noRo_app)), by simp, by (repeat (first | exact noRo_nil | assumption | apply noRo_own | apply noRo_dead | apply noRo_app))⟩
  | true =>
    simp (config := {implicitDefEqProofs := false, maxDischargeDepth := 20}) (disch := first | omega | (simp only [lenE]; done) | (simp only [lenE]; omega) | rfl | (simp only [lenE, markR_len]; done) | (simp only [lenE, markR_len]; omega)) only [runE, mapE, listE, initT_5, initT_6, initT_7, initT_8, resV, oneV, binA, unA, reduceCtorEq, Nat.reduceEqDiff, Nat.reduceAdd, Nat.reduceLT, Nat.reduceLeDiff, Nat.reduceMul, Nat.reduceSub, ↓reduceIte, decide_true, decide_false, Bool.true_eq_false, Bool.false_eq_true, Bool.not_true, Bool.not_false, if_true, if_false, and_true, true_and, memE, celE, w64, Nat.zero_add, Nat.add_zero, Nat.mul_one, putL, and_self, ldn]
    refine callH_rc (isLevel_rc _ x) ?_
    rintro r n2 ⟨rfl, rfl⟩
    cases b2 : levB x with
    | false =>
      simp (config := {implicitDefEqProofs := false, maxDischargeDepth := 20}) (disch := first | omega | (simp only [lenE]; done) | (simp only [lenE]; omega) | rfl | (simp only [lenE, markR_len]; done) | (simp only [lenE, markR_len]; omega)) only [runE, mapE, listE, initT_5, initT_6, initT_7, initT_8, resV, oneV, binA, unA, reduceCtorEq, Nat.reduceEqDiff, Nat.reduceAdd, Nat.reduceLT, Nat.reduceLeDiff, Nat.reduceMul, Nat.reduceSub, ↓reduceIte, decide_true, decide_false, Bool.true_eq_false, Bool.false_eq_true, Bool.not_true, Bool.not_false, if_true, if_false, and_true, true_and, memE, celE, w64, Nat.zero_add, Nat.add_zero, Nat.mul_one, putL, and_self, ldn]
      have e : orderB p t x = false := by simp [orderB, b2]
      rw [e]
      try simp only [List.append_assoc, List.cons_append, List.nil_append, List.append_nil]
      exact ⟨_, rfl, by (repeat (first | exact noRo_nil | assumption | apply noRo_own | apply noRo_dead | apply noRo_app)), by simp, by (repeat (first | exact noRo_nil | assumption | apply noRo_own | apply noRo_dead | apply noRo_app))⟩
    | true =>
      have e : orderB p t x = true := by simp [orderB, b1, b2]
      rw [e]
      simp only [turnB, Bool.and_eq_true, inZ, decide_eq_true_eq] at b1
      simp only [levB, Bool.and_eq_true, decide_eq_true_eq] at b2
      have hG := goodP_iff.1 b1.1
      have ht := hG.turns
      simp (config := {implicitDefEqProofs := false, maxDischargeDepth := 20}) (disch := first | omega | (simp only [lenE]; done) | (simp only [lenE]; omega) | rfl | (simp only [lenE, markR_len]; done) | (simp only [lenE, markR_len]; omega)) only [runE, mapE, listE, initT_5, initT_6, initT_7, initT_8, resV, oneV, binA, unA, reduceCtorEq, Nat.reduceEqDiff, Nat.reduceAdd, Nat.reduceLT, Nat.reduceLeDiff, Nat.reduceMul, Nat.reduceSub, ↓reduceIte, decide_true, decide_false, Bool.true_eq_false, Bool.false_eq_true, Bool.not_true, Bool.not_false, if_true, if_false, and_true, true_and, memE, celE, w64, Nat.zero_add, Nat.add_zero, Nat.mul_one, putL, and_self, ldn]
      refine rcallH_rc (worthTable_rc _ _ p (ProcA.mk ((hu.ext _).ext _)) hG) ?_
      rintro r n3 ⟨nr3, w, rfl, hw⟩
      obtain ⟨a1, y, a2, a3⟩ := next_row hw.now (z := t + 1) (j := (t + 1).toNat) (by omega) (by omega)
      rw [show p.turns.toNat - (t + 1).toNat = (p.turns - 1 - t).toNat by omega] at a3
      simp (config := {implicitDefEqProofs := false, maxDischargeDepth := 20}) (disch := first | omega | (simp only [lenE]; done) | (simp only [lenE]; omega) | rfl | (simp only [lenE, markR_len]; done) | (simp only [lenE, markR_len]; omega)) only [runE, mapE, listE, initT_5, initT_6, initT_7, initT_8, resV, oneV, binA, unA, reduceCtorEq, Nat.reduceEqDiff, Nat.reduceAdd, Nat.reduceLT, Nat.reduceLeDiff, Nat.reduceMul, Nat.reduceSub, ↓reduceIte, decide_true, decide_false, Bool.true_eq_false, Bool.false_eq_true, Bool.not_true, Bool.not_false, if_true, if_false, and_true, true_and, memE, celE, w64, Nat.zero_add, Nat.add_zero, Nat.mul_one, putL, and_self, ldn, id_eq, a1, a2]
      refine rcallH_rc (bestMove_rc _ _ _ p _ t x (p.turns - 1 - t).toNat (ProcA.mk (((hu.ext _).ext _).ext _)) a3 hG (Pr.rowsN_len _ _ _) (Pr.rows_big hG (by omega) (Pr.best_fair hG 5) (k := (p.turns - 1 - t).toNat) (by omega)) b2 (by omega) (by omega) (by omega)) ?_
      rintro r n4 ⟨rfl, nr4⟩
      simp (config := {implicitDefEqProofs := false, maxDischargeDepth := 20}) (disch := first | omega | (simp only [lenE]; done) | (simp only [lenE]; omega) | rfl | (simp only [lenE, markR_len]; done) | (simp only [lenE, markR_len]; omega)) only [runE, mapE, listE, initT_5, initT_6, initT_7, initT_8, resV, oneV, binA, unA, reduceCtorEq, Nat.reduceEqDiff, Nat.reduceAdd, Nat.reduceLT, Nat.reduceLeDiff, Nat.reduceMul, Nat.reduceSub, ↓reduceIte, decide_true, decide_false, Bool.true_eq_false, Bool.false_eq_true, Bool.not_true, Bool.not_false, if_true, if_false, and_true, true_and, memE, celE, w64, Nat.zero_add, Nat.add_zero, Nat.mul_one, putL, and_self, ldn, fld_2]
      try simp only [List.append_assoc, List.cons_append, List.nil_append, List.append_nil]
      exact ⟨_, rfl, by (repeat (first | exact noRo_nil | assumption | apply noRo_own | apply noRo_dead | apply noRo_app)), by simp, by (repeat (first | exact noRo_nil | assumption | apply noRo_own | apply noRo_dead | apply noRo_app))⟩
theorem specBestOrder_rc (m : Mem) (v : Value) (p : Pr) (t x : Int) (h : ProcA m v p) : RC Try.prog 38 [v, .int .i64 t, .int .i64 x] m (AnsV (.tuple #[.int .i64 (orderUp p t x), .bool (orderB p t x)])) := by
  refine rc_of_run mixed ok_spec_BestOrder (by simp) (go_start _ _ _ ?_)
  obtain ⟨u, rfl, hu⟩ := h.ro
  unfold orderUp
  simp (config := {implicitDefEqProofs := false, maxDischargeDepth := 20}) (disch := first | omega | (simp only [lenE]; done) | (simp only [lenE]; omega) | rfl | (simp only [lenE, markR_len]; done) | (simp only [lenE, markR_len]; omega)) only [runE, mapE, listE, initT_5, initT_6, initT_7, initT_8, resV, oneV, binA, unA, reduceCtorEq, Nat.reduceEqDiff, Nat.reduceAdd, Nat.reduceLT, Nat.reduceLeDiff, Nat.reduceMul, Nat.reduceSub, ↓reduceIte, decide_true, decide_false, Bool.true_eq_false, Bool.false_eq_true, Bool.not_true, Bool.not_false, if_true, if_false, and_true, true_and, memE, celE, w64, Nat.zero_add, Nat.add_zero, Nat.mul_one, putL, and_self, ldn, c_spec_BestOrder, r_spec_BestOrder]
  refine callH_rc (l6Turn_rc _ _ p t (ProcA.mk (hu.ext _))) ?_
  rintro r n1 ⟨rfl, nr1⟩
  cases b1 : turnB p t with
  | false =>
    simp (config := {implicitDefEqProofs := false, maxDischargeDepth := 20}) (disch := first | omega | (simp only [lenE]; done) | (simp only [lenE]; omega) | rfl | (simp only [lenE, markR_len]; done) | (simp only [lenE, markR_len]; omega)) only [runE, mapE, listE, initT_5, initT_6, initT_7, initT_8, resV, oneV, binA, unA, reduceCtorEq, Nat.reduceEqDiff, Nat.reduceAdd, Nat.reduceLT, Nat.reduceLeDiff, Nat.reduceMul, Nat.reduceSub, ↓reduceIte, decide_true, decide_false, Bool.true_eq_false, Bool.false_eq_true, Bool.not_true, Bool.not_false, if_true, if_false, and_true, true_and, memE, celE, w64, Nat.zero_add, Nat.add_zero, Nat.mul_one, putL, and_self, ldn]
    have e : orderB p t x = false := by simp [orderB, b1]
    rw [e]
    try simp only [List.append_assoc, List.cons_append, List.nil_append, List.append_nil]
    exact ⟨_, rfl, by (repeat (first | exact noRo_nil | assumption | apply noRo_own | apply noRo_dead | apply noRo_app)), by simp, by (repeat (first | exact noRo_nil | assumption | apply noRo_own | apply noRo_dead | apply noRo_app))⟩
  | true =>
    simp (config := {implicitDefEqProofs := false, maxDischargeDepth := 20}) (disch := first | omega | (simp only [lenE]; done) | (simp only [lenE]; omega) | rfl | (simp only [lenE, markR_len]; done) | (simp only [lenE, markR_len]; omega)) only [runE, mapE, listE, initT_5, initT_6, initT_7, initT_8, resV, oneV, binA, unA, reduceCtorEq, Nat.reduceEqDiff, Nat.reduceAdd, Nat.reduceLT, Nat.reduceLeDiff, Nat.reduceMul, Nat.reduceSub, ↓reduceIte, decide_true, decide_false, Bool.true_eq_false, Bool.false_eq_true, Bool.not_true, Bool.not_false, if_true, if_false, and_true, true_and, memE, celE, w64, Nat.zero_add, Nat.add_zero, Nat.mul_one, putL, and_self, ldn]
    refine callH_rc (l6Level_rc _ x) ?_
    rintro r n2 ⟨rfl, rfl⟩
    cases b2 : levB x with
    | false =>
      simp (config := {implicitDefEqProofs := false, maxDischargeDepth := 20}) (disch := first | omega | (simp only [lenE]; done) | (simp only [lenE]; omega) | rfl | (simp only [lenE, markR_len]; done) | (simp only [lenE, markR_len]; omega)) only [runE, mapE, listE, initT_5, initT_6, initT_7, initT_8, resV, oneV, binA, unA, reduceCtorEq, Nat.reduceEqDiff, Nat.reduceAdd, Nat.reduceLT, Nat.reduceLeDiff, Nat.reduceMul, Nat.reduceSub, ↓reduceIte, decide_true, decide_false, Bool.true_eq_false, Bool.false_eq_true, Bool.not_true, Bool.not_false, if_true, if_false, and_true, true_and, memE, celE, w64, Nat.zero_add, Nat.add_zero, Nat.mul_one, putL, and_self, ldn]
      have e : orderB p t x = false := by simp [orderB, b2]
      rw [e]
      try simp only [List.append_assoc, List.cons_append, List.nil_append, List.append_nil]
      exact ⟨_, rfl, by (repeat (first | exact noRo_nil | assumption | apply noRo_own | apply noRo_dead | apply noRo_app)), by simp, by (repeat (first | exact noRo_nil | assumption | apply noRo_own | apply noRo_dead | apply noRo_app))⟩
    | true =>
      have e : orderB p t x = true := by simp [orderB, b1, b2]
      rw [e]
      simp only [turnB, Bool.and_eq_true, inZ, decide_eq_true_eq] at b1
      simp only [levB, Bool.and_eq_true, decide_eq_true_eq] at b2
      have hG := goodP_iff.1 b1.1
      have ht := hG.turns
      simp (config := {implicitDefEqProofs := false, maxDischargeDepth := 20}) (disch := first | omega | (simp only [lenE]; done) | (simp only [lenE]; omega) | rfl | (simp only [lenE, markR_len]; done) | (simp only [lenE, markR_len]; omega)) only [runE, mapE, listE, initT_5, initT_6, initT_7, initT_8, resV, oneV, binA, unA, reduceCtorEq, Nat.reduceEqDiff, Nat.reduceAdd, Nat.reduceLT, Nat.reduceLeDiff, Nat.reduceMul, Nat.reduceSub, ↓reduceIte, decide_true, decide_false, Bool.true_eq_false, Bool.false_eq_true, Bool.not_true, Bool.not_false, if_true, if_false, and_true, true_and, memE, celE, w64, Nat.zero_add, Nat.add_zero, Nat.mul_one, putL, and_self, ldn]
      refine rcallH_rc (l6Worths_rc _ _ p (ProcA.mk ((hu.ext _).ext _)) hG) ?_
      rintro r n3 ⟨nr3, w, rfl, hw⟩
      obtain ⟨a1, y, a2, a3⟩ := next_row hw.now (z := t + 1) (j := (t + 1).toNat) (by omega) (by omega)
      rw [show p.turns.toNat - (t + 1).toNat = (p.turns - 1 - t).toNat by omega] at a3
      simp (config := {implicitDefEqProofs := false, maxDischargeDepth := 20}) (disch := first | omega | (simp only [lenE]; done) | (simp only [lenE]; omega) | rfl | (simp only [lenE, markR_len]; done) | (simp only [lenE, markR_len]; omega)) only [runE, mapE, listE, initT_5, initT_6, initT_7, initT_8, resV, oneV, binA, unA, reduceCtorEq, Nat.reduceEqDiff, Nat.reduceAdd, Nat.reduceLT, Nat.reduceLeDiff, Nat.reduceMul, Nat.reduceSub, ↓reduceIte, decide_true, decide_false, Bool.true_eq_false, Bool.false_eq_true, Bool.not_true, Bool.not_false, if_true, if_false, and_true, true_and, memE, celE, w64, Nat.zero_add, Nat.add_zero, Nat.mul_one, putL, and_self, ldn, id_eq, a1, a2]
      refine rcallH_rc (l6Best_rc _ _ _ p _ x _ (p.turns - 1 - t).toNat (ProcA.mk (((hu.ext _).ext _).ext _)) a3 hG (Pr.rowsN_len _ _ _) (Pr.rows_big hG (by omega) (Pr.best_fair hG 5) (k := (p.turns - 1 - t).toNat) (by omega)) b2 (by omega) (by omega)) ?_
      rintro r n4 ⟨rfl, nr4⟩
      simp (config := {implicitDefEqProofs := false, maxDischargeDepth := 20}) (disch := first | omega | (simp only [lenE]; done) | (simp only [lenE]; omega) | rfl | (simp only [lenE, markR_len]; done) | (simp only [lenE, markR_len]; omega)) only [runE, mapE, listE, initT_5, initT_6, initT_7, initT_8, resV, oneV, binA, unA, reduceCtorEq, Nat.reduceEqDiff, Nat.reduceAdd, Nat.reduceLT, Nat.reduceLeDiff, Nat.reduceMul, Nat.reduceSub, ↓reduceIte, decide_true, decide_false, Bool.true_eq_false, Bool.false_eq_true, Bool.not_true, Bool.not_false, if_true, if_false, and_true, true_and, memE, celE, w64, Nat.zero_add, Nat.add_zero, Nat.mul_one, putL, and_self, ldn, ext_2_0, ext_2_1]
      try simp only [List.append_assoc, List.cons_append, List.nil_append, List.append_nil]
      exact ⟨_, rfl, by (repeat (first | exact noRo_nil | assumption | apply noRo_own | apply noRo_dead | apply noRo_app)), by simp, by (repeat (first | exact noRo_nil | assumption | apply noRo_own | apply noRo_dead | apply noRo_app))⟩
end Go.Proofs.Ytddnedngjijpoaa.Ab
