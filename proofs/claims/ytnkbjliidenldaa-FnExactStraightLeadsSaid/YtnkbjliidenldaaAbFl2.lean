/- Rules: whether they are right, and the orders that they tell. -/
import Derived.Test.YtnkbjliidenldaaAbFl1
namespace Go.Proofs.Ytnkbjliidenldaa.Ab
open Go Go.RowKit
set_option linter.unusedVariables false
set_option linter.unusedSimpArgs false

theorem OwnB.mk3' {M : Mem} {id : Nat} {e : TypeId} {a b c : Value} (h : OwnB M id e [a, b, c]) : ldA M (some 3) (.pointer (some ⟨id, 0, none⟩)) = some (.agg #[a, b, c]) ∧ rdc M id 0 = some a ∧ rdc M id 1 = some b ∧ rdc M id 2 = some c := by
  unfold OwnB at h
  simp [ldA, rdn, rdc, h]
theorem OwnB.mk2' {M : Mem} {id : Nat} {e : TypeId} {a b : Value} (h : OwnB M id e [a, b]) : ldA M (some 2) (.pointer (some ⟨id, 0, none⟩)) = some (.agg #[a, b]) ∧ rdc M id 0 = some a ∧ rdc M id 1 = some b := by
  unfold OwnB at h
  simp [ldA, rdn, rdc, h]
theorem OwnB.mk1' {M : Mem} {id : Nat} {e : TypeId} {a : Value} (h : OwnB M id e [a]) : rdc M id 0 = some a := by
  unfold OwnB at h
  simp [rdc, h]
/-- Orders for positions within bounds that no sum passes. -/
def PosD (p : Int) : Prop := -1000 ≤ p ∧ p ≤ 1000
def liftV (low up p : Int) : Int := if low ≤ p then 0 else up - p
theorem liftFrom_rc (m : Mem) (low up : Int) (h1 : -1000 ≤ low ∧ low ≤ 1000) (h2 : -1000 ≤ up ∧ up ≤ 1000) :
    RC Try.prog 121 [.int .i64 low, .int .i64 up] m fun r new => NoRo new ∧ FunG (m ++ new) r (fun p : Int => [.int .i64 p]) PosD (fun p => .int .i64 (liftV low up p)) := by
  refine rc_of_run mixed ok_impl_liftFrom (by simp) (go_start _ _ _ ?_)
  simp (config := {implicitDefEqProofs := false, maxDischargeDepth := 20}) (disch := first | omega | (simp only [lenE]; done) | (simp only [lenE]; omega) | rfl | (simp only [lenE, markR_len]; done) | (simp only [lenE, markR_len]; omega)) only [runE, mapE, listE, initT_5, initT_6, initT_7, initT_8, resV, oneV, binA, unA, reduceCtorEq, Nat.reduceEqDiff, Nat.reduceAdd, Nat.reduceLT, Nat.reduceLeDiff, Nat.reduceMul, Nat.reduceSub, ↓reduceIte, decide_true, decide_false, Bool.true_eq_false, Bool.false_eq_true, Bool.not_true, Bool.not_false, if_true, if_false, and_true, true_and, memE, celE, w64, Nat.zero_add, Nat.add_zero, Nat.mul_one, putL, and_self, ldn, c_impl_liftFrom, r_impl_liftFrom]
  try simp only [List.append_assoc, List.cons_append, List.nil_append, List.append_nil]
  refine ⟨_, rfl, by (repeat (first | exact noRo_nil | assumption | apply noRo_own | apply noRo_dead | apply noRo_app)), by (repeat (first | exact noRo_nil | assumption | apply noRo_own | apply noRo_dead | apply noRo_app)), _, _, rfl, fun M hM p hp => ?_⟩
  have b1 := hM.1 m.length 0 (.int .i64 low) (by simp [rdc])
  have b2 := hM.1 (m.length + 1) 0 (.int .i64 up) (by simp [rdc])
  refine rc_of_run mixed ok_impl_liftFrom_1 (by simp) (go_start _ _ _ ?_)
  unfold PosD at hp
  unfold liftV
  by_cases hc : low ≤ p
  · simp (config := {implicitDefEqProofs := false, maxDischargeDepth := 20}) (disch := first | omega | (simp only [lenE]; done) | (simp only [lenE]; omega) | rfl | (simp only [lenE, markR_len]; done) | (simp only [lenE, markR_len]; omega)) only [runE, mapE, listE, initT_5, initT_6, initT_7, initT_8, resV, oneV, binA, unA, reduceCtorEq, Nat.reduceEqDiff, Nat.reduceAdd, Nat.reduceLT, Nat.reduceLeDiff, Nat.reduceMul, Nat.reduceSub, ↓reduceIte, decide_true, decide_false, Bool.true_eq_false, Bool.false_eq_true, Bool.not_true, Bool.not_false, if_true, if_false, and_true, true_and, memE, celE, w64, Nat.zero_add, Nat.add_zero, Nat.mul_one, putL, and_self, ldn, c_impl_liftFrom_1, r_impl_liftFrom_1, rdc_roM, b1, b2, ge_iff_le, hc]
    exact newQ_nil ⟨rfl, noRo_nil⟩
  · simp (config := {implicitDefEqProofs := false, maxDischargeDepth := 20}) (disch := first | omega | (simp only [lenE]; done) | (simp only [lenE]; omega) | rfl | (simp only [lenE, markR_len]; done) | (simp only [lenE, markR_len]; omega)) only [runE, mapE, listE, initT_5, initT_6, initT_7, initT_8, resV, oneV, binA, unA, reduceCtorEq, Nat.reduceEqDiff, Nat.reduceAdd, Nat.reduceLT, Nat.reduceLeDiff, Nat.reduceMul, Nat.reduceSub, ↓reduceIte, decide_true, decide_false, Bool.true_eq_false, Bool.false_eq_true, Bool.not_true, Bool.not_false, if_true, if_false, and_true, true_and, memE, celE, w64, Nat.zero_add, Nat.add_zero, Nat.mul_one, putL, and_self, ldn, c_impl_liftFrom_1, r_impl_liftFrom_1, rdc_roM, b1, b2, ge_iff_le, hc]
    exact newQ_nil ⟨rfl, noRo_nil⟩
theorem lots_step {p low high : Int} (j : Nat) : ((j + 1 : Nat) : Int) * high = (j : Int) * high + high := by rw [Int.natCast_add, Int.add_mul]; simp
theorem lotsUpTo_rc (m : Mem) (low lot : Int) (h1 : -1000 ≤ low ∧ low ≤ 1000) (h2 : lot ≤ 1000) :
    RC Try.prog 122 [.int .i64 low, .int .i64 lot] m fun r new => NoRo new ∧ (1 ≤ lot → FunG (m ++ new) r (fun p : Int => [.int .i64 p]) PosD (fun p => .int .i64 ((lotsJ p low lot : Int) * lot))) := by
  refine rc_of_run mixed ok_impl_lotsUpTo (by simp) (go_start _ _ _ ?_)
  simp (config := {implicitDefEqProofs := false, maxDischargeDepth := 20}) (disch := first | omega | (simp only [lenE]; done) | (simp only [lenE]; omega) | rfl | (simp only [lenE, markR_len]; done) | (simp only [lenE, markR_len]; omega)) only [runE, mapE, listE, initT_5, initT_6, initT_7, initT_8, resV, oneV, binA, unA, reduceCtorEq, Nat.reduceEqDiff, Nat.reduceAdd, Nat.reduceLT, Nat.reduceLeDiff, Nat.reduceMul, Nat.reduceSub, ↓reduceIte, decide_true, decide_false, Bool.true_eq_false, Bool.false_eq_true, Bool.not_true, Bool.not_false, if_true, if_false, and_true, true_and, memE, celE, w64, Nat.zero_add, Nat.add_zero, Nat.mul_one, putL, and_self, ldn, c_impl_lotsUpTo, r_impl_lotsUpTo]
  try simp only [List.append_assoc, List.cons_append, List.nil_append, List.append_nil]
  refine ⟨_, rfl, by (repeat (first | exact noRo_nil | assumption | apply noRo_own | apply noRo_dead | apply noRo_app)), by (repeat (first | exact noRo_nil | assumption | apply noRo_own | apply noRo_dead | apply noRo_app)), fun h3 => ⟨_, _, rfl, fun M hM p hp => ?_⟩⟩
  have b1 := hM.1 m.length 0 (.int .i64 low) (by simp [rdc])
  have b2 := hM.1 (m.length + 1) 0 (.int .i64 lot) (by simp [rdc])
  refine rc_of_run mixed ok_impl_lotsUpTo_1 (by simp) (go_start _ _ _ ?_)
  unfold PosD at hp
  simp (config := {implicitDefEqProofs := false, maxDischargeDepth := 20}) (disch := first | omega | (simp only [lenE]; done) | (simp only [lenE]; omega) | rfl | (simp only [lenE, markR_len]; done) | (simp only [lenE, markR_len]; omega)) only [runE, mapE, listE, initT_5, initT_6, initT_7, initT_8, resV, oneV, binA, unA, reduceCtorEq, Nat.reduceEqDiff, Nat.reduceAdd, Nat.reduceLT, Nat.reduceLeDiff, Nat.reduceMul, Nat.reduceSub, ↓reduceIte, decide_true, decide_false, Bool.true_eq_false, Bool.false_eq_true, Bool.not_true, Bool.not_false, if_true, if_false, and_true, true_and, memE, celE, w64, Nat.zero_add, Nat.add_zero, Nat.mul_one, putL, and_self, ldn, c_impl_lotsUpTo_1, r_impl_lotsUpTo_1]
  refine loop_inv mixed (fun s => ∃ j : Nat, j ≤ lotsJ p low lot ∧ s.m = roM M ∧ s.t 0 = .int .i64 p ∧ s.t 1 = .pointer (some ⟨m.length, 0, none⟩) ∧ s.t 2 = .pointer (some ⟨m.length + 1, 0, none⟩) ∧ s.t 5 = .int .i64 ((j : Int) * lot)) (fun s => (low - p + lot - zOf (s.t 5)).toNat)
    ⟨0, by omega, rfl, rfl, rfl, rfl, by rw [show ((0 : Nat) : Int) * lot = 0 by simp]; rfl⟩ ?_
  rintro s ⟨j, hj, tm, t0, t1, t2, t5⟩
  have hb := lots_le h3 j hj
  have hi := lotsJ_iff (p := p) (low := low) h3 j
  have hs := lots_step (p := p) (low := low) (high := lot) j
  obtain ⟨q, hq⟩ : ∃ q, q = (j : Int) * lot := ⟨_, rfl⟩
  rw [← hq] at hb hi hs t5
  by_cases hlt : p + q < low
  · simp (config := {implicitDefEqProofs := false, maxDischargeDepth := 20}) (disch := first | omega | (simp only [lenE]; done) | (simp only [lenE]; omega) | rfl | (simp only [lenE, markR_len]; done) | (simp only [lenE, markR_len]; omega)) only [runE, mapE, listE, initT_5, initT_6, initT_7, initT_8, resV, oneV, binA, unA, reduceCtorEq, Nat.reduceEqDiff, Nat.reduceAdd, Nat.reduceLT, Nat.reduceLeDiff, Nat.reduceMul, Nat.reduceSub, ↓reduceIte, decide_true, decide_false, Bool.true_eq_false, Bool.false_eq_true, Bool.not_true, Bool.not_false, if_true, if_false, and_true, true_and, memE, celE, w64, Nat.zero_add, Nat.add_zero, Nat.mul_one, putL, and_self, ldn, tm, t0, t1, t2, t5, rdc_roM, b1, b2, hlt]
    refine ⟨⟨j + 1, hi.2 hlt, by rw [hs]⟩, ?_⟩
    simp only [zOf]; omega
  · simp (config := {implicitDefEqProofs := false, maxDischargeDepth := 20}) (disch := first | omega | (simp only [lenE]; done) | (simp only [lenE]; omega) | rfl | (simp only [lenE, markR_len]; done) | (simp only [lenE, markR_len]; omega)) only [runE, mapE, listE, initT_5, initT_6, initT_7, initT_8, resV, oneV, binA, unA, reduceCtorEq, Nat.reduceEqDiff, Nat.reduceAdd, Nat.reduceLT, Nat.reduceLeDiff, Nat.reduceMul, Nat.reduceSub, ↓reduceIte, decide_true, decide_false, Bool.true_eq_false, Bool.false_eq_true, Bool.not_true, Bool.not_false, if_true, if_false, and_true, true_and, memE, celE, w64, Nat.zero_add, Nat.add_zero, Nat.mul_one, putL, and_self, ldn, tm, t0, t1, t2, t5, rdc_roM, b1, b2, hlt]
    have e : j = lotsJ p low lot := by
      by_cases hh : j < lotsJ p low lot
      · exact absurd (hi.1 hh) hlt
      · omega
    exact newQ_nil ⟨by rw [← e, ← hq], noRo_nil⟩
theorem isCount11_rc (m : Mem) (x most : Int) : RC Try.prog 123 [.int .i64 x, .int .i64 most] m fun r new => r = .bool (decide (1 ≤ x) && decide (x ≤ most)) ∧ new = [] := by
  refine rc_of_run mixed ok_impl_isCount (by simp) (go_start _ _ _ ?_)
  by_cases h : 0 < x
  · have e : decide (1 ≤ x) = true := decide_eq_true (by omega)
    simp (config := {implicitDefEqProofs := false, maxDischargeDepth := 20}) (disch := first | omega | (simp only [lenE]; done) | (simp only [lenE]; omega) | rfl | (simp only [lenE, markR_len]; done) | (simp only [lenE, markR_len]; omega)) only [runE, mapE, listE, initT_5, initT_6, initT_7, initT_8, resV, oneV, binA, unA, reduceCtorEq, Nat.reduceEqDiff, Nat.reduceAdd, Nat.reduceLT, Nat.reduceLeDiff, Nat.reduceMul, Nat.reduceSub, ↓reduceIte, decide_true, decide_false, Bool.true_eq_false, Bool.false_eq_true, Bool.not_true, Bool.not_false, if_true, if_false, and_true, true_and, memE, celE, w64, Nat.zero_add, Nat.add_zero, Nat.mul_one, putL, and_self, ldn, c_impl_isCount, r_impl_isCount, h, gt_iff_lt]
    try (refine callH_rc (within_rc _ x most) ?_; rintro r new ⟨rfl, rfl⟩; simp (config := {implicitDefEqProofs := false, maxDischargeDepth := 20}) (disch := first | omega | (simp only [lenE]; done) | (simp only [lenE]; omega) | rfl | (simp only [lenE, markR_len]; done) | (simp only [lenE, markR_len]; omega)) only [runE, mapE, listE, initT_5, initT_6, initT_7, initT_8, resV, oneV, binA, unA, reduceCtorEq, Nat.reduceEqDiff, Nat.reduceAdd, Nat.reduceLT, Nat.reduceLeDiff, Nat.reduceMul, Nat.reduceSub, ↓reduceIte, decide_true, decide_false, Bool.true_eq_false, Bool.false_eq_true, Bool.not_true, Bool.not_false, if_true, if_false, and_true, true_and, memE, celE, w64, Nat.zero_add, Nat.add_zero, Nat.mul_one, putL, and_self, ldn, List.append_nil])
    exact newQ_nil ⟨by simp [e, inF, show (0 : Int) ≤ x by omega], rfl⟩
  · have e : decide (1 ≤ x) = false := decide_eq_false (by omega)
    simp (config := {implicitDefEqProofs := false, maxDischargeDepth := 20}) (disch := first | omega | (simp only [lenE]; done) | (simp only [lenE]; omega) | rfl | (simp only [lenE, markR_len]; done) | (simp only [lenE, markR_len]; omega)) only [runE, mapE, listE, initT_5, initT_6, initT_7, initT_8, resV, oneV, binA, unA, reduceCtorEq, Nat.reduceEqDiff, Nat.reduceAdd, Nat.reduceLT, Nat.reduceLeDiff, Nat.reduceMul, Nat.reduceSub, ↓reduceIte, decide_true, decide_false, Bool.true_eq_false, Bool.false_eq_true, Bool.not_true, Bool.not_false, if_true, if_false, and_true, true_and, memE, celE, w64, Nat.zero_add, Nat.add_zero, Nat.mul_one, putL, and_self, ldn, c_impl_isCount, r_impl_isCount, h, gt_iff_lt]
    exact newQ_nil ⟨by simp [e], rfl⟩
theorem roM_again (m : Mem) : roM (roM m) = roM m := by
  unfold roM
  rw [List.map_map]
  apply List.map_congr_left
  intro b _
  obtain ⟨kd, e, cs⟩ := b
  cases kd <;> rfl
theorem roM_app (a b : Mem) : roM (a ++ b) = roM a ++ roM b := by unfold roM; rw [List.map_append]
theorem Keeps.unro (m x : Mem) : Keeps (roM m ++ x) (m ++ x) := by
  have e : roM (roM m ++ x) = roM (m ++ x) := by rw [roM_app, roM_app, roM_again]
  refine ⟨fun id k v h => ?_, fun id off k xs h => ?_⟩
  · rw [← rdc_roM, e, rdc_roM] at h; exact h
  · rw [← rdl_roM, e, rdl_roM] at h; exact h
/-- What a rule tells, as a function. -/
def AnsRule (m : Mem) (r : Rl) (v : Value) (new : Mem) : Prop :=
  NoRo new ∧ ∃ fv, v = .tuple #[fv, .bool r.good] ∧ (r.good = true → FunG (m ++ new) fv (fun p : Int => [.int .i64 p]) PosD (fun p => .int .i64 (ordR r p)))
theorem ext_rule {m M : Mem} {r : Rl} {fv : Value} {b : Bool} (h : Ext m M) (hb : b = r.good) (hf : r.good = true → FunG M fv (fun p : Int => [.int .i64 p]) PosD (fun p => .int .i64 (ordR r p))) : newQ m (AnsRule m r) (.tuple #[fv, .bool b]) M := by
  subst hb
  obtain ⟨n0, rfl, h0⟩ := h
  exact ⟨n0, rfl, h0, h0, fv, rfl, fun hg => (hf hg).keeps (Keeps.unro _ _)⟩
theorem FunG.congr {α : Type} {m : Mem} {fv : Value} {enc : α → List Value} {D : α → Prop} {out out' : α → Value} (h : FunG m fv enc D out) (he : ∀ x, D x → out x = out' x) : FunG m fv enc D out' := by
  obtain ⟨g, cap, h1, h2⟩ := h
  exact ⟨g, cap, h1, fun M hM x hx => (h2 M hM x hx).mono fun r new hA => by change AnsV (out' x) r new; rw [← he x hx]; exact hA⟩
theorem orderBy_rc (m : Mem) (r : Rl) : RC Try.prog 78 [rlV r] m (AnsRule m r) := by
  refine rc_of_run mixed ok_impl_orderBy (by simp) (go_start _ _ _ ?_)
  have hx : Ext m (roM m ++ [⟨.own, 40, [.int .i64 r.kind, .int .i64 r.low, .int .i64 r.high]⟩]) := (Ext.refl m).one _ _
  simp (config := {implicitDefEqProofs := false, maxDischargeDepth := 20}) (disch := first | omega | (simp only [lenE]; done) | (simp only [lenE]; omega) | rfl | (simp only [lenE, markR_len]; done) | (simp only [lenE, markR_len]; omega)) only [runE, mapE, listE, initT_5, initT_6, initT_7, initT_8, resV, oneV, binA, unA, reduceCtorEq, Nat.reduceEqDiff, Nat.reduceAdd, Nat.reduceLT, Nat.reduceLeDiff, Nat.reduceMul, Nat.reduceSub, ↓reduceIte, decide_true, decide_false, Bool.true_eq_false, Bool.false_eq_true, Bool.not_true, Bool.not_false, if_true, if_false, and_true, true_and, memE, celE, w64, Nat.zero_add, Nat.add_zero, Nat.mul_one, putL, and_self, ldn, c_impl_orderBy, r_impl_orderBy, rlV]
  refine callH_rc (isStock_rc _ _) ?_
  rintro r1 new ⟨rfl, rfl⟩
  rw [List.append_nil]
  cases hl : nearB 200 r.low with
  | false =>
    simp (config := {implicitDefEqProofs := false, maxDischargeDepth := 20}) (disch := first | omega | (simp only [lenE]; done) | (simp only [lenE]; omega) | rfl | (simp only [lenE, markR_len]; done) | (simp only [lenE, markR_len]; omega)) only [runE, mapE, listE, initT_5, initT_6, initT_7, initT_8, resV, oneV, binA, unA, reduceCtorEq, Nat.reduceEqDiff, Nat.reduceAdd, Nat.reduceLT, Nat.reduceLeDiff, Nat.reduceMul, Nat.reduceSub, ↓reduceIte, decide_true, decide_false, Bool.true_eq_false, Bool.false_eq_true, Bool.not_true, Bool.not_false, if_true, if_false, and_true, true_and, memE, celE, w64, Nat.zero_add, Nat.add_zero, Nat.mul_one, putL, and_self, ldn]
    exact ext_rule hx (by simp [Rl.good, hl]) (fun hg => by simp [Rl.good, hl] at hg)
  | true =>
    simp (config := {implicitDefEqProofs := false, maxDischargeDepth := 20}) (disch := first | omega | (simp only [lenE]; done) | (simp only [lenE]; omega) | rfl | (simp only [lenE, markR_len]; done) | (simp only [lenE, markR_len]; omega)) only [runE, mapE, listE, initT_5, initT_6, initT_7, initT_8, resV, oneV, binA, unA, reduceCtorEq, Nat.reduceEqDiff, Nat.reduceAdd, Nat.reduceLT, Nat.reduceLeDiff, Nat.reduceMul, Nat.reduceSub, ↓reduceIte, decide_true, decide_false, Bool.true_eq_false, Bool.false_eq_true, Bool.not_true, Bool.not_false, if_true, if_false, and_true, true_and, memE, celE, w64, Nat.zero_add, Nat.add_zero, Nat.mul_one, putL, and_self, ldn]
    refine callH_rc (isStock_rc _ _) ?_
    rintro r1 new ⟨rfl, rfl⟩
    rw [List.append_nil]
    cases hh : nearB 200 r.high with
    | false =>
      simp (config := {implicitDefEqProofs := false, maxDischargeDepth := 20}) (disch := first | omega | (simp only [lenE]; done) | (simp only [lenE]; omega) | rfl | (simp only [lenE, markR_len]; done) | (simp only [lenE, markR_len]; omega)) only [runE, mapE, listE, initT_5, initT_6, initT_7, initT_8, resV, oneV, binA, unA, reduceCtorEq, Nat.reduceEqDiff, Nat.reduceAdd, Nat.reduceLT, Nat.reduceLeDiff, Nat.reduceMul, Nat.reduceSub, ↓reduceIte, decide_true, decide_false, Bool.true_eq_false, Bool.false_eq_true, Bool.not_true, Bool.not_false, if_true, if_false, and_true, true_and, memE, celE, w64, Nat.zero_add, Nat.add_zero, Nat.mul_one, putL, and_self, ldn]
      exact ext_rule hx (by simp [Rl.good, hl, hh]) (fun hg => by simp [Rl.good, hl, hh] at hg)
    | true =>
      have gl := nearB_iff.1 hl
      have gh := nearB_iff.1 hh
      by_cases k1 : r.kind = 1
      · have k1' : (r.kind == 1) = true := by simp [k1]
        simp (config := {implicitDefEqProofs := false, maxDischargeDepth := 20}) (disch := first | omega | (simp only [lenE]; done) | (simp only [lenE]; omega) | rfl | (simp only [lenE, markR_len]; done) | (simp only [lenE, markR_len]; omega)) only [runE, mapE, listE, initT_5, initT_6, initT_7, initT_8, resV, oneV, binA, unA, reduceCtorEq, Nat.reduceEqDiff, Nat.reduceAdd, Nat.reduceLT, Nat.reduceLeDiff, Nat.reduceMul, Nat.reduceSub, ↓reduceIte, decide_true, decide_false, Bool.true_eq_false, Bool.false_eq_true, Bool.not_true, Bool.not_false, if_true, if_false, and_true, true_and, memE, celE, w64, Nat.zero_add, Nat.add_zero, Nat.mul_one, putL, and_self, ldn, k1']
        refine callH_rc (liftFrom_rc _ r.high r.high (by omega) (by omega)) ?_
        rintro fv new ⟨hn, hf⟩
        simp (config := {implicitDefEqProofs := false, maxDischargeDepth := 20}) (disch := first | omega | (simp only [lenE]; done) | (simp only [lenE]; omega) | rfl | (simp only [lenE, markR_len]; done) | (simp only [lenE, markR_len]; omega)) only [runE, mapE, listE, initT_5, initT_6, initT_7, initT_8, resV, oneV, binA, unA, reduceCtorEq, Nat.reduceEqDiff, Nat.reduceAdd, Nat.reduceLT, Nat.reduceLeDiff, Nat.reduceMul, Nat.reduceSub, ↓reduceIte, decide_true, decide_false, Bool.true_eq_false, Bool.false_eq_true, Bool.not_true, Bool.not_false, if_true, if_false, and_true, true_and, memE, celE, w64, Nat.zero_add, Nat.add_zero, Nat.mul_one, putL, and_self, ldn]
        refine ext_rule (hx.app hn) (by simp [Rl.good, hl, hh, k1]) (fun _ => hf.congr fun p hp => ?_)
        simp only [liftV, ordR, if_pos k1]
        congr 1
        split <;> omega
      · have k1' : (r.kind == 1) = false := by simp [k1]
        by_cases k2 : r.kind = 2
        · have k2' : (r.kind == 2) = true := by simp [k2]
          simp (config := {implicitDefEqProofs := false, maxDischargeDepth := 20}) (disch := first | omega | (simp only [lenE]; done) | (simp only [lenE]; omega) | rfl | (simp only [lenE, markR_len]; done) | (simp only [lenE, markR_len]; omega)) only [runE, mapE, listE, initT_5, initT_6, initT_7, initT_8, resV, oneV, binA, unA, reduceCtorEq, Nat.reduceEqDiff, Nat.reduceAdd, Nat.reduceLT, Nat.reduceLeDiff, Nat.reduceMul, Nat.reduceSub, ↓reduceIte, decide_true, decide_false, Bool.true_eq_false, Bool.false_eq_true, Bool.not_true, Bool.not_false, if_true, if_false, and_true, true_and, memE, celE, w64, Nat.zero_add, Nat.add_zero, Nat.mul_one, putL, and_self, ldn, k1', k2']
          first | refine callH_rc (liftFrom_rc _ r.low r.high (by omega) (by omega)) ?_ | refine rcallH_rc (liftFrom_rc _ r.low r.high (by omega) (by omega)) ?_
          rintro fv new ⟨hn, hf⟩
          simp (config := {implicitDefEqProofs := false, maxDischargeDepth := 20}) (disch := first | omega | (simp only [lenE]; done) | (simp only [lenE]; omega) | rfl | (simp only [lenE, markR_len]; done) | (simp only [lenE, markR_len]; omega)) only [runE, mapE, listE, initT_5, initT_6, initT_7, initT_8, resV, oneV, binA, unA, reduceCtorEq, Nat.reduceEqDiff, Nat.reduceAdd, Nat.reduceLT, Nat.reduceLeDiff, Nat.reduceMul, Nat.reduceSub, ↓reduceIte, decide_true, decide_false, Bool.true_eq_false, Bool.false_eq_true, Bool.not_true, Bool.not_false, if_true, if_false, and_true, true_and, memE, celE, w64, Nat.zero_add, Nat.add_zero, Nat.mul_one, putL, and_self, ldn]
          refine ext_rule (hx.app hn) (by simp [Rl.good, hl, hh, k1, k2]) (fun hg => hf.congr fun p hp => ?_)
          simp only [liftV, ordR, if_neg k1, if_pos k2]
          congr 1
          split <;> split <;> omega
        · have k2' : (r.kind == 2) = false := by simp [k2]
          by_cases k3 : r.kind = 3
          · have k3' : (r.kind == 3) = true := by simp [k3]
            simp (config := {implicitDefEqProofs := false, maxDischargeDepth := 20}) (disch := first | omega | (simp only [lenE]; done) | (simp only [lenE]; omega) | rfl | (simp only [lenE, markR_len]; done) | (simp only [lenE, markR_len]; omega)) only [runE, mapE, listE, initT_5, initT_6, initT_7, initT_8, resV, oneV, binA, unA, reduceCtorEq, Nat.reduceEqDiff, Nat.reduceAdd, Nat.reduceLT, Nat.reduceLeDiff, Nat.reduceMul, Nat.reduceSub, ↓reduceIte, decide_true, decide_false, Bool.true_eq_false, Bool.false_eq_true, Bool.not_true, Bool.not_false, if_true, if_false, and_true, true_and, memE, celE, w64, Nat.zero_add, Nat.add_zero, Nat.mul_one, putL, and_self, ldn, k1', k2', k3']
            first | refine callH_rc (lotsUpTo_rc _ r.low r.high (by omega) (by omega)) ?_ | refine rcallH_rc (lotsUpTo_rc _ r.low r.high (by omega) (by omega)) ?_
            rintro fv new ⟨hn, hf⟩
            simp (config := {implicitDefEqProofs := false, maxDischargeDepth := 20}) (disch := first | omega | (simp only [lenE]; done) | (simp only [lenE]; omega) | rfl | (simp only [lenE, markR_len]; done) | (simp only [lenE, markR_len]; omega)) only [runE, mapE, listE, initT_5, initT_6, initT_7, initT_8, resV, oneV, binA, unA, reduceCtorEq, Nat.reduceEqDiff, Nat.reduceAdd, Nat.reduceLT, Nat.reduceLeDiff, Nat.reduceMul, Nat.reduceSub, ↓reduceIte, decide_true, decide_false, Bool.true_eq_false, Bool.false_eq_true, Bool.not_true, Bool.not_false, if_true, if_false, and_true, true_and, memE, celE, w64, Nat.zero_add, Nat.add_zero, Nat.mul_one, putL, and_self, ldn]
            first | refine callH_rc (isCount11_rc _ _ _) ?_ | refine rcallH_rc (isCount11_rc _ _ _) ?_
            rintro r2 new2 ⟨rfl, rfl⟩
            simp (config := {implicitDefEqProofs := false, maxDischargeDepth := 20}) (disch := first | omega | (simp only [lenE]; done) | (simp only [lenE]; omega) | rfl | (simp only [lenE, markR_len]; done) | (simp only [lenE, markR_len]; omega)) only [runE, mapE, listE, initT_5, initT_6, initT_7, initT_8, resV, oneV, binA, unA, reduceCtorEq, Nat.reduceEqDiff, Nat.reduceAdd, Nat.reduceLT, Nat.reduceLeDiff, Nat.reduceMul, Nat.reduceSub, ↓reduceIte, decide_true, decide_false, Bool.true_eq_false, Bool.false_eq_true, Bool.not_true, Bool.not_false, if_true, if_false, and_true, true_and, memE, celE, w64, Nat.zero_add, Nat.add_zero, Nat.mul_one, putL, and_self, ldn, List.append_nil]
            refine ext_rule (hx.app hn) (by simp [Rl.good, hl, hh, k1, k2, k3]) (fun hg => ?_)
            have hg3 := (goodR_iff.1 hg).kind
            refine (hf (by omega)).congr fun p hp => ?_
            simp only [ordR, if_neg k1, if_neg k2]
          · have k3' : (r.kind == 3) = false := by simp [k3]
            simp (config := {implicitDefEqProofs := false, maxDischargeDepth := 20}) (disch := first | omega | (simp only [lenE]; done) | (simp only [lenE]; omega) | rfl | (simp only [lenE, markR_len]; done) | (simp only [lenE, markR_len]; omega)) only [runE, mapE, listE, initT_5, initT_6, initT_7, initT_8, resV, oneV, binA, unA, reduceCtorEq, Nat.reduceEqDiff, Nat.reduceAdd, Nat.reduceLT, Nat.reduceLeDiff, Nat.reduceMul, Nat.reduceSub, ↓reduceIte, decide_true, decide_false, Bool.true_eq_false, Bool.false_eq_true, Bool.not_true, Bool.not_false, if_true, if_false, and_true, true_and, memE, celE, w64, Nat.zero_add, Nat.add_zero, Nat.mul_one, putL, and_self, ldn, k1', k2', k3']
            exact ext_rule hx (by simp [Rl.good, k1, k2, k3]) (fun hg => by simp [Rl.good, k1, k2, k3] at hg)
theorem implIsRule_rc (m : Mem) (r : Rl) : RC Try.prog 31 [rlV r] m (AnsV (.bool r.good)) := by
  refine rc_of_run mixed ok_impl_IsRule (by simp) (go_start _ _ _ ?_)
  simp (config := {implicitDefEqProofs := false, maxDischargeDepth := 20}) (disch := first | omega | (simp only [lenE]; done) | (simp only [lenE]; omega) | rfl | (simp only [lenE, markR_len]; done) | (simp only [lenE, markR_len]; omega)) only [runE, mapE, listE, initT_5, initT_6, initT_7, initT_8, resV, oneV, binA, unA, reduceCtorEq, Nat.reduceEqDiff, Nat.reduceAdd, Nat.reduceLT, Nat.reduceLeDiff, Nat.reduceMul, Nat.reduceSub, ↓reduceIte, decide_true, decide_false, Bool.true_eq_false, Bool.false_eq_true, Bool.not_true, Bool.not_false, if_true, if_false, and_true, true_and, memE, celE, w64, Nat.zero_add, Nat.add_zero, Nat.mul_one, putL, and_self, ldn, c_impl_IsRule, r_impl_IsRule, rlV]
  refine callH_rc (orderBy_rc _ r) ?_
  rintro r1 new ⟨hn, fv, rfl, _⟩
  simp (config := {implicitDefEqProofs := false, maxDischargeDepth := 20}) (disch := first | omega | (simp only [lenE]; done) | (simp only [lenE]; omega) | rfl | (simp only [lenE, markR_len]; done) | (simp only [lenE, markR_len]; omega)) only [runE, mapE, listE, initT_5, initT_6, initT_7, initT_8, resV, oneV, binA, unA, reduceCtorEq, Nat.reduceEqDiff, Nat.reduceAdd, Nat.reduceLT, Nat.reduceLeDiff, Nat.reduceMul, Nat.reduceSub, ↓reduceIte, decide_true, decide_false, Bool.true_eq_false, Bool.false_eq_true, Bool.not_true, Bool.not_false, if_true, if_false, and_true, true_and, memE, celE, w64, Nat.zero_add, Nat.add_zero, Nat.mul_one, putL, and_self, ldn, ext_2_0, ext_2_1]
  exact ext_ansV (((Ext.refl m).one _ _).app hn) rfl
theorem l11Rule_rc (m : Mem) (r : Rl) : RC Try.prog 77 [rlV r] m (AnsV (.bool r.good)) := by
  refine rc_of_run mixed ok_spec_l11Rule (by simp) (go_start _ _ _ ?_)
  have hx : Ext m (roM m ++ [⟨.own, 40, [.int .i64 r.kind, .int .i64 r.low, .int .i64 r.high]⟩]) := (Ext.refl m).one _ _
  simp (config := {implicitDefEqProofs := false, maxDischargeDepth := 20}) (disch := first | omega | (simp only [lenE]; done) | (simp only [lenE]; omega) | rfl | (simp only [lenE, markR_len]; done) | (simp only [lenE, markR_len]; omega)) only [runE, mapE, listE, initT_5, initT_6, initT_7, initT_8, resV, oneV, binA, unA, reduceCtorEq, Nat.reduceEqDiff, Nat.reduceAdd, Nat.reduceLT, Nat.reduceLeDiff, Nat.reduceMul, Nat.reduceSub, ↓reduceIte, decide_true, decide_false, Bool.true_eq_false, Bool.false_eq_true, Bool.not_true, Bool.not_false, if_true, if_false, and_true, true_and, memE, celE, w64, Nat.zero_add, Nat.add_zero, Nat.mul_one, putL, and_self, ldn, c_spec_l11Rule, r_spec_l11Rule, rlV]
  refine callH_rc (in11_rc _ _) ?_
  rintro r1 new ⟨rfl, rfl⟩
  rw [List.append_nil]
  cases hl : nearB 200 r.low with
  | false =>
    simp (config := {implicitDefEqProofs := false, maxDischargeDepth := 20}) (disch := first | omega | (simp only [lenE]; done) | (simp only [lenE]; omega) | rfl | (simp only [lenE, markR_len]; done) | (simp only [lenE, markR_len]; omega)) only [runE, mapE, listE, initT_5, initT_6, initT_7, initT_8, resV, oneV, binA, unA, reduceCtorEq, Nat.reduceEqDiff, Nat.reduceAdd, Nat.reduceLT, Nat.reduceLeDiff, Nat.reduceMul, Nat.reduceSub, ↓reduceIte, decide_true, decide_false, Bool.true_eq_false, Bool.false_eq_true, Bool.not_true, Bool.not_false, if_true, if_false, and_true, true_and, memE, celE, w64, Nat.zero_add, Nat.add_zero, Nat.mul_one, putL, and_self, ldn]
    exact ext_ansV hx (by simp [Rl.good, hl])
  | true =>
    simp (config := {implicitDefEqProofs := false, maxDischargeDepth := 20}) (disch := first | omega | (simp only [lenE]; done) | (simp only [lenE]; omega) | rfl | (simp only [lenE, markR_len]; done) | (simp only [lenE, markR_len]; omega)) only [runE, mapE, listE, initT_5, initT_6, initT_7, initT_8, resV, oneV, binA, unA, reduceCtorEq, Nat.reduceEqDiff, Nat.reduceAdd, Nat.reduceLT, Nat.reduceLeDiff, Nat.reduceMul, Nat.reduceSub, ↓reduceIte, decide_true, decide_false, Bool.true_eq_false, Bool.false_eq_true, Bool.not_true, Bool.not_false, if_true, if_false, and_true, true_and, memE, celE, w64, Nat.zero_add, Nat.add_zero, Nat.mul_one, putL, and_self, ldn]
    refine callH_rc (in11_rc _ _) ?_
    rintro r1 new ⟨rfl, rfl⟩
    rw [List.append_nil]
    cases hh : nearB 200 r.high with
    | false =>
      simp (config := {implicitDefEqProofs := false, maxDischargeDepth := 20}) (disch := first | omega | (simp only [lenE]; done) | (simp only [lenE]; omega) | rfl | (simp only [lenE, markR_len]; done) | (simp only [lenE, markR_len]; omega)) only [runE, mapE, listE, initT_5, initT_6, initT_7, initT_8, resV, oneV, binA, unA, reduceCtorEq, Nat.reduceEqDiff, Nat.reduceAdd, Nat.reduceLT, Nat.reduceLeDiff, Nat.reduceMul, Nat.reduceSub, ↓reduceIte, decide_true, decide_false, Bool.true_eq_false, Bool.false_eq_true, Bool.not_true, Bool.not_false, if_true, if_false, and_true, true_and, memE, celE, w64, Nat.zero_add, Nat.add_zero, Nat.mul_one, putL, and_self, ldn]
      exact ext_ansV hx (by simp [Rl.good, hl, hh])
    | true =>
      by_cases k1 : r.kind = 1
      · have k1' : (r.kind == 1) = true := by simp [k1]
        simp (config := {implicitDefEqProofs := false, maxDischargeDepth := 20}) (disch := first | omega | (simp only [lenE]; done) | (simp only [lenE]; omega) | rfl | (simp only [lenE, markR_len]; done) | (simp only [lenE, markR_len]; omega)) only [runE, mapE, listE, initT_5, initT_6, initT_7, initT_8, resV, oneV, binA, unA, reduceCtorEq, Nat.reduceEqDiff, Nat.reduceAdd, Nat.reduceLT, Nat.reduceLeDiff, Nat.reduceMul, Nat.reduceSub, ↓reduceIte, decide_true, decide_false, Bool.true_eq_false, Bool.false_eq_true, Bool.not_true, Bool.not_false, if_true, if_false, and_true, true_and, memE, celE, w64, Nat.zero_add, Nat.add_zero, Nat.mul_one, putL, and_self, ldn, k1']
        exact ext_ansV hx (by simp [Rl.good, hl, hh, k1])
      · have k1' : (r.kind == 1) = false := by simp [k1]
        by_cases k2 : r.kind = 2
        · have k2' : (r.kind == 2) = true := by simp [k2]
          simp (config := {implicitDefEqProofs := false, maxDischargeDepth := 20}) (disch := first | omega | (simp only [lenE]; done) | (simp only [lenE]; omega) | rfl | (simp only [lenE, markR_len]; done) | (simp only [lenE, markR_len]; omega)) only [runE, mapE, listE, initT_5, initT_6, initT_7, initT_8, resV, oneV, binA, unA, reduceCtorEq, Nat.reduceEqDiff, Nat.reduceAdd, Nat.reduceLT, Nat.reduceLeDiff, Nat.reduceMul, Nat.reduceSub, ↓reduceIte, decide_true, decide_false, Bool.true_eq_false, Bool.false_eq_true, Bool.not_true, Bool.not_false, if_true, if_false, and_true, true_and, memE, celE, w64, Nat.zero_add, Nat.add_zero, Nat.mul_one, putL, and_self, ldn, k1', k2']
          exact ext_ansV hx (by simp [Rl.good, hl, hh, k1, k2])
        · have k2' : (r.kind == 2) = false := by simp [k2]
          by_cases k3 : r.kind = 3
          · have k3' : (r.kind == 3) = true := by simp [k3]
            simp (config := {implicitDefEqProofs := false, maxDischargeDepth := 20}) (disch := first | omega | (simp only [lenE]; done) | (simp only [lenE]; omega) | rfl | (simp only [lenE, markR_len]; done) | (simp only [lenE, markR_len]; omega)) only [runE, mapE, listE, initT_5, initT_6, initT_7, initT_8, resV, oneV, binA, unA, reduceCtorEq, Nat.reduceEqDiff, Nat.reduceAdd, Nat.reduceLT, Nat.reduceLeDiff, Nat.reduceMul, Nat.reduceSub, ↓reduceIte, decide_true, decide_false, Bool.true_eq_false, Bool.false_eq_true, Bool.not_true, Bool.not_false, if_true, if_false, and_true, true_and, memE, celE, w64, Nat.zero_add, Nat.add_zero, Nat.mul_one, putL, and_self, ldn, k1', k2', k3']
            refine callH_rc (l1In_rc _ _ _ _) ?_
            rintro r2 new2 ⟨rfl, rfl⟩
            simp (config := {implicitDefEqProofs := false, maxDischargeDepth := 20}) (disch := first | omega | (simp only [lenE]; done) | (simp only [lenE]; omega) | rfl | (simp only [lenE, markR_len]; done) | (simp only [lenE, markR_len]; omega)) only [runE, mapE, listE, initT_5, initT_6, initT_7, initT_8, resV, oneV, binA, unA, reduceCtorEq, Nat.reduceEqDiff, Nat.reduceAdd, Nat.reduceLT, Nat.reduceLeDiff, Nat.reduceMul, Nat.reduceSub, ↓reduceIte, decide_true, decide_false, Bool.true_eq_false, Bool.false_eq_true, Bool.not_true, Bool.not_false, if_true, if_false, and_true, true_and, memE, celE, w64, Nat.zero_add, Nat.add_zero, Nat.mul_one, putL, and_self, ldn, List.append_nil]
            exact ext_ansV hx (by simp [Rl.good, hl, hh, k1, k2, k3])
          · have k3' : (r.kind == 3) = false := by simp [k3]
            simp (config := {implicitDefEqProofs := false, maxDischargeDepth := 20}) (disch := first | omega | (simp only [lenE]; done) | (simp only [lenE]; omega) | rfl | (simp only [lenE, markR_len]; done) | (simp only [lenE, markR_len]; omega)) only [runE, mapE, listE, initT_5, initT_6, initT_7, initT_8, resV, oneV, binA, unA, reduceCtorEq, Nat.reduceEqDiff, Nat.reduceAdd, Nat.reduceLT, Nat.reduceLeDiff, Nat.reduceMul, Nat.reduceSub, ↓reduceIte, decide_true, decide_false, Bool.true_eq_false, Bool.false_eq_true, Bool.not_true, Bool.not_false, if_true, if_false, and_true, true_and, memE, celE, w64, Nat.zero_add, Nat.add_zero, Nat.mul_one, putL, and_self, ldn, k1', k2', k3']
            exact ext_ansV hx (by simp [Rl.good, k1, k2, k3])
theorem specIsRule_rc (m : Mem) (r : Rl) : RC Try.prog 29 [rlV r] m (AnsV (.bool r.good)) := by
  refine rc_of_run mixed ok_spec_IsRule (by simp) (go_start _ _ _ ?_)
  simp (config := {implicitDefEqProofs := false, maxDischargeDepth := 20}) (disch := first | omega | (simp only [lenE]; done) | (simp only [lenE]; omega) | rfl | (simp only [lenE, markR_len]; done) | (simp only [lenE, markR_len]; omega)) only [runE, mapE, listE, initT_5, initT_6, initT_7, initT_8, resV, oneV, binA, unA, reduceCtorEq, Nat.reduceEqDiff, Nat.reduceAdd, Nat.reduceLT, Nat.reduceLeDiff, Nat.reduceMul, Nat.reduceSub, ↓reduceIte, decide_true, decide_false, Bool.true_eq_false, Bool.false_eq_true, Bool.not_true, Bool.not_false, if_true, if_false, and_true, true_and, memE, celE, w64, Nat.zero_add, Nat.add_zero, Nat.mul_one, putL, and_self, ldn, c_spec_IsRule, r_spec_IsRule, rlV]
  refine callH_rc (l11Rule_rc _ r) ?_
  rintro r1 new ⟨rfl, hn⟩
  simp (config := {implicitDefEqProofs := false, maxDischargeDepth := 20}) (disch := first | omega | (simp only [lenE]; done) | (simp only [lenE]; omega) | rfl | (simp only [lenE, markR_len]; done) | (simp only [lenE, markR_len]; omega)) only [runE, mapE, listE, initT_5, initT_6, initT_7, initT_8, resV, oneV, binA, unA, reduceCtorEq, Nat.reduceEqDiff, Nat.reduceAdd, Nat.reduceLT, Nat.reduceLeDiff, Nat.reduceMul, Nat.reduceSub, ↓reduceIte, decide_true, decide_false, Bool.true_eq_false, Bool.false_eq_true, Bool.not_true, Bool.not_false, if_true, if_false, and_true, true_and, memE, celE, w64, Nat.zero_add, Nat.add_zero, Nat.mul_one, putL, and_self, ldn]
  exact ext_ansV (((Ext.refl m).one _ _).app hn) rfl
theorem l1Most11_rc (m : Mem) (a b : Int) : RC Try.prog 124 [.int .i64 a, .int .i64 b] m fun r new => r = .int .i64 (max a b) ∧ new = [] := by
  refine rc_of_run mixed ok_spec_l1Most (by simp) (go_start _ _ _ ?_)
  by_cases h : b < a
  · simp (config := {implicitDefEqProofs := false, maxDischargeDepth := 20}) (disch := first | omega | (simp only [lenE]; done) | (simp only [lenE]; omega) | rfl | (simp only [lenE, markR_len]; done) | (simp only [lenE, markR_len]; omega)) only [runE, mapE, listE, initT_5, initT_6, initT_7, initT_8, resV, oneV, binA, unA, reduceCtorEq, Nat.reduceEqDiff, Nat.reduceAdd, Nat.reduceLT, Nat.reduceLeDiff, Nat.reduceMul, Nat.reduceSub, ↓reduceIte, decide_true, decide_false, Bool.true_eq_false, Bool.false_eq_true, Bool.not_true, Bool.not_false, if_true, if_false, and_true, true_and, memE, celE, w64, Nat.zero_add, Nat.add_zero, Nat.mul_one, putL, and_self, ldn, c_spec_l1Most, r_spec_l1Most, h, gt_iff_lt]
    exact newQ_nil ⟨by congr 1; omega, rfl⟩
  · simp (config := {implicitDefEqProofs := false, maxDischargeDepth := 20}) (disch := first | omega | (simp only [lenE]; done) | (simp only [lenE]; omega) | rfl | (simp only [lenE, markR_len]; done) | (simp only [lenE, markR_len]; omega)) only [runE, mapE, listE, initT_5, initT_6, initT_7, initT_8, resV, oneV, binA, unA, reduceCtorEq, Nat.reduceEqDiff, Nat.reduceAdd, Nat.reduceLT, Nat.reduceLeDiff, Nat.reduceMul, Nat.reduceSub, ↓reduceIte, decide_true, decide_false, Bool.true_eq_false, Bool.false_eq_true, Bool.not_true, Bool.not_false, if_true, if_false, and_true, true_and, memE, celE, w64, Nat.zero_add, Nat.add_zero, Nat.mul_one, putL, and_self, ldn, c_spec_l1Most, r_spec_l1Most, h, gt_iff_lt]
    exact newQ_nil ⟨by congr 1; omega, rfl⟩
theorem l11Order_rc (m : Mem) (r : Rl) (p : Int) (hg : GoodR r) (hp : PosD p) : RC Try.prog 79 [rlV r, .int .i64 p] m (AnsV (.int .i64 (ordR r p))) := by
  refine rc_of_run mixed ok_spec_l11Order (by simp) (go_start _ _ _ ?_)
  unfold PosD at hp
  have gl := hg.low
  have gh := hg.high
  have hk := hg.kind
  have hx : Ext m (roM m ++ [⟨.own, 40, [.int .i64 r.kind, .int .i64 r.low, .int .i64 r.high]⟩]) := (Ext.refl m).one _ _
  have hb : OwnB (roM m ++ [⟨.own, 40, [.int .i64 r.kind, .int .i64 r.low, .int .i64 r.high]⟩]) m.length 40 [.int .i64 r.kind, .int .i64 r.low, .int .i64 r.high] := OwnB.here (roM_len m).symm
  by_cases k1 : r.kind = 1
  · have k1' : (r.kind == 1) = true := by simp [k1]
    simp (config := {implicitDefEqProofs := false, maxDischargeDepth := 20}) (disch := first | omega | (simp only [lenE]; done) | (simp only [lenE]; omega) | rfl | (simp only [lenE, markR_len]; done) | (simp only [lenE, markR_len]; omega)) only [runE, mapE, listE, initT_5, initT_6, initT_7, initT_8, resV, oneV, binA, unA, reduceCtorEq, Nat.reduceEqDiff, Nat.reduceAdd, Nat.reduceLT, Nat.reduceLeDiff, Nat.reduceMul, Nat.reduceSub, ↓reduceIte, decide_true, decide_false, Bool.true_eq_false, Bool.false_eq_true, Bool.not_true, Bool.not_false, if_true, if_false, and_true, true_and, memE, celE, w64, Nat.zero_add, Nat.add_zero, Nat.mul_one, putL, and_self, ldn, c_spec_l11Order, r_spec_l11Order, rlV, k1']
    refine callH_rc (l1Most11_rc _ _ _) ?_
    rintro r1 new ⟨rfl, rfl⟩
    simp (config := {implicitDefEqProofs := false, maxDischargeDepth := 20}) (disch := first | omega | (simp only [lenE]; done) | (simp only [lenE]; omega) | rfl | (simp only [lenE, markR_len]; done) | (simp only [lenE, markR_len]; omega)) only [runE, mapE, listE, initT_5, initT_6, initT_7, initT_8, resV, oneV, binA, unA, reduceCtorEq, Nat.reduceEqDiff, Nat.reduceAdd, Nat.reduceLT, Nat.reduceLeDiff, Nat.reduceMul, Nat.reduceSub, ↓reduceIte, decide_true, decide_false, Bool.true_eq_false, Bool.false_eq_true, Bool.not_true, Bool.not_false, if_true, if_false, and_true, true_and, memE, celE, w64, Nat.zero_add, Nat.add_zero, Nat.mul_one, putL, and_self, ldn, List.append_nil]
    exact ext_ansV hx (by simp only [ordR, if_pos k1])
  · have k1' : (r.kind == 1) = false := by simp [k1]
    by_cases k2 : r.kind = 2
    · have k2' : (r.kind == 2) = true := by simp [k2]
      by_cases hc : p < r.low
      · simp (config := {implicitDefEqProofs := false, maxDischargeDepth := 20}) (disch := first | omega | (simp only [lenE]; done) | (simp only [lenE]; omega) | rfl | (simp only [lenE, markR_len]; done) | (simp only [lenE, markR_len]; omega)) only [runE, mapE, listE, initT_5, initT_6, initT_7, initT_8, resV, oneV, binA, unA, reduceCtorEq, Nat.reduceEqDiff, Nat.reduceAdd, Nat.reduceLT, Nat.reduceLeDiff, Nat.reduceMul, Nat.reduceSub, ↓reduceIte, decide_true, decide_false, Bool.true_eq_false, Bool.false_eq_true, Bool.not_true, Bool.not_false, if_true, if_false, and_true, true_and, memE, celE, w64, Nat.zero_add, Nat.add_zero, Nat.mul_one, putL, and_self, ldn, c_spec_l11Order, r_spec_l11Order, rlV, k1', k2', hc]
        exact ext_ansV hx (by simp only [ordR, if_neg k1, if_pos k2, if_pos hc])
      · simp (config := {implicitDefEqProofs := false, maxDischargeDepth := 20}) (disch := first | omega | (simp only [lenE]; done) | (simp only [lenE]; omega) | rfl | (simp only [lenE, markR_len]; done) | (simp only [lenE, markR_len]; omega)) only [runE, mapE, listE, initT_5, initT_6, initT_7, initT_8, resV, oneV, binA, unA, reduceCtorEq, Nat.reduceEqDiff, Nat.reduceAdd, Nat.reduceLT, Nat.reduceLeDiff, Nat.reduceMul, Nat.reduceSub, ↓reduceIte, decide_true, decide_false, Bool.true_eq_false, Bool.false_eq_true, Bool.not_true, Bool.not_false, if_true, if_false, and_true, true_and, memE, celE, w64, Nat.zero_add, Nat.add_zero, Nat.mul_one, putL, and_self, ldn, c_spec_l11Order, r_spec_l11Order, rlV, k1', k2', hc]
        exact ext_ansV hx (by simp only [ordR, if_neg k1, if_pos k2, if_neg hc])
    · have k2' : (r.kind == 2) = false := by simp [k2]
      have h3 : 1 ≤ r.high := by omega
      simp (config := {implicitDefEqProofs := false, maxDischargeDepth := 20}) (disch := first | omega | (simp only [lenE]; done) | (simp only [lenE]; omega) | rfl | (simp only [lenE, markR_len]; done) | (simp only [lenE, markR_len]; omega)) only [runE, mapE, listE, initT_5, initT_6, initT_7, initT_8, resV, oneV, binA, unA, reduceCtorEq, Nat.reduceEqDiff, Nat.reduceAdd, Nat.reduceLT, Nat.reduceLeDiff, Nat.reduceMul, Nat.reduceSub, ↓reduceIte, decide_true, decide_false, Bool.true_eq_false, Bool.false_eq_true, Bool.not_true, Bool.not_false, if_true, if_false, and_true, true_and, memE, celE, w64, Nat.zero_add, Nat.add_zero, Nat.mul_one, putL, and_self, ldn, c_spec_l11Order, r_spec_l11Order, rlV, k1', k2']
      obtain ⟨E, hE⟩ : ∃ E, E = roM m ++ [⟨.own, 40, [.int .i64 r.kind, .int .i64 r.low, .int .i64 r.high]⟩] := ⟨_, rfl⟩
      rw [← hE] at hx hb ⊢
      clear hE
      obtain ⟨_, b0, b1, b2⟩ := hb.mk3'
      refine loop_inv mixed (fun s => ∃ j : Nat, j ≤ lotsJ p r.low r.high ∧ s.m = E ∧ s.t 1 = .int .i64 p ∧ s.t 2 = .pointer (some ⟨m.length, 0, none⟩) ∧ s.t 5 = .int .i64 ((j : Int) * r.high)) (fun s => (r.low - p + r.high - zOf (s.t 5)).toNat)
        ⟨0, by omega, rfl, rfl, rfl, by rw [show ((0 : Nat) : Int) * r.high = 0 by simp]; rfl⟩ ?_
      rintro s ⟨j, hj, tm, t1, t2, t5⟩
      have hb := lots_le h3 j hj
      have hi := lotsJ_iff (p := p) (low := r.low) h3 j
      have hs := lots_step (p := p) (low := r.low) (high := r.high) j
      obtain ⟨q, hq⟩ : ∃ q, q = (j : Int) * r.high := ⟨_, rfl⟩
      rw [← hq] at hb hi hs t5
      by_cases hlt : p + q < r.low
      · simp (config := {implicitDefEqProofs := false, maxDischargeDepth := 20}) (disch := first | omega | (simp only [lenE]; done) | (simp only [lenE]; omega) | rfl | (simp only [lenE, markR_len]; done) | (simp only [lenE, markR_len]; omega)) only [runE, mapE, listE, initT_5, initT_6, initT_7, initT_8, resV, oneV, binA, unA, reduceCtorEq, Nat.reduceEqDiff, Nat.reduceAdd, Nat.reduceLT, Nat.reduceLeDiff, Nat.reduceMul, Nat.reduceSub, ↓reduceIte, decide_true, decide_false, Bool.true_eq_false, Bool.false_eq_true, Bool.not_true, Bool.not_false, if_true, if_false, and_true, true_and, memE, celE, w64, Nat.zero_add, Nat.add_zero, Nat.mul_one, putL, and_self, ldn, tm, t1, t2, t5, b0, b1, b2, hlt]
        refine ⟨⟨j + 1, hi.2 hlt, by rw [hs]⟩, ?_⟩
        simp only [zOf]; omega
      · simp (config := {implicitDefEqProofs := false, maxDischargeDepth := 20}) (disch := first | omega | (simp only [lenE]; done) | (simp only [lenE]; omega) | rfl | (simp only [lenE, markR_len]; done) | (simp only [lenE, markR_len]; omega)) only [runE, mapE, listE, initT_5, initT_6, initT_7, initT_8, resV, oneV, binA, unA, reduceCtorEq, Nat.reduceEqDiff, Nat.reduceAdd, Nat.reduceLT, Nat.reduceLeDiff, Nat.reduceMul, Nat.reduceSub, ↓reduceIte, decide_true, decide_false, Bool.true_eq_false, Bool.false_eq_true, Bool.not_true, Bool.not_false, if_true, if_false, and_true, true_and, memE, celE, w64, Nat.zero_add, Nat.add_zero, Nat.mul_one, putL, and_self, ldn, tm, t1, t2, t5, b0, b1, b2, hlt]
        have e : j = lotsJ p r.low r.high := by
          by_cases hh : j < lotsJ p r.low r.high
          · exact absurd (hi.1 hh) hlt
          · omega
        exact ext_ansV hx (by simp only [ordR, if_neg k1, if_neg k2, ← e, ← hq])
theorem posD_of {f : Fl} (h : GoodF f) : PosD f.pos := by
  have := h.pos
  unfold PosD; omega
theorem specRuleOrder_rc (m : Mem) (v : Value) (f : Fl) (r : Rl) (h : FlA m v f) : RC Try.prog 32 [v, rlV r] m (AnsV (.tuple #[.int .i64 (ruleA f r), .bool (ruleOk f r)])) := by
  refine rc_of_run mixed ok_spec_RuleOrder (by simp) (go_start _ _ _ ?_)
  obtain ⟨u, rfl, hu⟩ := h.ro
  simp (config := {implicitDefEqProofs := false, maxDischargeDepth := 20}) (disch := first | omega | (simp only [lenE]; done) | (simp only [lenE]; omega) | rfl | (simp only [lenE, markR_len]; done) | (simp only [lenE, markR_len]; omega)) only [runE, mapE, listE, initT_5, initT_6, initT_7, initT_8, resV, oneV, binA, unA, reduceCtorEq, Nat.reduceEqDiff, Nat.reduceAdd, Nat.reduceLT, Nat.reduceLeDiff, Nat.reduceMul, Nat.reduceSub, ↓reduceIte, decide_true, decide_false, Bool.true_eq_false, Bool.false_eq_true, Bool.not_true, Bool.not_false, if_true, if_false, and_true, true_and, memE, celE, w64, Nat.zero_add, Nat.add_zero, Nat.mul_one, putL, and_self, ldn, c_spec_RuleOrder, r_spec_RuleOrder, rlV]
  obtain ⟨E, hE⟩ : ∃ E, E = roM m ++ [⟨.own, 27, [.int .i64 f.stock, u]⟩] ++ [⟨.own, 40, [.int .i64 r.kind, .int .i64 r.low, .int .i64 r.high]⟩] := ⟨_, rfl⟩
  try rw [← hE]
  have hX : Ext m E := by rw [hE]; exact ((Ext.refl m).one _ _).one _ _
  have b1 : OwnB E m.length 27 [.int .i64 f.stock, u] := by rw [hE]; exact (OwnB.here (roM_len m).symm).ext _
  have b2 : OwnB E (m.length + 1) 40 [.int .i64 r.kind, .int .i64 r.low, .int .i64 r.high] := by rw [hE]; exact OwnB.here (by simp [roM_len])
  have huE : IntsA E u f.under := by rw [hE]; exact (hu.ext _).ext _
  clear hE
  try simp (config := {implicitDefEqProofs := false, maxDischargeDepth := 20}) (disch := first | omega | (simp only [lenE]; done) | (simp only [lenE]; omega) | rfl | (simp only [lenE, markR_len]; done) | (simp only [lenE, markR_len]; omega)) only [runE, mapE, listE, initT_5, initT_6, initT_7, initT_8, resV, oneV, binA, unA, reduceCtorEq, Nat.reduceEqDiff, Nat.reduceAdd, Nat.reduceLT, Nat.reduceLeDiff, Nat.reduceMul, Nat.reduceSub, ↓reduceIte, decide_true, decide_false, Bool.true_eq_false, Bool.false_eq_true, Bool.not_true, Bool.not_false, if_true, if_false, and_true, true_and, memE, celE, w64, Nat.zero_add, Nat.add_zero, Nat.mul_one, putL, and_self, ldn, b1.mk2', b2.mk3']
  refine callH_rc (l11Flow_rc _ _ f ⟨u, rfl, huE⟩) ?_
  rintro r1 n1 ⟨rfl, hn1⟩
  have no : ∀ M, Ext m M → f.good = false ∨ r.good = false → newQ m (AnsV (.tuple #[.int .i64 (ruleA f r), .bool (ruleOk f r)])) (.tuple #[.int .i64 0, .bool false]) M := fun M hM hc => by
    have e : ruleOk f r = false := by unfold ruleOk; rcases hc with hc | hc <;> simp [hc]
    exact ext_ansV hM (by simp [ruleA, e])
  cases hf : f.good with
  | false =>
    simp (config := {implicitDefEqProofs := false, maxDischargeDepth := 20}) (disch := first | omega | (simp only [lenE]; done) | (simp only [lenE]; omega) | rfl | (simp only [lenE, markR_len]; done) | (simp only [lenE, markR_len]; omega)) only [runE, mapE, listE, initT_5, initT_6, initT_7, initT_8, resV, oneV, binA, unA, reduceCtorEq, Nat.reduceEqDiff, Nat.reduceAdd, Nat.reduceLT, Nat.reduceLeDiff, Nat.reduceMul, Nat.reduceSub, ↓reduceIte, decide_true, decide_false, Bool.true_eq_false, Bool.false_eq_true, Bool.not_true, Bool.not_false, if_true, if_false, and_true, true_and, memE, celE, w64, Nat.zero_add, Nat.add_zero, Nat.mul_one, putL, and_self, ldn]
    exact no _ (hX.app hn1) (.inl hf)
  | true =>
    simp (config := {implicitDefEqProofs := false, maxDischargeDepth := 20}) (disch := first | omega | (simp only [lenE]; done) | (simp only [lenE]; omega) | rfl | (simp only [lenE, markR_len]; done) | (simp only [lenE, markR_len]; omega)) only [runE, mapE, listE, initT_5, initT_6, initT_7, initT_8, resV, oneV, binA, unA, reduceCtorEq, Nat.reduceEqDiff, Nat.reduceAdd, Nat.reduceLT, Nat.reduceLeDiff, Nat.reduceMul, Nat.reduceSub, ↓reduceIte, decide_true, decide_false, Bool.true_eq_false, Bool.false_eq_true, Bool.not_true, Bool.not_false, if_true, if_false, and_true, true_and, memE, celE, w64, Nat.zero_add, Nat.add_zero, Nat.mul_one, putL, and_self, ldn, (b1.ext n1).mk2', (b2.ext n1).mk3']
    refine callH_rc (l11Rule_rc _ r) ?_
    rintro r1 n2 ⟨rfl, hn2⟩
    cases hr : r.good with
    | false =>
      simp (config := {implicitDefEqProofs := false, maxDischargeDepth := 20}) (disch := first | omega | (simp only [lenE]; done) | (simp only [lenE]; omega) | rfl | (simp only [lenE, markR_len]; done) | (simp only [lenE, markR_len]; omega)) only [runE, mapE, listE, initT_5, initT_6, initT_7, initT_8, resV, oneV, binA, unA, reduceCtorEq, Nat.reduceEqDiff, Nat.reduceAdd, Nat.reduceLT, Nat.reduceLeDiff, Nat.reduceMul, Nat.reduceSub, ↓reduceIte, decide_true, decide_false, Bool.true_eq_false, Bool.false_eq_true, Bool.not_true, Bool.not_false, if_true, if_false, and_true, true_and, memE, celE, w64, Nat.zero_add, Nat.add_zero, Nat.mul_one, putL, and_self, ldn]
      exact no _ ((hX.app hn1).app hn2) (.inr hr)
    | true =>
      have hF := goodF_iff.1 hf
      have hR := goodR_iff.1 hr
      obtain ⟨M, hM⟩ : ∃ M, M = E ++ n1 ++ n2 := ⟨_, rfl⟩
      have hXM : Ext m M := by rw [hM]; exact (hX.app hn1).app hn2
      have b1' : OwnB M m.length 27 [.int .i64 f.stock, u] := by rw [hM]; exact (b1.ext n1).ext n2
      have b2' : OwnB M (m.length + 1) 40 [.int .i64 r.kind, .int .i64 r.low, .int .i64 r.high] := by rw [hM]; exact (b2.ext n1).ext n2
      have huM : IntsA M u f.under := by rw [hM]; exact (huE.ext n1).ext n2
      try rw [← hM]
      clear hM
      simp (config := {implicitDefEqProofs := false, maxDischargeDepth := 20}) (disch := first | omega | (simp only [lenE]; done) | (simp only [lenE]; omega) | rfl | (simp only [lenE, markR_len]; done) | (simp only [lenE, markR_len]; omega)) only [runE, mapE, listE, initT_5, initT_6, initT_7, initT_8, resV, oneV, binA, unA, reduceCtorEq, Nat.reduceEqDiff, Nat.reduceAdd, Nat.reduceLT, Nat.reduceLeDiff, Nat.reduceMul, Nat.reduceSub, ↓reduceIte, decide_true, decide_false, Bool.true_eq_false, Bool.false_eq_true, Bool.not_true, Bool.not_false, if_true, if_false, and_true, true_and, memE, celE, w64, Nat.zero_add, Nat.add_zero, Nat.mul_one, putL, and_self, ldn, b1'.mk2', b2'.mk3']
      first | refine callH_rc (l11Position_rc _ _ f ⟨u, rfl, huM⟩ hF) ?_ | refine rcallH_rc (l11Position_rc _ _ f ⟨u, rfl, huM⟩ hF) ?_
      rintro r1 n3 ⟨rfl, hn3⟩
      simp (config := {implicitDefEqProofs := false, maxDischargeDepth := 20}) (disch := first | omega | (simp only [lenE]; done) | (simp only [lenE]; omega) | rfl | (simp only [lenE, markR_len]; done) | (simp only [lenE, markR_len]; omega)) only [runE, mapE, listE, initT_5, initT_6, initT_7, initT_8, resV, oneV, binA, unA, reduceCtorEq, Nat.reduceEqDiff, Nat.reduceAdd, Nat.reduceLT, Nat.reduceLeDiff, Nat.reduceMul, Nat.reduceSub, ↓reduceIte, decide_true, decide_false, Bool.true_eq_false, Bool.false_eq_true, Bool.not_true, Bool.not_false, if_true, if_false, and_true, true_and, memE, celE, w64, Nat.zero_add, Nat.add_zero, Nat.mul_one, putL, and_self, ldn, (b1'.ext n3).mk2', (b2'.ext n3).mk3']
      first | refine callH_rc (l11Order_rc _ r f.pos hR (posD_of hF)) ?_ | refine rcallH_rc (l11Order_rc _ r f.pos hR (posD_of hF)) ?_
      rintro r1 n4 ⟨rfl, hn4⟩
      by_cases hc : 40 < ordR r f.pos
      · simp (config := {implicitDefEqProofs := false, maxDischargeDepth := 20}) (disch := first | omega | (simp only [lenE]; done) | (simp only [lenE]; omega) | rfl | (simp only [lenE, markR_len]; done) | (simp only [lenE, markR_len]; omega)) only [runE, mapE, listE, initT_5, initT_6, initT_7, initT_8, resV, oneV, binA, unA, reduceCtorEq, Nat.reduceEqDiff, Nat.reduceAdd, Nat.reduceLT, Nat.reduceLeDiff, Nat.reduceMul, Nat.reduceSub, ↓reduceIte, decide_true, decide_false, Bool.true_eq_false, Bool.false_eq_true, Bool.not_true, Bool.not_false, if_true, if_false, and_true, true_and, memE, celE, w64, Nat.zero_add, Nat.add_zero, Nat.mul_one, putL, and_self, ldn, gt_iff_lt, hc]
        have e : ruleOk f r = false := by simp [ruleOk, hc]
        exact ext_ansV ((hXM.app hn3).app hn4) (by simp [ruleA, e])
      · simp (config := {implicitDefEqProofs := false, maxDischargeDepth := 20}) (disch := first | omega | (simp only [lenE]; done) | (simp only [lenE]; omega) | rfl | (simp only [lenE, markR_len]; done) | (simp only [lenE, markR_len]; omega)) only [runE, mapE, listE, initT_5, initT_6, initT_7, initT_8, resV, oneV, binA, unA, reduceCtorEq, Nat.reduceEqDiff, Nat.reduceAdd, Nat.reduceLT, Nat.reduceLeDiff, Nat.reduceMul, Nat.reduceSub, ↓reduceIte, decide_true, decide_false, Bool.true_eq_false, Bool.false_eq_true, Bool.not_true, Bool.not_false, if_true, if_false, and_true, true_and, memE, celE, w64, Nat.zero_add, Nat.add_zero, Nat.mul_one, putL, and_self, ldn, gt_iff_lt, hc]
        have e : ruleOk f r = true := by simp [ruleOk, hf, hr]; omega
        exact ext_ansV ((hXM.app hn3).app hn4) (by simp [ruleA, e])
theorem implRuleOrder_rc (m : Mem) (v : Value) (f : Fl) (r : Rl) (h : FlA m v f) : RC Try.prog 33 [v, rlV r] m (AnsV (.tuple #[.int .i64 (ruleA f r), .bool (ruleOk f r)])) := by
  refine rc_of_run mixed ok_impl_RuleOrder (by simp) (go_start _ _ _ ?_)
  obtain ⟨u, rfl, hu⟩ := h.ro
  simp (config := {implicitDefEqProofs := false, maxDischargeDepth := 20}) (disch := first | omega | (simp only [lenE]; done) | (simp only [lenE]; omega) | rfl | (simp only [lenE, markR_len]; done) | (simp only [lenE, markR_len]; omega)) only [runE, mapE, listE, initT_5, initT_6, initT_7, initT_8, resV, oneV, binA, unA, reduceCtorEq, Nat.reduceEqDiff, Nat.reduceAdd, Nat.reduceLT, Nat.reduceLeDiff, Nat.reduceMul, Nat.reduceSub, ↓reduceIte, decide_true, decide_false, Bool.true_eq_false, Bool.false_eq_true, Bool.not_true, Bool.not_false, if_true, if_false, and_true, true_and, memE, celE, w64, Nat.zero_add, Nat.add_zero, Nat.mul_one, putL, and_self, ldn, c_impl_RuleOrder, r_impl_RuleOrder, rlV]
  obtain ⟨E, hE⟩ : ∃ E, E = roM m ++ [⟨.own, 27, [.int .i64 f.stock, u]⟩] ++ [⟨.own, 40, [.int .i64 r.kind, .int .i64 r.low, .int .i64 r.high]⟩] := ⟨_, rfl⟩
  try rw [← hE]
  have hX : Ext m E := by rw [hE]; exact ((Ext.refl m).one _ _).one _ _
  have b1 : OwnB E m.length 27 [.int .i64 f.stock, u] := by rw [hE]; exact (OwnB.here (roM_len m).symm).ext _
  have b2 : OwnB E (m.length + 1) 40 [.int .i64 r.kind, .int .i64 r.low, .int .i64 r.high] := by rw [hE]; exact OwnB.here (by simp [roM_len])
  have huE : IntsA E u f.under := by rw [hE]; exact (hu.ext _).ext _
  clear hE
  try simp (config := {implicitDefEqProofs := false, maxDischargeDepth := 20}) (disch := first | omega | (simp only [lenE]; done) | (simp only [lenE]; omega) | rfl | (simp only [lenE, markR_len]; done) | (simp only [lenE, markR_len]; omega)) only [runE, mapE, listE, initT_5, initT_6, initT_7, initT_8, resV, oneV, binA, unA, reduceCtorEq, Nat.reduceEqDiff, Nat.reduceAdd, Nat.reduceLT, Nat.reduceLeDiff, Nat.reduceMul, Nat.reduceSub, ↓reduceIte, decide_true, decide_false, Bool.true_eq_false, Bool.false_eq_true, Bool.not_true, Bool.not_false, if_true, if_false, and_true, true_and, memE, celE, w64, Nat.zero_add, Nat.add_zero, Nat.mul_one, putL, and_self, ldn, b1.mk2', b2.mk3']
  refine callH_rc (implPositionOf_rc _ _ f ⟨u, rfl, huE⟩) ?_
  rintro r1 n1 ⟨rfl, hn1⟩
  simp (config := {implicitDefEqProofs := false, maxDischargeDepth := 20}) (disch := first | omega | (simp only [lenE]; done) | (simp only [lenE]; omega) | rfl | (simp only [lenE, markR_len]; done) | (simp only [lenE, markR_len]; omega)) only [runE, mapE, listE, initT_5, initT_6, initT_7, initT_8, resV, oneV, binA, unA, reduceCtorEq, Nat.reduceEqDiff, Nat.reduceAdd, Nat.reduceLT, Nat.reduceLeDiff, Nat.reduceMul, Nat.reduceSub, ↓reduceIte, decide_true, decide_false, Bool.true_eq_false, Bool.false_eq_true, Bool.not_true, Bool.not_false, if_true, if_false, and_true, true_and, memE, celE, w64, Nat.zero_add, Nat.add_zero, Nat.mul_one, putL, and_self, ldn, ext_2_0, ext_2_1, (b1.ext n1).mk2', (b2.ext n1).mk3']
  refine callH_rc (orderBy_rc _ r) ?_
  rintro r1 n2 ⟨hn2, fv, rfl, hfv⟩
  have hX2 := (hX.app hn1).app hn2
  have no : ∀ M, Ext m M → ruleOk f r = false → newQ m (AnsV (.tuple #[.int .i64 (ruleA f r), .bool (ruleOk f r)])) (.tuple #[.int .i64 0, .bool false]) M := fun M hM e => ext_ansV hM (by simp [ruleA, e])
  cases hf : f.good with
  | false =>
    simp (config := {implicitDefEqProofs := false, maxDischargeDepth := 20}) (disch := first | omega | (simp only [lenE]; done) | (simp only [lenE]; omega) | rfl | (simp only [lenE, markR_len]; done) | (simp only [lenE, markR_len]; omega)) only [runE, mapE, listE, initT_5, initT_6, initT_7, initT_8, resV, oneV, binA, unA, reduceCtorEq, Nat.reduceEqDiff, Nat.reduceAdd, Nat.reduceLT, Nat.reduceLeDiff, Nat.reduceMul, Nat.reduceSub, ↓reduceIte, decide_true, decide_false, Bool.true_eq_false, Bool.false_eq_true, Bool.not_true, Bool.not_false, if_true, if_false, and_true, true_and, memE, celE, w64, Nat.zero_add, Nat.add_zero, Nat.mul_one, putL, and_self, ldn, ext_2_0, ext_2_1]
    exact no _ hX2 (by simp [ruleOk, hf])
  | true =>
    cases hr : r.good with
    | false =>
      simp (config := {implicitDefEqProofs := false, maxDischargeDepth := 20}) (disch := first | omega | (simp only [lenE]; done) | (simp only [lenE]; omega) | rfl | (simp only [lenE, markR_len]; done) | (simp only [lenE, markR_len]; omega)) only [runE, mapE, listE, initT_5, initT_6, initT_7, initT_8, resV, oneV, binA, unA, reduceCtorEq, Nat.reduceEqDiff, Nat.reduceAdd, Nat.reduceLT, Nat.reduceLeDiff, Nat.reduceMul, Nat.reduceSub, ↓reduceIte, decide_true, decide_false, Bool.true_eq_false, Bool.false_eq_true, Bool.not_true, Bool.not_false, if_true, if_false, and_true, true_and, memE, celE, w64, Nat.zero_add, Nat.add_zero, Nat.mul_one, putL, and_self, ldn, ext_2_0, ext_2_1]
      exact no _ hX2 (by simp [ruleOk, hr])
    | true =>
      have hF := goodF_iff.1 hf
      have hR := goodR_iff.1 hr
      obtain ⟨g, cap, rfl, hg⟩ := hfv hr
      simp (config := {implicitDefEqProofs := false, maxDischargeDepth := 20}) (disch := first | omega | (simp only [lenE]; done) | (simp only [lenE]; omega) | rfl | (simp only [lenE, markR_len]; done) | (simp only [lenE, markR_len]; omega)) only [runE, mapE, listE, initT_5, initT_6, initT_7, initT_8, resV, oneV, binA, unA, reduceCtorEq, Nat.reduceEqDiff, Nat.reduceAdd, Nat.reduceLT, Nat.reduceLeDiff, Nat.reduceMul, Nat.reduceSub, ↓reduceIte, decide_true, decide_false, Bool.true_eq_false, Bool.false_eq_true, Bool.not_true, Bool.not_false, if_true, if_false, and_true, true_and, memE, celE, w64, Nat.zero_add, Nat.add_zero, Nat.mul_one, putL, and_self, ldn, ext_2_0, ext_2_1]
      refine callH_rc (hg _ (Keeps.refl _) f.pos (posD_of hF)) ?_
      intro r1 n3 hA
      obtain ⟨e1, hn3⟩ : r1 = .int .i64 (ordR r f.pos) ∧ NoRo n3 := hA
      subst e1
      simp (config := {implicitDefEqProofs := false, maxDischargeDepth := 20}) (disch := first | omega | (simp only [lenE]; done) | (simp only [lenE]; omega) | rfl | (simp only [lenE, markR_len]; done) | (simp only [lenE, markR_len]; omega)) only [runE, mapE, listE, initT_5, initT_6, initT_7, initT_8, resV, oneV, binA, unA, reduceCtorEq, Nat.reduceEqDiff, Nat.reduceAdd, Nat.reduceLT, Nat.reduceLeDiff, Nat.reduceMul, Nat.reduceSub, ↓reduceIte, decide_true, decide_false, Bool.true_eq_false, Bool.false_eq_true, Bool.not_true, Bool.not_false, if_true, if_false, and_true, true_and, memE, celE, w64, Nat.zero_add, Nat.add_zero, Nat.mul_one, putL, and_self, ldn]
      refine callH_rc (isFlowOrder_rc _ _) ?_
      rintro r1 n4 ⟨rfl, rfl⟩
      have h0 := ordR_nonneg hR f.pos
      rw [List.append_nil]
      cases hc : inF 40 (ordR r f.pos) with
      | false =>
        simp (config := {implicitDefEqProofs := false, maxDischargeDepth := 20}) (disch := first | omega | (simp only [lenE]; done) | (simp only [lenE]; omega) | rfl | (simp only [lenE, markR_len]; done) | (simp only [lenE, markR_len]; omega)) only [runE, mapE, listE, initT_5, initT_6, initT_7, initT_8, resV, oneV, binA, unA, reduceCtorEq, Nat.reduceEqDiff, Nat.reduceAdd, Nat.reduceLT, Nat.reduceLeDiff, Nat.reduceMul, Nat.reduceSub, ↓reduceIte, decide_true, decide_false, Bool.true_eq_false, Bool.false_eq_true, Bool.not_true, Bool.not_false, if_true, if_false, and_true, true_and, memE, celE, w64, Nat.zero_add, Nat.add_zero, Nat.mul_one, putL, and_self, ldn]
        have e : ruleOk f r = false := by
          have hc' : ¬ (0 ≤ ordR r f.pos ∧ ordR r f.pos ≤ 40) := by rw [← inF_iff, hc]; simp
          simp [ruleOk]; intro _ _; omega
        exact no _ (hX2.app hn3) e
      | true =>
        simp (config := {implicitDefEqProofs := false, maxDischargeDepth := 20}) (disch := first | omega | (simp only [lenE]; done) | (simp only [lenE]; omega) | rfl | (simp only [lenE, markR_len]; done) | (simp only [lenE, markR_len]; omega)) only [runE, mapE, listE, initT_5, initT_6, initT_7, initT_8, resV, oneV, binA, unA, reduceCtorEq, Nat.reduceEqDiff, Nat.reduceAdd, Nat.reduceLT, Nat.reduceLeDiff, Nat.reduceMul, Nat.reduceSub, ↓reduceIte, decide_true, decide_false, Bool.true_eq_false, Bool.false_eq_true, Bool.not_true, Bool.not_false, if_true, if_false, and_true, true_and, memE, celE, w64, Nat.zero_add, Nat.add_zero, Nat.mul_one, putL, and_self, ldn]
        have e : ruleOk f r = true := by
          have := (inF_iff.1 hc).2
          simp [ruleOk, hf, hr]; omega
        exact ext_ansV (hX2.app hn3) (by simp [ruleA, e])
end Go.Proofs.Ytnkbjliidenldaa.Ab
