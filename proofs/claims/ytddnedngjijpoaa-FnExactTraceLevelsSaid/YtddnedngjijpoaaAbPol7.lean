/- Policies: bills and the two levels of a turn, by both programs. -/
import Derived.Test.YtddnedngjijpoaaAbPol6
namespace Go.Proofs.Ytddnedngjijpoaa.Ab
open Go Go.RowKit
set_option linter.unusedVariables false
set_option linter.unusedSimpArgs false

/-- The bills of all levels from the floor on. -/
def billsL (p : Pr) (next : List Int) (n : Nat) : List Int := (List.range (22 - p.w.length)).map fun (i : Nat) => p.bill next (p.floor + (i : Int)) n
theorem billsL_len (p : Pr) (next : List Int) (n : Nat) : (billsL p next n).length = 22 - p.w.length := by simp [billsL]
theorem billsL_at {p : Pr} {next : List Int} {n i : Nat} (h : i < 22 - p.w.length) : (billsL p next n).getD i 0 = p.bill next (p.floor + (i : Int)) n := by
  simp [billsL, List.getD_eq_getElem?_getD, h]
theorem bill_bd {p : Pr} (hg : GoodP p) {next : List Int} (hB : rowIn 30000000000000000 next) {y : Int} {n : Nat} (hn : n ≤ 4) (hy : p.may y) :
    -700000000000000000 ≤ p.unit * y * p.pow (n + 1) + p.after next y n ∧ p.unit * y * p.pow (n + 1) + p.after next y n ≤ 700000000000000000 := by
  have hfl := hg.floor
  have hy1 := hy.1
  have hy2 := hy.2
  have hm := pmul_in hg (y := y) (by omega) (n := n + 1) (by omega)
  have ha := hg.after hB (by decide) hn hy
  omega
theorem l6Bills_rc (m : Mem) (v vt : Value) (p : Pr) (T : List (List Int)) (next : List Int) (t : Int) (n : Nat) (h : ProcA m v p) (hT : TabA m vt T) (hg : GoodP p) (hnext : T.getD (t + 1).toNat [] = next) (htT : (t + 1).toNat < T.length) (hl : next.length = 21) (hB : rowIn 30000000000000000 next) (ht : p.turns - t = (n : Int) + 1) (ht0 : 0 ≤ t) (hn4 : n ≤ 4) :
    RC Try.prog 102 [v, vt, .int .i64 t] m (AnsO m (IntsO (billsL p next n)) id) := by
  refine rc_of_run mixed ok_spec_l6Bills (by simp) (go_start _ _ _ ?_)
  obtain ⟨u, rfl, hu⟩ := h.ro
  have hfl := hg.floor
  have hlen := hg.len
  have htu := hg.turns
  have hflo : p.floor = (p.w.length : Int) - 11 := by unfold Pr.floor; omega
  have hbl := billsL_len p next n
  simp (config := {implicitDefEqProofs := false, maxDischargeDepth := 20}) (disch := first | omega | (simp only [lenE]; done) | (simp only [lenE]; omega) | rfl | (simp only [lenE, markR_len]; done) | (simp only [lenE, markR_len]; omega)) only [runE, mapE, listE, initT_5, initT_6, initT_7, initT_8, resV, oneV, binA, unA, reduceCtorEq, Nat.reduceEqDiff, Nat.reduceAdd, Nat.reduceLT, Nat.reduceLeDiff, Nat.reduceMul, Nat.reduceSub, ↓reduceIte, decide_true, decide_false, Bool.true_eq_false, Bool.false_eq_true, Bool.not_true, Bool.not_false, if_true, if_false, and_true, true_and, memE, celE, w64, Nat.zero_add, Nat.add_zero, Nat.mul_one, putL, and_self, ldn, c_spec_l6Bills, r_spec_l6Bills, bsl_none]
  refine callH_rc (l6Floor_rc _ _ p (ProcA.mk ((hu.ext _).ext _)) hg) ?_
  rintro r new ⟨rfl, nr⟩
  simp (config := {implicitDefEqProofs := false, maxDischargeDepth := 20}) (disch := first | omega | (simp only [lenE]; done) | (simp only [lenE]; omega) | rfl | (simp only [lenE, markR_len]; done) | (simp only [lenE, markR_len]; omega)) only [runE, mapE, listE, initT_5, initT_6, initT_7, initT_8, resV, oneV, binA, unA, reduceCtorEq, Nat.reduceEqDiff, Nat.reduceAdd, Nat.reduceLT, Nat.reduceLeDiff, Nat.reduceMul, Nat.reduceSub, ↓reduceIte, decide_true, decide_false, Bool.true_eq_false, Bool.false_eq_true, Bool.not_true, Bool.not_false, if_true, if_false, and_true, true_and, memE, celE, w64, Nat.zero_add, Nat.add_zero, Nat.mul_one, putL, and_self, ldn]
  refine loop_inv mixed (fun s => ∃ (i : Nat) (M : Mem) (id : Nat), i ≤ 22 - p.w.length ∧ s.m = M ∧ Ext m M ∧ OwnB M m.length 26 [.int .i64 p.turns, u, .int .i64 p.setup, .int .i64 p.unit, .int .i64 p.hold, .int .i64 p.back] ∧ m.length < id ∧ OwnR M id ((billsL p next n).take i) ∧
      s.t 1 = vt ∧ s.t 2 = .int .i64 t ∧ s.t 3 = .pointer (some ⟨m.length, 0, none⟩) ∧ s.t 7 = .slice (some ⟨id, 0, none⟩) i 1 ∧ s.t 8 = .int .i64 (p.floor + i)) (fun s => (20 - intOf (s.t 8)).toNat)
    ⟨0, _, m.length + 1, by omega, rfl, (((Ext.refl m).one _ _).one _ _).app nr, ((OwnB.here (roM_len m).symm).ext _).ext _, by omega, OwnR.ext (by have := OwnR.at_end (roM m ++ [⟨.own, 26, [.int .i64 p.turns, u, .int .i64 p.setup, .int .i64 p.unit, .int .i64 p.hold, .int .i64 p.back]⟩]) []; simpa [roM_len] using this) new, rfl, rfl, rfl, rfl, by simp only [put_t, put_t', put_m, putT_t, putT_t', putT_m, init_t, init_m, initT_0, initT_1, initT_2, initT_3, initT_4, initT_5, initT_6, initT_7, initT_8, Nat.reduceEqDiff, ↓reduceIte]; simp⟩ ?_
  rintro s ⟨i, M, id, hi, tm, hX, hb, hid, ho, t1, t2, t3, t7, t8⟩
  by_cases hlt : i < 22 - p.w.length
  · have hlt' : p.floor + (i : Int) ≤ 10 := by omega
    have hmay : p.may (p.floor + i) := ⟨by omega, hlt'⟩
    have hTM := hT.ro
    obtain ⟨n0, rfl, hn0⟩ := hX
    have hTX := hT.ro.ext n0
    have hX : Ext m (roM m ++ n0) := ⟨n0, rfl, hn0⟩
    have a1 := hTX.at_ _ htT
    rw [show (((t + 1).toNat : Nat) : Int) = t + 1 by omega] at a1
    obtain ⟨y, a2, a3⟩ := hTX.ld _ htT
    rw [hnext] at a3
    simp (config := {implicitDefEqProofs := false, maxDischargeDepth := 20}) (disch := first | omega | (simp only [lenE]; done) | (simp only [lenE]; omega) | rfl | (simp only [lenE, markR_len]; done) | (simp only [lenE, markR_len]; omega)) only [runE, mapE, listE, initT_5, initT_6, initT_7, initT_8, resV, oneV, binA, unA, reduceCtorEq, Nat.reduceEqDiff, Nat.reduceAdd, Nat.reduceLT, Nat.reduceLeDiff, Nat.reduceMul, Nat.reduceSub, ↓reduceIte, decide_true, decide_false, Bool.true_eq_false, Bool.false_eq_true, Bool.not_true, Bool.not_false, if_true, if_false, and_true, true_and, memE, celE, w64, Nat.zero_add, Nat.add_zero, Nat.mul_one, putL, and_self, ldn, tm, t1, t2, t3, t7, t8, hlt', hb.rd, a1, a2]
    refine rcallH_rc (l6Bill_rc _ _ y p next _ (p.floor + i) n (ProcA.mk (hX.ints hu)) a3 hg hl hB hmay ht hn4) ?_
    rintro r n1 ⟨rfl, nr1⟩
    rw [← billsL_at hlt]
    have hidl := (ho.ext n1).lt
    have happ := app_num (x := (billsL p next n).getD i 0) (id2 := (roM m ++ n0 ++ n1).length) (n := i) (ho.ext n1) (by rw [List.length_take]; omega) rfl (by rw [List.length_take]; omega)
    obtain ⟨M2, hM2⟩ : ∃ M', M' = roM m ++ n0 ++ n1 := ⟨_, rfl⟩
    have hX2 : Ext m M2 := by rw [hM2]; exact hX.app nr1
    have hb2 := hb.ext n1
    rw [← hM2] at happ hidl hb2
    rw [← hM2]
    simp (config := {implicitDefEqProofs := false, maxDischargeDepth := 20}) (disch := first | omega | (simp only [lenE]; done) | (simp only [lenE]; omega) | rfl | (simp only [lenE, markR_len]; done) | (simp only [lenE, markR_len]; omega)) only [runE, mapE, listE, initT_5, initT_6, initT_7, initT_8, resV, oneV, binA, unA, reduceCtorEq, Nat.reduceEqDiff, Nat.reduceAdd, Nat.reduceLT, Nat.reduceLeDiff, Nat.reduceMul, Nat.reduceSub, ↓reduceIte, decide_true, decide_false, Bool.true_eq_false, Bool.false_eq_true, Bool.not_true, Bool.not_false, if_true, if_false, and_true, true_and, memE, celE, w64, Nat.zero_add, Nat.add_zero, Nat.mul_one, putL, and_self, ldn, t1, t2, t3, t7, t8, bsl_one, happ]
    refine ⟨⟨i + 1, _, M2.length + 1, by omega, rfl, ((hX2.dead (by omega)).one _ _).one _ _, hb2.at_ (same_gen (by omega) hidl), by have := hX2.len; omega, ?_, rfl, by congr 1; simp; omega⟩, ?_⟩
    · rw [take_next (by omega)]
      exact OwnB.here (by simp)
    · simp [intOf]; omega
  · have hlt' : ¬ (p.floor + (i : Int) ≤ 10) := by omega
    simp (config := {implicitDefEqProofs := false, maxDischargeDepth := 20}) (disch := first | omega | (simp only [lenE]; done) | (simp only [lenE]; omega) | rfl | (simp only [lenE, markR_len]; done) | (simp only [lenE, markR_len]; omega)) only [runE, mapE, listE, initT_5, initT_6, initT_7, initT_8, resV, oneV, binA, unA, reduceCtorEq, Nat.reduceEqDiff, Nat.reduceAdd, Nat.reduceLT, Nat.reduceLeDiff, Nat.reduceMul, Nat.reduceSub, ↓reduceIte, decide_true, decide_false, Bool.true_eq_false, Bool.false_eq_true, Bool.not_true, Bool.not_false, if_true, if_false, and_true, true_and, memE, celE, w64, Nat.zero_add, Nat.add_zero, Nat.mul_one, putL, and_self, ldn, tm, t1, t2, t3, t7, t8, hlt']
    rw [List.take_of_length_le (by omega)] at ho
    have e : i = (billsL p next n).length := by omega
    rw [e]
    exact ext_ansO (f := _root_.id) hX fun M' hM => IntsA.ownO (ho.at_ (hM _ (by omega) ho.lt)) (by omega) (by omega) ho.lt
theorem billsOf_rc (m : Mem) (v vn : Value) (p : Pr) (next : List Int) (t : Int) (n : Nat) (h : ProcA m v p) (hn : IntsA m vn next) (hg : GoodP p) (hl : next.length = 21) (hB : rowIn 30000000000000000 next) (ht : p.turns - t = (n : Int) + 1) (ht0 : 0 ≤ t) (hn4 : n ≤ 4) :
    RC Try.prog 101 [v, .int .i64 t, vn] m (AnsO m (IntsO (billsL p next n)) id) := by
  refine rc_of_run mixed ok_impl_billsOf (by simp) (go_start _ _ _ ?_)
  obtain ⟨u, rfl, hu⟩ := h.ro
  have hfl := hg.floor
  have hlen := hg.len
  have htu := hg.turns
  have hflo : p.floor = (p.w.length : Int) - 11 := by unfold Pr.floor; omega
  have hbl := billsL_len p next n
  simp (config := {implicitDefEqProofs := false, maxDischargeDepth := 20}) (disch := first | omega | (simp only [lenE]; done) | (simp only [lenE]; omega) | rfl | (simp only [lenE, markR_len]; done) | (simp only [lenE, markR_len]; omega)) only [runE, mapE, listE, initT_5, initT_6, initT_7, initT_8, resV, oneV, binA, unA, reduceCtorEq, Nat.reduceEqDiff, Nat.reduceAdd, Nat.reduceLT, Nat.reduceLeDiff, Nat.reduceMul, Nat.reduceSub, ↓reduceIte, decide_true, decide_false, Bool.true_eq_false, Bool.false_eq_true, Bool.not_true, Bool.not_false, if_true, if_false, and_true, true_and, memE, celE, w64, Nat.zero_add, Nat.add_zero, Nat.mul_one, putL, and_self, ldn, c_impl_billsOf, r_impl_billsOf, bsl_none]
  refine callH_rc (floorOf_rc _ _ p (ProcA.mk ((hu.ext _).ext _)) hlen.2) ?_
  rintro r new ⟨rfl, nr⟩
  simp (config := {implicitDefEqProofs := false, maxDischargeDepth := 20}) (disch := first | omega | (simp only [lenE]; done) | (simp only [lenE]; omega) | rfl | (simp only [lenE, markR_len]; done) | (simp only [lenE, markR_len]; omega)) only [runE, mapE, listE, initT_5, initT_6, initT_7, initT_8, resV, oneV, binA, unA, reduceCtorEq, Nat.reduceEqDiff, Nat.reduceAdd, Nat.reduceLT, Nat.reduceLeDiff, Nat.reduceMul, Nat.reduceSub, ↓reduceIte, decide_true, decide_false, Bool.true_eq_false, Bool.false_eq_true, Bool.not_true, Bool.not_false, if_true, if_false, and_true, true_and, memE, celE, w64, Nat.zero_add, Nat.add_zero, Nat.mul_one, putL, and_self, ldn]
  refine loop_inv mixed (fun s => ∃ (i : Nat) (M : Mem) (id : Nat), i ≤ 22 - p.w.length ∧ s.m = M ∧ Ext m M ∧ OwnB M m.length 26 [.int .i64 p.turns, u, .int .i64 p.setup, .int .i64 p.unit, .int .i64 p.hold, .int .i64 p.back] ∧ m.length < id ∧ OwnR M id ((billsL p next n).take i) ∧
      s.t 1 = .int .i64 t ∧ s.t 2 = vn ∧ s.t 3 = .pointer (some ⟨m.length, 0, none⟩) ∧ s.t 7 = .slice (some ⟨id, 0, none⟩) i 1 ∧ s.t 8 = .int .i64 (p.floor + i)) (fun s => (20 - intOf (s.t 8)).toNat)
    ⟨0, _, m.length + 1, by omega, rfl, (((Ext.refl m).one _ _).one _ _).app nr, ((OwnB.here (roM_len m).symm).ext _).ext _, by omega, OwnR.ext (by have := OwnR.at_end (roM m ++ [⟨.own, 26, [.int .i64 p.turns, u, .int .i64 p.setup, .int .i64 p.unit, .int .i64 p.hold, .int .i64 p.back]⟩]) []; simpa [roM_len] using this) new, rfl, rfl, rfl, rfl, by simp only [put_t, put_t', put_m, putT_t, putT_t', putT_m, init_t, init_m, initT_0, initT_1, initT_2, initT_3, initT_4, initT_5, initT_6, initT_7, initT_8, Nat.reduceEqDiff, ↓reduceIte]; simp⟩ ?_
  rintro s ⟨i, M, id, hi, tm, hX, hb, hid, ho, t1, t2, t3, t7, t8⟩
  by_cases hlt : i < 22 - p.w.length
  · have hlt' : p.floor + (i : Int) ≤ 10 := by omega
    have hmay : p.may (p.floor + i) := ⟨by omega, hlt'⟩
    have hm := pmul_in hg (y := p.floor + i) (by omega) (n := n + 1) (by omega)
    have hbd := bill_bd hg hB hn4 hmay
    simp (config := {implicitDefEqProofs := false, maxDischargeDepth := 20}) (disch := first | omega | (simp only [lenE]; done) | (simp only [lenE]; omega) | rfl | (simp only [lenE, markR_len]; done) | (simp only [lenE, markR_len]; omega)) only [runE, mapE, listE, initT_5, initT_6, initT_7, initT_8, resV, oneV, binA, unA, reduceCtorEq, Nat.reduceEqDiff, Nat.reduceAdd, Nat.reduceLT, Nat.reduceLeDiff, Nat.reduceMul, Nat.reduceSub, ↓reduceIte, decide_true, decide_false, Bool.true_eq_false, Bool.false_eq_true, Bool.not_true, Bool.not_false, if_true, if_false, and_true, true_and, memE, celE, w64, Nat.zero_add, Nat.add_zero, Nat.mul_one, putL, and_self, ldn, tm, t1, t2, t3, t7, t8, hlt', hb.rd]
    refine rcallH_rc (powerFrom_rc M _ p t (n + 1) (ProcA.mk (hX.ints hu)) hg (by omega) (by omega)) ?_
    rintro r n1 ⟨rfl, nr1⟩
    have hb1 := hb.ext n1
    have hX1 := hX.app nr1
    simp (config := {implicitDefEqProofs := false, maxDischargeDepth := 20}) (disch := first | omega | (simp only [lenE]; done) | (simp only [lenE]; omega) | rfl | (simp only [lenE, markR_len]; done) | (simp only [lenE, markR_len]; omega)) only [runE, mapE, listE, initT_5, initT_6, initT_7, initT_8, resV, oneV, binA, unA, reduceCtorEq, Nat.reduceEqDiff, Nat.reduceAdd, Nat.reduceLT, Nat.reduceLeDiff, Nat.reduceMul, Nat.reduceSub, ↓reduceIte, decide_true, decide_false, Bool.true_eq_false, Bool.false_eq_true, Bool.not_true, Bool.not_false, if_true, if_false, and_true, true_and, memE, celE, w64, Nat.zero_add, Nat.add_zero, Nat.mul_one, putL, and_self, ldn, t1, t2, t3, t7, t8, hb1.rd]
    refine rcallH_rc (askedCost_rc (M ++ n1) _ vn p next t (p.floor + i) n (ProcA.mk (hX1.ints hu)) (hn.xt2 hX1) hg hl hB hmay ht ht0 hn4) ?_
    rintro r n2 ⟨rfl, nr2⟩
    have ho2 := (ho.ext n1).ext n2
    have hidl := ho2.lt
    have hbv : p.unit * (p.floor + i) * p.pow (n + 1) + p.after next (p.floor + i) n = (billsL p next n).getD i 0 := (billsL_at hlt).symm
    have happ := app_num (x := (billsL p next n).getD i 0) (id2 := (M ++ n1 ++ n2).length) (n := i) ho2 (by rw [List.length_take]; omega) rfl (by rw [List.length_take]; omega)
    obtain ⟨M2, hM2⟩ : ∃ M', M' = M ++ n1 ++ n2 := ⟨_, rfl⟩
    have hX2 : Ext m M2 := by rw [hM2]; exact hX1.app nr2
    have hb2 := hb1.ext n2
    rw [← hM2] at happ hidl hb2
    rw [← hM2]
    simp (config := {implicitDefEqProofs := false, maxDischargeDepth := 20}) (disch := first | omega | (simp only [lenE]; done) | (simp only [lenE]; omega) | rfl | (simp only [lenE, markR_len]; done) | (simp only [lenE, markR_len]; omega)) only [runE, mapE, listE, initT_5, initT_6, initT_7, initT_8, resV, oneV, binA, unA, reduceCtorEq, Nat.reduceEqDiff, Nat.reduceAdd, Nat.reduceLT, Nat.reduceLeDiff, Nat.reduceMul, Nat.reduceSub, ↓reduceIte, decide_true, decide_false, Bool.true_eq_false, Bool.false_eq_true, Bool.not_true, Bool.not_false, if_true, if_false, and_true, true_and, memE, celE, w64, Nat.zero_add, Nat.add_zero, Nat.mul_one, putL, and_self, ldn, t1, t2, t3, t7, t8, hbv, bsl_one, happ]
    refine ⟨⟨i + 1, _, M2.length + 1, by omega, rfl, ((hX2.dead (by omega)).one _ _).one _ _, hb2.at_ (same_gen (by omega) hidl), by have := hX2.len; omega, ?_, rfl, by congr 1; simp; omega⟩, ?_⟩
    · rw [take_next (by omega)]
      exact OwnB.here (by simp)
    · simp [intOf]; omega
  · have hlt' : ¬ (p.floor + (i : Int) ≤ 10) := by omega
    simp (config := {implicitDefEqProofs := false, maxDischargeDepth := 20}) (disch := first | omega | (simp only [lenE]; done) | (simp only [lenE]; omega) | rfl | (simp only [lenE, markR_len]; done) | (simp only [lenE, markR_len]; omega)) only [runE, mapE, listE, initT_5, initT_6, initT_7, initT_8, resV, oneV, binA, unA, reduceCtorEq, Nat.reduceEqDiff, Nat.reduceAdd, Nat.reduceLT, Nat.reduceLeDiff, Nat.reduceMul, Nat.reduceSub, ↓reduceIte, decide_true, decide_false, Bool.true_eq_false, Bool.false_eq_true, Bool.not_true, Bool.not_false, if_true, if_false, and_true, true_and, memE, celE, w64, Nat.zero_add, Nat.add_zero, Nat.mul_one, putL, and_self, ldn, tm, t1, t2, t3, t7, t8, hlt']
    rw [List.take_of_length_le (by omega)] at ho
    have e : i = (billsL p next n).length := by omega
    rw [e]
    exact ext_ansO (f := _root_.id) hX fun M' hM => IntsA.ownO (ho.at_ (hM _ (by omega) ho.lt)) (by omega) (by omega) ho.lt
def billsA (p : Pr) (t : Int) : List Int := if turnB p t then billsL p (p.rowsN p.bestC (p.turns - 1 - t).toNat) (p.turns - 1 - t).toNat else []
theorem implBillsOf_rc (m : Mem) (v : Value) (p : Pr) (t : Int) (h : ProcA m v p) : RC Try.prog 39 [v, .int .i64 t] m (AnsO m (IntsO (billsA p t)) fun v => .tuple #[v, .bool (turnB p t)]) := by
  refine rc_of_run mixed ok_impl_BillsOf (by simp) (go_start _ _ _ ?_)
  obtain ⟨u, rfl, hu⟩ := h.ro
  unfold billsA
  simp (config := {implicitDefEqProofs := false, maxDischargeDepth := 20}) (disch := first | omega | (simp only [lenE]; done) | (simp only [lenE]; omega) | rfl | (simp only [lenE, markR_len]; done) | (simp only [lenE, markR_len]; omega)) only [runE, mapE, listE, initT_5, initT_6, initT_7, initT_8, resV, oneV, binA, unA, reduceCtorEq, Nat.reduceEqDiff, Nat.reduceAdd, Nat.reduceLT, Nat.reduceLeDiff, Nat.reduceMul, Nat.reduceSub, ↓reduceIte, decide_true, decide_false, Bool.true_eq_false, Bool.false_eq_true, Bool.not_true, Bool.not_false, if_true, if_false, and_true, true_and, memE, celE, w64, Nat.zero_add, Nat.add_zero, Nat.mul_one, putL, and_self, ldn, c_impl_BillsOf, r_impl_BillsOf]
  refine callH_rc (isTurn_rc _ _ p t (ProcA.mk (hu.ext _))) ?_
  rintro r n1 ⟨rfl, nr1⟩
  cases b1 : turnB p t with
  | false =>
    simp (config := {implicitDefEqProofs := false, maxDischargeDepth := 20}) (disch := first | omega | (simp only [lenE]; done) | (simp only [lenE]; omega) | rfl | (simp only [lenE, markR_len]; done) | (simp only [lenE, markR_len]; omega)) only [runE, mapE, listE, initT_5, initT_6, initT_7, initT_8, resV, oneV, binA, unA, reduceCtorEq, Nat.reduceEqDiff, Nat.reduceAdd, Nat.reduceLT, Nat.reduceLeDiff, Nat.reduceMul, Nat.reduceSub, ↓reduceIte, decide_true, decide_false, Bool.true_eq_false, Bool.false_eq_true, Bool.not_true, Bool.not_false, if_true, if_false, and_true, true_and, memE, celE, w64, Nat.zero_add, Nat.add_zero, Nat.mul_one, putL, and_self, ldn, bsl_no]
    exact ext_noInts (f := fun v => .tuple #[v, .bool false]) (((Ext.refl m).one _ _).app nr1) (by simp [roM_len]; omega)
  | true =>
    simp only [turnB, Bool.and_eq_true, inZ, decide_eq_true_eq] at b1
    have hG := goodP_iff.1 b1.1
    have ht := hG.turns
    simp (config := {implicitDefEqProofs := false, maxDischargeDepth := 20}) (disch := first | omega | (simp only [lenE]; done) | (simp only [lenE]; omega) | rfl | (simp only [lenE, markR_len]; done) | (simp only [lenE, markR_len]; omega)) only [runE, mapE, listE, initT_5, initT_6, initT_7, initT_8, resV, oneV, binA, unA, reduceCtorEq, Nat.reduceEqDiff, Nat.reduceAdd, Nat.reduceLT, Nat.reduceLeDiff, Nat.reduceMul, Nat.reduceSub, ↓reduceIte, decide_true, decide_false, Bool.true_eq_false, Bool.false_eq_true, Bool.not_true, Bool.not_false, if_true, if_false, and_true, true_and, memE, celE, w64, Nat.zero_add, Nat.add_zero, Nat.mul_one, putL, and_self, ldn]
    refine rcallH_rc (worthTable_rc _ _ p (ProcA.mk ((hu.ext _).ext _)) hG) ?_
    rintro r n3 ⟨nr3, w, rfl, hw⟩
    obtain ⟨a1, y, a2, a3⟩ := next_row hw.now (z := t + 1) (j := (t + 1).toNat) (by omega) (by omega)
    rw [show p.turns.toNat - (t + 1).toNat = (p.turns - 1 - t).toNat by omega] at a3
    simp (config := {implicitDefEqProofs := false, maxDischargeDepth := 20}) (disch := first | omega | (simp only [lenE]; done) | (simp only [lenE]; omega) | rfl | (simp only [lenE, markR_len]; done) | (simp only [lenE, markR_len]; omega)) only [runE, mapE, listE, initT_5, initT_6, initT_7, initT_8, resV, oneV, binA, unA, reduceCtorEq, Nat.reduceEqDiff, Nat.reduceAdd, Nat.reduceLT, Nat.reduceLeDiff, Nat.reduceMul, Nat.reduceSub, ↓reduceIte, decide_true, decide_false, Bool.true_eq_false, Bool.false_eq_true, Bool.not_true, Bool.not_false, if_true, if_false, and_true, true_and, memE, celE, w64, Nat.zero_add, Nat.add_zero, Nat.mul_one, putL, and_self, ldn, id_eq, a1, a2]
    refine rcallH_rc (billsOf_rc _ _ _ p _ t (p.turns - 1 - t).toNat (ProcA.mk (((hu.ext _).ext _).ext _)) a3 hG (Pr.rowsN_len _ _ _) (Pr.rows_big hG (by omega) (Pr.best_fair hG 5) (k := (p.turns - 1 - t).toNat) (by omega)) (by omega) (by omega) (by omega)) ?_
    rintro r n4 ⟨nr4, w2, rfl, hw2⟩
    simp (config := {implicitDefEqProofs := false, maxDischargeDepth := 20}) (disch := first | omega | (simp only [lenE]; done) | (simp only [lenE]; omega) | rfl | (simp only [lenE, markR_len]; done) | (simp only [lenE, markR_len]; omega)) only [runE, mapE, listE, initT_5, initT_6, initT_7, initT_8, resV, oneV, binA, unA, reduceCtorEq, Nat.reduceEqDiff, Nat.reduceAdd, Nat.reduceLT, Nat.reduceLeDiff, Nat.reduceMul, Nat.reduceSub, ↓reduceIte, decide_true, decide_false, Bool.true_eq_false, Bool.false_eq_true, Bool.not_true, Bool.not_false, if_true, if_false, and_true, true_and, memE, celE, w64, Nat.zero_add, Nat.add_zero, Nat.mul_one, putL, and_self, ldn, id_eq]
    exact ((((Ext.refl m).one _ _).app nr1).app nr3).pass (f := fun v => .tuple #[v, .bool true]) nr4 (IntsO.wide _) hw2
theorem specBillsOf_rc (m : Mem) (v : Value) (p : Pr) (t : Int) (h : ProcA m v p) : RC Try.prog 40 [v, .int .i64 t] m (AnsO m (IntsO (billsA p t)) fun v => .tuple #[v, .bool (turnB p t)]) := by
  refine rc_of_run mixed ok_spec_BillsOf (by simp) (go_start _ _ _ ?_)
  obtain ⟨u, rfl, hu⟩ := h.ro
  unfold billsA
  simp (config := {implicitDefEqProofs := false, maxDischargeDepth := 20}) (disch := first | omega | (simp only [lenE]; done) | (simp only [lenE]; omega) | rfl | (simp only [lenE, markR_len]; done) | (simp only [lenE, markR_len]; omega)) only [runE, mapE, listE, initT_5, initT_6, initT_7, initT_8, resV, oneV, binA, unA, reduceCtorEq, Nat.reduceEqDiff, Nat.reduceAdd, Nat.reduceLT, Nat.reduceLeDiff, Nat.reduceMul, Nat.reduceSub, ↓reduceIte, decide_true, decide_false, Bool.true_eq_false, Bool.false_eq_true, Bool.not_true, Bool.not_false, if_true, if_false, and_true, true_and, memE, celE, w64, Nat.zero_add, Nat.add_zero, Nat.mul_one, putL, and_self, ldn, c_spec_BillsOf, r_spec_BillsOf]
  refine callH_rc (l6Turn_rc _ _ p t (ProcA.mk (hu.ext _))) ?_
  rintro r n1 ⟨rfl, nr1⟩
  cases b1 : turnB p t with
  | false =>
    simp (config := {implicitDefEqProofs := false, maxDischargeDepth := 20}) (disch := first | omega | (simp only [lenE]; done) | (simp only [lenE]; omega) | rfl | (simp only [lenE, markR_len]; done) | (simp only [lenE, markR_len]; omega)) only [runE, mapE, listE, initT_5, initT_6, initT_7, initT_8, resV, oneV, binA, unA, reduceCtorEq, Nat.reduceEqDiff, Nat.reduceAdd, Nat.reduceLT, Nat.reduceLeDiff, Nat.reduceMul, Nat.reduceSub, ↓reduceIte, decide_true, decide_false, Bool.true_eq_false, Bool.false_eq_true, Bool.not_true, Bool.not_false, if_true, if_false, and_true, true_and, memE, celE, w64, Nat.zero_add, Nat.add_zero, Nat.mul_one, putL, and_self, ldn, bsl_no]
    exact ext_noInts (f := fun v => .tuple #[v, .bool false]) (((Ext.refl m).one _ _).app nr1) (by simp [roM_len]; omega)
  | true =>
    simp only [turnB, Bool.and_eq_true, inZ, decide_eq_true_eq] at b1
    have hG := goodP_iff.1 b1.1
    have ht := hG.turns
    simp (config := {implicitDefEqProofs := false, maxDischargeDepth := 20}) (disch := first | omega | (simp only [lenE]; done) | (simp only [lenE]; omega) | rfl | (simp only [lenE, markR_len]; done) | (simp only [lenE, markR_len]; omega)) only [runE, mapE, listE, initT_5, initT_6, initT_7, initT_8, resV, oneV, binA, unA, reduceCtorEq, Nat.reduceEqDiff, Nat.reduceAdd, Nat.reduceLT, Nat.reduceLeDiff, Nat.reduceMul, Nat.reduceSub, ↓reduceIte, decide_true, decide_false, Bool.true_eq_false, Bool.false_eq_true, Bool.not_true, Bool.not_false, if_true, if_false, and_true, true_and, memE, celE, w64, Nat.zero_add, Nat.add_zero, Nat.mul_one, putL, and_self, ldn]
    refine rcallH_rc (l6Worths_rc _ _ p (ProcA.mk ((hu.ext _).ext _)) hG) ?_
    rintro r n3 ⟨nr3, w, rfl, hw⟩
    simp (config := {implicitDefEqProofs := false, maxDischargeDepth := 20}) (disch := first | omega | (simp only [lenE]; done) | (simp only [lenE]; omega) | rfl | (simp only [lenE, markR_len]; done) | (simp only [lenE, markR_len]; omega)) only [runE, mapE, listE, initT_5, initT_6, initT_7, initT_8, resV, oneV, binA, unA, reduceCtorEq, Nat.reduceEqDiff, Nat.reduceAdd, Nat.reduceLT, Nat.reduceLeDiff, Nat.reduceMul, Nat.reduceSub, ↓reduceIte, decide_true, decide_false, Bool.true_eq_false, Bool.false_eq_true, Bool.not_true, Bool.not_false, if_true, if_false, and_true, true_and, memE, celE, w64, Nat.zero_add, Nat.add_zero, Nat.mul_one, putL, and_self, ldn, id_eq]
    have hrow : (p.tab p.bestC p.turns.toNat).getD (t + 1).toNat [] = p.rowsN p.bestC (p.turns - 1 - t).toNat := by
      rw [Pr.tab_at p _ (by omega)]; congr 1; omega
    refine rcallH_rc (l6Bills_rc _ _ _ p _ _ t (p.turns - 1 - t).toNat (ProcA.mk (((hu.ext _).ext _).ext _)) hw.now.in hG hrow (by rw [Pr.tab_len]; omega) (Pr.rowsN_len _ _ _) (Pr.rows_big hG (by omega) (Pr.best_fair hG 5) (k := (p.turns - 1 - t).toNat) (by omega)) (by omega) (by omega) (by omega)) ?_
    rintro r n4 ⟨nr4, w2, rfl, hw2⟩
    simp (config := {implicitDefEqProofs := false, maxDischargeDepth := 20}) (disch := first | omega | (simp only [lenE]; done) | (simp only [lenE]; omega) | rfl | (simp only [lenE, markR_len]; done) | (simp only [lenE, markR_len]; omega)) only [runE, mapE, listE, initT_5, initT_6, initT_7, initT_8, resV, oneV, binA, unA, reduceCtorEq, Nat.reduceEqDiff, Nat.reduceAdd, Nat.reduceLT, Nat.reduceLeDiff, Nat.reduceMul, Nat.reduceSub, ↓reduceIte, decide_true, decide_false, Bool.true_eq_false, Bool.false_eq_true, Bool.not_true, Bool.not_false, if_true, if_false, and_true, true_and, memE, celE, w64, Nat.zero_add, Nat.add_zero, Nat.mul_one, putL, and_self, ldn, id_eq]
    exact ((((Ext.refl m).one _ _).app nr1).app nr3).pass (f := fun v => .tuple #[v, .bool true]) nr4 (IntsO.wide _) hw2
end Go.Proofs.Ytddnedngjijpoaa.Ab
