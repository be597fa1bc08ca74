/- The laws' helpers over pairs: szIntA2S, toIntA2S, eqIntA2S, markIntA2S, heldIntA2S. -/
import Derived.Test.YtddnedngjijpoaaAbObj
namespace Go.Proofs.Ytddnedngjijpoaa.Ab
open Go Go.RowKit
set_option linter.unusedVariables false
set_option linter.unusedSimpArgs false

theorem szIntA2S_rc (m : Mem) (v : Value) (L : List (Int × Int)) (left : Int) (h : PairsA m v L) (h0 : 0 ≤ left) (h1 : left ≤ 1048576) :
    RC Try.prog 59 [v, .int .i64 left] m fun r new => NoRo new ∧ ((r = .int .i64 (-1)) ∨ ∃ z : Int, 0 ≤ z ∧ z ≤ left ∧ r = .int .i64 z ∧ L.length ≤ 1048576) := by
  refine rc_of_run mixed ok_laws_szIntA2S (by simp) (go_start _ _ _ ?_)
  obtain ⟨hb, id, fl, rfl, hc⟩ := h.ro
  by_cases hn : left - (L.length : Int) < 0
  · simp (config := {implicitDefEqProofs := false, maxDischargeDepth := 20}) (disch := first | omega | (simp only [lenE]; done) | (simp only [lenE]; omega) | rfl | (simp only [lenE, markR_len]; done) | (simp only [lenE, markR_len]; omega)) only [runE, mapE, listE, initT_5, initT_6, initT_7, initT_8, resV, oneV, binA, unA, reduceCtorEq, Nat.reduceEqDiff, Nat.reduceAdd, Nat.reduceLT, Nat.reduceLeDiff, Nat.reduceMul, Nat.reduceSub, ↓reduceIte, decide_true, decide_false, Bool.true_eq_false, Bool.false_eq_true, Bool.not_true, Bool.not_false, if_true, if_false, and_true, true_and, memE, celE, w64, Nat.zero_add, Nat.add_zero, Nat.mul_one, putL, and_self, ldn, c_laws_szIntA2S, r_laws_szIntA2S, hn]
    exact newQ_nil ⟨noRo_nil, .inl rfl⟩
  · simp (config := {implicitDefEqProofs := false, maxDischargeDepth := 20}) (disch := first | omega | (simp only [lenE]; done) | (simp only [lenE]; omega) | rfl | (simp only [lenE, markR_len]; done) | (simp only [lenE, markR_len]; omega)) only [runE, mapE, listE, initT_5, initT_6, initT_7, initT_8, resV, oneV, binA, unA, reduceCtorEq, Nat.reduceEqDiff, Nat.reduceAdd, Nat.reduceLT, Nat.reduceLeDiff, Nat.reduceMul, Nat.reduceSub, ↓reduceIte, decide_true, decide_false, Bool.true_eq_false, Bool.false_eq_true, Bool.not_true, Bool.not_false, if_true, if_false, and_true, true_and, memE, celE, w64, Nat.zero_add, Nat.add_zero, Nat.mul_one, putL, and_self, ldn, c_laws_szIntA2S, r_laws_szIntA2S, hn]
    exact newQ_nil ⟨noRo_nil, .inr ⟨_, by omega, by omega, rfl, by omega⟩⟩
theorem iada_0 (id off n : Nat) : iadaA 1 (n + 1) (.pointer (some ⟨id, off, none⟩)) (.int .i64 0) = some (.pointer (some ⟨id, off, none⟩)) := by
  simp [iadaA]
theorem iada_1 (id off n : Nat) : iadaA 1 (n + 2) (.pointer (some ⟨id, off, none⟩)) (.int .i64 1) = some (.pointer (some ⟨id, off + 1, none⟩)) := by
  simp [iadaA]
  omega
theorem toIntA2_rc (m : Mem) (a b : Int) : RC Try.prog 108 [.agg #[.int .i64 a, .int .i64 b]] m (AnsV (.agg #[.int .i64 a, .int .i64 b])) := by
  refine rc_of_run mixed ok_laws_toIntA2 (by simp) (go_start _ _ _ ?_)
  simp (config := {implicitDefEqProofs := false, maxDischargeDepth := 20}) (disch := first | omega | (simp only [lenE]; done) | (simp only [lenE]; omega) | rfl | (simp only [lenE, markR_len]; done) | (simp only [lenE, markR_len]; omega)) only [runE, mapE, listE, initT_5, initT_6, initT_7, initT_8, resV, oneV, binA, unA, reduceCtorEq, Nat.reduceEqDiff, Nat.reduceAdd, Nat.reduceLT, Nat.reduceLeDiff, Nat.reduceMul, Nat.reduceSub, ↓reduceIte, decide_true, decide_false, Bool.true_eq_false, Bool.false_eq_true, Bool.not_true, Bool.not_false, if_true, if_false, and_true, true_and, memE, celE, w64, Nat.zero_add, Nat.add_zero, Nat.mul_one, putL, and_self, ldn, c_laws_toIntA2, r_laws_toIntA2]
  refine loop_inv mixed (fun s => ∃ (k x y : Int), (k = 0 ∨ k = 1 ∨ k = 2) ∧ s.t 1 = .pointer (some ⟨m.length, 0, none⟩) ∧ s.t 2 = .pointer (some ⟨m.length + 1, 0, none⟩) ∧ s.t 3 = .pointer (some ⟨m.length + 2, 0, none⟩) ∧ s.t 4 = .int .i64 k ∧
      s.m = roM m ++ [⟨.own, 46, [.int .i64 a, .int .i64 b]⟩] ++ [⟨.own, 46, [.int .i64 0, .int .i64 0]⟩] ++ [⟨.own, 46, [.int .i64 x, .int .i64 y]⟩] ∧ (0 < k → x = a) ∧ (1 < k → y = b)) (fun s => 2 - (intOf (s.t 4)).toNat)
    ⟨0, 0, 0, .inl rfl, rfl, rfl, rfl, rfl, rfl, fun h => absurd h (by omega), fun h => absurd h (by omega)⟩ ?_
  rintro s ⟨k, x, y, hk, t1, t2, t3, t4, tm, hx, hy⟩
  rcases hk with rfl | rfl | rfl
  · simp (config := {implicitDefEqProofs := false, maxDischargeDepth := 20}) (disch := first | omega | (simp only [lenE]; done) | (simp only [lenE]; omega) | rfl | (simp only [lenE, markR_len]; done) | (simp only [lenE, markR_len]; omega)) only [runE, mapE, listE, initT_5, initT_6, initT_7, initT_8, resV, oneV, binA, unA, reduceCtorEq, Nat.reduceEqDiff, Nat.reduceAdd, Nat.reduceLT, Nat.reduceLeDiff, Nat.reduceMul, Nat.reduceSub, ↓reduceIte, decide_true, decide_false, Bool.true_eq_false, Bool.false_eq_true, Bool.not_true, Bool.not_false, if_true, if_false, and_true, true_and, memE, celE, w64, Nat.zero_add, Nat.add_zero, Nat.mul_one, putL, and_self, ldn, t1, t2, t3, t4, tm, iada_0, iada_1, show ((0 : Int) < 2) = True by simp]
    refine ⟨⟨1, a, y, by omega, rfl, rfl, fun _ => rfl, fun h => absurd h (by omega)⟩, ?_⟩
    simp [intOf]
  · have := hx (by omega)
    subst this
    simp (config := {implicitDefEqProofs := false, maxDischargeDepth := 20}) (disch := first | omega | (simp only [lenE]; done) | (simp only [lenE]; omega) | rfl | (simp only [lenE, markR_len]; done) | (simp only [lenE, markR_len]; omega)) only [runE, mapE, listE, initT_5, initT_6, initT_7, initT_8, resV, oneV, binA, unA, reduceCtorEq, Nat.reduceEqDiff, Nat.reduceAdd, Nat.reduceLT, Nat.reduceLeDiff, Nat.reduceMul, Nat.reduceSub, ↓reduceIte, decide_true, decide_false, Bool.true_eq_false, Bool.false_eq_true, Bool.not_true, Bool.not_false, if_true, if_false, and_true, true_and, memE, celE, w64, Nat.zero_add, Nat.add_zero, Nat.mul_one, putL, and_self, ldn, t1, t2, t3, t4, tm, iada_0, iada_1, show ((1 : Int) < 2) = True by simp]
    refine ⟨⟨2, x, b, by omega, rfl, rfl, fun _ => rfl, fun _ => rfl⟩, ?_⟩
    simp [intOf]
  · have := hx (by omega)
    have := hy (by omega)
    subst x
    subst y
    simp (config := {implicitDefEqProofs := false, maxDischargeDepth := 20}) (disch := first | omega | (simp only [lenE]; done) | (simp only [lenE]; omega) | rfl | (simp only [lenE, markR_len]; done) | (simp only [lenE, markR_len]; omega)) only [runE, mapE, listE, initT_5, initT_6, initT_7, initT_8, resV, oneV, binA, unA, reduceCtorEq, Nat.reduceEqDiff, Nat.reduceAdd, Nat.reduceLT, Nat.reduceLeDiff, Nat.reduceMul, Nat.reduceSub, ↓reduceIte, decide_true, decide_false, Bool.true_eq_false, Bool.false_eq_true, Bool.not_true, Bool.not_false, if_true, if_false, and_true, true_and, memE, celE, w64, Nat.zero_add, Nat.add_zero, Nat.mul_one, putL, and_self, ldn, t1, t2, t3, t4, tm, show ((2 : Int) < 2) = False by simp]
    try simp only [List.append_assoc, List.cons_append, List.nil_append, List.append_nil]
    exact ⟨_, rfl, by (repeat (first | exact noRo_nil | assumption | apply noRo_own | apply noRo_dead | apply noRo_app)), rfl, by (repeat (first | exact noRo_nil | assumption | apply noRo_own | apply noRo_dead | apply noRo_app))⟩
theorem eqIntA2_rc (m : Mem) (a b : Int) : RC Try.prog 107 [.agg #[.int .i64 a, .int .i64 b], .agg #[.int .i64 a, .int .i64 b]] m (AnsV (.bool true)) := by
  refine rc_of_run mixed ok_laws_eqIntA2 (by simp) (go_start _ _ _ ?_)
  simp (config := {implicitDefEqProofs := false, maxDischargeDepth := 20}) (disch := first | omega | (simp only [lenE]; done) | (simp only [lenE]; omega) | rfl | (simp only [lenE, markR_len]; done) | (simp only [lenE, markR_len]; omega)) only [runE, mapE, listE, initT_5, initT_6, initT_7, initT_8, resV, oneV, binA, unA, reduceCtorEq, Nat.reduceEqDiff, Nat.reduceAdd, Nat.reduceLT, Nat.reduceLeDiff, Nat.reduceMul, Nat.reduceSub, ↓reduceIte, decide_true, decide_false, Bool.true_eq_false, Bool.false_eq_true, Bool.not_true, Bool.not_false, if_true, if_false, and_true, true_and, memE, celE, w64, Nat.zero_add, Nat.add_zero, Nat.mul_one, putL, and_self, ldn, c_laws_eqIntA2, r_laws_eqIntA2]
  refine loop_inv mixed (fun s => ∃ (k : Int), (k = 0 ∨ k = 1 ∨ k = 2) ∧ s.t 2 = .pointer (some ⟨m.length, 0, none⟩) ∧ s.t 3 = .pointer (some ⟨m.length + 1, 0, none⟩) ∧ s.t 5 = .int .i64 k ∧
      s.m = roM m ++ [⟨.own, 46, [.int .i64 a, .int .i64 b]⟩] ++ [⟨.own, 46, [.int .i64 a, .int .i64 b]⟩]) (fun s => 2 - (intOf (s.t 5)).toNat)
    ⟨0, .inl rfl, rfl, rfl, rfl, rfl⟩ ?_
  rintro s ⟨k, hk, t2, t3, t5, tm⟩
  rcases hk with rfl | rfl | rfl
  · simp (config := {implicitDefEqProofs := false, maxDischargeDepth := 20}) (disch := first | omega | (simp only [lenE]; done) | (simp only [lenE]; omega) | rfl | (simp only [lenE, markR_len]; done) | (simp only [lenE, markR_len]; omega)) only [runE, mapE, listE, initT_5, initT_6, initT_7, initT_8, resV, oneV, binA, unA, reduceCtorEq, Nat.reduceEqDiff, Nat.reduceAdd, Nat.reduceLT, Nat.reduceLeDiff, Nat.reduceMul, Nat.reduceSub, ↓reduceIte, decide_true, decide_false, Bool.true_eq_false, Bool.false_eq_true, Bool.not_true, Bool.not_false, if_true, if_false, and_true, true_and, memE, celE, w64, Nat.zero_add, Nat.add_zero, Nat.mul_one, putL, and_self, ldn, t2, t3, t5, tm, iada_0, iada_1, bne_self_eq_false, show ((0 : Int) < 2) = True by simp]
    refine ⟨⟨1, by omega, rfl⟩, ?_⟩
    simp [intOf]
  · simp (config := {implicitDefEqProofs := false, maxDischargeDepth := 20}) (disch := first | omega | (simp only [lenE]; done) | (simp only [lenE]; omega) | rfl | (simp only [lenE, markR_len]; done) | (simp only [lenE, markR_len]; omega)) only [runE, mapE, listE, initT_5, initT_6, initT_7, initT_8, resV, oneV, binA, unA, reduceCtorEq, Nat.reduceEqDiff, Nat.reduceAdd, Nat.reduceLT, Nat.reduceLeDiff, Nat.reduceMul, Nat.reduceSub, ↓reduceIte, decide_true, decide_false, Bool.true_eq_false, Bool.false_eq_true, Bool.not_true, Bool.not_false, if_true, if_false, and_true, true_and, memE, celE, w64, Nat.zero_add, Nat.add_zero, Nat.mul_one, putL, and_self, ldn, t2, t3, t5, tm, iada_0, iada_1, bne_self_eq_false, show ((1 : Int) < 2) = True by simp]
    refine ⟨⟨2, by omega, rfl⟩, ?_⟩
    simp [intOf]
  · simp (config := {implicitDefEqProofs := false, maxDischargeDepth := 20}) (disch := first | omega | (simp only [lenE]; done) | (simp only [lenE]; omega) | rfl | (simp only [lenE, markR_len]; done) | (simp only [lenE, markR_len]; omega)) only [runE, mapE, listE, initT_5, initT_6, initT_7, initT_8, resV, oneV, binA, unA, reduceCtorEq, Nat.reduceEqDiff, Nat.reduceAdd, Nat.reduceLT, Nat.reduceLeDiff, Nat.reduceMul, Nat.reduceSub, ↓reduceIte, decide_true, decide_false, Bool.true_eq_false, Bool.false_eq_true, Bool.not_true, Bool.not_false, if_true, if_false, and_true, true_and, memE, celE, w64, Nat.zero_add, Nat.add_zero, Nat.mul_one, putL, and_self, ldn, t2, t3, t5, tm, show ((2 : Int) < 2) = False by simp]
    try simp only [List.append_assoc, List.cons_append, List.nil_append, List.append_nil]
    exact ⟨_, rfl, by (repeat (first | exact noRo_nil | assumption | apply noRo_own | apply noRo_dead | apply noRo_app)), rfl, by (repeat (first | exact noRo_nil | assumption | apply noRo_own | apply noRo_dead | apply noRo_app))⟩
theorem pairsC_ext {L : List (Int × Int)} {cs : List Value} (hl : cs.length = L.length * 2) (h : ∀ k, k < L.length → cs[k * 2]? = some (.int .i64 (L.getD k (0, 0)).1) ∧ cs[k * 2 + 1]? = some (.int .i64 (L.getD k (0, 0)).2)) : cs = pairsC L := by
  apply List.ext_getElem?
  intro i
  by_cases hi : i < L.length * 2
  · have p := pairsC_at L (i / 2) (by omega)
    have q := h (i / 2) (by omega)
    have ei : i = i / 2 * 2 ∨ i = i / 2 * 2 + 1 := by omega
    rcases ei with ei | ei
    · rw [← ei] at p q; rw [p.1, q.1]
    · rw [← ei] at p q; rw [p.2, q.2]
  · rw [List.getElem?_eq_none (by omega), List.getElem?_eq_none (by rw [pairsC_len]; omega)]
theorem pairC_ext' {L : List (Int × Int)} {k : Nat} : ((L.getD k (0, 0)).1, (L.getD k (0, 0)).2) = L.getD k (0, 0) := rfl
/-- Two cells of a pair set. -/
theorem set2_at {cs : List Value} {k j : Nat} {x y : Value} (h : k * 2 + 1 < cs.length) : ((cs.set (k * 2) x).set (k * 2 + 1) y)[j * 2]? = (if j = k then some x else cs[j * 2]?) ∧ ((cs.set (k * 2) x).set (k * 2 + 1) y)[j * 2 + 1]? = (if j = k then some y else cs[j * 2 + 1]?) := by
  constructor
  · rw [List.getElem?_set_ne (by omega)]
    by_cases e : j = k
    · subst e; rw [if_pos rfl, List.getElem?_set_self (by omega)]
    · rw [if_neg e, List.getElem?_set_ne (by omega)]
  · by_cases e : j = k
    · subst e; rw [if_pos rfl, List.getElem?_set_self (by rw [List.length_set]; omega)]
    · rw [if_neg e, List.getElem?_set_ne (by omega), List.getElem?_set_ne (by omega)]
theorem toIntA2S_rc (m : Mem) (v : Value) (L : List (Int × Int)) (h : PairsA m v L) (hl : L.length ≤ 1048576) :
    RC Try.prog 60 [v] m (AnsO m (PairsO 46 L) id) := by
  refine rc_of_run mixed ok_laws_toIntA2S (by simp) (go_start _ _ _ ?_)
  obtain ⟨hb, id, fl, rfl, hc⟩ := h.ro
  simp (config := {implicitDefEqProofs := false, maxDischargeDepth := 20}) (disch := first | omega | (simp only [lenE]; done) | (simp only [lenE]; omega) | rfl | (simp only [lenE, markR_len]; done) | (simp only [lenE, markR_len]; omega)) only [runE, mapE, listE, initT_5, initT_6, initT_7, initT_8, resV, oneV, binA, unA, reduceCtorEq, Nat.reduceEqDiff, Nat.reduceAdd, Nat.reduceLT, Nat.reduceLeDiff, Nat.reduceMul, Nat.reduceSub, ↓reduceIte, decide_true, decide_false, Bool.true_eq_false, Bool.false_eq_true, Bool.not_true, Bool.not_false, if_true, if_false, and_true, true_and, memE, celE, w64, Nat.zero_add, Nat.add_zero, Nat.mul_one, putL, and_self, ldn, c_laws_toIntA2S, r_laws_toIntA2S, mksA_eqs (byt := 16) (n := L.length) rfl (by omega)]
  refine loop_inv mixed (fun s => ∃ (k : Nat) (M : Mem) (cs : List Value), k ≤ L.length ∧ s.m = M ∧ Ext m M ∧ OwnB M m.length 46 cs ∧ cs.length = L.length * 2 ∧ (∀ j, j < k → cs[j * 2]? = some (.int .i64 (L.getD j (0, 0)).1) ∧ cs[j * 2 + 1]? = some (.int .i64 (L.getD j (0, 0)).2)) ∧
      s.t 0 = .slice (some ⟨id, 0, none⟩) L.length fl ∧ s.t 3 = .slice (some ⟨m.length, 0, none⟩) L.length 2 ∧ s.t 4 = .int .i64 k) (fun s => L.length - (intOf (s.t 4)).toNat)
    ⟨0, _, repL L.length [.int .i64 0, .int .i64 0], by omega, rfl, (Ext.refl m).one _ _, by have := OwnB.here (M := roM m) (e := 46) (cs := repL L.length [.int .i64 0, .int .i64 0]) (id := m.length) (roM_len m).symm; exact this, by rw [repL_len]; rfl, fun j hj => absurd hj (by omega), rfl, rfl, rfl⟩ ?_
  rintro s ⟨k, M, cs, hk, tm, hx, ho, hcl, hpre, t0, t3, t4⟩
  by_cases hlt : k < L.length
  · have hlt' : (k : Int) < L.length := by omega
    have r1 := hx.rd ((rdc_roM m id (k * 2)).symm.trans (hc k hlt).1)
    have r2 := hx.rd ((rdc_roM m id (k * 2 + 1)).symm.trans (hc k hlt).2)
    simp (config := {implicitDefEqProofs := false, maxDischargeDepth := 20}) (disch := first | omega | (simp only [lenE]; done) | (simp only [lenE]; omega) | rfl | (simp only [lenE, markR_len]; done) | (simp only [lenE, markR_len]; omega)) only [runE, mapE, listE, initT_5, initT_6, initT_7, initT_8, resV, oneV, binA, unA, reduceCtorEq, Nat.reduceEqDiff, Nat.reduceAdd, Nat.reduceLT, Nat.reduceLeDiff, Nat.reduceMul, Nat.reduceSub, ↓reduceIte, decide_true, decide_false, Bool.true_eq_false, Bool.false_eq_true, Bool.not_true, Bool.not_false, if_true, if_false, and_true, true_and, memE, celE, w64, Nat.zero_add, Nat.add_zero, Nat.mul_one, putL, and_self, ldn, tm, t0, t3, t4, hlt', iadA_in hlt, r1, r2]
    refine callH_rc (toIntA2_rc _ _ _) ?_
    rintro r new ⟨rfl, hn⟩
    have hst := (ho.ext new).st (off := k * 2) (vs := [.int .i64 (L.getD k (0, 0)).1, .int .i64 (L.getD k (0, 0)).2]) (by simp; omega) rfl
    simp (config := {implicitDefEqProofs := false, maxDischargeDepth := 20}) (disch := first | omega | (simp only [lenE]; done) | (simp only [lenE]; omega) | rfl | (simp only [lenE, markR_len]; done) | (simp only [lenE, markR_len]; omega)) only [runE, mapE, listE, initT_5, initT_6, initT_7, initT_8, resV, oneV, binA, unA, reduceCtorEq, Nat.reduceEqDiff, Nat.reduceAdd, Nat.reduceLT, Nat.reduceLeDiff, Nat.reduceMul, Nat.reduceSub, ↓reduceIte, decide_true, decide_false, Bool.true_eq_false, Bool.false_eq_true, Bool.not_true, Bool.not_false, if_true, if_false, and_true, true_and, memE, celE, w64, Nat.zero_add, Nat.add_zero, Nat.mul_one, putL, and_self, ldn, tm, t0, t3, t4, iadA_in hlt, hst]
    refine ⟨⟨k + 1, _, _, by omega, rfl, (hx.app hn).put (Nat.le_refl _) _ _, (ho.ext new).set_self _ _, by simp [putL, hcl], fun j hj => ?_, by simp⟩, ?_⟩
    · have s2 := set2_at (cs := cs) (k := k) (j := j) (x := .int .i64 (L.getD k (0, 0)).1) (y := .int .i64 (L.getD k (0, 0)).2) (by omega)
      try simp only [putL]
      rw [s2.1, s2.2]
      by_cases e : j = k
      · rw [if_pos e, if_pos e, e]; exact ⟨rfl, rfl⟩
      · rw [if_neg e, if_neg e]; exact hpre j (by omega)
    · simp [intOf]; omega
  · have hlt' : ¬ ((k : Int) < L.length) := by omega
    have e : k = L.length := by omega
    subst e
    simp (config := {implicitDefEqProofs := false, maxDischargeDepth := 20}) (disch := first | omega | (simp only [lenE]; done) | (simp only [lenE]; omega) | rfl | (simp only [lenE, markR_len]; done) | (simp only [lenE, markR_len]; omega)) only [runE, mapE, listE, initT_5, initT_6, initT_7, initT_8, resV, oneV, binA, unA, reduceCtorEq, Nat.reduceEqDiff, Nat.reduceAdd, Nat.reduceLT, Nat.reduceLeDiff, Nat.reduceMul, Nat.reduceSub, ↓reduceIte, decide_true, decide_false, Bool.true_eq_false, Bool.false_eq_true, Bool.not_true, Bool.not_false, if_true, if_false, and_true, true_and, memE, celE, w64, Nat.zero_add, Nat.add_zero, Nat.mul_one, putL, and_self, ldn, tm, t0, t3, t4, hlt']
    have hcs := pairsC_ext hcl hpre
    subst hcs
    refine ext_ansO (f := _root_.id) hx fun M' hM => ⟨hl, m.length, 2, rfl, Nat.le_refl _, ho.lt, ho.at_ (hM _ (Nat.le_refl _) ho.lt)⟩
theorem eqIntA2S_rc (m : Mem) (v u : Value) (L : List (Int × Int)) (h : PairsA m v L) (h' : PairsA m u L) : RC Try.prog 55 [v, u] m (AnsV (.bool true)) := by
  refine rc_of_run mixed ok_laws_eqIntA2S (by simp) (go_start _ _ _ ?_)
  obtain ⟨hb, id, fl, rfl, hc⟩ := h.ro
  obtain ⟨-, id', fl', rfl, hc'⟩ := h'.ro
  simp (config := {implicitDefEqProofs := false, maxDischargeDepth := 20}) (disch := first | omega | (simp only [lenE]; done) | (simp only [lenE]; omega) | rfl | (simp only [lenE, markR_len]; done) | (simp only [lenE, markR_len]; omega)) only [runE, mapE, listE, initT_5, initT_6, initT_7, initT_8, resV, oneV, binA, unA, reduceCtorEq, Nat.reduceEqDiff, Nat.reduceAdd, Nat.reduceLT, Nat.reduceLeDiff, Nat.reduceMul, Nat.reduceSub, ↓reduceIte, decide_true, decide_false, Bool.true_eq_false, Bool.false_eq_true, Bool.not_true, Bool.not_false, if_true, if_false, and_true, true_and, memE, celE, w64, Nat.zero_add, Nat.add_zero, Nat.mul_one, putL, and_self, ldn, c_laws_eqIntA2S, r_laws_eqIntA2S, bne_self_eq_false]
  refine loop_inv mixed (fun s => ∃ (k : Nat) (M : Mem), k ≤ L.length ∧ s.m = M ∧ Ext m M ∧ s.t 0 = .slice (some ⟨id, 0, none⟩) L.length fl ∧ s.t 1 = .slice (some ⟨id', 0, none⟩) L.length fl' ∧ s.t 5 = .int .i64 k) (fun s => L.length - (intOf (s.t 5)).toNat)
    ⟨0, _, by omega, rfl, Ext.refl m, rfl, rfl, rfl⟩ ?_
  rintro s ⟨k, M, hk, tm, hx, t0, t1, t5⟩
  by_cases hlt : k < L.length
  · have hlt' : (k : Int) < L.length := by omega
    have r1 := hx.rd ((rdc_roM m id (k * 2)).symm.trans (hc k hlt).1)
    have r2 := hx.rd ((rdc_roM m id (k * 2 + 1)).symm.trans (hc k hlt).2)
    have r3 := hx.rd ((rdc_roM m id' (k * 2)).symm.trans (hc' k hlt).1)
    have r4 := hx.rd ((rdc_roM m id' (k * 2 + 1)).symm.trans (hc' k hlt).2)
    simp (config := {implicitDefEqProofs := false, maxDischargeDepth := 20}) (disch := first | omega | (simp only [lenE]; done) | (simp only [lenE]; omega) | rfl | (simp only [lenE, markR_len]; done) | (simp only [lenE, markR_len]; omega)) only [runE, mapE, listE, initT_5, initT_6, initT_7, initT_8, resV, oneV, binA, unA, reduceCtorEq, Nat.reduceEqDiff, Nat.reduceAdd, Nat.reduceLT, Nat.reduceLeDiff, Nat.reduceMul, Nat.reduceSub, ↓reduceIte, decide_true, decide_false, Bool.true_eq_false, Bool.false_eq_true, Bool.not_true, Bool.not_false, if_true, if_false, and_true, true_and, memE, celE, w64, Nat.zero_add, Nat.add_zero, Nat.mul_one, putL, and_self, ldn, tm, t0, t1, t5, hlt', iadA_in hlt, r1, r2, r3, r4]
    refine rcallH_rc (eqIntA2_rc _ _ _) ?_
    rintro r new ⟨rfl, hn⟩
    simp (config := {implicitDefEqProofs := false, maxDischargeDepth := 20}) (disch := first | omega | (simp only [lenE]; done) | (simp only [lenE]; omega) | rfl | (simp only [lenE, markR_len]; done) | (simp only [lenE, markR_len]; omega)) only [runE, mapE, listE, initT_5, initT_6, initT_7, initT_8, resV, oneV, binA, unA, reduceCtorEq, Nat.reduceEqDiff, Nat.reduceAdd, Nat.reduceLT, Nat.reduceLeDiff, Nat.reduceMul, Nat.reduceSub, ↓reduceIte, decide_true, decide_false, Bool.true_eq_false, Bool.false_eq_true, Bool.not_true, Bool.not_false, if_true, if_false, and_true, true_and, memE, celE, w64, Nat.zero_add, Nat.add_zero, Nat.mul_one, putL, and_self, ldn, tm, t0, t1, t5]
    refine ⟨⟨k + 1, _, by omega, rfl, hx.app hn, by simp⟩, ?_⟩
    simp [intOf]; omega
  · have hlt' : ¬ ((k : Int) < L.length) := by omega
    simp (config := {implicitDefEqProofs := false, maxDischargeDepth := 20}) (disch := first | omega | (simp only [lenE]; done) | (simp only [lenE]; omega) | rfl | (simp only [lenE, markR_len]; done) | (simp only [lenE, markR_len]; omega)) only [runE, mapE, listE, initT_5, initT_6, initT_7, initT_8, resV, oneV, binA, unA, reduceCtorEq, Nat.reduceEqDiff, Nat.reduceAdd, Nat.reduceLT, Nat.reduceLeDiff, Nat.reduceMul, Nat.reduceSub, ↓reduceIte, decide_true, decide_false, Bool.true_eq_false, Bool.false_eq_true, Bool.not_true, Bool.not_false, if_true, if_false, and_true, true_and, memE, celE, w64, Nat.zero_add, Nat.add_zero, Nat.mul_one, putL, and_self, ldn, tm, t0, t1, t5, hlt']
    obtain ⟨n0, rfl, h0⟩ := hx
    exact ⟨n0, rfl, h0, rfl, h0⟩
end Go.Proofs.Ytddnedngjijpoaa.Ab
