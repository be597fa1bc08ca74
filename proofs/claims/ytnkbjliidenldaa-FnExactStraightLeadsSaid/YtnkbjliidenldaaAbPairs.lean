/- The laws' helpers over pairs: szIntA2S, toIntA2S, eqIntA2S, markIntA2S, heldIntA2S. -/
import Derived.Test.YtnkbjliidenldaaAbObj
namespace Go.Proofs.Ytnkbjliidenldaa.Ab
open Go Go.RowKit
set_option linter.unusedVariables false
set_option linter.unusedSimpArgs false

theorem iada_0 (id off n : Nat) : iadaA 1 (n + 1) (.pointer (some ⟨id, off, none⟩)) (.int .i64 0) = some (.pointer (some ⟨id, off, none⟩)) := by
  simp [iadaA]
theorem iada_1 (id off n : Nat) : iadaA 1 (n + 2) (.pointer (some ⟨id, off, none⟩)) (.int .i64 1) = some (.pointer (some ⟨id, off + 1, none⟩)) := by
  simp [iadaA]
  omega
theorem eqIntA2_rc (m : Mem) (a b : Int) : RC Try.prog 108 [.agg #[.int .i64 a, .int .i64 b], .agg #[.int .i64 a, .int .i64 b]] m (AnsV (.bool true)) := by
  refine rc_of_run mixed ok_laws_eqIntA2 (by simp) (go_start _ _ _ ?_)
  simp (config := {implicitDefEqProofs := false, maxDischargeDepth := 20}) (disch := first | omega | (simp only [lenE]; done) | (simp only [lenE]; omega) | rfl | (simp only [lenE, markR_len]; done) | (simp only [lenE, markR_len]; omega)) only [runE, mapE, listE, initT_5, initT_6, initT_7, initT_8, resV, oneV, binA, unA, reduceCtorEq, Nat.reduceEqDiff, Nat.reduceAdd, Nat.reduceLT, Nat.reduceLeDiff, Nat.reduceMul, Nat.reduceSub, ↓reduceIte, decide_true, decide_false, Bool.true_eq_false, Bool.false_eq_true, Bool.not_true, Bool.not_false, if_true, if_false, and_true, true_and, memE, celE, w64, Nat.zero_add, Nat.add_zero, Nat.mul_one, putL, and_self, ldn, c_laws_eqIntA2, r_laws_eqIntA2]
  refine loop_inv mixed (fun s => ∃ (k : Int), (k = 0 ∨ k = 1 ∨ k = 2) ∧ s.t 2 = .pointer (some ⟨m.length, 0, none⟩) ∧ s.t 3 = .pointer (some ⟨m.length + 1, 0, none⟩) ∧ s.t 5 = .int .i64 k ∧
      s.m = roM m ++ [⟨.own, 117, [.int .i64 a, .int .i64 b]⟩] ++ [⟨.own, 117, [.int .i64 a, .int .i64 b]⟩]) (fun s => 2 - (intOf (s.t 5)).toNat)
    ⟨0, .inl rfl, rfl, rfl, rfl, rfl⟩ ?_
  rintro s ⟨k, hk, t2, t3, t5, tm⟩
  rcases hk with rfl | rfl | rfl
  · simp (config := {implicitDefEqProofs := false, maxDischargeDepth := 20}) (disch := first | omega | (simp only [lenE]; done) | (simp only [lenE]; omega) | rfl | (simp only [lenE, markR_len]; done) | (simp only [lenE, markR_len]; omega)) only [runE, mapE, listE, initT_5, initT_6, initT_7, initT_8, resV, oneV, binA, unA, reduceCtorEq, Nat.reduceEqDiff, Nat.reduceAdd, Nat.reduceLT, Nat.reduceLeDiff, Nat.reduceMul, Nat.reduceSub, ↓reduceIte, decide_true, decide_false, Bool.true_eq_false, Bool.false_eq_true, Bool.not_true, Bool.not_false, if_true, if_false, and_true, true_and, memE, celE, w64, Nat.zero_add, Nat.add_zero, Nat.mul_one, putL, and_self, ldn, t2, t3, t5, tm, iada_0, iada_1, bne_self_eq_false, show ((0 : Int) < 2) = True by simp]
    refine ⟨⟨1, by omega, rfl⟩, ?_⟩
    simp [intOf]
  · simp (config := {implicitDefEqProofs := false, maxDischargeDepth := 20}) (disch := first | omega | (simp only [lenE]; done) | (simp only [lenE]; omega) | rfl | (simp only [lenE, markR_len]; done) | (simp only [lenE, markR_len]; omega)) only [runE, mapE, listE, initT_5, initT_6, initT_7, initT_8, resV, oneV, binA, unA, reduceCtorEq, Nat.reduceEqDiff, Nat.reduceAdd, Nat.reduceLT, Nat.reduceLeDiff, Nat.reduceMul, Nat.reduceSub, ↓reduceIte, decide_true, decide_false, Bool.true_eq_false, Bool.false_eq_true, Bool.not_true, Bool.not_false, if_true, if_false, and_true, true_and, memE, celE, w64, Nat.zero_add, Nat.add_zero, Nat.mul_one, putL, and_self, ldn, t2, t3, t5, tm, iada_0, iada_1, bne_self_eq_false, show ((1 : Int) < 2) = True by simp]
    refine ⟨⟨2, by omega, rfl⟩, ?_⟩
    simp [intOf]
  · simp (config := {implicitDefEqProofs := false, maxDischargeDepth := 20}) (disch := first | omega | (simp only [lenE]; done) | (simp only [lenE]; omega) | rfl | (simp only [lenE, markR_len]; done) | (simp only [lenE, markR_len]; omega)) only [runE, mapE, listE, initT_5, initT_6, initT_7, initT_8, resV, oneV, binA, unA, reduceCtorEq, Nat.reduceEqDiff, Nat.reduceAdd, Nat.reduceLT, Nat.reduceLeDiff, Nat.reduceMul, Nat.reduceSub, ↓reduceIte, decide_true, decide_false, Bool.true_eq_false, Bool.false_eq_true, Bool.not_true, Bool.not_false, if_true, if_false, and_true, true_and, memE, celE, w64, Nat.zero_add, Nat.add_zero, Nat.mul_one, putL, and_self, ldn, t2, t3, t5, tm, show ((2 : Int) < 2) = False by simp]
    try simp only [List.append_assoc, List.cons_append, List.nil_append, List.append_nil]
    exact ⟨_, rfl, by (repeat (first | exact noRo_nil | assumption | apply noRo_own | apply noRo_dead | apply noRo_app)), rfl, by (repeat (first | exact noRo_nil | assumption | apply noRo_own | apply noRo_dead | apply noRo_app))⟩
theorem pairsC_ext {L : List (Int × Int)} {cs : List Value} (hl : cs.length = L.length * 2) (h : ∀ k, k < L.length → cs[k * 2]? = some (.int .i64 (L.getD k (0, 0)).1) ∧ cs[k * 2 + 1]? = some (.int .i64 (L.getD k (0, 0)).2)) : cs = pairsC L := by
  apply List.ext_getElem?
  intro i
  by_cases hi : i < L.length * 2
  · have p := pairsC_at L (i / 2) (by omega)
    have q := h (i / 2) (by omega)
    have ei : i = i / 2 * 2 ∨ i = i / 2 * 2 + 1 := by omega
    rcases ei with ei | ei
    · rw [← ei] at p q; rw [p.1, q.1]
    · rw [← ei] at p q; rw [p.2, q.2]
  · rw [List.getElem?_eq_none (by omega), List.getElem?_eq_none (by rw [pairsC_len]; omega)]
theorem pairC_ext' {L : List (Int × Int)} {k : Nat} : ((L.getD k (0, 0)).1, (L.getD k (0, 0)).2) = L.getD k (0, 0) := rfl
/-- Two cells of a pair set. -/
theorem set2_at {cs : List Value} {k j : Nat} {x y : Value} (h : k * 2 + 1 < cs.length) : ((cs.set (k * 2) x).set (k * 2 + 1) y)[j * 2]? = (if j = k then some x else cs[j * 2]?) ∧ ((cs.set (k * 2) x).set (k * 2 + 1) y)[j * 2 + 1]? = (if j = k then some y else cs[j * 2 + 1]?) := by
  constructor
  · rw [List.getElem?_set_ne (by omega)]
    by_cases e : j = k
    · subst e; rw [if_pos rfl, List.getElem?_set_self (by omega)]
    · rw [if_neg e, List.getElem?_set_ne (by omega)]
  · by_cases e : j = k
    · subst e; rw [if_pos rfl, List.getElem?_set_self (by rw [List.length_set]; omega)]
    · rw [if_neg e, List.getElem?_set_ne (by omega), List.getElem?_set_ne (by omega)]
theorem eqIntA2S_rc (m : Mem) (v u : Value) (L : List (Int × Int)) (h : PairsA m v L) (h' : PairsA m u L) : RC Try.prog 58 [v, u] m (AnsV (.bool true)) := by
  refine rc_of_run mixed ok_laws_eqIntA2S (by simp) (go_start _ _ _ ?_)
  obtain ⟨hb, id, fl, rfl, hc⟩ := h.ro
  obtain ⟨-, id', fl', rfl, hc'⟩ := h'.ro
  simp (config := {implicitDefEqProofs := false, maxDischargeDepth := 20}) (disch := first | omega | (simp only [lenE]; done) | (simp only [lenE]; omega) | rfl | (simp only [lenE, markR_len]; done) | (simp only [lenE, markR_len]; omega)) only [runE, mapE, listE, initT_5, initT_6, initT_7, initT_8, resV, oneV, binA, unA, reduceCtorEq, Nat.reduceEqDiff, Nat.reduceAdd, Nat.reduceLT, Nat.reduceLeDiff, Nat.reduceMul, Nat.reduceSub, ↓reduceIte, decide_true, decide_false, Bool.true_eq_false, Bool.false_eq_true, Bool.not_true, Bool.not_false, if_true, if_false, and_true, true_and, memE, celE, w64, Nat.zero_add, Nat.add_zero, Nat.mul_one, putL, and_self, ldn, c_laws_eqIntA2S, r_laws_eqIntA2S, bne_self_eq_false]
  refine loop_inv mixed (fun s => ∃ (k : Nat) (M : Mem), k ≤ L.length ∧ s.m = M ∧ Ext m M ∧ s.t 0 = .slice (some ⟨id, 0, none⟩) L.length fl ∧ s.t 1 = .slice (some ⟨id', 0, none⟩) L.length fl' ∧ s.t 5 = .int .i64 k) (fun s => L.length - (intOf (s.t 5)).toNat)
    ⟨0, _, by omega, rfl, Ext.refl m, rfl, rfl, rfl⟩ ?_
  rintro s ⟨k, M, hk, tm, hx, t0, t1, t5⟩
  by_cases hlt : k < L.length
  · have hlt' : (k : Int) < L.length := by omega
    have r1 := hx.rd ((rdc_roM m id (k * 2)).symm.trans (hc k hlt).1)
    have r2 := hx.rd ((rdc_roM m id (k * 2 + 1)).symm.trans (hc k hlt).2)
    have r3 := hx.rd ((rdc_roM m id' (k * 2)).symm.trans (hc' k hlt).1)
    have r4 := hx.rd ((rdc_roM m id' (k * 2 + 1)).symm.trans (hc' k hlt).2)
    simp (config := {implicitDefEqProofs := false, maxDischargeDepth := 20}) (disch := first | omega | (simp only [lenE]; done) | (simp only [lenE]; omega) | rfl | (simp only [lenE, markR_len]; done) | (simp only [lenE, markR_len]; omega)) only [runE, mapE, listE, initT_5, initT_6, initT_7, initT_8, resV, oneV, binA, unA, reduceCtorEq, Nat.reduceEqDiff, Nat.reduceAdd, Nat.reduceLT, Nat.reduceLeDiff, Nat.reduceMul, Nat.reduceSub, ↓reduceIte, decide_true, decide_false, Bool.true_eq_false, Bool.false_eq_true, Bool.not_true, Bool.not_false, if_true, if_false, and_true, true_and, memE, celE, w64, Nat.zero_add, Nat.add_zero, Nat.mul_one, putL, and_self, ldn, tm, t0, t1, t5, hlt', iadA_in hlt, r1, r2, r3, r4]
    refine rcallH_rc (eqIntA2_rc _ _ _) ?_
    rintro r new ⟨rfl, hn⟩
    simp (config := {implicitDefEqProofs := false, maxDischargeDepth := 20}) (disch := first | omega | (simp only [lenE]; done) | (simp only [lenE]; omega) | rfl | (simp only [lenE, markR_len]; done) | (simp only [lenE, markR_len]; omega)) only [runE, mapE, listE, initT_5, initT_6, initT_7, initT_8, resV, oneV, binA, unA, reduceCtorEq, Nat.reduceEqDiff, Nat.reduceAdd, Nat.reduceLT, Nat.reduceLeDiff, Nat.reduceMul, Nat.reduceSub, ↓reduceIte, decide_true, decide_false, Bool.true_eq_false, Bool.false_eq_true, Bool.not_true, Bool.not_false, if_true, if_false, and_true, true_and, memE, celE, w64, Nat.zero_add, Nat.add_zero, Nat.mul_one, putL, and_self, ldn, tm, t0, t1, t5]
    refine ⟨⟨k + 1, _, by omega, rfl, hx.app hn, by simp⟩, ?_⟩
    simp [intOf]; omega
  · have hlt' : ¬ ((k : Int) < L.length) := by omega
    simp (config := {implicitDefEqProofs := false, maxDischargeDepth := 20}) (disch := first | omega | (simp only [lenE]; done) | (simp only [lenE]; omega) | rfl | (simp only [lenE, markR_len]; done) | (simp only [lenE, markR_len]; omega)) only [runE, mapE, listE, initT_5, initT_6, initT_7, initT_8, resV, oneV, binA, unA, reduceCtorEq, Nat.reduceEqDiff, Nat.reduceAdd, Nat.reduceLT, Nat.reduceLeDiff, Nat.reduceMul, Nat.reduceSub, ↓reduceIte, decide_true, decide_false, Bool.true_eq_false, Bool.false_eq_true, Bool.not_true, Bool.not_false, if_true, if_false, and_true, true_and, memE, celE, w64, Nat.zero_add, Nat.add_zero, Nat.mul_one, putL, and_self, ldn, tm, t0, t1, t5, hlt']
    obtain ⟨n0, rfl, h0⟩ := hx
    exact ⟨n0, rfl, h0, rfl, h0⟩
end Go.Proofs.Ytnkbjliidenldaa.Ab
