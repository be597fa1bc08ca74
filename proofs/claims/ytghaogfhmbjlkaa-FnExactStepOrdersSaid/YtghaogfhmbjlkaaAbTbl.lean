/- The laws' helpers over tables: szIntSS, toIntSS, eqIntSS, markIntSS, heldIntSS. -/
import Derived.Test.YtghaogfhmbjlkaaAbObj
namespace Go.Proofs.Ytghaogfhmbjlkaa.Ab
open Go Go.RowKit
set_option linter.unusedVariables false
set_option linter.unusedSimpArgs false

theorem TabA.xt {m M : Mem} {v : Value} {T : List (List Int)} (h : TabA m v T) (hx : Ext m M) : TabA M v T := by
  obtain ⟨n0, rfl, _⟩ := hx
  exact h.ro.ext n0
theorem szIntSS_rc (m : Mem) (v : Value) (T : List (List Int)) (left : Int) (h : TabA m v T) (h0 : 0 ≤ left) (h1 : left ≤ 1048576) :
    RC Try.prog 16 [v, .int .i64 left] m fun r new => NoRo new ∧ ((r = .int .i64 (-1)) ∨ ∃ z : Int, 0 ≤ z ∧ z ≤ left ∧ r = .int .i64 z ∧ T.length ≤ 1048576 ∧ tsz T T.length ≤ 1048576) := by
  refine rc_of_run mixed ok_laws_szIntSS (by simp) (go_start _ _ _ ?_)
  have hr := h.ro
  have hb := hr.bd
  by_cases hn : left - (T.length : Int) < 0
  · simp (config := {implicitDefEqProofs := false, maxDischargeDepth := 20}) (disch := first | omega | (simp only [lenE]; done) | (simp only [lenE]; omega) | rfl | (simp only [lenE, markR_len]; done) | (simp only [lenE, markR_len]; omega)) only [runE, mapE, listE, initT_5, initT_6, initT_7, initT_8, resV, oneV, binA, unA, reduceCtorEq, Nat.reduceEqDiff, Nat.reduceAdd, Nat.reduceLT, Nat.reduceLeDiff, Nat.reduceMul, Nat.reduceSub, ↓reduceIte, decide_true, decide_false, Bool.true_eq_false, Bool.false_eq_true, Bool.not_true, Bool.not_false, if_true, if_false, and_true, true_and, memE, celE, w64, Nat.zero_add, Nat.add_zero, Nat.mul_one, putL, and_self, ldn, c_laws_szIntSS, r_laws_szIntSS, hr.len, hn]
    exact newQ_nil ⟨noRo_nil, .inl rfl⟩
  · simp (config := {implicitDefEqProofs := false, maxDischargeDepth := 20}) (disch := first | omega | (simp only [lenE]; done) | (simp only [lenE]; omega) | rfl | (simp only [lenE, markR_len]; done) | (simp only [lenE, markR_len]; omega)) only [runE, mapE, listE, initT_5, initT_6, initT_7, initT_8, resV, oneV, binA, unA, reduceCtorEq, Nat.reduceEqDiff, Nat.reduceAdd, Nat.reduceLT, Nat.reduceLeDiff, Nat.reduceMul, Nat.reduceSub, ↓reduceIte, decide_true, decide_false, Bool.true_eq_false, Bool.false_eq_true, Bool.not_true, Bool.not_false, if_true, if_false, and_true, true_and, memE, celE, w64, Nat.zero_add, Nat.add_zero, Nat.mul_one, putL, and_self, ldn, c_laws_szIntSS, r_laws_szIntSS, hr.len, hn]
    refine loop_inv mixed (fun s => ∃ (k : Nat) (M : Mem) (z : Int), k ≤ T.length ∧ s.m = M ∧ Ext m M ∧ 0 ≤ z ∧ z + tsz T k + T.length = left ∧ s.t 0 = v ∧ s.t 1 = .int .i64 z ∧ s.t 5 = .int .i64 k) (fun s => T.length - (intOf (s.t 5)).toNat)
      ⟨0, _, left - T.length, by omega, rfl, Ext.refl m, by omega, by simp [tsz], rfl, rfl, rfl⟩ ?_
    rintro s ⟨k, M, z, hk, tm, hx, hz0, hz, t0, t1, t5⟩
    have hs := tsz_nonneg T k
    by_cases hlt : k < T.length
    · have hlt' : (k : Int) < T.length := by omega
      have hi := h.xt hx
      obtain ⟨u, hu, hl⟩ := hi.ld k hlt
      simp (config := {implicitDefEqProofs := false, maxDischargeDepth := 20}) (disch := first | omega | (simp only [lenE]; done) | (simp only [lenE]; omega) | rfl | (simp only [lenE, markR_len]; done) | (simp only [lenE, markR_len]; omega)) only [runE, mapE, listE, initT_5, initT_6, initT_7, initT_8, resV, oneV, binA, unA, reduceCtorEq, Nat.reduceEqDiff, Nat.reduceAdd, Nat.reduceLT, Nat.reduceLeDiff, Nat.reduceMul, Nat.reduceSub, ↓reduceIte, decide_true, decide_false, Bool.true_eq_false, Bool.false_eq_true, Bool.not_true, Bool.not_false, if_true, if_false, and_true, true_and, memE, celE, w64, Nat.zero_add, Nat.add_zero, Nat.mul_one, putL, and_self, ldn, tm, t0, t1, t5, hlt', hi.len, hi.at_ k hlt, hu]
      refine callH_rc (szIntS_rc _ u _ z hl hz0 (by omega)) ?_
      rintro r new ⟨rfl, rfl⟩
      by_cases hm : z - ((T.getD k []).length : Int) < 0
      · rw [if_pos hm]
        simp (config := {implicitDefEqProofs := false, maxDischargeDepth := 20}) (disch := first | omega | (simp only [lenE]; done) | (simp only [lenE]; omega) | rfl | (simp only [lenE, markR_len]; done) | (simp only [lenE, markR_len]; omega)) only [runE, mapE, listE, initT_5, initT_6, initT_7, initT_8, resV, oneV, binA, unA, reduceCtorEq, Nat.reduceEqDiff, Nat.reduceAdd, Nat.reduceLT, Nat.reduceLeDiff, Nat.reduceMul, Nat.reduceSub, ↓reduceIte, decide_true, decide_false, Bool.true_eq_false, Bool.false_eq_true, Bool.not_true, Bool.not_false, if_true, if_false, and_true, true_and, memE, celE, w64, Nat.zero_add, Nat.add_zero, Nat.mul_one, putL, and_self, ldn, tm, t0, t1, t5, show ((-1 : Int) < 0) = True by simp]
        obtain ⟨n0, rfl, hn0⟩ := hx
        exact ⟨n0, rfl, hn0, hn0, .inl rfl⟩
      · rw [if_neg hm]
        have hz0' : 0 ≤ z - ((T.getD k []).length : Int) := by omega
        have hz' : z - ((T.getD k []).length : Int) + tsz T (k + 1) + T.length = left := by simp only [tsz]; omega
        simp (config := {implicitDefEqProofs := false, maxDischargeDepth := 20}) (disch := first | omega | (simp only [lenE]; done) | (simp only [lenE]; omega) | rfl | (simp only [lenE, markR_len]; done) | (simp only [lenE, markR_len]; omega)) only [runE, mapE, listE, initT_5, initT_6, initT_7, initT_8, resV, oneV, binA, unA, reduceCtorEq, Nat.reduceEqDiff, Nat.reduceAdd, Nat.reduceLT, Nat.reduceLeDiff, Nat.reduceMul, Nat.reduceSub, ↓reduceIte, decide_true, decide_false, Bool.true_eq_false, Bool.false_eq_true, Bool.not_true, Bool.not_false, if_true, if_false, and_true, true_and, memE, celE, w64, Nat.zero_add, Nat.add_zero, Nat.mul_one, putL, and_self, ldn, tm, t0, t1, t5, hm]
        refine ⟨⟨k + 1, _, _, by omega, rfl, hx, hz0', hz', rfl, by simp⟩, ?_⟩
        simp [intOf]; omega
    · have hlt' : ¬ ((k : Int) < T.length) := by omega
      have e : k = T.length := by omega
      have hi := h.xt hx
      simp (config := {implicitDefEqProofs := false, maxDischargeDepth := 20}) (disch := first | omega | (simp only [lenE]; done) | (simp only [lenE]; omega) | rfl | (simp only [lenE, markR_len]; done) | (simp only [lenE, markR_len]; omega)) only [runE, mapE, listE, initT_5, initT_6, initT_7, initT_8, resV, oneV, binA, unA, reduceCtorEq, Nat.reduceEqDiff, Nat.reduceAdd, Nat.reduceLT, Nat.reduceLeDiff, Nat.reduceMul, Nat.reduceSub, ↓reduceIte, decide_true, decide_false, Bool.true_eq_false, Bool.false_eq_true, Bool.not_true, Bool.not_false, if_true, if_false, and_true, true_and, memE, celE, w64, Nat.zero_add, Nat.add_zero, Nat.mul_one, putL, and_self, ldn, tm, t0, t1, t5, hlt', hi.len]
      obtain ⟨n0, rfl, hn0⟩ := hx
      rw [e] at hz hs
      exact ⟨n0, rfl, hn0, hn0, .inr ⟨z, hz0, by omega, rfl, by omega, by omega⟩⟩
theorem eqIntSS_rc (m : Mem) (v u : Value) (T : List (List Int)) (h : TabA m v T) (h' : TabA m u T) : RC Try.prog 22 [v, u] m (AnsV (.bool true)) := by
  refine rc_of_run mixed ok_laws_eqIntSS (by simp) (go_start _ _ _ ?_)
  have hr := h.ro
  have hr' := h'.ro
  have hb := hr.bd
  simp (config := {implicitDefEqProofs := false, maxDischargeDepth := 20}) (disch := first | omega | (simp only [lenE]; done) | (simp only [lenE]; omega) | rfl | (simp only [lenE, markR_len]; done) | (simp only [lenE, markR_len]; omega)) only [runE, mapE, listE, initT_5, initT_6, initT_7, initT_8, resV, oneV, binA, unA, reduceCtorEq, Nat.reduceEqDiff, Nat.reduceAdd, Nat.reduceLT, Nat.reduceLeDiff, Nat.reduceMul, Nat.reduceSub, ↓reduceIte, decide_true, decide_false, Bool.true_eq_false, Bool.false_eq_true, Bool.not_true, Bool.not_false, if_true, if_false, and_true, true_and, memE, celE, w64, Nat.zero_add, Nat.add_zero, Nat.mul_one, putL, and_self, ldn, c_laws_eqIntSS, r_laws_eqIntSS, hr.len, hr'.len, bne_self_eq_false]
  refine loop_inv mixed (fun s => ∃ (k : Nat), k ≤ T.length ∧ s.m = roM m ∧ s.t 0 = v ∧ s.t 1 = u ∧ s.t 5 = .int .i64 k) (fun s => T.length - (intOf (s.t 5)).toNat)
    ⟨0, by omega, rfl, rfl, rfl, rfl⟩ ?_
  rintro s ⟨k, hk, tm, t0, t1, t5⟩
  by_cases hlt : k < T.length
  · have hlt' : (k : Int) < T.length := by omega
    obtain ⟨x, hx, hl⟩ := hr.ld k hlt
    obtain ⟨y, hy, hl'⟩ := hr'.ld k hlt
    simp (config := {implicitDefEqProofs := false, maxDischargeDepth := 20}) (disch := first | omega | (simp only [lenE]; done) | (simp only [lenE]; omega) | rfl | (simp only [lenE, markR_len]; done) | (simp only [lenE, markR_len]; omega)) only [runE, mapE, listE, initT_5, initT_6, initT_7, initT_8, resV, oneV, binA, unA, reduceCtorEq, Nat.reduceEqDiff, Nat.reduceAdd, Nat.reduceLT, Nat.reduceLeDiff, Nat.reduceMul, Nat.reduceSub, ↓reduceIte, decide_true, decide_false, Bool.true_eq_false, Bool.false_eq_true, Bool.not_true, Bool.not_false, if_true, if_false, and_true, true_and, memE, celE, w64, Nat.zero_add, Nat.add_zero, Nat.mul_one, putL, and_self, ldn, tm, t0, t1, t5, hlt', hr.len, hr.at_ k hlt, hr'.at_ k hlt, hx, hy]
    refine rcallH_rc (eqIntS_rc _ x y _ hl hl') ?_
    rintro r new ⟨rfl, rfl⟩
    simp (config := {implicitDefEqProofs := false, maxDischargeDepth := 20}) (disch := first | omega | (simp only [lenE]; done) | (simp only [lenE]; omega) | rfl | (simp only [lenE, markR_len]; done) | (simp only [lenE, markR_len]; omega)) only [runE, mapE, listE, initT_5, initT_6, initT_7, initT_8, resV, oneV, binA, unA, reduceCtorEq, Nat.reduceEqDiff, Nat.reduceAdd, Nat.reduceLT, Nat.reduceLeDiff, Nat.reduceMul, Nat.reduceSub, ↓reduceIte, decide_true, decide_false, Bool.true_eq_false, Bool.false_eq_true, Bool.not_true, Bool.not_false, if_true, if_false, and_true, true_and, memE, celE, w64, Nat.zero_add, Nat.add_zero, Nat.mul_one, putL, and_self, ldn, tm, t0, t1, t5]
    refine ⟨⟨k + 1, by omega, by simp⟩, ?_⟩
    simp [intOf]; omega
  · have hlt' : ¬ ((k : Int) < T.length) := by omega
    simp (config := {implicitDefEqProofs := false, maxDischargeDepth := 20}) (disch := first | omega | (simp only [lenE]; done) | (simp only [lenE]; omega) | rfl | (simp only [lenE, markR_len]; done) | (simp only [lenE, markR_len]; omega)) only [runE, mapE, listE, initT_5, initT_6, initT_7, initT_8, resV, oneV, binA, unA, reduceCtorEq, Nat.reduceEqDiff, Nat.reduceAdd, Nat.reduceLT, Nat.reduceLeDiff, Nat.reduceMul, Nat.reduceSub, ↓reduceIte, decide_true, decide_false, Bool.true_eq_false, Bool.false_eq_true, Bool.not_true, Bool.not_false, if_true, if_false, and_true, true_and, memE, celE, w64, Nat.zero_add, Nat.add_zero, Nat.mul_one, putL, and_self, ldn, tm, t0, t1, t5, hlt', hr.len]
    exact newQ_nil ⟨rfl, noRo_nil⟩
theorem heldIntSS_rc (m : Mem) (v : Value) (T : List (List Int)) (k0 : Int) (h : TabA m v (tmarks k0 T)) (h0 : 0 ≤ k0) (h1 : k0 ≤ 68719476736) (hs : tsz T T.length ≤ 1048576) (hl : T.length ≤ 1048576) :
    RC Try.prog 34 [v, .int .i64 k0] m fun r new => r = .int .i64 (k0 + tsz T T.length) ∧ NoRo new := by
  refine rc_of_run mixed ok_laws_heldIntSS (by simp) (go_start _ _ _ ?_)
  have hr := h.ro
  have hlen := hr.len
  rw [tmarks_len] at hlen
  simp (config := {implicitDefEqProofs := false, maxDischargeDepth := 20}) (disch := first | omega | (simp only [lenE]; done) | (simp only [lenE]; omega) | rfl | (simp only [lenE, markR_len]; done) | (simp only [lenE, markR_len]; omega)) only [runE, mapE, listE, initT_5, initT_6, initT_7, initT_8, resV, oneV, binA, unA, reduceCtorEq, Nat.reduceEqDiff, Nat.reduceAdd, Nat.reduceLT, Nat.reduceLeDiff, Nat.reduceMul, Nat.reduceSub, ↓reduceIte, decide_true, decide_false, Bool.true_eq_false, Bool.false_eq_true, Bool.not_true, Bool.not_false, if_true, if_false, and_true, true_and, memE, celE, w64, Nat.zero_add, Nat.add_zero, Nat.mul_one, putL, and_self, ldn, c_laws_heldIntSS, r_laws_heldIntSS]
  refine loop_inv mixed (fun s => ∃ (k : Nat), k ≤ T.length ∧ s.m = roM m ∧ s.t 0 = v ∧ s.t 1 = .int .i64 (k0 + tsz T k) ∧ s.t 5 = .int .i64 k) (fun s => T.length - (intOf (s.t 5)).toNat)
    ⟨0, by omega, rfl, rfl, by simp only [put_t, put_t', put_m, putT_t, putT_t', putT_m, init_t, init_m, initT_0, initT_1, initT_2, initT_3, initT_4, initT_5, initT_6, initT_7, initT_8, Nat.reduceEqDiff, ↓reduceIte]; simp [tsz], rfl⟩ ?_
  rintro s ⟨k, hk, tm, t0, t1, t5⟩
  have hz := tsz_nonneg T k
  by_cases hlt : k < T.length
  · have hlt' : (k : Int) < T.length := by omega
    have hlt2 : k < (tmarks k0 T).length := by rw [tmarks_len]; exact hlt
    have hmono := tsz_le T (j := k + 1) (k := T.length) (by omega)
    simp only [tsz] at hmono
    obtain ⟨x, hx, hi⟩ := hr.ld k hlt2
    rw [tmarks_at hlt] at hi
    simp (config := {implicitDefEqProofs := false, maxDischargeDepth := 20}) (disch := first | omega | (simp only [lenE]; done) | (simp only [lenE]; omega) | rfl | (simp only [lenE, markR_len]; done) | (simp only [lenE, markR_len]; omega)) only [runE, mapE, listE, initT_5, initT_6, initT_7, initT_8, resV, oneV, binA, unA, reduceCtorEq, Nat.reduceEqDiff, Nat.reduceAdd, Nat.reduceLT, Nat.reduceLeDiff, Nat.reduceMul, Nat.reduceSub, ↓reduceIte, decide_true, decide_false, Bool.true_eq_false, Bool.false_eq_true, Bool.not_true, Bool.not_false, if_true, if_false, and_true, true_and, memE, celE, w64, Nat.zero_add, Nat.add_zero, Nat.mul_one, putL, and_self, ldn, tm, t0, t1, t5, hlt', hlen, hr.at_ k hlt2, hx]
    refine callH_rc (heldIntS_rc _ x _ _ hi (by omega) (by omega) (by omega)) ?_
    rintro r new ⟨rfl, rfl⟩
    have hq : ¬ (k0 + tsz T k + ((T.getD k []).length : Int) < 0) := by omega
    simp (config := {implicitDefEqProofs := false, maxDischargeDepth := 20}) (disch := first | omega | (simp only [lenE]; done) | (simp only [lenE]; omega) | rfl | (simp only [lenE, markR_len]; done) | (simp only [lenE, markR_len]; omega)) only [runE, mapE, listE, initT_5, initT_6, initT_7, initT_8, resV, oneV, binA, unA, reduceCtorEq, Nat.reduceEqDiff, Nat.reduceAdd, Nat.reduceLT, Nat.reduceLeDiff, Nat.reduceMul, Nat.reduceSub, ↓reduceIte, decide_true, decide_false, Bool.true_eq_false, Bool.false_eq_true, Bool.not_true, Bool.not_false, if_true, if_false, and_true, true_and, memE, celE, w64, Nat.zero_add, Nat.add_zero, Nat.mul_one, putL, and_self, ldn, tm, t0, t1, t5, hq]
    refine ⟨⟨k + 1, by omega, by simp only [tsz]; congr 1; omega, by simp⟩, ?_⟩
    simp [intOf]; omega
  · have hlt' : ¬ ((k : Int) < T.length) := by omega
    have e : k = T.length := by omega
    simp (config := {implicitDefEqProofs := false, maxDischargeDepth := 20}) (disch := first | omega | (simp only [lenE]; done) | (simp only [lenE]; omega) | rfl | (simp only [lenE, markR_len]; done) | (simp only [lenE, markR_len]; omega)) only [runE, mapE, listE, initT_5, initT_6, initT_7, initT_8, resV, oneV, binA, unA, reduceCtorEq, Nat.reduceEqDiff, Nat.reduceAdd, Nat.reduceLT, Nat.reduceLeDiff, Nat.reduceMul, Nat.reduceSub, ↓reduceIte, decide_true, decide_false, Bool.true_eq_false, Bool.false_eq_true, Bool.not_true, Bool.not_false, if_true, if_false, and_true, true_and, memE, celE, w64, Nat.zero_add, Nat.add_zero, Nat.mul_one, putL, and_self, ldn, tm, t0, t1, t5, hlt', hlen]
    exact newQ_nil ⟨by rw [e], noRo_nil⟩
theorem toIntSS_rc (m : Mem) (v : Value) (T : List (List Int)) (h : TabA m v T) (hl : T.length ≤ 1048576) (hs : tsz T T.length ≤ 1048576) :
    RC Try.prog 18 [v] m (AnsO m (TabO T) id) := by
  refine rc_of_run mixed ok_laws_toIntSS (by simp) (go_start _ _ _ ?_)
  have hr := h.ro
  simp (config := {implicitDefEqProofs := false, maxDischargeDepth := 20}) (disch := first | omega | (simp only [lenE]; done) | (simp only [lenE]; omega) | rfl | (simp only [lenE, markR_len]; done) | (simp only [lenE, markR_len]; omega)) only [runE, mapE, listE, initT_5, initT_6, initT_7, initT_8, resV, oneV, binA, unA, reduceCtorEq, Nat.reduceEqDiff, Nat.reduceAdd, Nat.reduceLT, Nat.reduceLeDiff, Nat.reduceMul, Nat.reduceSub, ↓reduceIte, decide_true, decide_false, Bool.true_eq_false, Bool.false_eq_true, Bool.not_true, Bool.not_false, if_true, if_false, and_true, true_and, memE, celE, w64, Nat.zero_add, Nat.add_zero, Nat.mul_one, putL, and_self, ldn, c_laws_toIntSS, r_laws_toIntSS, hr.len, mksA_eq (byt := 24) (n := T.length) rfl (by omega)]
  refine loop_inv mixed (fun s => ∃ (k : Nat) (M : Mem) (cs : List Value) (R : Nat → Nat), k ≤ T.length ∧ s.m = M ∧ Ext m M ∧ OwnB M m.length 22 cs ∧ cs.length = T.length ∧ (∀ j, j < k → cs[j]? = some (.slice (some ⟨R j, 0, none⟩) (T.getD j []).length 1) ∧ m.length < R j ∧ OwnR M (R j) (T.getD j [])) ∧ (∀ i j, i < j → j < k → R i < R j) ∧
      s.t 0 = v ∧ s.t 3 = .slice (some ⟨m.length, 0, none⟩) T.length 1 ∧ s.t 4 = .int .i64 k) (fun s => T.length - (intOf (s.t 4)).toNat)
    ⟨0, _, List.replicate T.length (.slice none 0 0), fun _ => 0, by omega, rfl, (Ext.refl m).one _ _, by have := OwnB.here (M := roM m) (e := 22) (cs := List.replicate T.length (.slice none 0 0)) (id := m.length) (roM_len m).symm; exact this, by simp, fun j hj => absurd hj (by omega), fun i j _ hj => absurd hj (by omega), rfl, rfl, rfl⟩ ?_
  rintro s ⟨k, M, cs, R, hk, tm, hx, ho, hcl, hpre, hinc, t0, t3, t4⟩
  by_cases hlt : k < T.length
  · have hlt' : (k : Int) < T.length := by omega
    have hi := h.xt hx
    obtain ⟨x, hxl, hxi⟩ := hi.ld k hlt
    have hrow := tsz_row T hlt
    simp (config := {implicitDefEqProofs := false, maxDischargeDepth := 20}) (disch := first | omega | (simp only [lenE]; done) | (simp only [lenE]; omega) | rfl | (simp only [lenE, markR_len]; done) | (simp only [lenE, markR_len]; omega)) only [runE, mapE, listE, initT_5, initT_6, initT_7, initT_8, resV, oneV, binA, unA, reduceCtorEq, Nat.reduceEqDiff, Nat.reduceAdd, Nat.reduceLT, Nat.reduceLeDiff, Nat.reduceMul, Nat.reduceSub, ↓reduceIte, decide_true, decide_false, Bool.true_eq_false, Bool.false_eq_true, Bool.not_true, Bool.not_false, if_true, if_false, and_true, true_and, memE, celE, w64, Nat.zero_add, Nat.add_zero, Nat.mul_one, putL, and_self, ldn, tm, t0, t3, t4, hlt', hi.len, hi.at_ k hlt, hxl]
    refine callH_rc (toIntS_rc _ x _ hxi (by omega)) ?_
    rintro r new ⟨rfl, rfl⟩
    have hst := (ho.ext [⟨.own, 3, (T.getD k []).map (Value.int .i64)⟩]).st (off := k) (vs := [.slice (some ⟨M.length, 0, none⟩) (T.getD k []).length 1]) (by simp; omega) rfl
    have hlm := hx.len
    simp (config := {implicitDefEqProofs := false, maxDischargeDepth := 20}) (disch := first | omega | (simp only [lenE]; done) | (simp only [lenE]; omega) | rfl | (simp only [lenE, markR_len]; done) | (simp only [lenE, markR_len]; omega)) only [runE, mapE, listE, initT_5, initT_6, initT_7, initT_8, resV, oneV, binA, unA, reduceCtorEq, Nat.reduceEqDiff, Nat.reduceAdd, Nat.reduceLT, Nat.reduceLeDiff, Nat.reduceMul, Nat.reduceSub, ↓reduceIte, decide_true, decide_false, Bool.true_eq_false, Bool.false_eq_true, Bool.not_true, Bool.not_false, if_true, if_false, and_true, true_and, memE, celE, w64, Nat.zero_add, Nat.add_zero, Nat.mul_one, putL, and_self, ldn, tm, t0, t3, t4, iadA_in hlt, hst]
    refine ⟨⟨k + 1, _, _, fun j => if j = k then M.length else R j, by omega, rfl, (hx.one _ _).put (Nat.le_refl _) _ _, (ho.ext _).set_self _ _, by simp [putL, hcl], fun j hj => ?_, fun i j hij hj => ?_, by simp⟩, ?_⟩
    · try simp only [putL]
      by_cases e : j = k
      · subst e
        simp only [if_true]
        refine ⟨by rw [List.getElem?_set_self (by omega)], by have := ho.lt; omega, ?_⟩
        refine OwnR.set_ne (OwnR.here M _ _ rfl) (by have := ho.lt; omega)
      · have hp := hpre j (by omega)
        simp only [if_neg e]
        refine ⟨by rw [List.getElem?_set_ne (by omega)]; exact hp.1, hp.2.1, OwnR.set_ne (hp.2.2.ext _) (by omega)⟩
    · show (if i = k then M.length else R i) < (if j = k then M.length else R j)
      by_cases e : j = k
      · subst e
        rw [if_neg (by omega), if_pos rfl]
        exact (hpre i (by omega)).2.2.lt
      · rw [if_neg (by omega), if_neg e]
        exact hinc i j hij (by omega)
    · simp [intOf]; omega
  · have hlt' : ¬ ((k : Int) < T.length) := by omega
    have e : k = T.length := by omega
    subst e
    have hi := h.xt hx
    simp (config := {implicitDefEqProofs := false, maxDischargeDepth := 20}) (disch := first | omega | (simp only [lenE]; done) | (simp only [lenE]; omega) | rfl | (simp only [lenE, markR_len]; done) | (simp only [lenE, markR_len]; omega)) only [runE, mapE, listE, initT_5, initT_6, initT_7, initT_8, resV, oneV, binA, unA, reduceCtorEq, Nat.reduceEqDiff, Nat.reduceAdd, Nat.reduceLT, Nat.reduceLeDiff, Nat.reduceMul, Nat.reduceSub, ↓reduceIte, decide_true, decide_false, Bool.true_eq_false, Bool.false_eq_true, Bool.not_true, Bool.not_false, if_true, if_false, and_true, true_and, memE, celE, w64, Nat.zero_add, Nat.add_zero, Nat.mul_one, putL, and_self, ldn, tm, t0, t3, t4, hlt', hi.len]
    have hcs : cs = rowsC T R (fun _ => 1) := by
      apply List.ext_getElem?
      intro i
      by_cases hi : i < T.length
      · rw [(hpre i hi).1, rowsC_at hi]
      · rw [List.getElem?_eq_none (by omega), List.getElem?_eq_none (by rw [rowsC_len]; omega)]
    subst hcs
    refine ext_ansO (f := _root_.id) hx fun M' hM => ⟨hl, hs, m.length, 1, R, fun _ => 1, rfl, Nat.le_refl _, ho.lt, ho.at_ (hM _ (Nat.le_refl _) ho.lt), fun j hj => ?_, fun i j hi hj he => ?_⟩
    · have hp := hpre j hj
      exact ⟨by omega, hp.2.2.lt, hp.2.2.at_ (hM _ (by omega) hp.2.2.lt)⟩
    · rcases Nat.lt_trichotomy i j with e | e | e
      · have := hinc i j e hj; omega
      · exact e
      · have := hinc j i e hi; omega
end Go.Proofs.Ytghaogfhmbjlkaa.Ab
