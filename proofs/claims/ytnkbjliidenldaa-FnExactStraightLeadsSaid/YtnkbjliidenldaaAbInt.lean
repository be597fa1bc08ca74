/- The laws' helpers over slices of numbers: szIntS, toIntS, eqIntS, markIntS, heldIntS. -/
import Derived.Test.YtnkbjliidenldaaCodHelp
import Derived.Test.YtnkbjliidenldaaAbRun
namespace Go.Proofs.Ytnkbjliidenldaa.Ab
open Go Go.RowKit
set_option linter.unusedVariables false
set_option linter.unusedSimpArgs false

theorem mixed : Try.prog.follows .mixedOrders = true := by kernel_rfl
abbrev V (x : Int) : Value := .int .i64 x
theorem szIntS_rc (m : Mem) (v : Value) (l : List Int) (left : Int) (h : IntsA m v l) (h0 : 0 ≤ left) (h1 : left ≤ 1048576) :
    RC Try.prog 66 [v, .int .i64 left] m fun r new => r = .int .i64 (if left - l.length < 0 then -1 else left - l.length) ∧ new = [] := by
  refine rc_of_run mixed ok_laws_szIntS (by simp) (go_start _ _ _ ?_)
  obtain ⟨e1, e2, -, -, -⟩ := h
  by_cases hn : left - (l.length : Int) < 0
  · simp (config := {implicitDefEqProofs := false, maxDischargeDepth := 20}) (disch := omega) only [runE, mapE, listE, initT_5, initT_6, initT_7, initT_8, resV, oneV, binA, unA, reduceCtorEq, Nat.reduceEqDiff, Nat.reduceAdd, Nat.reduceLT, Nat.reduceLeDiff, Nat.reduceMul, Nat.reduceSub, ↓reduceIte, decide_true, decide_false, Bool.true_eq_false, Bool.false_eq_true, Bool.not_true, Bool.not_false, if_true, if_false, and_true, true_and, w64, c_laws_szIntS, r_laws_szIntS, e1, hn]
    exact newQ_nil ⟨rfl, rfl⟩
  · simp (config := {implicitDefEqProofs := false, maxDischargeDepth := 20}) (disch := omega) only [runE, mapE, listE, initT_5, initT_6, initT_7, initT_8, resV, oneV, binA, unA, reduceCtorEq, Nat.reduceEqDiff, Nat.reduceAdd, Nat.reduceLT, Nat.reduceLeDiff, Nat.reduceMul, Nat.reduceSub, ↓reduceIte, decide_true, decide_false, Bool.true_eq_false, Bool.false_eq_true, Bool.not_true, Bool.not_false, if_true, if_false, and_true, true_and, w64, c_laws_szIntS, r_laws_szIntS, e1, hn]
    exact newQ_nil ⟨rfl, rfl⟩

theorem eqIntS_rc (m : Mem) (v u : Value) (l : List Int) (h : IntsA m v l) (h' : IntsA m u l) : RC Try.prog 37 [v, u] m fun r new => r = .bool true ∧ new = [] := by
  refine rc_of_run mixed ok_laws_eqIntS (by simp) (go_start _ _ _ ?_)
  obtain ⟨e1, e2, e3, e4, -⟩ := h.ro
  obtain ⟨d1, d2, d3, d4, -⟩ := h'.ro
  simp (config := {implicitDefEqProofs := false, maxDischargeDepth := 20}) (disch := omega) only [runE, mapE, listE, initT_5, initT_6, initT_7, initT_8, resV, oneV, binA, unA, reduceCtorEq, Nat.reduceEqDiff, Nat.reduceAdd, Nat.reduceLT, Nat.reduceLeDiff, Nat.reduceMul, Nat.reduceSub, ↓reduceIte, decide_true, decide_false, Bool.true_eq_false, Bool.false_eq_true, Bool.not_true, Bool.not_false, if_true, if_false, and_true, true_and, w64, c_laws_eqIntS, r_laws_eqIntS, e1, d1, bne_self_eq_false]
  refine loop_inv mixed (fun s => ∃ k : Nat, k ≤ l.length ∧ s.t 0 = v ∧ s.t 1 = u ∧ s.t 5 = .int .i64 k ∧ s.m = roM m) (fun s => l.length - (intOf (s.t 5)).toNat) ⟨0, by omega, rfl, rfl, rfl, rfl⟩ ?_
  rintro s ⟨k, hk, t0, t1, t5, tm⟩
  by_cases hlt : k < l.length
  · have hlt' : (k : Int) < l.length := by omega
    simp (config := {implicitDefEqProofs := false, maxDischargeDepth := 20}) (disch := omega) only [runE, mapE, listE, initT_5, initT_6, initT_7, initT_8, resV, oneV, binA, unA, reduceCtorEq, Nat.reduceEqDiff, Nat.reduceAdd, Nat.reduceLT, Nat.reduceLeDiff, Nat.reduceMul, Nat.reduceSub, ↓reduceIte, decide_true, decide_false, Bool.true_eq_false, Bool.false_eq_true, Bool.not_true, Bool.not_false, if_true, if_false, and_true, true_and, w64, t0, t1, t5, tm, e1, e3 k hlt, e4 k hlt, d3 k hlt, d4 k hlt, hlt', bne_self_eq_false]
    refine ⟨⟨k + 1, by omega, by simp⟩, ?_⟩
    simp [intOf]; omega
  · have hlt' : ¬ ((k : Int) < l.length) := by omega
    simp (config := {implicitDefEqProofs := false, maxDischargeDepth := 20}) (disch := omega) only [runE, mapE, listE, initT_5, initT_6, initT_7, initT_8, resV, oneV, binA, unA, reduceCtorEq, Nat.reduceEqDiff, Nat.reduceAdd, Nat.reduceLT, Nat.reduceLeDiff, Nat.reduceMul, Nat.reduceSub, ↓reduceIte, decide_true, decide_false, Bool.true_eq_false, Bool.false_eq_true, Bool.not_true, Bool.not_false, if_true, if_false, and_true, true_and, w64, t0, t1, t5, tm, e1, hlt']
    exact newQ_nil ⟨rfl, rfl⟩

/-- The marks from k on. -/
def imarks (k : Int) (n : Nat) : List Int := (List.range n).map fun (j : Nat) => k + (j : Int)
theorem imarks_len (k : Int) (n : Nat) : (imarks k n).length = n := by simp [imarks]
theorem imarks_at {k : Int} {n j : Nat} (h : j < n) : (imarks k n).getD j 0 = k + j := by simp [imarks, List.getD_eq_getElem?_getD, h]

theorem heldIntS_rc (m : Mem) (v : Value) (k0 : Int) (n : Nat) (h : IntsA m v (imarks k0 n)) (h0 : 0 ≤ k0) (h1 : k0 ≤ 1099511627776) (hn : n ≤ 1099511627776) :
    RC Try.prog 39 [v, .int .i64 k0] m fun r new => r = .int .i64 (k0 + n) ∧ new = [] := by
  refine rc_of_run mixed ok_laws_heldIntS (by simp) (go_start _ _ _ ?_)
  obtain ⟨e1, e2, e3, e4, -⟩ := h.ro
  rw [imarks_len] at e1 e2 e3 e4
  simp (config := {implicitDefEqProofs := false, maxDischargeDepth := 20}) (disch := omega) only [runE, mapE, listE, initT_5, initT_6, initT_7, initT_8, resV, oneV, binA, unA, reduceCtorEq, Nat.reduceEqDiff, Nat.reduceAdd, Nat.reduceLT, Nat.reduceLeDiff, Nat.reduceMul, Nat.reduceSub, ↓reduceIte, decide_true, decide_false, Bool.true_eq_false, Bool.false_eq_true, Bool.not_true, Bool.not_false, if_true, if_false, and_true, true_and, w64, c_laws_heldIntS, r_laws_heldIntS]
  refine loop_inv mixed (fun s => ∃ k : Nat, k ≤ n ∧ s.t 0 = v ∧ s.t 1 = .int .i64 (k0 + (k : Int)) ∧ s.t 5 = .int .i64 k ∧ s.m = roM m) (fun s => n - (intOf (s.t 5)).toNat) ⟨0, by omega, rfl, by simp only [put_t, put_t', put_m, putT_t, putT_t', putT_m, init_t, init_m, initT_0, initT_1, initT_2, initT_3, initT_4, initT_5, initT_6, initT_7, initT_8, Nat.reduceEqDiff, ↓reduceIte]; simp, rfl, rfl⟩ ?_
  rintro s ⟨k, hk, t0, t1, t5, tm⟩
  by_cases hlt : k < n
  · have hlt' : (k : Int) < n := by omega
    have q := e4 k hlt
    rw [imarks_at hlt] at q
    simp (config := {implicitDefEqProofs := false, maxDischargeDepth := 20}) (disch := omega) only [runE, mapE, listE, initT_5, initT_6, initT_7, initT_8, resV, oneV, binA, unA, reduceCtorEq, Nat.reduceEqDiff, Nat.reduceAdd, Nat.reduceLT, Nat.reduceLeDiff, Nat.reduceMul, Nat.reduceSub, ↓reduceIte, decide_true, decide_false, Bool.true_eq_false, Bool.false_eq_true, Bool.not_true, Bool.not_false, if_true, if_false, and_true, true_and, w64, t0, t1, t5, tm, e1, e3 k hlt, q, hlt', bne_self_eq_false]
    refine ⟨⟨k + 1, by omega, by simp; omega, by simp⟩, ?_⟩
    simp [intOf]; omega
  · have hlt' : ¬ ((k : Int) < n) := by omega
    have : k = n := by omega
    simp (config := {implicitDefEqProofs := false, maxDischargeDepth := 20}) (disch := omega) only [runE, mapE, listE, initT_5, initT_6, initT_7, initT_8, resV, oneV, binA, unA, reduceCtorEq, Nat.reduceEqDiff, Nat.reduceAdd, Nat.reduceLT, Nat.reduceLeDiff, Nat.reduceMul, Nat.reduceSub, ↓reduceIte, decide_true, decide_false, Bool.true_eq_false, Bool.false_eq_true, Bool.not_true, Bool.not_false, if_true, if_false, and_true, true_and, w64, t0, t1, t5, tm, e1, hlt']
    exact newQ_nil ⟨by rw [this], rfl⟩

theorem toIntS_rc (m : Mem) (v : Value) (l : List Int) (h : IntsA m v l) (hl : l.length ≤ 1048576) :
    RC Try.prog 35 [v] m fun r new => r = .slice (some ⟨m.length, 0, none⟩) l.length 1 ∧ new = [⟨.own, 3, l.map (Value.int .i64)⟩] := by
  refine rc_of_run mixed ok_laws_toIntS (by simp) (go_start _ _ _ ?_)
  have hr := h.ro
  have hmk := mksA_nat (roM m) 3 8 l.length (.int .i64 0) (by omega)
  simp (config := {implicitDefEqProofs := false, maxDischargeDepth := 20}) (disch := omega) only [runE, mapE, listE, initT_5, initT_6, initT_7, initT_8, resV, oneV, binA, unA, reduceCtorEq, Nat.reduceEqDiff, Nat.reduceAdd, Nat.reduceLT, Nat.reduceLeDiff, Nat.reduceMul, Nat.reduceSub, ↓reduceIte, decide_true, decide_false, Bool.true_eq_false, Bool.false_eq_true, Bool.not_true, Bool.not_false, if_true, if_false, and_true, true_and, w64, c_laws_toIntS, r_laws_toIntS, hr.len, hmk]
  have hlen : (roM m).length = m.length := roM_len m
  refine loop_inv mixed (fun s => ∃ (k : Nat) (xs : List Value), k ≤ l.length ∧ s.t 0 = v ∧ s.t 3 = .slice (some ⟨(roM m).length, 0, none⟩) l.length 1 ∧ s.t 4 = .int .i64 k ∧ s.m = roM m ++ [⟨.own, 3, xs⟩] ∧ xs.length = l.length ∧ (∀ j, j < k → xs[j]? = (l.map (Value.int .i64))[j]?)) (fun s => l.length - (intOf (s.t 4)).toNat)
    ⟨0, List.replicate l.length (.int .i64 0), by omega, rfl, rfl, rfl, rfl, by simp, fun j hj => absurd hj (by omega)⟩ ?_
  rintro s ⟨k, xs, hk, t0, t3, t4, tm, hxl, hpre⟩
  by_cases hlt : k < l.length
  · have hlt' : (k : Int) < l.length := by omega
    have q := (hr.ext [⟨.own, 3, xs⟩]).ld k hlt
    have hst := stA_new (m := roM m) (e := 3) (cs := xs) (off := k) (v := .int .i64 (l.getD k 0)) (by omega) rfl
    simp (config := {implicitDefEqProofs := false, maxDischargeDepth := 20}) (disch := omega) only [runE, mapE, listE, initT_5, initT_6, initT_7, initT_8, resV, oneV, binA, unA, reduceCtorEq, Nat.reduceEqDiff, Nat.reduceAdd, Nat.reduceLT, Nat.reduceLeDiff, Nat.reduceMul, Nat.reduceSub, ↓reduceIte, decide_true, decide_false, Bool.true_eq_false, Bool.false_eq_true, Bool.not_true, Bool.not_false, if_true, if_false, and_true, true_and, w64, t0, t3, t4, tm, hr.len, hr.at_ k hlt, q, hlt', iadA_in hlt, cells_int, List.size_toArray, List.length_cons, List.length_nil, Nat.zero_add, Nat.mul_one, hst]
    refine ⟨⟨k + 1, xs.set k (.int .i64 (l.getD k 0)), by omega, by simp, rfl, by simpa using hxl, ?_⟩, ?_⟩
    · intro j hj
      rw [List.getElem?_set]
      by_cases e : k = j
      · subst e
        rw [if_pos rfl, if_pos (by omega), List.getElem?_map, List.getElem?_eq_getElem hlt, List.getD_eq_getElem?_getD, List.getElem?_eq_getElem hlt]
        rfl
      · rw [if_neg e]; exact hpre j (by omega)
    · simp [intOf]; omega
  · have hlt' : ¬ ((k : Int) < l.length) := by omega
    simp (config := {implicitDefEqProofs := false, maxDischargeDepth := 20}) (disch := omega) only [runE, mapE, listE, initT_5, initT_6, initT_7, initT_8, resV, oneV, binA, unA, reduceCtorEq, Nat.reduceEqDiff, Nat.reduceAdd, Nat.reduceLT, Nat.reduceLeDiff, Nat.reduceMul, Nat.reduceSub, ↓reduceIte, decide_true, decide_false, Bool.true_eq_false, Bool.false_eq_true, Bool.not_true, Bool.not_false, if_true, if_false, and_true, true_and, w64, t0, t3, t4, tm, hr.len, hlt']
    have hx : xs = l.map (Value.int .i64) := by
      apply List.ext_getElem?
      intro j
      by_cases hj : j < k
      · exact hpre j hj
      · rw [List.getElem?_eq_none (by omega), List.getElem?_eq_none (by simp; omega)]
    rw [hx]
    exact newQ_own ⟨by rw [hlen], rfl⟩

theorem markIntS_ac (m : Mem) (id fl : Nat) (e : TypeId) (l : List Int) (k0 : Int) (hm : m[id]? = some ⟨.own, e, l.map (Value.int .i64)⟩) (h0 : 0 ≤ k0) (h1 : k0 ≤ 1099511627776) (hl : l.length ≤ 1099511627776) :
    AC Try.prog 38 [.slice (some ⟨id, 0, none⟩) l.length fl, .int .i64 k0] m fun r m' => r = .int .i64 (k0 + l.length) ∧ m' = m.set id ⟨.own, e, (imarks k0 l.length).map (Value.int .i64)⟩ := by
  refine ac_of_run mixed ok_laws_markIntS (by simp) (go_start _ _ _ ?_)
  have hid := (List.getElem?_eq_some_iff.1 hm).1
  simp (config := {implicitDefEqProofs := false, maxDischargeDepth := 20}) (disch := omega) only [runE, mapE, listE, initT_5, initT_6, initT_7, initT_8, resV, oneV, binA, unA, reduceCtorEq, Nat.reduceEqDiff, Nat.reduceAdd, Nat.reduceLT, Nat.reduceLeDiff, Nat.reduceMul, Nat.reduceSub, ↓reduceIte, decide_true, decide_false, Bool.true_eq_false, Bool.false_eq_true, Bool.not_true, Bool.not_false, if_true, if_false, and_true, true_and, w64, c_laws_markIntS, r_laws_markIntS]
  refine loop_inv mixed (fun s => ∃ (k : Nat) (xs : List Value), k ≤ l.length ∧ s.t 0 = .slice (some ⟨id, 0, none⟩) l.length fl ∧ s.t 1 = .int .i64 (k0 + (k : Int)) ∧ s.t 5 = .int .i64 k ∧ s.m = m.set id ⟨.own, e, xs⟩ ∧ xs.length = l.length ∧ (∀ j, j < k → xs[j]? = ((imarks k0 l.length).map (Value.int .i64))[j]?)) (fun s => l.length - (intOf (s.t 5)).toNat)
    ⟨0, l.map (Value.int .i64), by omega, rfl, by simp only [put_t, put_t', put_m, putT_t, putT_t', putT_m, init_t, init_m, initT_0, initT_1, initT_2, initT_3, initT_4, initT_5, initT_6, initT_7, initT_8, Nat.reduceEqDiff, ↓reduceIte]; simp, rfl, ?_, by simp, fun j hj => absurd hj (by omega)⟩ ?_
  · obtain ⟨hi, he⟩ := List.getElem?_eq_some_iff.1 hm
    simp only [put_t, put_t', put_m, putT_t, putT_t', putT_m, init_t, init_m, initT_0, initT_1, initT_2, initT_3, initT_4, initT_5, initT_6, initT_7, initT_8, Nat.reduceEqDiff, ↓reduceIte]
    rw [← he]; simp
  rintro s ⟨k, xs, hk, t0, t1, t5, tm, hxl, hpre⟩
  by_cases hlt : k < l.length
  · have hlt' : (k : Int) < l.length := by omega
    have hst := stA_at (m := m.set id ⟨.own, e, xs⟩) (id := id) (off := k) (e := e) (cs := xs) (v := .int .i64 (k0 + (k : Int))) (by rw [List.getElem?_set_self hid]) (by omega) rfl
    simp (config := {implicitDefEqProofs := false, maxDischargeDepth := 20}) (disch := omega) only [runE, mapE, listE, initT_5, initT_6, initT_7, initT_8, resV, oneV, binA, unA, reduceCtorEq, Nat.reduceEqDiff, Nat.reduceAdd, Nat.reduceLT, Nat.reduceLeDiff, Nat.reduceMul, Nat.reduceSub, ↓reduceIte, decide_true, decide_false, Bool.true_eq_false, Bool.false_eq_true, Bool.not_true, Bool.not_false, if_true, if_false, and_true, true_and, w64, t0, t1, t5, tm, hlt', iadA_in hlt, cells_int, List.size_toArray, List.length_cons, List.length_nil, Nat.zero_add, Nat.mul_one, hst]
    refine ⟨⟨k + 1, xs.set k (.int .i64 (k0 + (k : Int))), by omega, by simp; omega, by simp, by simp, by simpa using hxl, ?_⟩, ?_⟩
    · intro j hj
      rw [List.getElem?_set]
      by_cases e : k = j
      · subst e
        rw [if_pos rfl, if_pos (by omega)]
        simp [imarks, hlt]
      · rw [if_neg e]; exact hpre j (by omega)
    · simp [intOf]; omega
  · have hlt' : ¬ ((k : Int) < l.length) := by omega
    have : k = l.length := by omega
    simp (config := {implicitDefEqProofs := false, maxDischargeDepth := 20}) (disch := omega) only [runE, mapE, listE, initT_5, initT_6, initT_7, initT_8, resV, oneV, binA, unA, reduceCtorEq, Nat.reduceEqDiff, Nat.reduceAdd, Nat.reduceLT, Nat.reduceLeDiff, Nat.reduceMul, Nat.reduceSub, ↓reduceIte, decide_true, decide_false, Bool.true_eq_false, Bool.false_eq_true, Bool.not_true, Bool.not_false, if_true, if_false, and_true, true_and, w64, t0, t1, t5, tm, hlt']
    have hx : xs = (imarks k0 l.length).map (Value.int .i64) := by
      apply List.ext_getElem?
      intro j
      by_cases hj : j < k
      · exact hpre j hj
      · rw [List.getElem?_eq_none (by omega), List.getElem?_eq_none (by simp [imarks]; omega)]
    rw [hx, this]
    exact ⟨rfl, rfl⟩
end Go.Proofs.Ytnkbjliidenldaa.Ab
