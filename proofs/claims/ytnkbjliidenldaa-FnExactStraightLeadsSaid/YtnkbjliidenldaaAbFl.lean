/- Flows and rules in memory; numbers of one's own wherever in their block they begin; the laws' helpers. -/
import Derived.Test.YtnkbjliidenldaaAbObj2
import Derived.Test.YtnkbjliidenldaaAbBox
import Derived.Test.YtnkbjliidenldaaAbArg
import Derived.Test.YtnkbjliidenldaaFlIn
namespace Go.Proofs.Ytnkbjliidenldaa.Ab
open Go Go.RowKit
set_option linter.unusedVariables false
set_option linter.unusedSimpArgs false


/-- Numbers of one's own, wherever in their block they begin; or none. -/
def IntsP (l : List Int) (lo hi : Nat) (M : Mem) (v : Value) : Prop :=
  l.length ≤ 1048576 ∧ ((v = .slice none 0 0 ∧ l = []) ∨ ∃ (id : Nat) (pre : List Int) (fl : Nat), v = .slice (some ⟨id, pre.length, none⟩) l.length fl ∧ lo ≤ id ∧ id < hi ∧ OwnR M id (pre ++ l))
theorem OwnR.intsP {M : Mem} {id : Nat} {pre l : List Int} (h : OwnR M id (pre ++ l)) (hb : l.length ≤ 9223372036854775807) (fl : Nat) : IntsA M (.slice (some ⟨id, pre.length, none⟩) l.length fl) l := by
  refine IntsA.of_block hb (fun k hk => ?_) ?_
  · rw [h.rd' (by rw [List.length_append]; omega), List.getD_eq_getElem?_getD, List.getElem?_append_right (by omega), Nat.add_sub_cancel_left, ← List.getD_eq_getElem?_getD]
  · unfold rdl
    rw [show M[id]? = some (rowB (pre ++ l)) from h]
    simp [List.map_append, List.take_of_length_le]
theorem IntsP.in {l : List Int} {lo hi : Nat} {M : Mem} {v : Value} (h : IntsP l lo hi M v) : IntsA M v l := by
  obtain ⟨hl, ⟨rfl, rfl⟩ | ⟨id, pre, fl, rfl, _, _, ho⟩⟩ := h
  · exact IntsA.nil M
  · exact ho.intsP (by omega) fl
theorem IntsP.lv {l : List Int} {lo hi : Nat} {m : Mem} {v : Value} (h : IntsP l lo hi m v) (h0 : lo ≤ hi) (h1 : hi ≤ m.length) : Lv lo hi m fun M => IntsP l lo hi M v := by
  obtain ⟨hl, ⟨rfl, rfl⟩ | ⟨id, pre, fl, rfl, a, b, ho⟩⟩ := h
  · exact ⟨h0, h1, fun m' h' => ⟨hl, .inl ⟨rfl, rfl⟩⟩⟩
  · exact ⟨h0, h1, fun m' h' => ⟨hl, .inr ⟨id, pre, fl, rfl, a, b, ho.at_ (h' id a b)⟩⟩⟩
theorem IntsP.wide (l : List Int) : Wide (IntsP l) := fun lo hi lo' hi' M v h1 h2 h => by
  obtain ⟨hl, h | ⟨id, pre, fl, b, c, d, e⟩⟩ := h
  · exact ⟨hl, .inl h⟩
  · exact ⟨hl, .inr ⟨id, pre, fl, b, by omega, by omega, e⟩⟩
theorem IntsP.at_ {l : List Int} {lo hi : Nat} {M M' : Mem} {v : Value} (h : IntsP l lo hi M v) (hs : ∀ i, lo ≤ i → i < hi → M'[i]? = M[i]?) : IntsP l lo hi M' v := by
  obtain ⟨hl, h | ⟨id, pre, fl, b, c, d, e⟩⟩ := h
  · exact ⟨hl, .inl h⟩
  · exact ⟨hl, .inr ⟨id, pre, fl, b, c, d, e.at_ (hs id c d)⟩⟩
theorem IntsP.nil (lo hi : Nat) (M : Mem) : IntsP [] lo hi M (.slice none 0 0) := ⟨by simp, .inl ⟨rfl, rfl⟩⟩
theorem IntsO.p {l : List Int} {lo hi : Nat} {M : Mem} {v : Value} (h : IntsO l lo hi M v) : IntsP l lo hi M v := by
  obtain ⟨hl, id, fl, rfl, a, b, ho⟩ := h
  exact ⟨hl, .inr ⟨id, [], fl, rfl, a, b, ho⟩⟩
theorem markIntsP_ac (m : Mem) (lo hi : Nat) (v : Value) (l : List Int) (k0 : Int) (h : Lv lo hi m fun M => IntsP l lo hi M v) (h0 : 0 ≤ k0) (h1 : k0 ≤ 68719476736) :
    AC Try.prog 38 [v, .int .i64 k0] m fun r m' => r = .int .i64 (k0 + l.length) ∧ But lo hi m m' ∧ Lv lo hi m' fun M => IntsP (imarks k0 l.length) lo hi M v := by
  refine ac_of_run mixed ok_laws_markIntS (by simp) (go_start _ _ _ ?_)
  obtain ⟨hl, ⟨rfl, rfl⟩ | ⟨id, pre, fl, rfl, a, b, ho⟩⟩ := h.now
  · simp (config := {implicitDefEqProofs := false, maxDischargeDepth := 20}) (disch := first | omega | (simp only [lenE]; done) | (simp only [lenE]; omega) | rfl | (simp only [lenE, markR_len]; done) | (simp only [lenE, markR_len]; omega)) only [runE, mapE, listE, initT_5, initT_6, initT_7, initT_8, resV, oneV, binA, unA, reduceCtorEq, Nat.reduceEqDiff, Nat.reduceAdd, Nat.reduceLT, Nat.reduceLeDiff, Nat.reduceMul, Nat.reduceSub, ↓reduceIte, decide_true, decide_false, Bool.true_eq_false, Bool.false_eq_true, Bool.not_true, Bool.not_false, if_true, if_false, and_true, true_and, memE, celE, w64, Nat.zero_add, Nat.add_zero, Nat.mul_one, putL, and_self, ldn, c_laws_markIntS, r_laws_markIntS]
    refine loop_inv mixed (fun s => s.m = m ∧ s.t 0 = .slice none 0 0 ∧ s.t 1 = .int .i64 k0 ∧ s.t 5 = .int .i64 0) (fun _ => 0) ⟨rfl, rfl, rfl, rfl⟩ ?_
    rintro s ⟨tm, t0, t1, t5⟩
    simp (config := {implicitDefEqProofs := false, maxDischargeDepth := 20}) (disch := first | omega | (simp only [lenE]; done) | (simp only [lenE]; omega) | rfl | (simp only [lenE, markR_len]; done) | (simp only [lenE, markR_len]; omega)) only [runE, mapE, listE, initT_5, initT_6, initT_7, initT_8, resV, oneV, binA, unA, reduceCtorEq, Nat.reduceEqDiff, Nat.reduceAdd, Nat.reduceLT, Nat.reduceLeDiff, Nat.reduceMul, Nat.reduceSub, ↓reduceIte, decide_true, decide_false, Bool.true_eq_false, Bool.false_eq_true, Bool.not_true, Bool.not_false, if_true, if_false, and_true, true_and, memE, celE, w64, Nat.zero_add, Nat.add_zero, Nat.mul_one, putL, and_self, ldn, tm, t0, t1, t5, show ¬ ((0 : Int) < ((0 : Nat) : Int)) by simp]
    exact ⟨by simp, But.refl _ _ _, by simpa [imarks] using h⟩
  · simp (config := {implicitDefEqProofs := false, maxDischargeDepth := 20}) (disch := first | omega | (simp only [lenE]; done) | (simp only [lenE]; omega) | rfl | (simp only [lenE, markR_len]; done) | (simp only [lenE, markR_len]; omega)) only [runE, mapE, listE, initT_5, initT_6, initT_7, initT_8, resV, oneV, binA, unA, reduceCtorEq, Nat.reduceEqDiff, Nat.reduceAdd, Nat.reduceLT, Nat.reduceLeDiff, Nat.reduceMul, Nat.reduceSub, ↓reduceIte, decide_true, decide_false, Bool.true_eq_false, Bool.false_eq_true, Bool.not_true, Bool.not_false, if_true, if_false, and_true, true_and, memE, celE, w64, Nat.zero_add, Nat.add_zero, Nat.mul_one, putL, and_self, ldn, c_laws_markIntS, r_laws_markIntS]
    refine loop_inv mixed (fun s => ∃ (k : Nat) (M : Mem) (xs : List Int), k ≤ l.length ∧ s.m = M ∧ But lo hi m M ∧ OwnR M id (pre ++ xs) ∧ xs.length = l.length ∧ (∀ j, j < k → xs[j]? = (imarks k0 l.length)[j]?) ∧
        s.t 0 = .slice (some ⟨id, pre.length, none⟩) l.length fl ∧ s.t 1 = .int .i64 (k0 + (k : Int)) ∧ s.t 5 = .int .i64 k) (fun s => l.length - (intOf (s.t 5)).toNat)
      ⟨0, _, l, by omega, rfl, But.refl _ _ _, ho, rfl, fun j hj => absurd hj (by omega), rfl, by simp only [put_t, put_t', put_m, putT_t, putT_t', putT_m, init_t, init_m, initT_0, initT_1, initT_2, initT_3, initT_4, initT_5, initT_6, initT_7, initT_8, Nat.reduceEqDiff, ↓reduceIte]; simp, rfl⟩ ?_
    rintro s ⟨k, M, xs, hk, tm, hb, hoM, hxl, hpre, t0, t1, t5⟩
    by_cases hlt : k < l.length
    · have hlt' : (k : Int) < l.length := by omega
      have hst := hoM.st (off := pre.length + k) (x := k0 + (k : Int)) (by rw [List.length_append]; omega)
      rw [List.set_append_right _ _ (by omega), Nat.add_sub_cancel_left] at hst
      simp (config := {implicitDefEqProofs := false, maxDischargeDepth := 20}) (disch := first | omega | (simp only [lenE]; done) | (simp only [lenE]; omega) | rfl | (simp only [lenE, markR_len]; done) | (simp only [lenE, markR_len]; omega)) only [runE, mapE, listE, initT_5, initT_6, initT_7, initT_8, resV, oneV, binA, unA, reduceCtorEq, Nat.reduceEqDiff, Nat.reduceAdd, Nat.reduceLT, Nat.reduceLeDiff, Nat.reduceMul, Nat.reduceSub, ↓reduceIte, decide_true, decide_false, Bool.true_eq_false, Bool.false_eq_true, Bool.not_true, Bool.not_false, if_true, if_false, and_true, true_and, memE, celE, w64, Nat.zero_add, Nat.add_zero, Nat.mul_one, putL, and_self, ldn, tm, t0, t1, t5, hlt', iadA_in hlt, hst]
      refine ⟨⟨k + 1, _, xs.set k (k0 + (k : Int)), by omega, rfl, hb.set a b _, hoM.set_self, by simpa using hxl, fun j hj => ?_, by congr 1; push_cast; omega, by simp⟩, ?_⟩
      · rw [List.getElem?_set]
        by_cases e : k = j
        · subst e
          rw [if_pos rfl, if_pos (by omega)]
          simp [imarks, hlt]
        · rw [if_neg e]; exact hpre j (by omega)
      · simp [intOf]; omega
    · have hlt' : ¬ ((k : Int) < l.length) := by omega
      have e : k = l.length := by omega
      simp (config := {implicitDefEqProofs := false, maxDischargeDepth := 20}) (disch := first | omega | (simp only [lenE]; done) | (simp only [lenE]; omega) | rfl | (simp only [lenE, markR_len]; done) | (simp only [lenE, markR_len]; omega)) only [runE, mapE, listE, initT_5, initT_6, initT_7, initT_8, resV, oneV, binA, unA, reduceCtorEq, Nat.reduceEqDiff, Nat.reduceAdd, Nat.reduceLT, Nat.reduceLeDiff, Nat.reduceMul, Nat.reduceSub, ↓reduceIte, decide_true, decide_false, Bool.true_eq_false, Bool.false_eq_true, Bool.not_true, Bool.not_false, if_true, if_false, and_true, true_and, memE, celE, w64, Nat.zero_add, Nat.add_zero, Nat.mul_one, putL, and_self, ldn, tm, t0, t1, t5, hlt']
      have hx : xs = imarks k0 l.length := by
        apply List.ext_getElem?
        intro j
        by_cases hj : j < k
        · exact hpre j hj
        · rw [List.getElem?_eq_none (by omega), List.getElem?_eq_none (by simp [imarks]; omega)]
      refine ⟨by rw [e], hb, IntsP.lv ⟨by rw [imarks_len]; exact hl, .inr ⟨id, pre, fl, by rw [imarks_len], a, b, by rw [← hx]; exact hoM⟩⟩ h.1 (by have := hb.1; have := h.2.1; omega)⟩

theorem stP_agg2f (m : Mem) (id off : Nat) (u v : Value) : stP m 2 (.pointer (some ⟨id, off, none⟩)) (.agg #[u, v]) = stA m id off [u, v] := rfl
/-! Flows. -/
abbrev flV (s : Fl) (a : Value) : Value := .agg #[.int .i64 s.stock, a]
def FlA (m : Mem) (v : Value) (s : Fl) : Prop := ∃ a, v = flV s a ∧ IntsA m a s.under
theorem FlA.ext {m : Mem} {v : Value} {s : Fl} (h : FlA m v s) (new : Mem) : FlA (m ++ new) v s := by
  obtain ⟨a, rfl, h1⟩ := h
  exact ⟨a, rfl, h1.ext new⟩
theorem FlA.ro {m : Mem} {v : Value} {s : Fl} (h : FlA m v s) : FlA (roM m) v s := by
  obtain ⟨a, rfl, h1⟩ := h
  exact ⟨a, rfl, h1.ro⟩
def FlO (s : Fl) (lo hi : Nat) (M : Mem) (v : Value) : Prop := ∃ a, v = flV s a ∧ IntsP s.under lo hi M a
theorem FlO.in {s : Fl} {lo hi : Nat} {M : Mem} {v : Value} (h : FlO s lo hi M v) : FlA M v s := by
  obtain ⟨a, rfl, h1⟩ := h
  exact ⟨a, rfl, h1.in⟩
theorem FlO.lv {s : Fl} {lo hi : Nat} {m : Mem} {v : Value} (h : FlO s lo hi m v) (h0 : lo ≤ hi) (h1 : hi ≤ m.length) : Lv lo hi m fun M => FlO s lo hi M v := by
  obtain ⟨a, rfl, h2⟩ := h
  exact (h2.lv h0 h1).mono fun M hM => ⟨a, rfl, hM⟩
theorem FlO.wide (s : Fl) : Wide (FlO s) := fun lo hi lo' hi' M v h1 h2 h => by
  obtain ⟨a, rfl, h3⟩ := h
  exact ⟨a, rfl, IntsP.wide _ _ _ _ _ _ _ h1 h2 h3⟩
theorem FlA.one {m : Mem} {s : Fl} {u : Value} (h : FlA m (flV s u) s) (xs : List Value) : onesB (u :: xs) = onesB xs := by
  obtain ⟨u', e, hu⟩ := h
  have e' : u = u' := by simpa [flV] using e
  rw [e']; exact hu.one xs
theorem szFlow_rc (m : Mem) (v : Value) (s : Fl) (left : Int) (h : FlA m v s) (h0 : 0 ≤ left) (h1 : left ≤ 1048576) :
    RC Try.prog 18 [v, .int .i64 left] m fun r new => NoRo new ∧ ((r = .int .i64 (-1)) ∨ ∃ z : Int, 0 ≤ z ∧ z ≤ left ∧ r = .int .i64 z ∧ s.under.length ≤ 1048576) := by
  refine rc_of_run mixed ok_laws_szFlow (by simp) (go_start _ _ _ ?_)
  obtain ⟨u, rfl, hu⟩ := h.ro
  simp (config := {implicitDefEqProofs := false, maxDischargeDepth := 20}) (disch := first | omega | (simp only [lenE]; done) | (simp only [lenE]; omega) | rfl | (simp only [lenE, markR_len]; done) | (simp only [lenE, markR_len]; omega)) only [runE, mapE, listE, initT_5, initT_6, initT_7, initT_8, resV, oneV, binA, unA, reduceCtorEq, Nat.reduceEqDiff, Nat.reduceAdd, Nat.reduceLT, Nat.reduceLeDiff, Nat.reduceMul, Nat.reduceSub, ↓reduceIte, decide_true, decide_false, Bool.true_eq_false, Bool.false_eq_true, Bool.not_true, Bool.not_false, if_true, if_false, and_true, true_and, memE, celE, w64, Nat.zero_add, Nat.add_zero, Nat.mul_one, putL, and_self, ldn, c_laws_szFlow, r_laws_szFlow]
  refine callH_rc (szIntsO_rc _ u s.under left (hu.ext _) h0 h1) ?_
  rintro r new ⟨hn, rfl | ⟨z, z0, z1, rfl, hl⟩⟩
  · simp (config := {implicitDefEqProofs := false, maxDischargeDepth := 20}) (disch := first | omega | (simp only [lenE]; done) | (simp only [lenE]; omega) | rfl | (simp only [lenE, markR_len]; done) | (simp only [lenE, markR_len]; omega)) only [runE, mapE, listE, initT_5, initT_6, initT_7, initT_8, resV, oneV, binA, unA, reduceCtorEq, Nat.reduceEqDiff, Nat.reduceAdd, Nat.reduceLT, Nat.reduceLeDiff, Nat.reduceMul, Nat.reduceSub, ↓reduceIte, decide_true, decide_false, Bool.true_eq_false, Bool.false_eq_true, Bool.not_true, Bool.not_false, if_true, if_false, and_true, true_and, memE, celE, w64, Nat.zero_add, Nat.add_zero, Nat.mul_one, putL, and_self, ldn, show ((-1 : Int) < 0) = True by simp]
    try simp only [List.append_assoc, List.cons_append, List.nil_append, List.append_nil]
    exact ⟨_, rfl, by (repeat (first | exact noRo_nil | assumption | apply noRo_own | apply noRo_dead | apply noRo_app)), by (repeat (first | exact noRo_nil | assumption | apply noRo_own | apply noRo_dead | apply noRo_app)), .inl rfl⟩
  · have hz : ¬ (z < 0) := by omega
    simp (config := {implicitDefEqProofs := false, maxDischargeDepth := 20}) (disch := first | omega | (simp only [lenE]; done) | (simp only [lenE]; omega) | rfl | (simp only [lenE, markR_len]; done) | (simp only [lenE, markR_len]; omega)) only [runE, mapE, listE, initT_5, initT_6, initT_7, initT_8, resV, oneV, binA, unA, reduceCtorEq, Nat.reduceEqDiff, Nat.reduceAdd, Nat.reduceLT, Nat.reduceLeDiff, Nat.reduceMul, Nat.reduceSub, ↓reduceIte, decide_true, decide_false, Bool.true_eq_false, Bool.false_eq_true, Bool.not_true, Bool.not_false, if_true, if_false, and_true, true_and, memE, celE, w64, Nat.zero_add, Nat.add_zero, Nat.mul_one, putL, and_self, ldn, hz]
    try simp only [List.append_assoc, List.cons_append, List.nil_append, List.append_nil]
    exact ⟨_, rfl, by (repeat (first | exact noRo_nil | assumption | apply noRo_own | apply noRo_dead | apply noRo_app)), by (repeat (first | exact noRo_nil | assumption | apply noRo_own | apply noRo_dead | apply noRo_app)), .inr ⟨z, z0, z1, rfl, hl⟩⟩
theorem toFlow_rc (m : Mem) (v : Value) (s : Fl) (h : FlA m v s) (hl : s.under.length ≤ 1048576) :
    RC Try.prog 20 [v] m (AnsO m (FlO s) id) := by
  refine rc_of_run mixed ok_laws_toFlow (by simp) (go_start _ _ _ ?_)
  obtain ⟨u, rfl, hu⟩ := h.ro
  simp (config := {implicitDefEqProofs := false, maxDischargeDepth := 20}) (disch := first | omega | (simp only [lenE]; done) | (simp only [lenE]; omega) | rfl | (simp only [lenE, markR_len]; done) | (simp only [lenE, markR_len]; omega)) only [runE, mapE, listE, initT_5, initT_6, initT_7, initT_8, resV, oneV, binA, unA, reduceCtorEq, Nat.reduceEqDiff, Nat.reduceAdd, Nat.reduceLT, Nat.reduceLeDiff, Nat.reduceMul, Nat.reduceSub, ↓reduceIte, decide_true, decide_false, Bool.true_eq_false, Bool.false_eq_true, Bool.not_true, Bool.not_false, if_true, if_false, and_true, true_and, memE, celE, w64, Nat.zero_add, Nat.add_zero, Nat.mul_one, putL, and_self, ldn, c_laws_toFlow, r_laws_toFlow]
  refine callH_rc (toIntS_rc _ u s.under (((hu.ext _).ext _).ext _) hl) ?_
  rintro r new ⟨rfl, rfl⟩
  simp (config := {implicitDefEqProofs := false, maxDischargeDepth := 20}) (disch := first | omega | (simp only [lenE]; done) | (simp only [lenE]; omega) | rfl | (simp only [lenE, markR_len]; done) | (simp only [lenE, markR_len]; omega)) only [runE, mapE, listE, initT_5, initT_6, initT_7, initT_8, resV, oneV, binA, unA, reduceCtorEq, Nat.reduceEqDiff, Nat.reduceAdd, Nat.reduceLT, Nat.reduceLeDiff, Nat.reduceMul, Nat.reduceSub, ↓reduceIte, decide_true, decide_false, Bool.true_eq_false, Bool.false_eq_true, Bool.not_true, Bool.not_false, if_true, if_false, and_true, true_and, memE, celE, w64, Nat.zero_add, Nat.add_zero, Nat.mul_one, putL, and_self, ldn]
  refine ext_ansO (f := _root_.id) ((((((Ext.refl m).one _ _).one _ _).one _ _).one _ _)) fun M' hM => ⟨_, rfl, hl, .inr ⟨_, [], 1, rfl, by omega, ?_, ?_⟩⟩
  · simp [roM_len]
  · refine OwnR.at_ (OwnR.here _ _ _ ?_) (hM _ (by omega) (by simp [roM_len]))
    simp [roM_len]
theorem eqFlow_rc (m : Mem) (v u : Value) (s : Fl) (h : FlA m v s) (h' : FlA m u s) : RC Try.prog 22 [v, u] m (AnsV (.bool true)) := by
  refine rc_of_run mixed ok_laws_eqFlow (by simp) (go_start _ _ _ ?_)
  obtain ⟨x, rfl, hx⟩ := h.ro
  obtain ⟨y, rfl, hy⟩ := h'.ro
  simp (config := {implicitDefEqProofs := false, maxDischargeDepth := 20}) (disch := first | omega | (simp only [lenE]; done) | (simp only [lenE]; omega) | rfl | (simp only [lenE, markR_len]; done) | (simp only [lenE, markR_len]; omega)) only [runE, mapE, listE, initT_5, initT_6, initT_7, initT_8, resV, oneV, binA, unA, reduceCtorEq, Nat.reduceEqDiff, Nat.reduceAdd, Nat.reduceLT, Nat.reduceLeDiff, Nat.reduceMul, Nat.reduceSub, ↓reduceIte, decide_true, decide_false, Bool.true_eq_false, Bool.false_eq_true, Bool.not_true, Bool.not_false, if_true, if_false, and_true, true_and, memE, celE, w64, Nat.zero_add, Nat.add_zero, Nat.mul_one, putL, and_self, ldn, c_laws_eqFlow, r_laws_eqFlow, bne_self_eq_false]
  refine callH_rc (eqIntS_rc _ x y s.under ((hx.ext _).ext _) ((hy.ext _).ext _)) ?_
  rintro r new ⟨rfl, rfl⟩
  simp (config := {implicitDefEqProofs := false, maxDischargeDepth := 20}) (disch := first | omega | (simp only [lenE]; done) | (simp only [lenE]; omega) | rfl | (simp only [lenE, markR_len]; done) | (simp only [lenE, markR_len]; omega)) only [runE, mapE, listE, initT_5, initT_6, initT_7, initT_8, resV, oneV, binA, unA, reduceCtorEq, Nat.reduceEqDiff, Nat.reduceAdd, Nat.reduceLT, Nat.reduceLeDiff, Nat.reduceMul, Nat.reduceSub, ↓reduceIte, decide_true, decide_false, Bool.true_eq_false, Bool.false_eq_true, Bool.not_true, Bool.not_false, if_true, if_false, and_true, true_and, memE, celE, w64, Nat.zero_add, Nat.add_zero, Nat.mul_one, putL, and_self, ldn, bne_self_eq_false]
  try simp only [List.append_assoc, List.cons_append, List.nil_append, List.append_nil]
  exact ⟨_, rfl, by (repeat (first | exact noRo_nil | assumption | apply noRo_own | apply noRo_dead | apply noRo_app)), rfl, by (repeat (first | exact noRo_nil | assumption | apply noRo_own | apply noRo_dead | apply noRo_app))⟩
theorem But.ext1 {lo hi : Nat} {m m' new : Mem} (h : But lo hi (m ++ new) m') : But lo hi m m' := h.base
/-- The marks of a flow. -/
def fmarks (k0 : Int) (s : Fl) : Fl := ⟨s.stock, imarks k0 s.under.length⟩
theorem markFlowO_ac (m : Mem) (lo hi : Nat) (v : Value) (s : Fl) (k0 : Int) (h : Lv lo hi m fun M => FlO s lo hi M v) (h0 : 0 ≤ k0) (h1 : k0 ≤ 68719476736) :
    AC Try.prog 27 [v, .int .i64 k0] m fun r m' => r = .int .i64 (k0 + s.under.length) ∧ But lo hi m m' ∧ Lv lo hi m' fun M => FlO (fmarks k0 s) lo hi M v := by
  refine ac_of_run mixed ok_laws_markFlow (by simp) (go_start _ _ _ ?_)
  obtain ⟨u, rfl, hu⟩ := h.now
  simp (config := {implicitDefEqProofs := false, maxDischargeDepth := 20}) (disch := first | omega | (simp only [lenE]; done) | (simp only [lenE]; omega) | rfl | (simp only [lenE, markR_len]; done) | (simp only [lenE, markR_len]; omega)) only [runE, mapE, listE, initT_5, initT_6, initT_7, initT_8, resV, oneV, binA, unA, reduceCtorEq, Nat.reduceEqDiff, Nat.reduceAdd, Nat.reduceLT, Nat.reduceLeDiff, Nat.reduceMul, Nat.reduceSub, ↓reduceIte, decide_true, decide_false, Bool.true_eq_false, Bool.false_eq_true, Bool.not_true, Bool.not_false, if_true, if_false, and_true, true_and, memE, celE, w64, Nat.zero_add, Nat.add_zero, Nat.mul_one, putL, and_self, ldn, c_laws_markFlow, r_laws_markFlow]
  refine callH_ac (markIntsP_ac _ lo hi u s.under k0 ((hu.lv h.1 h.2.1).ext _) h0 h1) ?_
  rintro r m' ⟨rfl, hb, hm⟩
  simp (config := {implicitDefEqProofs := false, maxDischargeDepth := 20}) (disch := first | omega | (simp only [lenE]; done) | (simp only [lenE]; omega) | rfl | (simp only [lenE, markR_len]; done) | (simp only [lenE, markR_len]; omega)) only [runE, mapE, listE, initT_5, initT_6, initT_7, initT_8, resV, oneV, binA, unA, reduceCtorEq, Nat.reduceEqDiff, Nat.reduceAdd, Nat.reduceLT, Nat.reduceLeDiff, Nat.reduceMul, Nat.reduceSub, ↓reduceIte, decide_true, decide_false, Bool.true_eq_false, Bool.false_eq_true, Bool.not_true, Bool.not_false, if_true, if_false, and_true, true_and, memE, celE, w64, Nat.zero_add, Nat.add_zero, Nat.mul_one, putL, and_self, ldn]
  exact ⟨hb.base, hm.mono fun M hM => ⟨u, rfl, hM⟩⟩
theorem markFlow_ac (m : Mem) (lo hi : Nat) (v : Value) (s : Fl) (k0 : Int) (h : Lv lo hi m fun M => FlO s lo hi M v) (h0 : 0 ≤ k0) (h1 : k0 ≤ 68719476736) :
    AC Try.prog 27 [v, .int .i64 k0] m fun r m' => r = .int .i64 (k0 + s.under.length) ∧ But lo hi m m' :=
  (markFlowO_ac m lo hi v s k0 h h0 h1).mono fun r m' h => ⟨h.1, h.2.1⟩
theorem heldFlow_rc (m : Mem) (v : Value) (k0 : Int) (s : Fl) (h : FlA m v (fmarks k0 s)) (h0 : 0 ≤ k0) (h1 : k0 ≤ 68719476736) (hn : s.under.length ≤ 1048576) :
    RC Try.prog 28 [v, .int .i64 k0] m fun r new => r = .int .i64 (k0 + s.under.length) ∧ NoRo new := by
  refine rc_of_run mixed ok_laws_heldFlow (by simp) (go_start _ _ _ ?_)
  obtain ⟨u, rfl, hu⟩ := h.ro
  simp (config := {implicitDefEqProofs := false, maxDischargeDepth := 20}) (disch := first | omega | (simp only [lenE]; done) | (simp only [lenE]; omega) | rfl | (simp only [lenE, markR_len]; done) | (simp only [lenE, markR_len]; omega)) only [runE, mapE, listE, initT_5, initT_6, initT_7, initT_8, resV, oneV, binA, unA, reduceCtorEq, Nat.reduceEqDiff, Nat.reduceAdd, Nat.reduceLT, Nat.reduceLeDiff, Nat.reduceMul, Nat.reduceSub, ↓reduceIte, decide_true, decide_false, Bool.true_eq_false, Bool.false_eq_true, Bool.not_true, Bool.not_false, if_true, if_false, and_true, true_and, memE, celE, w64, Nat.zero_add, Nat.add_zero, Nat.mul_one, putL, and_self, ldn, c_laws_heldFlow, r_laws_heldFlow]
  refine callH_rc (heldIntsO_rc _ u k0 s.under.length (hu.ext _) h0 h1 hn) ?_
  rintro r new ⟨rfl, hn⟩
  simp (config := {implicitDefEqProofs := false, maxDischargeDepth := 20}) (disch := first | omega | (simp only [lenE]; done) | (simp only [lenE]; omega) | rfl | (simp only [lenE, markR_len]; done) | (simp only [lenE, markR_len]; omega)) only [runE, mapE, listE, initT_5, initT_6, initT_7, initT_8, resV, oneV, binA, unA, reduceCtorEq, Nat.reduceEqDiff, Nat.reduceAdd, Nat.reduceLT, Nat.reduceLeDiff, Nat.reduceMul, Nat.reduceSub, ↓reduceIte, decide_true, decide_false, Bool.true_eq_false, Bool.false_eq_true, Bool.not_true, Bool.not_false, if_true, if_false, and_true, true_and, memE, celE, w64, Nat.zero_add, Nat.add_zero, Nat.mul_one, putL, and_self, ldn, show ¬ (k0 + (s.under.length : Int) < 0) by omega]
  try simp only [List.append_assoc, List.cons_append, List.nil_append, List.append_nil]
  exact ⟨_, rfl, by (repeat (first | exact noRo_nil | assumption | apply noRo_own | apply noRo_dead | apply noRo_app)), rfl, by (repeat (first | exact noRo_nil | assumption | apply noRo_own | apply noRo_dead | apply noRo_app))⟩
theorem FlO.agg {s : Fl} {lo hi : Nat} {M : Mem} {v : Value} (h : FlO s lo hi M v) : ∃ a b, v = .agg #[a, b] ∧ ∀ xs, onesB (a :: b :: xs) = onesB xs := by
  obtain ⟨a, rfl, h1⟩ := h
  exact ⟨_, _, rfl, fun xs => by rw [onesB_int]; exact h1.in.one xs⟩
theorem vr2f {ρ : Places} {a b x : Value} (hb : VR ρ b b) (h : VR ρ x a) : VR ρ (.agg #[b, x]) (.agg #[b, a]) := by
  obtain ⟨h1, h2⟩ := (VL.cons hb (VL.cons h (VL.nil ρ))).arr
  exact .agg h1 h2
theorem argFlow {W : World} {ρ : Places} {m : Mem} (h : MRel W W.heap.size ρ m W) {v : Value} {s : Fl} (hi : FlIn W v s) :
    ∃ ρ' m', Adds W ρ ρ' m m' ∧ ∃ x, VR ρ' x v ∧ FlA m' x s := by
  obtain ⟨u, rfl, hu⟩ := hi
  obtain ⟨ρ', m', a, x, hx, hA⟩ := argI2 h hu
  exact ⟨ρ', m', a, _, vr2f (.int _ _) hx, x, rfl, hA⟩

/-! Rules. -/
abbrev rlV (c : Rl) : Value := .agg #[.int .i64 c.kind, .int .i64 c.low, .int .i64 c.high]
theorem toRule_rc (m : Mem) (c : Rl) : RC Try.prog 30 [rlV c] m (AnsV (rlV c)) := by
  refine rc_of_run mixed ok_laws_toRule (by simp) (go_start _ _ _ ?_)
  simp (config := {implicitDefEqProofs := false, maxDischargeDepth := 20}) (disch := first | omega | (simp only [lenE]; done) | (simp only [lenE]; omega) | rfl | (simp only [lenE, markR_len]; done) | (simp only [lenE, markR_len]; omega)) only [runE, mapE, listE, initT_5, initT_6, initT_7, initT_8, resV, oneV, binA, unA, reduceCtorEq, Nat.reduceEqDiff, Nat.reduceAdd, Nat.reduceLT, Nat.reduceLeDiff, Nat.reduceMul, Nat.reduceSub, ↓reduceIte, decide_true, decide_false, Bool.true_eq_false, Bool.false_eq_true, Bool.not_true, Bool.not_false, if_true, if_false, and_true, true_and, memE, celE, w64, Nat.zero_add, Nat.add_zero, Nat.mul_one, putL, and_self, ldn, c_laws_toRule, r_laws_toRule, rlV]
  try simp only [List.append_assoc, List.cons_append, List.nil_append, List.append_nil]
  exact ⟨_, rfl, by (repeat (first | exact noRo_nil | assumption | apply noRo_own | apply noRo_dead | apply noRo_app)), rfl, by (repeat (first | exact noRo_nil | assumption | apply noRo_own | apply noRo_dead | apply noRo_app))⟩
theorem three_rel (ρ : Places) (x y z : Int) : VR ρ (.agg #[.int .i64 x, .int .i64 y, .int .i64 z]) (.agg #[.int .i64 x, .int .i64 y, .int .i64 z]) := by
  refine .agg rfl fun i a b ha hb => ?_
  rw [ha] at hb
  cases hb
  match i with
  | 0 => simp at ha; subst ha; exact .int _ _
  | 1 => simp at ha; subst ha; exact .int _ _
  | 2 => simp at ha; subst ha; exact .int _ _
  | n + 3 => simp at ha
theorem rlV_rel (ρ : Places) (x : Rl) : VR ρ (rlV x) (rlV x) := three_rel ρ _ _ _
theorem BoxA.mk3 {m : Mem} {id : Nat} {a b c : Value} (h : BoxA m id [a, b, c]) : ldA m (some 3) (.pointer (some ⟨id, 0, none⟩)) = some (.agg #[a, b, c]) ∧ rdc m id 0 = some a ∧ rdc m id 1 = some b ∧ rdc m id 2 = some c := by
  obtain ⟨_, h⟩ := h
  simp [ldA, rdn, rdc, h]
theorem BoxA.rdk7 {m : Mem} {id : Nat} {vs : List Value} (h : BoxA m id vs) (k : Nat) : rdc m id k = vs[k]? := by
  obtain ⟨e, h⟩ := h
  simp [rdc, h]
theorem BoxA.mk2 {m : Mem} {id : Nat} {a b : Value} (h : BoxA m id [a, b]) : ldA m (some 2) (.pointer (some ⟨id, 0, none⟩)) = some (.agg #[a, b]) ∧ rdc m id 0 = some a ∧ rdc m id 1 = some b := by
  obtain ⟨_, h⟩ := h
  simp [ldA, rdn, rdc, h]
end Go.Proofs.Ytnkbjliidenldaa.Ab
