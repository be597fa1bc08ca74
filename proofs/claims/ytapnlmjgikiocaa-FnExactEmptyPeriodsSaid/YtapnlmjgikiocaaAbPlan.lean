/- Lists that grow behind other memory; IsPlan, EmptyPeriods, OrderPeriods, OrdersAtEmpty. -/
import Derived.Test.YtapnlmjgikiocaaAbWalk
namespace Go.Proofs.Ytapnlmjgikiocaa.Ab
open Go Go.RowKit
set_option linter.unusedVariables false
set_option linter.unusedSimpArgs false

/-- What a memory has become: the blocks that came in, only to be read, and new ones. -/
def Ext (m M : Mem) : Prop := ∃ new, M = roM m ++ new ∧ NoRo new
theorem Ext.refl (m : Mem) : Ext m (roM m) := ⟨[], by simp, noRo_nil⟩
theorem Ext.app {m M new : Mem} (h : Ext m M) (hn : NoRo new) : Ext m (M ++ new) := by
  obtain ⟨n0, rfl, h0⟩ := h
  exact ⟨n0 ++ new, by rw [List.append_assoc], noRo_app h0 hn⟩
theorem Ext.one {m M : Mem} (h : Ext m M) (e : TypeId) (cs : List Value) : Ext m (M ++ [⟨.own, e, cs⟩]) := h.app (noRo_own noRo_nil)
theorem Ext.len {m M : Mem} (h : Ext m M) : m.length ≤ M.length := by
  obtain ⟨n0, rfl, h0⟩ := h
  simp [roM_len]
theorem Ext.ints {m M : Mem} (h : Ext m M) {v : Value} {l : List Int} (hi : IntsA (roM m) v l) : IntsA M v l := by
  obtain ⟨n0, rfl, h0⟩ := h
  exact hi.ext _
theorem noRo_set {l : Mem} {i : Nat} (h : NoRo l) : NoRo (l.set i deadB) := fun b hb => by
  rcases List.mem_or_eq_of_mem_set hb with h1 | h1
  · exact h b h1
  · rw [h1]; simp [deadB]
theorem Ext.dead {m M : Mem} (h : Ext m M) {id : Nat} (hid : m.length ≤ id) : Ext m (M.set id deadB) := by
  obtain ⟨n0, rfl, h0⟩ := h
  exact ⟨n0.set (id - m.length) deadB, by rw [List.set_append_right _ _ (by rw [roM_len]; exact hid), roM_len], noRo_set h0⟩
theorem OwnR.dead {m : Mem} {id id' : Nat} {l : List Int} (h : OwnR m id' l) (hne : id ≠ id') : OwnR (m.set id deadB) id' l := by
  unfold OwnR; rw [List.getElem?_set_ne hne]; exact h
theorem OwnR.at_end (m : Mem) (l : List Int) : OwnR (m ++ [⟨.own, 3, l.map (Value.int .i64)⟩]) m.length l := by unfold OwnR; simp
theorem OwnR.end' {m : Mem} {l : List Int} {id : Nat} (h : id = m.length) : OwnR (m ++ [⟨.own, 3, l.map (Value.int .i64)⟩]) id l := by rw [h]; exact OwnR.at_end m l
theorem app_gen {M : Mem} {l : List Int} {x : Int} {id : Nat} (h : OwnR M id l) (hb : l.length ≤ 1048576) :
    appP (M ++ [⟨.own, 3, [.int .i64 x]⟩]) 3 1 8 (.slice (some ⟨id, 0, none⟩) l.length 1) (.slice (some ⟨M.length, 0, none⟩) 1 1) =
      some (.slice (some ⟨M.length + 1, 0, none⟩) (l.length + 1) 1, M.set id deadB ++ [⟨.own, 3, [.int .i64 x]⟩] ++ [⟨.own, 3, (l ++ [x]).map (Value.int .i64)⟩]) := by
  have hl := h.lt
  have e1 : slR (M ++ [⟨.own, 3, [.int .i64 x]⟩]) 1 (.slice (some ⟨M.length, 0, none⟩) 1 1) = some [.int .i64 x] := by
    simp only [slR, rdl, Nat.mul_one]
    simp
  unfold appP
  rw [e1]
  simp only [onesB_int, onesB_nil, if_true, appA, lenOfA]
  rw [List.getElem?_append_left hl, show M[id]? = some (rowB l) from h]
  simp only [List.length_map, Nat.mul_one, true_and]
  rw [if_pos (by omega), List.set_append_left _ _ hl]
  simp
theorem ext_ansL {m M : Mem} {l : List Int} {id n fl : Nat} {ok : Bool} (h : Ext m M) (ho : OwnR M id l) (hid : m.length ≤ id) (hn : n = l.length) (hl : l.length ≤ 1048576) :
    newQ m (AnsL m l ok) (.tuple #[.slice (some ⟨id, 0, none⟩) n fl, .bool ok]) M := by
  subst hn
  obtain ⟨n0, rfl, h0⟩ := h
  unfold OwnR at ho
  rw [List.getElem?_append_right (by rw [roM_len]; exact hid), roM_len] at ho
  exact ⟨n0, rfl, h0, h0, hl, id - m.length, fl, by rw [Nat.add_sub_cancel' hid], ho⟩
theorem ext_ansR {m M : Mem} {l : List Int} {id n fl : Nat} (h : Ext m M) (ho : OwnR M id l) (hid : m.length ≤ id) (hn : n = l.length) (hl : l.length ≤ 1048576) :
    newQ m (AnsR m l) (.slice (some ⟨id, 0, none⟩) n fl) M := by
  subst hn
  obtain ⟨n0, rfl, h0⟩ := h
  unfold OwnR at ho
  rw [List.getElem?_append_right (by rw [roM_len]; exact hid), roM_len] at ho
  exact ⟨n0, rfl, h0, h0, hl, id - m.length, fl, by rw [Nat.add_sub_cancel' hid], ho⟩
theorem ext_ansV {m M : Mem} {x v : Value} (h : Ext m M) (hv : v = x) : newQ m (AnsV x) v M := by
  obtain ⟨n0, rfl, h0⟩ := h
  exact ⟨n0, rfl, h0, hv, h0⟩
theorem AnsL.row {m new : Mem} {l : List Int} {ok : Bool} {r : Value} (h : AnsL m l ok r new) : ∃ id fl, r = .tuple #[.slice (some ⟨id, 0, none⟩) l.length fl, .bool ok] ∧ m.length ≤ id ∧ OwnR (m ++ new) id l ∧ l.length ≤ 1048576 ∧ NoRo new := by
  obtain ⟨h1, h2, i, fl, rfl, h3⟩ := h
  exact ⟨_, fl, rfl, by omega, OwnR.new h3 rfl, h2, h1⟩

/-- The places of the right numbers among the first k. -/
def picks (f : Int → Bool) (l : List Int) : Nat → List Int
  | 0 => []
  | k + 1 => if f (l.getD k 0) then picks f l k ++ [(k : Int)] else picks f l k
theorem picks_len (f : Int → Bool) (l : List Int) (k : Nat) : (picks f l k).length ≤ k := by
  induction k with
  | zero => simp [picks]
  | succ k ih => rw [picks]; split <;> (try rw [List.length_append, List.length_singleton]) <;> omega

/-- A test that needs no memory. -/
theorem test_zero (m : Mem) : TestA m (.func (.func 45) #[] #[]) (fun x => x == 0) := by
  refine ⟨_, _, rfl, fun x m' hm => ?_⟩
  refine rc_of_run mixed ok_impl_EmptyPeriods_1 (by simp) (go_start _ _ _ ?_)
  simp (config := {implicitDefEqProofs := false, maxDischargeDepth := 20}) (disch := first | omega | (simp only [lenE]; done) | (simp only [lenE]; omega) | rfl | (simp only [lenE, markR_len]; done) | (simp only [lenE, markR_len]; omega)) only [runE, mapE, listE, initT_5, initT_6, initT_7, initT_8, resV, oneV, binA, unA, reduceCtorEq, Nat.reduceEqDiff, Nat.reduceAdd, Nat.reduceLT, Nat.reduceLeDiff, Nat.reduceMul, Nat.reduceSub, ↓reduceIte, decide_true, decide_false, Bool.true_eq_false, Bool.false_eq_true, Bool.not_true, Bool.not_false, if_true, if_false, and_true, true_and, memE, celE, w64, Nat.zero_add, Nat.add_zero, Nat.mul_one, putL, and_self, ldn, c_impl_EmptyPeriods_1, r_impl_EmptyPeriods_1]
  exact newQ_nil ⟨rfl, rfl⟩
theorem test_pos (m : Mem) : TestA m (.func (.func 46) #[] #[]) (fun x => decide (0 < x)) := by
  refine ⟨_, _, rfl, fun x m' hm => ?_⟩
  refine rc_of_run mixed ok_impl_OrderPeriods_1 (by simp) (go_start _ _ _ ?_)
  simp (config := {implicitDefEqProofs := false, maxDischargeDepth := 20}) (disch := first | omega | (simp only [lenE]; done) | (simp only [lenE]; omega) | rfl | (simp only [lenE, markR_len]; done) | (simp only [lenE, markR_len]; omega)) only [runE, mapE, listE, initT_5, initT_6, initT_7, initT_8, resV, oneV, binA, unA, reduceCtorEq, Nat.reduceEqDiff, Nat.reduceAdd, Nat.reduceLT, Nat.reduceLeDiff, Nat.reduceMul, Nat.reduceSub, ↓reduceIte, decide_true, decide_false, Bool.true_eq_false, Bool.false_eq_true, Bool.not_true, Bool.not_false, if_true, if_false, and_true, true_and, memE, celE, w64, Nat.zero_add, Nat.add_zero, Nat.mul_one, putL, and_self, ldn, c_impl_OrderPeriods_1, r_impl_OrderPeriods_1, gt_iff_lt]
  exact newQ_nil ⟨rfl, rfl⟩

theorem periodsWith_rc (m : Mem) (v fv : Value) (l : List Int) (f : Int → Bool) (h : IntsA m v l) (hf : ∀ M, TestA M fv f) (hl : l.length ≤ 1000) :
    RC Try.prog 44 [v, fv] m (AnsR m (picks f l l.length)) := by
  refine rc_of_run mixed ok_impl_periodsWith (by simp) (go_start _ _ _ ?_)
  have hr := h.ro
  have hpl := fun k => picks_len f l k
  obtain ⟨g, cap, rfl, -⟩ := hf m
  simp (config := {implicitDefEqProofs := false, maxDischargeDepth := 20}) (disch := first | omega | (simp only [lenE]; done) | (simp only [lenE]; omega) | rfl | (simp only [lenE, markR_len]; done) | (simp only [lenE, markR_len]; omega)) only [runE, mapE, listE, initT_5, initT_6, initT_7, initT_8, resV, oneV, binA, unA, reduceCtorEq, Nat.reduceEqDiff, Nat.reduceAdd, Nat.reduceLT, Nat.reduceLeDiff, Nat.reduceMul, Nat.reduceSub, ↓reduceIte, decide_true, decide_false, Bool.true_eq_false, Bool.false_eq_true, Bool.not_true, Bool.not_false, if_true, if_false, and_true, true_and, memE, celE, w64, Nat.zero_add, Nat.add_zero, Nat.mul_one, putL, and_self, ldn, c_impl_periodsWith, r_impl_periodsWith, hr.len, bsl_none]
  refine loop_inv mixed (fun s => ∃ (k : Nat) (M : Mem) (id : Nat), k ≤ l.length ∧ s.m = M ∧ Ext m M ∧ OwnR M id (picks f l k) ∧ m.length ≤ id ∧ s.t 1 = .func (.func g) #[] cap ∧ s.t 5 = .slice (some ⟨id, 0, none⟩) (picks f l k).length 1 ∧ s.t 9 = v ∧ s.t 10 = .int .i64 l.length ∧ s.t 11 = .int .i64 k) (fun s => l.length - (intOf (s.t 11)).toNat)
    ⟨0, _, m.length, by omega, rfl, (Ext.refl m).one _ _, by have := OwnR.at_end (roM m) []; rwa [roM_len] at this, by omega, rfl, rfl, rfl, rfl, rfl⟩ ?_
  rintro s ⟨k, M, id, hk, tm, hx, ho, hid, t1, t5, t9, t10, t11⟩
  by_cases hlt : k < l.length
  · have hlt' : (k : Int) < l.length := by omega
    have hi := hx.ints hr
    simp (config := {implicitDefEqProofs := false, maxDischargeDepth := 20}) (disch := first | omega | (simp only [lenE]; done) | (simp only [lenE]; omega) | rfl | (simp only [lenE, markR_len]; done) | (simp only [lenE, markR_len]; omega)) only [runE, mapE, listE, initT_5, initT_6, initT_7, initT_8, resV, oneV, binA, unA, reduceCtorEq, Nat.reduceEqDiff, Nat.reduceAdd, Nat.reduceLT, Nat.reduceLeDiff, Nat.reduceMul, Nat.reduceSub, ↓reduceIte, decide_true, decide_false, Bool.true_eq_false, Bool.false_eq_true, Bool.not_true, Bool.not_false, if_true, if_false, and_true, true_and, memE, celE, w64, Nat.zero_add, Nat.add_zero, Nat.mul_one, putL, and_self, ldn, tm, t1, t5, t9, t10, t11, hi.at_ k hlt, hi.ld k hlt, hlt']
    obtain ⟨g', cap', e, hc⟩ := hf M
    cases e
    refine callH_rc (hc _ M fun _ _ _ hv => hv) ?_
    rintro r new ⟨rfl, rfl⟩
    rw [List.append_nil]
    cases hb : f (l.getD k 0) with
    | true =>
      simp (config := {implicitDefEqProofs := false, maxDischargeDepth := 20}) (disch := first | omega | (simp only [lenE]; done) | (simp only [lenE]; omega) | rfl | (simp only [lenE, markR_len]; done) | (simp only [lenE, markR_len]; omega)) only [runE, mapE, listE, initT_5, initT_6, initT_7, initT_8, resV, oneV, binA, unA, reduceCtorEq, Nat.reduceEqDiff, Nat.reduceAdd, Nat.reduceLT, Nat.reduceLeDiff, Nat.reduceMul, Nat.reduceSub, ↓reduceIte, decide_true, decide_false, Bool.true_eq_false, Bool.false_eq_true, Bool.not_true, Bool.not_false, if_true, if_false, and_true, true_and, memE, celE, w64, Nat.zero_add, Nat.add_zero, Nat.mul_one, putL, and_self, ldn, tm, t1, t5, t9, t10, t11, bsl_one, app_gen ho (by have := hpl k; omega)]
      refine ⟨⟨k + 1, _, M.length + 1, by omega, rfl, ((hx.dead hid).one _ _).one _ _, ?_, by have := hx.len; omega, by rw [picks, if_pos hb]; simp, by simp⟩, ?_⟩
      · rw [picks, if_pos hb]
        have := OwnR.at_end (M.set id deadB ++ [⟨.own, 3, [.int .i64 (k : Int)]⟩]) (picks f l k ++ [(k : Int)])
        simpa using this
      · simp [intOf]; omega
    | false =>
      simp (config := {implicitDefEqProofs := false, maxDischargeDepth := 20}) (disch := first | omega | (simp only [lenE]; done) | (simp only [lenE]; omega) | rfl | (simp only [lenE, markR_len]; done) | (simp only [lenE, markR_len]; omega)) only [runE, mapE, listE, initT_5, initT_6, initT_7, initT_8, resV, oneV, binA, unA, reduceCtorEq, Nat.reduceEqDiff, Nat.reduceAdd, Nat.reduceLT, Nat.reduceLeDiff, Nat.reduceMul, Nat.reduceSub, ↓reduceIte, decide_true, decide_false, Bool.true_eq_false, Bool.false_eq_true, Bool.not_true, Bool.not_false, if_true, if_false, and_true, true_and, memE, celE, w64, Nat.zero_add, Nat.add_zero, Nat.mul_one, putL, and_self, ldn, tm, t1, t5, t9, t10, t11]
      refine ⟨⟨k + 1, M, id, by omega, rfl, hx, by rw [picks, if_neg (by rw [hb]; simp)]; exact ho, hid, by rw [picks, if_neg (by rw [hb]; simp)], by simp⟩, ?_⟩
      simp [intOf]; omega
  · have hlt' : ¬ ((k : Int) < l.length) := by omega
    have e : k = l.length := by omega
    subst e
    simp (config := {implicitDefEqProofs := false, maxDischargeDepth := 20}) (disch := first | omega | (simp only [lenE]; done) | (simp only [lenE]; omega) | rfl | (simp only [lenE, markR_len]; done) | (simp only [lenE, markR_len]; omega)) only [runE, mapE, listE, initT_5, initT_6, initT_7, initT_8, resV, oneV, binA, unA, reduceCtorEq, Nat.reduceEqDiff, Nat.reduceAdd, Nat.reduceLT, Nat.reduceLeDiff, Nat.reduceMul, Nat.reduceSub, ↓reduceIte, decide_true, decide_false, Bool.true_eq_false, Bool.false_eq_true, Bool.not_true, Bool.not_false, if_true, if_false, and_true, true_and, memE, celE, w64, Nat.zero_add, Nat.add_zero, Nat.mul_one, putL, and_self, ldn, tm, t1, t5, t9, t10, t11, hlt']
    exact ext_ansR hx ho hid rfl (by have := hpl l.length; omega)

/-- A Case's fields, boxed at the first new block. -/
def boxC (v1 v2 v3 v4 : Value) : Blk := ⟨.own, 27, [v1, v2, v3, v4]⟩

theorem specIsPlan_rc (m : Mem) (v u : Value) (k : Cs) (plan : List Int) (h : CaseA m v k) (h' : IntsA m u plan) :
    RC Try.prog 23 [v, u] m (AnsV (.tuple #[.bool (two k plan), .bool k.good])) := by
  refine rc_of_run mixed ok_spec_IsPlan (by simp) (go_start _ _ _ ?_)
  obtain ⟨v1, v2, v3, v4, rfl, h1, h2, h3, h4⟩ := h.ro.ok
  have hu := h'.ro
  simp (config := {implicitDefEqProofs := false, maxDischargeDepth := 20}) (disch := first | omega | (simp only [lenE]; done) | (simp only [lenE]; omega) | rfl | (simp only [lenE, markR_len]; done) | (simp only [lenE, markR_len]; omega)) only [runE, mapE, listE, initT_5, initT_6, initT_7, initT_8, resV, oneV, binA, unA, reduceCtorEq, Nat.reduceEqDiff, Nat.reduceAdd, Nat.reduceLT, Nat.reduceLeDiff, Nat.reduceMul, Nat.reduceSub, ↓reduceIte, decide_true, decide_false, Bool.true_eq_false, Bool.false_eq_true, Bool.not_true, Bool.not_false, if_true, if_false, and_true, true_and, memE, celE, w64, Nat.zero_add, Nat.add_zero, Nat.mul_one, putL, and_self, ldn, c_spec_IsPlan, r_spec_IsPlan]
  refine callH_rc (l2Good_rc _ _ k ⟨_, _, _, _, rfl, h1.ext _, h2.ext _, h3.ext _, h4.ext _⟩) ?_
  rintro r new ⟨rfl, nr1⟩
  cases hg : k.good with
  | false =>
    simp (config := {implicitDefEqProofs := false, maxDischargeDepth := 20}) (disch := first | omega | (simp only [lenE]; done) | (simp only [lenE]; omega) | rfl | (simp only [lenE, markR_len]; done) | (simp only [lenE, markR_len]; omega)) only [runE, mapE, listE, initT_5, initT_6, initT_7, initT_8, resV, oneV, binA, unA, reduceCtorEq, Nat.reduceEqDiff, Nat.reduceAdd, Nat.reduceLT, Nat.reduceLeDiff, Nat.reduceMul, Nat.reduceSub, ↓reduceIte, decide_true, decide_false, Bool.true_eq_false, Bool.false_eq_true, Bool.not_true, Bool.not_false, if_true, if_false, and_true, true_and, memE, celE, w64, Nat.zero_add, Nat.add_zero, Nat.mul_one, putL, and_self, ldn]
    exact ext_ansV (((Ext.refl m).one _ _).app nr1) (by simp [two, hg])
  | true =>
    simp (config := {implicitDefEqProofs := false, maxDischargeDepth := 20}) (disch := first | omega | (simp only [lenE]; done) | (simp only [lenE]; omega) | rfl | (simp only [lenE, markR_len]; done) | (simp only [lenE, markR_len]; omega)) only [runE, mapE, listE, initT_5, initT_6, initT_7, initT_8, resV, oneV, binA, unA, reduceCtorEq, Nat.reduceEqDiff, Nat.reduceAdd, Nat.reduceLT, Nat.reduceLeDiff, Nat.reduceMul, Nat.reduceSub, ↓reduceIte, decide_true, decide_false, Bool.true_eq_false, Bool.false_eq_true, Bool.not_true, Bool.not_false, if_true, if_false, and_true, true_and, memE, celE, w64, Nat.zero_add, Nat.add_zero, Nat.mul_one, putL, and_self, ldn]
    refine callH_rc (l2Plan_rc _ _ u k plan ⟨_, _, _, _, rfl, (h1.ext _).ext _, (h2.ext _).ext _, (h3.ext _).ext _, (h4.ext _).ext _⟩ ((hu.ext _).ext _) (good_iff.1 hg)) ?_
    rintro r new2 ⟨rfl, nr2⟩
    simp (config := {implicitDefEqProofs := false, maxDischargeDepth := 20}) (disch := first | omega | (simp only [lenE]; done) | (simp only [lenE]; omega) | rfl | (simp only [lenE, markR_len]; done) | (simp only [lenE, markR_len]; omega)) only [runE, mapE, listE, initT_5, initT_6, initT_7, initT_8, resV, oneV, binA, unA, reduceCtorEq, Nat.reduceEqDiff, Nat.reduceAdd, Nat.reduceLT, Nat.reduceLeDiff, Nat.reduceMul, Nat.reduceSub, ↓reduceIte, decide_true, decide_false, Bool.true_eq_false, Bool.false_eq_true, Bool.not_true, Bool.not_false, if_true, if_false, and_true, true_and, memE, celE, w64, Nat.zero_add, Nat.add_zero, Nat.mul_one, putL, and_self, ldn]
    exact ext_ansV ((((Ext.refl m).one _ _).app nr1).app nr2) (by simp [two, hg])

theorem implIsPlan_rc (m : Mem) (v u : Value) (k : Cs) (plan : List Int) (h : CaseA m v k) (h' : IntsA m u plan) :
    RC Try.prog 24 [v, u] m (AnsV (.tuple #[.bool (two k plan), .bool k.good])) := by
  refine rc_of_run mixed ok_impl_IsPlan (by simp) (go_start _ _ _ ?_)
  obtain ⟨v1, v2, v3, v4, rfl, h1, h2, h3, h4⟩ := h.ro.ok
  have hu := h'.ro
  simp (config := {implicitDefEqProofs := false, maxDischargeDepth := 20}) (disch := first | omega | (simp only [lenE]; done) | (simp only [lenE]; omega) | rfl | (simp only [lenE, markR_len]; done) | (simp only [lenE, markR_len]; omega)) only [runE, mapE, listE, initT_5, initT_6, initT_7, initT_8, resV, oneV, binA, unA, reduceCtorEq, Nat.reduceEqDiff, Nat.reduceAdd, Nat.reduceLT, Nat.reduceLeDiff, Nat.reduceMul, Nat.reduceSub, ↓reduceIte, decide_true, decide_false, Bool.true_eq_false, Bool.false_eq_true, Bool.not_true, Bool.not_false, if_true, if_false, and_true, true_and, memE, celE, w64, Nat.zero_add, Nat.add_zero, Nat.mul_one, putL, and_self, ldn, c_impl_IsPlan, r_impl_IsPlan]
  refine callH_rc (implIsCase_rc _ _ k ⟨_, _, _, _, rfl, h1.ext _, h2.ext _, h3.ext _, h4.ext _⟩) ?_
  rintro r new ⟨rfl, nr1⟩
  cases hg : k.good with
  | false =>
    simp (config := {implicitDefEqProofs := false, maxDischargeDepth := 20}) (disch := first | omega | (simp only [lenE]; done) | (simp only [lenE]; omega) | rfl | (simp only [lenE, markR_len]; done) | (simp only [lenE, markR_len]; omega)) only [runE, mapE, listE, initT_5, initT_6, initT_7, initT_8, resV, oneV, binA, unA, reduceCtorEq, Nat.reduceEqDiff, Nat.reduceAdd, Nat.reduceLT, Nat.reduceLeDiff, Nat.reduceMul, Nat.reduceSub, ↓reduceIte, decide_true, decide_false, Bool.true_eq_false, Bool.false_eq_true, Bool.not_true, Bool.not_false, if_true, if_false, and_true, true_and, memE, celE, w64, Nat.zero_add, Nat.add_zero, Nat.mul_one, putL, and_self, ldn]
    exact ext_ansV (((Ext.refl m).one _ _).app nr1) (by simp [two, hg])
  | true =>
    simp (config := {implicitDefEqProofs := false, maxDischargeDepth := 20}) (disch := first | omega | (simp only [lenE]; done) | (simp only [lenE]; omega) | rfl | (simp only [lenE, markR_len]; done) | (simp only [lenE, markR_len]; omega)) only [runE, mapE, listE, initT_5, initT_6, initT_7, initT_8, resV, oneV, binA, unA, reduceCtorEq, Nat.reduceEqDiff, Nat.reduceAdd, Nat.reduceLT, Nat.reduceLeDiff, Nat.reduceMul, Nat.reduceSub, ↓reduceIte, decide_true, decide_false, Bool.true_eq_false, Bool.false_eq_true, Bool.not_true, Bool.not_false, if_true, if_false, and_true, true_and, memE, celE, w64, Nat.zero_add, Nat.add_zero, Nat.mul_one, putL, and_self, ldn]
    refine callH_rc (implStocksOf_rc _ _ u k plan ⟨_, _, _, _, rfl, (h1.ext _).ext _, (h2.ext _).ext _, (h3.ext _).ext _, (h4.ext _).ext _⟩ ((hu.ext _).ext _)) ?_
    intro r new2 hA
    obtain ⟨id, fl, rfl, hge, hown, hle, nr2⟩ := hA.row
    simp (config := {implicitDefEqProofs := false, maxDischargeDepth := 20}) (disch := first | omega | (simp only [lenE]; done) | (simp only [lenE]; omega) | rfl | (simp only [lenE, markR_len]; done) | (simp only [lenE, markR_len]; omega)) only [runE, mapE, listE, initT_5, initT_6, initT_7, initT_8, resV, oneV, binA, unA, reduceCtorEq, Nat.reduceEqDiff, Nat.reduceAdd, Nat.reduceLT, Nat.reduceLeDiff, Nat.reduceMul, Nat.reduceSub, ↓reduceIte, decide_true, decide_false, Bool.true_eq_false, Bool.false_eq_true, Bool.not_true, Bool.not_false, if_true, if_false, and_true, true_and, memE, celE, w64, Nat.zero_add, Nat.add_zero, Nat.mul_one, putL, and_self, ldn, ext_2_0, ext_2_1]
    exact ext_ansV ((((Ext.refl m).one _ _).app nr1).app nr2) rfl

def emptyA (k : Cs) (plan : List Int) : List Int := if two k plan then picks (fun x => x == 0) (stocksL plan k.need) (stocksL plan k.need).length else []
theorem emptyA_no {k : Cs} {plan : List Int} (h : two k plan = false) : emptyA k plan = [] := by unfold emptyA; rw [h]; rfl
theorem emptyA_yes {k : Cs} {plan : List Int} (h : two k plan = true) : emptyA k plan = picks (fun x => x == 0) (stocksL plan k.need) (stocksL plan k.need).length := by unfold emptyA; rw [h]; rfl
theorem stocksA_yes {k : Cs} {plan : List Int} (h : two k plan = true) : stocksA k plan = stocksL plan k.need := by unfold stocksA; rw [h]; rfl

theorem specEmpty_rc (m : Mem) (v u : Value) (k : Cs) (plan : List Int) (h : CaseA m v k) (h' : IntsA m u plan) :
    RC Try.prog 29 [v, u] m (AnsL m (emptyA k plan) (two k plan)) := by
  refine rc_of_run mixed ok_spec_EmptyPeriods (by simp) (go_start _ _ _ ?_)
  obtain ⟨v1, v2, v3, v4, rfl, h1, h2, h3, h4⟩ := h.ro.ok
  have hu := h'.ro
  have hro := OwnR.at_end (roM m ++ [⟨.own, 27, [v1, v2, v3, v4]⟩]) []
  rw [List.length_append, roM_len] at hro
  simp (config := {implicitDefEqProofs := false, maxDischargeDepth := 20}) (disch := first | omega | (simp only [lenE]; done) | (simp only [lenE]; omega) | rfl | (simp only [lenE, markR_len]; done) | (simp only [lenE, markR_len]; omega)) only [runE, mapE, listE, initT_5, initT_6, initT_7, initT_8, resV, oneV, binA, unA, reduceCtorEq, Nat.reduceEqDiff, Nat.reduceAdd, Nat.reduceLT, Nat.reduceLeDiff, Nat.reduceMul, Nat.reduceSub, ↓reduceIte, decide_true, decide_false, Bool.true_eq_false, Bool.false_eq_true, Bool.not_true, Bool.not_false, if_true, if_false, and_true, true_and, memE, celE, w64, Nat.zero_add, Nat.add_zero, Nat.mul_one, putL, and_self, ldn, c_spec_EmptyPeriods, r_spec_EmptyPeriods, bsl_none]
  refine callH_rc (l2Two_rc _ _ u k plan ⟨_, _, _, _, rfl, (h1.ext _).ext _, (h2.ext _).ext _, (h3.ext _).ext _, (h4.ext _).ext _⟩ ((hu.ext _).ext _)) ?_
  rintro r new ⟨rfl, nr1⟩
  cases hg : two k plan with
  | false =>
    simp (config := {implicitDefEqProofs := false, maxDischargeDepth := 20}) (disch := first | omega | (simp only [lenE]; done) | (simp only [lenE]; omega) | rfl | (simp only [lenE, markR_len]; done) | (simp only [lenE, markR_len]; omega)) only [runE, mapE, listE, initT_5, initT_6, initT_7, initT_8, resV, oneV, binA, unA, reduceCtorEq, Nat.reduceEqDiff, Nat.reduceAdd, Nat.reduceLT, Nat.reduceLeDiff, Nat.reduceMul, Nat.reduceSub, ↓reduceIte, decide_true, decide_false, Bool.true_eq_false, Bool.false_eq_true, Bool.not_true, Bool.not_false, if_true, if_false, and_true, true_and, memE, celE, w64, Nat.zero_add, Nat.add_zero, Nat.mul_one, putL, and_self, ldn]
    rw [emptyA_no hg]
    exact ext_ansL ((((Ext.refl m).one _ _).one _ _).app nr1) (hro.ext _) (by omega) rfl (by simp)
  | true =>
    obtain ⟨b1, b2, b3⟩ := two_bounds hg
    have h8 := b1.n8
    simp (config := {implicitDefEqProofs := false, maxDischargeDepth := 20}) (disch := first | omega | (simp only [lenE]; done) | (simp only [lenE]; omega) | rfl | (simp only [lenE, markR_len]; done) | (simp only [lenE, markR_len]; omega)) only [runE, mapE, listE, initT_5, initT_6, initT_7, initT_8, resV, oneV, binA, unA, reduceCtorEq, Nat.reduceEqDiff, Nat.reduceAdd, Nat.reduceLT, Nat.reduceLeDiff, Nat.reduceMul, Nat.reduceSub, ↓reduceIte, decide_true, decide_false, Bool.true_eq_false, Bool.false_eq_true, Bool.not_true, Bool.not_false, if_true, if_false, and_true, true_and, memE, celE, w64, Nat.zero_add, Nat.add_zero, Nat.mul_one, putL, and_self, ldn]
    refine callH_rc (l2Stocks_rc _ _ u k plan ⟨_, _, _, _, rfl, ((h1.ext _).ext _).ext _, ((h2.ext _).ext _).ext _, ((h3.ext _).ext _).ext _, ((h4.ext _).ext _).ext _⟩ (((hu.ext _).ext _).ext _) b1 b2 b3) ?_
    intro r new2 hA
    obtain ⟨sid, fl, rfl, hge, hown, hle, nr2⟩ := hA.row
    have hll := stocksL_len plan k.need
    rw [emptyA_yes hg]
    generalize stocksL plan k.need = L at *
    have hpl := fun k => picks_len (fun x => x == 0) L k
    have hge' : m.length + 2 ≤ sid := by rw [List.length_append, List.length_append, List.length_append, roM_len] at hge; simp at hge; omega
    simp (config := {implicitDefEqProofs := false, maxDischargeDepth := 20}) (disch := first | omega | (simp only [lenE]; done) | (simp only [lenE]; omega) | rfl | (simp only [lenE, markR_len]; done) | (simp only [lenE, markR_len]; omega)) only [runE, mapE, listE, initT_5, initT_6, initT_7, initT_8, resV, oneV, binA, unA, reduceCtorEq, Nat.reduceEqDiff, Nat.reduceAdd, Nat.reduceLT, Nat.reduceLeDiff, Nat.reduceMul, Nat.reduceSub, ↓reduceIte, decide_true, decide_false, Bool.true_eq_false, Bool.false_eq_true, Bool.not_true, Bool.not_false, if_true, if_false, and_true, true_and, memE, celE, w64, Nat.zero_add, Nat.add_zero, Nat.mul_one, putL, and_self, ldn]
    refine loop_inv mixed (fun s => ∃ (t : Nat) (M : Mem) (id : Nat), t ≤ L.length ∧ s.m = M ∧ Ext m M ∧ OwnR M id (picks (fun x => x == 0) L t) ∧ m.length ≤ id ∧ id ≠ sid ∧ OwnR M sid L ∧ s.t 6 = .slice (some ⟨id, 0, none⟩) (picks (fun x => x == 0) L t).length 1 ∧ s.t 7 = .slice (some ⟨sid, 0, none⟩) L.length fl ∧ s.t 8 = .int .i64 t) (fun s => L.length - (intOf (s.t 8)).toNat)
      ⟨0, _, m.length + 1, by omega, rfl, ((((Ext.refl m).one _ _).one _ _).app nr1).app nr2, (hro.ext _).ext _, by omega, by omega, hown, rfl, rfl, rfl⟩ ?_
    rintro s ⟨t, M, id, hk, tm, hx, ho, hid, hne, hst, t6, t7, t8⟩
    obtain ⟨e1, e2, e3, e4, -⟩ := hst.ints (by omega) fl
    by_cases hlt : t < L.length
    · have hlt' : (t : Int) < L.length := by omega
      cases hb : (L.getD t 0 == 0) with
      | true =>
        simp (config := {implicitDefEqProofs := false, maxDischargeDepth := 20}) (disch := first | omega | (simp only [lenE]; done) | (simp only [lenE]; omega) | rfl | (simp only [lenE, markR_len]; done) | (simp only [lenE, markR_len]; omega)) only [runE, mapE, listE, initT_5, initT_6, initT_7, initT_8, resV, oneV, binA, unA, reduceCtorEq, Nat.reduceEqDiff, Nat.reduceAdd, Nat.reduceLT, Nat.reduceLeDiff, Nat.reduceMul, Nat.reduceSub, ↓reduceIte, decide_true, decide_false, Bool.true_eq_false, Bool.false_eq_true, Bool.not_true, Bool.not_false, if_true, if_false, and_true, true_and, memE, celE, w64, Nat.zero_add, Nat.add_zero, Nat.mul_one, putL, and_self, ldn, tm, t6, t7, t8, e1, e3 t hlt, e4 t hlt, hlt', hb, bsl_one, app_gen ho (by have := hpl t; omega)]
        have hlM := hst.lt
        refine ⟨⟨t + 1, _, M.length + 1, by omega, rfl, ((hx.dead hid).one _ _).one _ _, ?_, by have := hx.len; omega, by omega, ((hst.dead hne).ext _).ext _, by rw [picks, if_pos hb]; simp, by simp⟩, ?_⟩
        · rw [picks, if_pos hb]
          have := OwnR.at_end (M.set id deadB ++ [⟨.own, 3, [.int .i64 (t : Int)]⟩]) (picks (fun x => x == 0) L t ++ [(t : Int)])
          simpa using this
        · simp [intOf]; omega
      | false =>
        simp (config := {implicitDefEqProofs := false, maxDischargeDepth := 20}) (disch := first | omega | (simp only [lenE]; done) | (simp only [lenE]; omega) | rfl | (simp only [lenE, markR_len]; done) | (simp only [lenE, markR_len]; omega)) only [runE, mapE, listE, initT_5, initT_6, initT_7, initT_8, resV, oneV, binA, unA, reduceCtorEq, Nat.reduceEqDiff, Nat.reduceAdd, Nat.reduceLT, Nat.reduceLeDiff, Nat.reduceMul, Nat.reduceSub, ↓reduceIte, decide_true, decide_false, Bool.true_eq_false, Bool.false_eq_true, Bool.not_true, Bool.not_false, if_true, if_false, and_true, true_and, memE, celE, w64, Nat.zero_add, Nat.add_zero, Nat.mul_one, putL, and_self, ldn, tm, t6, t7, t8, e1, e3 t hlt, e4 t hlt, hlt', hb]
        refine ⟨⟨t + 1, M, id, by omega, rfl, hx, by rw [picks, if_neg (by rw [hb]; simp)]; exact ho, hid, hne, hst, by rw [picks, if_neg (by rw [hb]; simp)], by simp⟩, ?_⟩
        simp [intOf]; omega
    · have hlt' : ¬ ((t : Int) < L.length) := by omega
      have e : t = L.length := by omega
      subst e
      simp (config := {implicitDefEqProofs := false, maxDischargeDepth := 20}) (disch := first | omega | (simp only [lenE]; done) | (simp only [lenE]; omega) | rfl | (simp only [lenE, markR_len]; done) | (simp only [lenE, markR_len]; omega)) only [runE, mapE, listE, initT_5, initT_6, initT_7, initT_8, resV, oneV, binA, unA, reduceCtorEq, Nat.reduceEqDiff, Nat.reduceAdd, Nat.reduceLT, Nat.reduceLeDiff, Nat.reduceMul, Nat.reduceSub, ↓reduceIte, decide_true, decide_false, Bool.true_eq_false, Bool.false_eq_true, Bool.not_true, Bool.not_false, if_true, if_false, and_true, true_and, memE, celE, w64, Nat.zero_add, Nat.add_zero, Nat.mul_one, putL, and_self, ldn, tm, t6, t7, t8, e1, hlt']
      exact ext_ansL hx ho hid rfl (by have := hpl L.length; omega)

theorem implEmpty_rc (m : Mem) (v u : Value) (k : Cs) (plan : List Int) (h : CaseA m v k) (h' : IntsA m u plan) :
    RC Try.prog 30 [v, u] m (AnsL m (emptyA k plan) (two k plan)) := by
  refine rc_of_run mixed ok_impl_EmptyPeriods (by simp) (go_start _ _ _ ?_)
  obtain ⟨v1, v2, v3, v4, rfl, h1, h2, h3, h4⟩ := h.ro.ok
  have hu := h'.ro
  simp (config := {implicitDefEqProofs := false, maxDischargeDepth := 20}) (disch := first | omega | (simp only [lenE]; done) | (simp only [lenE]; omega) | rfl | (simp only [lenE, markR_len]; done) | (simp only [lenE, markR_len]; omega)) only [runE, mapE, listE, initT_5, initT_6, initT_7, initT_8, resV, oneV, binA, unA, reduceCtorEq, Nat.reduceEqDiff, Nat.reduceAdd, Nat.reduceLT, Nat.reduceLeDiff, Nat.reduceMul, Nat.reduceSub, ↓reduceIte, decide_true, decide_false, Bool.true_eq_false, Bool.false_eq_true, Bool.not_true, Bool.not_false, if_true, if_false, and_true, true_and, memE, celE, w64, Nat.zero_add, Nat.add_zero, Nat.mul_one, putL, and_self, ldn, c_impl_EmptyPeriods, r_impl_EmptyPeriods]
  refine callH_rc (implStocksOf_rc _ _ u k plan ⟨_, _, _, _, rfl, h1.ext _, h2.ext _, h3.ext _, h4.ext _⟩ (hu.ext _)) ?_
  intro r new hA
  obtain ⟨id, fl, rfl, hge, hown, hle, nr⟩ := hA.row
  cases hg : two k plan with
  | false =>
    simp (config := {implicitDefEqProofs := false, maxDischargeDepth := 20}) (disch := first | omega | (simp only [lenE]; done) | (simp only [lenE]; omega) | rfl | (simp only [lenE, markR_len]; done) | (simp only [lenE, markR_len]; omega)) only [runE, mapE, listE, initT_5, initT_6, initT_7, initT_8, resV, oneV, binA, unA, reduceCtorEq, Nat.reduceEqDiff, Nat.reduceAdd, Nat.reduceLT, Nat.reduceLeDiff, Nat.reduceMul, Nat.reduceSub, ↓reduceIte, decide_true, decide_false, Bool.true_eq_false, Bool.false_eq_true, Bool.not_true, Bool.not_false, if_true, if_false, and_true, true_and, memE, celE, w64, Nat.zero_add, Nat.add_zero, Nat.mul_one, putL, and_self, ldn, ext_2_0, ext_2_1, bsl_none]
    rw [emptyA_no hg]
    refine ext_ansL ((((Ext.refl m).one _ _).app nr).one _ _) (OwnR.end' (l := []) ?_) (by omega) rfl (by simp)
    simp only [List.length_append, List.length_cons, List.length_nil, roM_len]
  | true =>
    rw [stocksA_yes hg] at *
    rw [emptyA_yes hg]
    have hll := stocksL_len plan k.need
    obtain ⟨b1, b2, b3⟩ := two_bounds hg
    have h8 := b1.n8
    simp (config := {implicitDefEqProofs := false, maxDischargeDepth := 20}) (disch := first | omega | (simp only [lenE]; done) | (simp only [lenE]; omega) | rfl | (simp only [lenE, markR_len]; done) | (simp only [lenE, markR_len]; omega)) only [runE, mapE, listE, initT_5, initT_6, initT_7, initT_8, resV, oneV, binA, unA, reduceCtorEq, Nat.reduceEqDiff, Nat.reduceAdd, Nat.reduceLT, Nat.reduceLeDiff, Nat.reduceMul, Nat.reduceSub, ↓reduceIte, decide_true, decide_false, Bool.true_eq_false, Bool.false_eq_true, Bool.not_true, Bool.not_false, if_true, if_false, and_true, true_and, memE, celE, w64, Nat.zero_add, Nat.add_zero, Nat.mul_one, putL, and_self, ldn, ext_2_0, ext_2_1]
    refine callH_rc (periodsWith_rc _ _ _ _ (fun x => x == 0) (hown.ints (by omega) fl) test_zero (by omega)) ?_
    intro r new2 hB
    obtain ⟨id2, fl2, rfl, hge2, hown2, hle2, nr2⟩ := hB.row
    simp (config := {implicitDefEqProofs := false, maxDischargeDepth := 20}) (disch := first | omega | (simp only [lenE]; done) | (simp only [lenE]; omega) | rfl | (simp only [lenE, markR_len]; done) | (simp only [lenE, markR_len]; omega)) only [runE, mapE, listE, initT_5, initT_6, initT_7, initT_8, resV, oneV, binA, unA, reduceCtorEq, Nat.reduceEqDiff, Nat.reduceAdd, Nat.reduceLT, Nat.reduceLeDiff, Nat.reduceMul, Nat.reduceSub, ↓reduceIte, decide_true, decide_false, Bool.true_eq_false, Bool.false_eq_true, Bool.not_true, Bool.not_false, if_true, if_false, and_true, true_and, memE, celE, w64, Nat.zero_add, Nat.add_zero, Nat.mul_one, putL, and_self, ldn]
    exact ext_ansL ((((Ext.refl m).one _ _).app nr).app nr2) hown2 (by rw [List.length_append, List.length_append, roM_len] at hge2; omega) rfl hle2

def orderA (k : Cs) (plan : List Int) : List Int := if two k plan then picks (fun x => decide (0 < x)) plan plan.length else []
theorem orderA_no {k : Cs} {plan : List Int} (h : two k plan = false) : orderA k plan = [] := by unfold orderA; rw [h]; rfl
theorem orderA_yes {k : Cs} {plan : List Int} (h : two k plan = true) : orderA k plan = picks (fun x => decide (0 < x)) plan plan.length := by unfold orderA; rw [h]; rfl

theorem specOrder_rc (m : Mem) (v u : Value) (k : Cs) (plan : List Int) (h : CaseA m v k) (h' : IntsA m u plan) :
    RC Try.prog 31 [v, u] m (AnsL m (orderA k plan) (two k plan)) := by
  refine rc_of_run mixed ok_spec_OrderPeriods (by simp) (go_start _ _ _ ?_)
  obtain ⟨v1, v2, v3, v4, rfl, h1, h2, h3, h4⟩ := h.ro.ok
  have hu := h'.ro
  have hro := OwnR.at_end (roM m ++ [⟨.own, 27, [v1, v2, v3, v4]⟩]) []
  rw [List.length_append, roM_len] at hro
  simp (config := {implicitDefEqProofs := false, maxDischargeDepth := 20}) (disch := first | omega | (simp only [lenE]; done) | (simp only [lenE]; omega) | rfl | (simp only [lenE, markR_len]; done) | (simp only [lenE, markR_len]; omega)) only [runE, mapE, listE, initT_5, initT_6, initT_7, initT_8, resV, oneV, binA, unA, reduceCtorEq, Nat.reduceEqDiff, Nat.reduceAdd, Nat.reduceLT, Nat.reduceLeDiff, Nat.reduceMul, Nat.reduceSub, ↓reduceIte, decide_true, decide_false, Bool.true_eq_false, Bool.false_eq_true, Bool.not_true, Bool.not_false, if_true, if_false, and_true, true_and, memE, celE, w64, Nat.zero_add, Nat.add_zero, Nat.mul_one, putL, and_self, ldn, c_spec_OrderPeriods, r_spec_OrderPeriods, bsl_none]
  refine callH_rc (l2Two_rc _ _ u k plan ⟨_, _, _, _, rfl, (h1.ext _).ext _, (h2.ext _).ext _, (h3.ext _).ext _, (h4.ext _).ext _⟩ ((hu.ext _).ext _)) ?_
  rintro r new ⟨rfl, nr1⟩
  cases hg : two k plan with
  | false =>
    simp (config := {implicitDefEqProofs := false, maxDischargeDepth := 20}) (disch := first | omega | (simp only [lenE]; done) | (simp only [lenE]; omega) | rfl | (simp only [lenE, markR_len]; done) | (simp only [lenE, markR_len]; omega)) only [runE, mapE, listE, initT_5, initT_6, initT_7, initT_8, resV, oneV, binA, unA, reduceCtorEq, Nat.reduceEqDiff, Nat.reduceAdd, Nat.reduceLT, Nat.reduceLeDiff, Nat.reduceMul, Nat.reduceSub, ↓reduceIte, decide_true, decide_false, Bool.true_eq_false, Bool.false_eq_true, Bool.not_true, Bool.not_false, if_true, if_false, and_true, true_and, memE, celE, w64, Nat.zero_add, Nat.add_zero, Nat.mul_one, putL, and_self, ldn]
    rw [orderA_no hg]
    exact ext_ansL ((((Ext.refl m).one _ _).one _ _).app nr1) (hro.ext _) (by omega) rfl (by simp)
  | true =>
    obtain ⟨b1, b2, b3⟩ := two_bounds hg
    have h8 := b1.n8
    rw [orderA_yes hg]
    have hpl := fun k => picks_len (fun x => decide (0 < x)) plan k
    simp (config := {implicitDefEqProofs := false, maxDischargeDepth := 20}) (disch := first | omega | (simp only [lenE]; done) | (simp only [lenE]; omega) | rfl | (simp only [lenE, markR_len]; done) | (simp only [lenE, markR_len]; omega)) only [runE, mapE, listE, initT_5, initT_6, initT_7, initT_8, resV, oneV, binA, unA, reduceCtorEq, Nat.reduceEqDiff, Nat.reduceAdd, Nat.reduceLT, Nat.reduceLeDiff, Nat.reduceMul, Nat.reduceSub, ↓reduceIte, decide_true, decide_false, Bool.true_eq_false, Bool.false_eq_true, Bool.not_true, Bool.not_false, if_true, if_false, and_true, true_and, memE, celE, w64, Nat.zero_add, Nat.add_zero, Nat.mul_one, putL, and_self, ldn]
    refine loop_inv mixed (fun s => ∃ (t : Nat) (M : Mem) (id : Nat), t ≤ plan.length ∧ s.m = M ∧ Ext m M ∧ OwnR M id (picks (fun x => decide (0 < x)) plan t) ∧ m.length ≤ id ∧ s.t 1 = u ∧ s.t 6 = .slice (some ⟨id, 0, none⟩) (picks (fun x => decide (0 < x)) plan t).length 1 ∧ s.t 7 = .int .i64 t) (fun s => plan.length - (intOf (s.t 7)).toNat)
      ⟨0, _, m.length + 1, by omega, rfl, ((((Ext.refl m).one _ _).one _ _).app nr1), hro.ext _, by omega, rfl, rfl, rfl⟩ ?_
    rintro s ⟨t, M, id, hk, tm, hx, ho, hid, t1, t6, t7⟩
    obtain ⟨e1, e2, e3, e4, -⟩ := hx.ints hu
    by_cases hlt : t < plan.length
    · have hlt' : (t : Int) < plan.length := by omega
      by_cases hb : 0 < plan.getD t 0
      · simp (config := {implicitDefEqProofs := false, maxDischargeDepth := 20}) (disch := first | omega | (simp only [lenE]; done) | (simp only [lenE]; omega) | rfl | (simp only [lenE, markR_len]; done) | (simp only [lenE, markR_len]; omega)) only [runE, mapE, listE, initT_5, initT_6, initT_7, initT_8, resV, oneV, binA, unA, reduceCtorEq, Nat.reduceEqDiff, Nat.reduceAdd, Nat.reduceLT, Nat.reduceLeDiff, Nat.reduceMul, Nat.reduceSub, ↓reduceIte, decide_true, decide_false, Bool.true_eq_false, Bool.false_eq_true, Bool.not_true, Bool.not_false, if_true, if_false, and_true, true_and, memE, celE, w64, Nat.zero_add, Nat.add_zero, Nat.mul_one, putL, and_self, ldn, tm, t1, t6, t7, e1, e3 t hlt, e4 t hlt, hlt', gt_iff_lt, hb, bsl_one, app_gen ho (by have := hpl t; omega)]
        refine ⟨⟨t + 1, _, M.length + 1, by omega, rfl, ((hx.dead hid).one _ _).one _ _, ?_, by have := hx.len; omega, by rw [picks, if_pos (decide_eq_true hb)]; simp, by simp⟩, ?_⟩
        · rw [picks, if_pos (decide_eq_true hb)]
          have := OwnR.at_end (M.set id deadB ++ [⟨.own, 3, [.int .i64 (t : Int)]⟩]) (picks (fun x => decide (0 < x)) plan t ++ [(t : Int)])
          simpa using this
        · simp [intOf]; omega
      · have hb' : ¬ (decide (0 < plan.getD t 0) = true) := by rw [decide_eq_true_eq]; exact hb
        simp (config := {implicitDefEqProofs := false, maxDischargeDepth := 20}) (disch := first | omega | (simp only [lenE]; done) | (simp only [lenE]; omega) | rfl | (simp only [lenE, markR_len]; done) | (simp only [lenE, markR_len]; omega)) only [runE, mapE, listE, initT_5, initT_6, initT_7, initT_8, resV, oneV, binA, unA, reduceCtorEq, Nat.reduceEqDiff, Nat.reduceAdd, Nat.reduceLT, Nat.reduceLeDiff, Nat.reduceMul, Nat.reduceSub, ↓reduceIte, decide_true, decide_false, Bool.true_eq_false, Bool.false_eq_true, Bool.not_true, Bool.not_false, if_true, if_false, and_true, true_and, memE, celE, w64, Nat.zero_add, Nat.add_zero, Nat.mul_one, putL, and_self, ldn, tm, t1, t6, t7, e1, e3 t hlt, e4 t hlt, hlt', gt_iff_lt, hb]
        refine ⟨⟨t + 1, M, id, by omega, rfl, hx, by rw [picks, if_neg hb']; exact ho, hid, by rw [picks, if_neg hb'], by simp⟩, ?_⟩
        simp [intOf]; omega
    · have hlt' : ¬ ((t : Int) < plan.length) := by omega
      have e : t = plan.length := by omega
      subst e
      simp (config := {implicitDefEqProofs := false, maxDischargeDepth := 20}) (disch := first | omega | (simp only [lenE]; done) | (simp only [lenE]; omega) | rfl | (simp only [lenE, markR_len]; done) | (simp only [lenE, markR_len]; omega)) only [runE, mapE, listE, initT_5, initT_6, initT_7, initT_8, resV, oneV, binA, unA, reduceCtorEq, Nat.reduceEqDiff, Nat.reduceAdd, Nat.reduceLT, Nat.reduceLeDiff, Nat.reduceMul, Nat.reduceSub, ↓reduceIte, decide_true, decide_false, Bool.true_eq_false, Bool.false_eq_true, Bool.not_true, Bool.not_false, if_true, if_false, and_true, true_and, memE, celE, w64, Nat.zero_add, Nat.add_zero, Nat.mul_one, putL, and_self, ldn, tm, t1, t6, t7, e1, hlt']
      exact ext_ansL hx ho hid rfl (by have := hpl plan.length; omega)

theorem implOrder_rc (m : Mem) (v u : Value) (k : Cs) (plan : List Int) (h : CaseA m v k) (h' : IntsA m u plan) :
    RC Try.prog 32 [v, u] m (AnsL m (orderA k plan) (two k plan)) := by
  refine rc_of_run mixed ok_impl_OrderPeriods (by simp) (go_start _ _ _ ?_)
  obtain ⟨v1, v2, v3, v4, rfl, h1, h2, h3, h4⟩ := h.ro.ok
  have hu := h'.ro
  simp (config := {implicitDefEqProofs := false, maxDischargeDepth := 20}) (disch := first | omega | (simp only [lenE]; done) | (simp only [lenE]; omega) | rfl | (simp only [lenE, markR_len]; done) | (simp only [lenE, markR_len]; omega)) only [runE, mapE, listE, initT_5, initT_6, initT_7, initT_8, resV, oneV, binA, unA, reduceCtorEq, Nat.reduceEqDiff, Nat.reduceAdd, Nat.reduceLT, Nat.reduceLeDiff, Nat.reduceMul, Nat.reduceSub, ↓reduceIte, decide_true, decide_false, Bool.true_eq_false, Bool.false_eq_true, Bool.not_true, Bool.not_false, if_true, if_false, and_true, true_and, memE, celE, w64, Nat.zero_add, Nat.add_zero, Nat.mul_one, putL, and_self, ldn, c_impl_OrderPeriods, r_impl_OrderPeriods]
  refine callH_rc (implStocksOf_rc _ _ u k plan ⟨_, _, _, _, rfl, h1.ext _, h2.ext _, h3.ext _, h4.ext _⟩ (hu.ext _)) ?_
  intro r new hA
  obtain ⟨id, fl, rfl, hge, hown, hle, nr⟩ := hA.row
  cases hg : two k plan with
  | false =>
    simp (config := {implicitDefEqProofs := false, maxDischargeDepth := 20}) (disch := first | omega | (simp only [lenE]; done) | (simp only [lenE]; omega) | rfl | (simp only [lenE, markR_len]; done) | (simp only [lenE, markR_len]; omega)) only [runE, mapE, listE, initT_5, initT_6, initT_7, initT_8, resV, oneV, binA, unA, reduceCtorEq, Nat.reduceEqDiff, Nat.reduceAdd, Nat.reduceLT, Nat.reduceLeDiff, Nat.reduceMul, Nat.reduceSub, ↓reduceIte, decide_true, decide_false, Bool.true_eq_false, Bool.false_eq_true, Bool.not_true, Bool.not_false, if_true, if_false, and_true, true_and, memE, celE, w64, Nat.zero_add, Nat.add_zero, Nat.mul_one, putL, and_self, ldn, ext_2_0, ext_2_1, bsl_none]
    rw [orderA_no hg]
    refine ext_ansL ((((Ext.refl m).one _ _).app nr).one _ _) (OwnR.end' (l := []) ?_) (by omega) rfl (by simp)
    simp only [List.length_append, List.length_cons, List.length_nil, roM_len]
  | true =>
    rw [orderA_yes hg]
    obtain ⟨b1, b2, b3⟩ := two_bounds hg
    have h8 := b1.n8
    simp (config := {implicitDefEqProofs := false, maxDischargeDepth := 20}) (disch := first | omega | (simp only [lenE]; done) | (simp only [lenE]; omega) | rfl | (simp only [lenE, markR_len]; done) | (simp only [lenE, markR_len]; omega)) only [runE, mapE, listE, initT_5, initT_6, initT_7, initT_8, resV, oneV, binA, unA, reduceCtorEq, Nat.reduceEqDiff, Nat.reduceAdd, Nat.reduceLT, Nat.reduceLeDiff, Nat.reduceMul, Nat.reduceSub, ↓reduceIte, decide_true, decide_false, Bool.true_eq_false, Bool.false_eq_true, Bool.not_true, Bool.not_false, if_true, if_false, and_true, true_and, memE, celE, w64, Nat.zero_add, Nat.add_zero, Nat.mul_one, putL, and_self, ldn, ext_2_0, ext_2_1]
    refine callH_rc (periodsWith_rc _ _ _ plan (fun x => decide (0 < x)) ((hu.ext _).ext _) test_pos (by omega)) ?_
    intro r new2 hB
    obtain ⟨id2, fl2, rfl, hge2, hown2, hle2, nr2⟩ := hB.row
    simp (config := {implicitDefEqProofs := false, maxDischargeDepth := 20}) (disch := first | omega | (simp only [lenE]; done) | (simp only [lenE]; omega) | rfl | (simp only [lenE, markR_len]; done) | (simp only [lenE, markR_len]; omega)) only [runE, mapE, listE, initT_5, initT_6, initT_7, initT_8, resV, oneV, binA, unA, reduceCtorEq, Nat.reduceEqDiff, Nat.reduceAdd, Nat.reduceLT, Nat.reduceLeDiff, Nat.reduceMul, Nat.reduceSub, ↓reduceIte, decide_true, decide_false, Bool.true_eq_false, Bool.false_eq_true, Bool.not_true, Bool.not_false, if_true, if_false, and_true, true_and, memE, celE, w64, Nat.zero_add, Nat.add_zero, Nat.mul_one, putL, and_self, ldn]
    exact ext_ansL ((((Ext.refl m).one _ _).app nr).app nr2) hown2 (by rw [List.length_append, List.length_append, roM_len] at hge2; omega) rfl hle2
end Go.Proofs.Ytapnlmjgikiocaa.Ab
