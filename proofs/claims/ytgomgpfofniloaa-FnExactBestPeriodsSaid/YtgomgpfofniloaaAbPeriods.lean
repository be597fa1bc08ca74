/- Order periods from the table: TablePeriods. -/
import Derived.Test.YtgomgpfofniloaaAbPrice
namespace Go.Proofs.Ytgomgpfofniloaa.Ab
open Go Go.RowKit
set_option linter.unusedVariables false
set_option linter.unusedSimpArgs false

theorem app_cons {M : Mem} {l : List Int} {x : Int} {v : Value} {id : Nat} (hi : IntsA M v l) (hb : l.length ≤ 1000) (hid : id = M.length) :
    appP (M ++ [⟨.own, 3, [.int .i64 x]⟩]) 3 1 8 (.slice (some ⟨id, 0, none⟩) 1 1) v = some (.slice (some ⟨id + 1, 0, none⟩) (1 + l.length) 1, M ++ [deadB] ++ [⟨.own, 3, (x :: l).map (Value.int .i64)⟩]) := by
  subst hid
  have h := app_all (l0 := [x]) (OwnR.at_end M [x]) (hi.ext [⟨.own, 3, [x].map (Value.int .i64)⟩]) (by simp; omega)
  simpa using h
theorem IntsA.cutFrom {m : Mem} {v : Value} {l : List Int} (h : IntsA m v l) {lo : Nat} (h1 : lo ≤ l.length) :
    ∃ v', slcA 1 v (some (.int .i64 lo)) none = some v' ∧ IntsA m v' (l.drop lo) := by
  obtain ⟨v', e, d⟩ := h.cut h1 (Nat.le_refl _)
  have : cutL l lo l.length = l.drop lo := by unfold cutL; rw [List.take_length]
  rw [this] at d
  refine ⟨v', ?_, d⟩
  rw [← e]
  rcases h.form with ⟨rfl, rfl⟩ | ⟨id, off, fl, rfl⟩
  · rfl
  · simp [slcA, boundA]
theorem putL_all : ∀ (vs cs pre : List Value), cs.length = vs.length → putL (pre ++ cs) pre.length vs = pre ++ vs := by
  intro vs
  induction vs with
  | nil => intro cs pre h; have : cs = [] := List.eq_nil_of_length_eq_zero (by simpa using h); rw [this]; rfl
  | cons v vs ih =>
    intro cs pre h
    cases cs with
    | nil => simp at h
    | cons c cs =>
      rw [putL, List.set_append_right _ _ (Nat.le_refl _), Nat.sub_self, List.set_cons_zero]
      have := ih cs (pre ++ [v]) (by simpa using h)
      rw [List.length_append, List.length_singleton, List.append_assoc, List.append_assoc] at this
      exact this
theorem cpy_full {M : Mem} {pid fl n : Nat} {l : List Int} {v : Value} {L : List Int} (h : OwnR M pid L) (hL : L.length = l.length) (hn : n = l.length) (hi : IntsA M v l) :
    cpyA M 1 (.slice (some ⟨pid, 0, none⟩) n fl) v = some (.int .i64 l.length, M.set pid (rowB l)) := by
  subst hn
  unfold cpyA
  rw [hi.src]
  simp only [hi.lenOf, Nat.le_refl, onesB_ints, and_self, if_true]
  unfold stA
  rw [show M[pid]? = some (rowB L) from h]
  have := putL_all (l.map (Value.int .i64)) (L.map (Value.int .i64)) [] (by simp [hL])
  simp only [List.nil_append, List.length_nil] at this
  simp only [onesB_ints, List.length_map, hL, Nat.zero_add, Nat.le_refl, and_self, if_true, this]
theorem drop_set_cons {F : List Int} {p : Nat} {x : Int} (h : p < F.length) : (F.set p x).drop p = x :: F.drop (p + 1) := by
  rw [List.drop_eq_getElem_cons (by simpa using h), List.getElem_set_self, List.drop_set_of_lt (by omega)]

theorem tabP_zero (k : Cs) (ls : List Int) (f : Nat) : tabP k ls f 0 = [] := by
  cases f with
  | zero => rfl
  | succ f => rw [tabP, if_pos rfl]
theorem tabP_s {k : Cs} {ls : List Int} {f j b : Nat} (hj : j ≠ 0) (hb : ls.getD (j - 1) 0 = (b : Int)) : tabP k ls (f + 1) j = tabP k ls f b ++ (if 0 < sumR k.need b j then [(b : Int)] else []) := by
  rw [tabP, if_neg hj, hb]; rfl
theorem fwdL_nat (k : Cs) {q n : Nat} (h : q < n) : ∃ b : Nat, (fwdL k n).getD q 0 = (b : Int) ∧ b ≤ q := ⟨fwdB k q, fwdL_at k h, fwdB_le k q⟩

theorem l3Asks_rc (m : Mem) (v : Value) (k : Cs) (i j : Nat) (h : CaseA m v k) (hg : Good k) (hij : i ≤ j) (hj : j ≤ k.need.length) :
    RC Try.prog 82 [v, .int .i64 i, .int .i64 j] m (AnsV (.bool (decide (0 < sumR k.need i j)))) := by
  refine rc_of_run mixed ok_spec_l3Asks (by simp) (go_start _ _ _ ?_)
  obtain ⟨v1, v2, v3, v4, rfl, h1, h2, h3, h4⟩ := h.ro.ok
  have h8 := hg.n8
  obtain ⟨c1, e1, d1⟩ := (h1.ext [⟨.own, 28, [v1, v2, v3, v4]⟩]).cut hij hj
  simp (config := {implicitDefEqProofs := false, maxDischargeDepth := 20}) (disch := first | omega | (simp only [lenE]; done) | (simp only [lenE]; omega) | rfl | (simp only [lenE, markR_len]; done) | (simp only [lenE, markR_len]; omega)) only [runE, mapE, listE, resV, oneV, binA, unA, reduceCtorEq, Nat.reduceEqDiff, Nat.reduceAdd, Nat.reduceLT, Nat.reduceLeDiff, Nat.reduceMul, Nat.reduceSub, ↓reduceIte, decide_true, decide_false, Bool.true_eq_false, Bool.false_eq_true, Bool.not_true, Bool.not_false, if_true, if_false, and_true, true_and, memE, celE, w64, Nat.zero_add, Nat.add_zero, Nat.mul_one, putL, and_self, ldn, c_spec_l3Asks, r_spec_l3Asks, e1]
  refine callH_rc (l2Sum_rc _ _ (cutL k.need i j) d1 fun q hq => ?_) ?_
  · rw [cutL_len hj] at hq
    rw [sumTo_cut hij hj q hq]
    have := sumR_in (m := 20) (by omega) hg.need i q
    omega
  rintro r new ⟨rfl, rfl⟩
  rw [sumTo_cut' hij hj]
  simp (config := {implicitDefEqProofs := false, maxDischargeDepth := 20}) (disch := first | omega | (simp only [lenE]; done) | (simp only [lenE]; omega) | rfl | (simp only [lenE, markR_len]; done) | (simp only [lenE, markR_len]; omega)) only [runE, mapE, listE, resV, oneV, binA, unA, reduceCtorEq, Nat.reduceEqDiff, Nat.reduceAdd, Nat.reduceLT, Nat.reduceLeDiff, Nat.reduceMul, Nat.reduceSub, ↓reduceIte, decide_true, decide_false, Bool.true_eq_false, Bool.false_eq_true, Bool.not_true, Bool.not_false, if_true, if_false, and_true, true_and, memE, celE, w64, Nat.zero_add, Nat.add_zero, Nat.mul_one, putL, and_self, ldn, gt_iff_lt]
  exact ext_ansV ((Ext.refl m).one _ _) rfl

def tableA (k : Cs) : List Int := if k.good then tabP k (fwdL k k.need.length) k.need.length k.need.length else []
theorem tableA_no {k : Cs} (h : k.good = false) : tableA k = [] := by unfold tableA; rw [h]; rfl
theorem tableA_yes {k : Cs} (h : k.good = true) : tableA k = tabP k (fwdL k k.need.length) k.need.length k.need.length := by unfold tableA; rw [h]; rfl

theorem specPeriods_rc (m : Mem) (v : Value) (k : Cs) (h : CaseA m v k) : RC Try.prog 39 [v] m (AnsL m (tableA k) k.good) := by
  refine rc_of_run mixed ok_spec_TablePeriods (by simp) (go_start _ _ _ ?_)
  obtain ⟨v1, v2, v3, v4, rfl, h1, h2, h3, h4⟩ := h.ro.ok
  have hc : CaseA (roM m) (.agg #[v1, v2, v3, v4]) k := ⟨_, _, _, _, rfl, h1, h2, h3, h4⟩
  simp (config := {implicitDefEqProofs := false, maxDischargeDepth := 20}) (disch := first | omega | (simp only [lenE]; done) | (simp only [lenE]; omega) | rfl | (simp only [lenE, markR_len]; done) | (simp only [lenE, markR_len]; omega)) only [runE, mapE, listE, resV, oneV, binA, unA, reduceCtorEq, Nat.reduceEqDiff, Nat.reduceAdd, Nat.reduceLT, Nat.reduceLeDiff, Nat.reduceMul, Nat.reduceSub, ↓reduceIte, decide_true, decide_false, Bool.true_eq_false, Bool.false_eq_true, Bool.not_true, Bool.not_false, if_true, if_false, and_true, true_and, memE, celE, w64, Nat.zero_add, Nat.add_zero, Nat.mul_one, putL, and_self, ldn, c_spec_TablePeriods, r_spec_TablePeriods, bsl_none]
  refine callH_rc (l2Good_rc _ _ k ((hc.ext _).ext _)) ?_
  rintro r new ⟨rfl, nr1⟩
  have o0 : OwnR (roM m ++ [⟨.own, 28, [v1, v2, v3, v4]⟩] ++ [⟨.own, 3, []⟩] ++ new) (m.length + 1) [] := (OwnR.end' (l := []) (by simp [roM_len])).ext _
  have hx : Grow (roM m ++ [⟨.own, 28, [v1, v2, v3, v4]⟩]) (roM m ++ [⟨.own, 28, [v1, v2, v3, v4]⟩] ++ [⟨.own, 3, []⟩] ++ new) := ((Grow.refl _).one _ _).app nr1
  cases hg : k.good with
  | false =>
    simp (config := {implicitDefEqProofs := false, maxDischargeDepth := 20}) (disch := first | omega | (simp only [lenE]; done) | (simp only [lenE]; omega) | rfl | (simp only [lenE, markR_len]; done) | (simp only [lenE, markR_len]; omega)) only [runE, mapE, listE, resV, oneV, binA, unA, reduceCtorEq, Nat.reduceEqDiff, Nat.reduceAdd, Nat.reduceLT, Nat.reduceLeDiff, Nat.reduceMul, Nat.reduceSub, ↓reduceIte, decide_true, decide_false, Bool.true_eq_false, Bool.false_eq_true, Bool.not_true, Bool.not_false, if_true, if_false, and_true, true_and, memE, celE, w64, Nat.zero_add, Nat.add_zero, Nat.mul_one, putL, and_self, ldn]
    rw [tableA_no hg]
    exact ext_ansL hx.ext o0 (by omega) rfl (by simp)
  | true =>
    have gd := good_iff.1 hg
    have h8 := gd.n8
    rw [tableA_yes hg]
    simp (config := {implicitDefEqProofs := false, maxDischargeDepth := 20}) (disch := first | omega | (simp only [lenE]; done) | (simp only [lenE]; omega) | rfl | (simp only [lenE, markR_len]; done) | (simp only [lenE, markR_len]; omega)) only [runE, mapE, listE, resV, oneV, binA, unA, reduceCtorEq, Nat.reduceEqDiff, Nat.reduceAdd, Nat.reduceLT, Nat.reduceLeDiff, Nat.reduceMul, Nat.reduceSub, ↓reduceIte, decide_true, decide_false, Bool.true_eq_false, Bool.false_eq_true, Bool.not_true, Bool.not_false, if_true, if_false, and_true, true_and, memE, celE, w64, Nat.zero_add, Nat.add_zero, Nat.mul_one, putL, and_self, ldn]
    refine callH_rc (l3Forward_rc _ _ k (hx.caseV hc) gd) ?_
    intro r new2 hA
    obtain ⟨d1, d2, f1, f2, rfl, l1, l2, o1, o2, nr2⟩ := hA.rows
    have hx2 := hx.app nr2
    have o02 := o0.ext new2
    simp only [List.length_append, List.length_cons, List.length_nil, roM_len] at l1 l2
    have ll := fwdL_len k k.need.length
    have hnat : ∀ q, q < k.need.length → ∃ b : Nat, (fwdL k k.need.length).getD q 0 = (b : Int) ∧ b ≤ q := fun q hq => fwdL_nat k hq
    obtain ⟨ls, hls⟩ : ∃ ls, ls = fwdL k k.need.length := ⟨_, rfl⟩
    rw [← hls] at o2 ll hnat ⊢
    obtain ⟨M0, hM0⟩ : ∃ M0, M0 = roM m ++ [⟨.own, 28, [v1, v2, v3, v4]⟩] ++ [⟨.own, 3, []⟩] ++ new ++ new2 := ⟨_, rfl⟩
    obtain ⟨r0, r1, r2, r3, hlM⟩ := hx2.box4
    have i1 := hx2.intsV h1
    rw [← hM0] at r0 i1
    simp (config := {implicitDefEqProofs := false, maxDischargeDepth := 20}) (disch := first | omega | (simp only [lenE]; done) | (simp only [lenE]; omega) | rfl | (simp only [lenE, markR_len]; done) | (simp only [lenE, markR_len]; omega)) only [runE, mapE, listE, resV, oneV, binA, unA, reduceCtorEq, Nat.reduceEqDiff, Nat.reduceAdd, Nat.reduceLT, Nat.reduceLeDiff, Nat.reduceMul, Nat.reduceSub, ↓reduceIte, decide_true, decide_false, Bool.true_eq_false, Bool.false_eq_true, Bool.not_true, Bool.not_false, if_true, if_false, and_true, true_and, memE, celE, w64, Nat.zero_add, Nat.add_zero, Nat.mul_one, putL, and_self, ldn, ext_2_0, ext_2_1]
    rw [← hM0]
    simp (config := {implicitDefEqProofs := false, maxDischargeDepth := 20}) (disch := first | omega | (simp only [lenE]; done) | (simp only [lenE]; omega) | rfl | (simp only [lenE, markR_len]; done) | (simp only [lenE, markR_len]; omega)) only [runE, mapE, listE, resV, oneV, binA, unA, reduceCtorEq, Nat.reduceEqDiff, Nat.reduceAdd, Nat.reduceLT, Nat.reduceLeDiff, Nat.reduceMul, Nat.reduceSub, ↓reduceIte, decide_true, decide_false, Bool.true_eq_false, Bool.false_eq_true, Bool.not_true, Bool.not_false, if_true, if_false, and_true, true_and, memE, celE, w64, Nat.zero_add, Nat.add_zero, Nat.mul_one, putL, and_self, ldn, r0, i1.len]
    rw [← hM0] at hx2 o02 o2
    refine loop_inv mixed (fun s => ∃ (j f : Nat) (M : Mem) (id : Nat) (out : List Int), j ≤ f ∧ j ≤ k.need.length ∧ out.length + j ≤ k.need.length ∧ tabP k ls f j ++ out = tabP k ls k.need.length k.need.length ∧ s.t 1 = .pointer (some ⟨m.length, 0, none⟩) ∧ s.t 4 = .slice (some ⟨id, 0, none⟩) out.length 1 ∧ s.t 6 = .slice (some ⟨d2, 0, none⟩) ls.length f2 ∧ s.t 7 = .int .i64 j ∧ s.m = M ∧ Grow M0 M ∧ OwnR M id out ∧ m.length < id) (fun s => (intOf (s.t 7)).toNat)
      ⟨k.need.length, k.need.length, M0, m.length + 1, [], by omega, by omega, by simp, List.append_nil _, rfl, rfl, rfl, rfl, rfl, Grow.refl _, o02, by omega⟩ ?_
    rintro s ⟨j, f, M, id, out, hjf, hjn, hol, hout, t1, t4, t6, t7, tm, hy, oh, lid⟩
    have hxM := hx2.trans hy
    obtain ⟨q0, q1, q2, q3, hlM'⟩ := hxM.box4
    have li := (hy.own o2).ints (by omega) f2
    have oi := oh.ints (by omega) 1
    by_cases hlt : 0 < j
    · have hlt' : (0 : Int) < j := by omega
      obtain ⟨p, rfl⟩ : ∃ p, j = p + 1 := ⟨j - 1, by omega⟩
      obtain ⟨f', rfl⟩ : ∃ f', f = f' + 1 := ⟨f - 1, by omega⟩
      obtain ⟨b, hb, hbp⟩ := hnat p (by omega)
      have ep : ((p + 1 : Nat) : Int) - 1 = (p : Int) := by omega
      have ldp := li.ld p (by omega)
      rw [hb] at ldp
      rw [tabP_s (by omega) (b := b) (by simpa using hb)] at hout
      simp (config := {implicitDefEqProofs := false, maxDischargeDepth := 20}) (disch := first | omega | (simp only [lenE]; done) | (simp only [lenE]; omega) | rfl | (simp only [lenE, markR_len]; done) | (simp only [lenE, markR_len]; omega)) only [runE, mapE, listE, resV, oneV, binA, unA, reduceCtorEq, Nat.reduceEqDiff, Nat.reduceAdd, Nat.reduceLT, Nat.reduceLeDiff, Nat.reduceMul, Nat.reduceSub, ↓reduceIte, decide_true, decide_false, Bool.true_eq_false, Bool.false_eq_true, Bool.not_true, Bool.not_false, if_true, if_false, and_true, true_and, memE, celE, w64, Nat.zero_add, Nat.add_zero, Nat.mul_one, putL, and_self, ldn, t1, t4, t6, t7, tm, gt_iff_lt, hlt', ep, li.at_ p (by omega), ldp, q0, q1, q2, q3]
      refine callH_rc (l3Asks_rc _ _ k b (p + 1) (hxM.caseV hc) gd (by omega) (by omega)) ?_
      rintro r new3 ⟨rfl, nr3⟩
      by_cases hn : 0 < sumR k.need b (p + 1)
      · rw [if_pos hn] at hout
        have ap := fun id2 => app_cons (M := M ++ new3) (x := (b : Int)) (id := id2) (oi.ext new3) (by omega)
        have ohl := oh.lt
        have hy3 := hy.app nr3
        have d3 : noRo_dead noRo_nil = noRo_dead noRo_nil := rfl
        simp (config := {implicitDefEqProofs := false, maxDischargeDepth := 20}) (disch := first | omega | (simp only [lenE]; done) | (simp only [lenE]; omega) | rfl | (simp only [lenE, markR_len]; done) | (simp only [lenE, markR_len]; omega)) only [runE, mapE, listE, resV, oneV, binA, unA, reduceCtorEq, Nat.reduceEqDiff, Nat.reduceAdd, Nat.reduceLT, Nat.reduceLeDiff, Nat.reduceMul, Nat.reduceSub, ↓reduceIte, decide_true, decide_false, Bool.true_eq_false, Bool.false_eq_true, Bool.not_true, Bool.not_false, if_true, if_false, and_true, true_and, memE, celE, w64, Nat.zero_add, Nat.add_zero, Nat.mul_one, putL, and_self, ldn, t1, t4, t6, t7, tm, hn, bsl_one, ap, ep, li.at_ p (by omega), (((li.ext _).ext _).ext _).ld p (by omega), hb]
        refine ⟨⟨b, f', _, M.length + new3.length + 1, (b : Int) :: out, by omega, by omega, by simp; omega, by rw [← hout, List.append_assoc]; rfl, by rw [List.length_cons]; congr 1; omega, rfl, rfl, (hy3.app (noRo_dead noRo_nil)).one _ _, ?_, by omega⟩, by simp [intOf]; omega⟩
        exact OwnR.end' (l := (b : Int) :: out) (by simp only [List.length_append, List.length_cons, List.length_nil])
      · rw [if_neg hn, List.append_nil] at hout
        simp (config := {implicitDefEqProofs := false, maxDischargeDepth := 20}) (disch := first | omega | (simp only [lenE]; done) | (simp only [lenE]; omega) | rfl | (simp only [lenE, markR_len]; done) | (simp only [lenE, markR_len]; omega)) only [runE, mapE, listE, resV, oneV, binA, unA, reduceCtorEq, Nat.reduceEqDiff, Nat.reduceAdd, Nat.reduceLT, Nat.reduceLeDiff, Nat.reduceMul, Nat.reduceSub, ↓reduceIte, decide_true, decide_false, Bool.true_eq_false, Bool.false_eq_true, Bool.not_true, Bool.not_false, if_true, if_false, and_true, true_and, memE, celE, w64, Nat.zero_add, Nat.add_zero, Nat.mul_one, putL, and_self, ldn, t1, t4, t6, t7, tm, hn, ep, li.at_ p (by omega), (li.ext _).ld p (by omega), hb]
        exact ⟨⟨b, f', _, id, out, by omega, by omega, by omega, hout, rfl, rfl, rfl, hy.app nr3, oh.ext _, lid⟩, by simp [intOf]; omega⟩
    · have hlt' : ¬ ((0 : Int) < j) := by omega
      have e : j = 0 := by omega
      subst e
      rw [tabP_zero, List.nil_append] at hout
      simp (config := {implicitDefEqProofs := false, maxDischargeDepth := 20}) (disch := first | omega | (simp only [lenE]; done) | (simp only [lenE]; omega) | rfl | (simp only [lenE, markR_len]; done) | (simp only [lenE, markR_len]; omega)) only [runE, mapE, listE, resV, oneV, binA, unA, reduceCtorEq, Nat.reduceEqDiff, Nat.reduceAdd, Nat.reduceLT, Nat.reduceLeDiff, Nat.reduceMul, Nat.reduceSub, ↓reduceIte, decide_true, decide_false, Bool.true_eq_false, Bool.false_eq_true, Bool.not_true, Bool.not_false, if_true, if_false, and_true, true_and, memE, celE, w64, Nat.zero_add, Nat.add_zero, Nat.mul_one, putL, and_self, ldn, t1, t4, t6, t7, tm, gt_iff_lt, hlt']
      rw [← hout]
      exact ext_ansL hxM.ext oh (by omega) rfl (by omega)

theorem implPeriods_rc (m : Mem) (v : Value) (k : Cs) (h : CaseA m v k) : RC Try.prog 40 [v] m (AnsL m (tableA k) k.good) := by
  refine rc_of_run mixed ok_impl_TablePeriods (by simp) (go_start _ _ _ ?_)
  obtain ⟨v1, v2, v3, v4, rfl, h1, h2, h3, h4⟩ := h.ro.ok
  have hc : CaseA (roM m) (.agg #[v1, v2, v3, v4]) k := ⟨_, _, _, _, rfl, h1, h2, h3, h4⟩
  simp (config := {implicitDefEqProofs := false, maxDischargeDepth := 20}) (disch := first | omega | (simp only [lenE]; done) | (simp only [lenE]; omega) | rfl | (simp only [lenE, markR_len]; done) | (simp only [lenE, markR_len]; omega)) only [runE, mapE, listE, resV, oneV, binA, unA, reduceCtorEq, Nat.reduceEqDiff, Nat.reduceAdd, Nat.reduceLT, Nat.reduceLeDiff, Nat.reduceMul, Nat.reduceSub, ↓reduceIte, decide_true, decide_false, Bool.true_eq_false, Bool.false_eq_true, Bool.not_true, Bool.not_false, if_true, if_false, and_true, true_and, memE, celE, w64, Nat.zero_add, Nat.add_zero, Nat.mul_one, putL, and_self, ldn, c_impl_TablePeriods, r_impl_TablePeriods]
  refine callH_rc (implIsCase_rc _ _ k (hc.ext _)) ?_
  rintro r new ⟨rfl, nr1⟩
  have hx : Grow (roM m ++ [⟨.own, 28, [v1, v2, v3, v4]⟩]) (roM m ++ [⟨.own, 28, [v1, v2, v3, v4]⟩] ++ new) := (Grow.refl _).app nr1
  cases hg : k.good with
  | false =>
    simp (config := {implicitDefEqProofs := false, maxDischargeDepth := 20}) (disch := first | omega | (simp only [lenE]; done) | (simp only [lenE]; omega) | rfl | (simp only [lenE, markR_len]; done) | (simp only [lenE, markR_len]; omega)) only [runE, mapE, listE, resV, oneV, binA, unA, reduceCtorEq, Nat.reduceEqDiff, Nat.reduceAdd, Nat.reduceLT, Nat.reduceLeDiff, Nat.reduceMul, Nat.reduceSub, ↓reduceIte, decide_true, decide_false, Bool.true_eq_false, Bool.false_eq_true, Bool.not_true, Bool.not_false, if_true, if_false, and_true, true_and, memE, celE, w64, Nat.zero_add, Nat.add_zero, Nat.mul_one, putL, and_self, ldn, bsl_none]
    rw [tableA_no hg]
    refine ext_ansL (hx.ext.one _ _) (OwnR.end' (l := []) ?_) (by omega) rfl (by simp)
    simp only [List.length_append, List.length_cons, List.length_nil, roM_len]
  | true =>
    have gd := good_iff.1 hg
    have h8 := gd.n8
    rw [tableA_yes hg]
    simp (config := {implicitDefEqProofs := false, maxDischargeDepth := 20}) (disch := first | omega | (simp only [lenE]; done) | (simp only [lenE]; omega) | rfl | (simp only [lenE, markR_len]; done) | (simp only [lenE, markR_len]; omega)) only [runE, mapE, listE, resV, oneV, binA, unA, reduceCtorEq, Nat.reduceEqDiff, Nat.reduceAdd, Nat.reduceLT, Nat.reduceLeDiff, Nat.reduceMul, Nat.reduceSub, ↓reduceIte, decide_true, decide_false, Bool.true_eq_false, Bool.false_eq_true, Bool.not_true, Bool.not_false, if_true, if_false, and_true, true_and, memE, celE, w64, Nat.zero_add, Nat.add_zero, Nat.mul_one, putL, and_self, ldn]
    refine callH_rc (forwardTable_rc _ _ k (hx.caseV hc) gd) ?_
    intro r new2 hA
    obtain ⟨d1, d2, f1, f2, rfl, l1, l2, o1, o2, nr2⟩ := hA.rows
    have hx2 := hx.app nr2
    simp only [List.length_append, List.length_cons, List.length_nil, roM_len] at l1 l2
    have ll := fwdL_len k k.need.length
    have hnat : ∀ q, q < k.need.length → ∃ b : Nat, (fwdL k k.need.length).getD q 0 = (b : Int) ∧ b ≤ q := fun q hq => fwdL_nat k hq
    obtain ⟨ls, hls⟩ : ∃ ls, ls = fwdL k k.need.length := ⟨_, rfl⟩
    rw [← hls] at o2 ll hnat ⊢
    obtain ⟨n, hn⟩ : ∃ n, n = k.need.length := ⟨_, rfl⟩
    rw [← hn] at ll hnat h8 ⊢
    have mk : ∀ M : Mem, mksA M 3 8 (.int .i64 0) (.int .i64 (n : Int)) (.int .i64 (n : Int)) = some (.slice (some ⟨M.length, 0, none⟩) n 1, M ++ [⟨.own, 3, List.replicate n (.int .i64 0)⟩]) := fun M => mksA_eq rfl (by omega)
    obtain ⟨M0, hM0⟩ : ∃ M0, M0 = roM m ++ [⟨.own, 28, [v1, v2, v3, v4]⟩] ++ new ++ new2 := ⟨_, rfl⟩
    have L0 : M0.length = m.length + 1 + new.length + new2.length := by rw [hM0]; simp [roM_len]; omega
    simp (config := {implicitDefEqProofs := false, maxDischargeDepth := 20}) (disch := first | omega | (simp only [lenE]; done) | (simp only [lenE]; omega) | rfl | (simp only [lenE, markR_len]; done) | (simp only [lenE, markR_len]; omega)) only [runE, mapE, listE, resV, oneV, binA, unA, reduceCtorEq, Nat.reduceEqDiff, Nat.reduceAdd, Nat.reduceLT, Nat.reduceLeDiff, Nat.reduceMul, Nat.reduceSub, ↓reduceIte, decide_true, decide_false, Bool.true_eq_false, Bool.false_eq_true, Bool.not_true, Bool.not_false, if_true, if_false, and_true, true_and, memE, celE, w64, Nat.zero_add, Nat.add_zero, Nat.mul_one, putL, and_self, ldn, ext_2_0, ext_2_1, ll, mk]
    rw [← hM0] at hx2 o2 ⊢
    have hx3 := hx2.one 3 (List.replicate n (.int .i64 0))
    have o3 := OwnR.zeros (m := M0) (n := n) (id := m.length + 1 + new.length + new2.length) L0.symm
    have o23 := o2.ext [⟨.own, 3, List.replicate n (.int .i64 0)⟩]
    have d2l := o2.lt
    refine loop_inv mixed (fun s => ∃ (j f : Nat) (M : Mem) (F out : List Int), j ≤ f ∧ j ≤ n ∧ out.length + j ≤ n ∧ tabP k ls f j ++ out = tabP k ls n n ∧ F.length = n ∧ F.drop (n - out.length) = out ∧ s.t 1 = .pointer (some ⟨m.length, 0, none⟩) ∧ s.t 5 = .slice (some ⟨d2, 0, none⟩) n f2 ∧ s.t 6 = .slice (some ⟨m.length + 1 + new.length + new2.length, 0, none⟩) n 1 ∧ s.t 7 = .int .i64 (n - out.length : Nat) ∧ s.t 8 = .int .i64 j ∧ s.m = M ∧ Grow (roM m ++ [⟨.own, 28, [v1, v2, v3, v4]⟩]) M ∧ OwnR M (m.length + 1 + new.length + new2.length) F ∧ OwnR M d2 ls) (fun s => (intOf (s.t 8)).toNat)
      ⟨n, n, _, List.replicate n 0, [], by omega, by omega, by simp, List.append_nil _, by simp, by simp, rfl, by simp only [put_t, put_t', put_m, putT_t, putT_t', putT_m, init_t, init_m, initT_0, initT_1, initT_2, initT_3, initT_4, Nat.reduceEqDiff, ↓reduceIte, ll], rfl, by simp only [put_t, put_t', put_m, putT_t, putT_t', putT_m, init_t, init_m, initT_0, initT_1, initT_2, initT_3, initT_4, Nat.reduceEqDiff, ↓reduceIte]; simp, by simp only [put_t, put_t', put_m, putT_t, putT_t', putT_m, init_t, init_m, initT_0, initT_1, initT_2, initT_3, initT_4, Nat.reduceEqDiff, ↓reduceIte, ll], rfl, hx3, o3, o23⟩ ?_
    rintro s ⟨j, f, M, F, out, hjf, hjn, hol, hout, hF, hdr, t1, t5, t6, t7, t8, tm, hxM, oF, o2M⟩
    obtain ⟨q0, q1, q2, q3, hlM'⟩ := hxM.box4
    have li := o2M.ints (by omega) f2
    rw [ll] at li
    have i1 := hxM.intsV h1
    by_cases hlt : 0 < j
    · have hlt' : (0 : Int) < j := by omega
      obtain ⟨p, rfl⟩ : ∃ p, j = p + 1 := ⟨j - 1, by omega⟩
      obtain ⟨f', rfl⟩ : ∃ f', f = f' + 1 := ⟨f - 1, by omega⟩
      obtain ⟨b, hb, hbp⟩ := hnat p (by omega)
      have ep : ((p + 1 : Nat) : Int) - 1 = (p : Int) := by omega
      have ldp := li.ld p (by omega)
      rw [hb] at ldp
      rw [tabP_s (by omega) (b := b) (by simpa using hb)] at hout
      obtain ⟨c1, e1, dd1⟩ := i1.cut (lo := b) (hi := p + 1) (by omega) (by omega)
      simp (config := {implicitDefEqProofs := false, maxDischargeDepth := 20}) (disch := first | omega | (simp only [lenE]; done) | (simp only [lenE]; omega) | rfl | (simp only [lenE, markR_len]; done) | (simp only [lenE, markR_len]; omega)) only [runE, mapE, listE, resV, oneV, binA, unA, reduceCtorEq, Nat.reduceEqDiff, Nat.reduceAdd, Nat.reduceLT, Nat.reduceLeDiff, Nat.reduceMul, Nat.reduceSub, ↓reduceIte, decide_true, decide_false, Bool.true_eq_false, Bool.false_eq_true, Bool.not_true, Bool.not_false, if_true, if_false, and_true, true_and, memE, celE, w64, Nat.zero_add, Nat.add_zero, Nat.mul_one, putL, and_self, ldn, t1, t5, t6, t7, t8, tm, gt_iff_lt, hlt', ep, li.at_ p (by omega), ldp, q0, e1]
      refine callH_rc (sumOf_cut_rc _ _ k.need (b := 20) dd1 (by omega) (by omega) (by omega) (by omega) gd.need (by omega)) ?_
      rintro r new3 ⟨rfl, rfl⟩
      by_cases hpos : 0 < sumR k.need b (p + 1)
      · rw [if_pos hpos] at hout
        obtain ⟨st, hst⟩ : ∃ st : Nat, st + 1 = n - out.length := ⟨n - out.length - 1, by omega⟩
        have est : ((n - out.length : Nat) : Int) - 1 = (st : Int) := by omega
        have hstn : st < n := by omega
        have ost := oF.st (off := st) (x := (b : Int)) (by omega)
        have hne : m.length + 1 + new.length + new2.length ≠ d2 := by omega
        have o2s := o2M.set_ne (b := rowB (F.set st (b : Int))) hne
        have lis := o2s.ints (by omega) f2
        rw [ll] at lis
        have ldps := lis.ld p (by omega)
        rw [hb] at ldps
        simp (config := {implicitDefEqProofs := false, maxDischargeDepth := 20}) (disch := first | omega | (simp only [lenE]; done) | (simp only [lenE]; omega) | rfl | (simp only [lenE, markR_len]; done) | (simp only [lenE, markR_len]; omega)) only [runE, mapE, listE, resV, oneV, binA, unA, reduceCtorEq, Nat.reduceEqDiff, Nat.reduceAdd, Nat.reduceLT, Nat.reduceLeDiff, Nat.reduceMul, Nat.reduceSub, ↓reduceIte, decide_true, decide_false, Bool.true_eq_false, Bool.false_eq_true, Bool.not_true, Bool.not_false, if_true, if_false, and_true, true_and, memE, celE, w64, Nat.zero_add, Nat.add_zero, Nat.mul_one, putL, and_self, ldn, t1, t5, t6, t7, t8, tm, hpos, est, iadA_in hstn, ost, ep, li.at_ p (by omega), ldps]
        refine ⟨⟨b, f', _, F.set st (b : Int), (b : Int) :: out, by omega, by omega, by simp; omega, by rw [← hout, List.append_assoc]; rfl, by simpa using hF, ?_, ?_, rfl, rfl, hxM.put (by simp [roM_len]; omega) _ _, OwnR.set_self oF, o2s⟩, by simp [intOf]; omega⟩
        · rw [List.length_cons, show n - (out.length + 1) = st by omega, drop_set_cons (by omega), hst, hdr]
        · rw [List.length_cons]; congr 1; omega
      · rw [if_neg hpos, List.append_nil] at hout
        simp (config := {implicitDefEqProofs := false, maxDischargeDepth := 20}) (disch := first | omega | (simp only [lenE]; done) | (simp only [lenE]; omega) | rfl | (simp only [lenE, markR_len]; done) | (simp only [lenE, markR_len]; omega)) only [runE, mapE, listE, resV, oneV, binA, unA, reduceCtorEq, Nat.reduceEqDiff, Nat.reduceAdd, Nat.reduceLT, Nat.reduceLeDiff, Nat.reduceMul, Nat.reduceSub, ↓reduceIte, decide_true, decide_false, Bool.true_eq_false, Bool.false_eq_true, Bool.not_true, Bool.not_false, if_true, if_false, and_true, true_and, memE, celE, w64, Nat.zero_add, Nat.add_zero, Nat.mul_one, putL, and_self, ldn, t1, t5, t6, t7, t8, tm, hpos, ep, li.at_ p (by omega), ldp]
        exact ⟨⟨b, f', _, F, out, by omega, by omega, by omega, hout, hF, hdr, rfl, rfl, rfl, hxM, oF, o2M⟩, by simp [intOf]; omega⟩
    · have hlt' : ¬ ((0 : Int) < j) := by omega
      have e : j = 0 := by omega
      subst e
      rw [tabP_zero, List.nil_append] at hout
      have ecnt : (n : Int) - ((n - out.length : Nat) : Int) = (out.length : Int) := by omega
      have mk2 : ∀ M : Mem, mksA M 3 8 (.int .i64 0) (.int .i64 (out.length : Int)) (.int .i64 (out.length : Int)) = some (.slice (some ⟨M.length, 0, none⟩) out.length 1, M ++ [⟨.own, 3, List.replicate out.length (.int .i64 0)⟩]) := fun M => mksA_eq rfl (by omega)
      have oF2 := oF.ext [⟨.own, 3, List.replicate out.length (.int .i64 0)⟩]
      have fi := oF2.ints (by omega) 1
      rw [hF] at fi
      obtain ⟨w', we, wd⟩ := fi.cutFrom (lo := n - out.length) (by omega)
      rw [hdr] at wd
      have oZ := OwnR.zeros (m := M) (n := out.length) (id := M.length) rfl
      have cp := cpy_full (fl := 1) (n := out.length) oZ (by simp) rfl wd
      simp (config := {implicitDefEqProofs := false, maxDischargeDepth := 20}) (disch := first | omega | (simp only [lenE]; done) | (simp only [lenE]; omega) | rfl | (simp only [lenE, markR_len]; done) | (simp only [lenE, markR_len]; omega)) only [runE, mapE, listE, resV, oneV, binA, unA, reduceCtorEq, Nat.reduceEqDiff, Nat.reduceAdd, Nat.reduceLT, Nat.reduceLeDiff, Nat.reduceMul, Nat.reduceSub, ↓reduceIte, decide_true, decide_false, Bool.true_eq_false, Bool.false_eq_true, Bool.not_true, Bool.not_false, if_true, if_false, and_true, true_and, memE, celE, w64, Nat.zero_add, Nat.add_zero, Nat.mul_one, putL, and_self, ldn, t1, t5, t6, t7, t8, tm, gt_iff_lt, hlt', ecnt, mk2, we, cp, Option.map_none]
      rw [← hout]
      have hlm := hxM.len
      simp only [List.length_append, List.length_cons, List.length_nil, roM_len] at hlm
      exact ext_ansL ((hxM.one _ _).put (by simp [roM_len]; omega) _ _).ext (OwnR.set_self (L' := out) oZ) (by omega) rfl (by omega)
end Go.Proofs.Ytgomgpfofniloaa.Ab
