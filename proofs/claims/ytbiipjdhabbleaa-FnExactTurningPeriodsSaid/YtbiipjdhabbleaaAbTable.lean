/- Forward costs and last orders: ForwardCosts, LastOrders. -/
import Derived.Test.YtbiipjdhabbleaaAbApp
import Derived.Test.YtbiipjdhabbleaaAbSpan
namespace Go.Proofs.Ytbiipjdhabbleaa.Ab
open Go Go.RowKit
set_option linter.unusedVariables false
set_option linter.unusedSimpArgs false

/-- An answer: two new rows. -/
def AnsT (m : Mem) (l1 l2 : List Int) (r : Value) (new : Mem) : Prop :=
  NoRo new ∧ ∃ i1 i2 f1 f2, r = .tuple #[.slice (some ⟨m.length + i1, 0, none⟩) l1.length f1, .slice (some ⟨m.length + i2, 0, none⟩) l2.length f2] ∧ new[i1]? = some (rowB l1) ∧ new[i2]? = some (rowB l2)
theorem AnsT.rows {m new : Mem} {l1 l2 : List Int} {r : Value} (h : AnsT m l1 l2 r new) :
    ∃ d1 d2 f1 f2, r = .tuple #[.slice (some ⟨d1, 0, none⟩) l1.length f1, .slice (some ⟨d2, 0, none⟩) l2.length f2] ∧ m.length ≤ d1 ∧ m.length ≤ d2 ∧ OwnR (m ++ new) d1 l1 ∧ OwnR (m ++ new) d2 l2 ∧ NoRo new := by
  obtain ⟨h1, i1, i2, f1, f2, rfl, h3, h4⟩ := h
  exact ⟨_, _, f1, f2, rfl, by omega, by omega, OwnR.new h3 rfl, OwnR.new h4 rfl, h1⟩
theorem ext_ansT {m M : Mem} {l1 l2 : List Int} {d1 d2 n1 n2 f1 f2 : Nat} (h : Ext m M) (o1 : OwnR M d1 l1) (o2 : OwnR M d2 l2) (h1 : m.length ≤ d1) (h2 : m.length ≤ d2) (e1 : n1 = l1.length) (e2 : n2 = l2.length) :
    newQ m (AnsT m l1 l2) (.tuple #[.slice (some ⟨d1, 0, none⟩) n1 f1, .slice (some ⟨d2, 0, none⟩) n2 f2]) M := by
  subst e1 e2
  obtain ⟨n0, rfl, h0⟩ := h
  unfold OwnR at o1 o2
  rw [List.getElem?_append_right (by rw [roM_len]; assumption), roM_len] at o1 o2
  exact ⟨n0, rfl, h0, h0, d1 - m.length, d2 - m.length, f1, f2, by rw [Nat.add_sub_cancel' h1, Nat.add_sub_cancel' h2], o1, o2⟩

theorem l3Forward_rc (m : Mem) (v : Value) (k : Cs) (h : CaseA m v k) (hg : Good k) :
    RC Try.prog 57 [v] m (AnsT m (fwdC k k.need.length) (fwdL k k.need.length)) := by
  refine rc_of_run mixed ok_spec_l3Forward (by simp) (go_start _ _ _ ?_)
  obtain ⟨v1, v2, v3, v4, rfl, h1, h2, h3, h4⟩ := h.ro.ok
  have hc : CaseA (roM m) (.agg #[v1, v2, v3, v4]) k := ⟨_, _, _, _, rfl, h1, h2, h3, h4⟩
  have h8 := hg.n8
  simp (config := {implicitDefEqProofs := false, maxDischargeDepth := 20}) (disch := first | omega | (simp only [lenE]; done) | (simp only [lenE]; omega) | rfl | (simp only [lenE, markR_len]; done) | (simp only [lenE, markR_len]; omega)) only [runE, mapE, listE, initT_5, initT_6, initT_7, initT_8, resV, oneV, binA, unA, reduceCtorEq, Nat.reduceEqDiff, Nat.reduceAdd, Nat.reduceLT, Nat.reduceLeDiff, Nat.reduceMul, Nat.reduceSub, ↓reduceIte, decide_true, decide_false, Bool.true_eq_false, Bool.false_eq_true, Bool.not_true, Bool.not_false, if_true, if_false, and_true, true_and, memE, celE, w64, Nat.zero_add, Nat.add_zero, Nat.mul_one, putL, and_self, ldn, c_spec_l3Forward, r_spec_l3Forward, bsl_one, bsl_none]
  refine loop_inv mixed (fun s => ∃ (q j : Nat) (M : Mem) (ia ib : Nat), j = q + 1 ∧ q ≤ k.need.length ∧ s.t 1 = .pointer (some ⟨m.length, 0, none⟩) ∧ s.t 4 = .slice (some ⟨ia, 0, none⟩) (fwdC k q).length 1 ∧ s.t 5 = .slice (some ⟨ib, 0, none⟩) (fwdL k q).length 1 ∧ s.t 6 = .int .i64 j ∧ s.m = M ∧ Grow (roM m ++ [⟨.own, 28, [v1, v2, v3, v4]⟩]) M ∧ OwnR M ia (fwdC k q) ∧ OwnR M ib (fwdL k q) ∧ ia ≠ ib ∧ m.length < ia ∧ m.length < ib) (fun s => k.need.length + 1 - (intOf (s.t 6)).toNat)
    ⟨0, 1, _, m.length + 1, m.length + 1 + 1, rfl, by omega, rfl, rfl, rfl, rfl, rfl, ((Grow.refl _).one _ _).one _ _, (OwnR.end' (l := [0]) (by simp [roM_len])).ext _, OwnR.end' (l := []) (by simp [roM_len]), by omega, by omega, by omega⟩ ?_
  rintro s ⟨q, j, M, ia, ib, hj, hq, t1, t4, t5, t6, tm, hx, oa, ob, hab, la, lb⟩
  obtain ⟨r0, r1, r2, r3, hlM⟩ := hx.box4
  by_cases hlt : j ≤ k.need.length
  · have hlt' : (j : Int) ≤ k.need.length := by omega
    simp (config := {implicitDefEqProofs := false, maxDischargeDepth := 20}) (disch := first | omega | (simp only [lenE]; done) | (simp only [lenE]; omega) | rfl | (simp only [lenE, markR_len]; done) | (simp only [lenE, markR_len]; omega)) only [runE, mapE, listE, initT_5, initT_6, initT_7, initT_8, resV, oneV, binA, unA, reduceCtorEq, Nat.reduceEqDiff, Nat.reduceAdd, Nat.reduceLT, Nat.reduceLeDiff, Nat.reduceMul, Nat.reduceSub, ↓reduceIte, decide_true, decide_false, Bool.true_eq_false, Bool.false_eq_true, Bool.not_true, Bool.not_false, if_true, if_false, and_true, true_and, memE, celE, w64, Nat.zero_add, Nat.add_zero, Nat.mul_one, putL, and_self, ldn, t1, t4, t5, t6, tm, hlt', r0, (hx.intsV h1).len]
    refine loop_inv mixed (fun s => ∃ (x : Nat) (M' : Mem), 1 ≤ x ∧ x ≤ j ∧ s.t 1 = .pointer (some ⟨m.length, 0, none⟩) ∧ s.t 4 = .slice (some ⟨ia, 0, none⟩) (fwdC k q).length 1 ∧ s.t 5 = .slice (some ⟨ib, 0, none⟩) (fwdL k q).length 1 ∧ s.t 6 = .int .i64 j ∧ s.t 7 = .int .i64 (lastB (valF k (fwdC k q) j) x : Nat) ∧ s.t 8 = .int .i64 x ∧ s.m = M' ∧ Grow M M') (fun s => j - (intOf (s.t 8)).toNat)
      ⟨1, M, by omega, by omega, by simp only [put_t, put_t', put_m, putT_t, putT_t', putT_m, init_t, init_m, initT_0, initT_1, initT_2, initT_3, initT_4, initT_5, initT_6, initT_7, initT_8, Nat.reduceEqDiff, ↓reduceIte, t1], by simp only [put_t, put_t', put_m, putT_t, putT_t', putT_m, init_t, init_m, initT_0, initT_1, initT_2, initT_3, initT_4, initT_5, initT_6, initT_7, initT_8, Nat.reduceEqDiff, ↓reduceIte, t4], by simp only [put_t, put_t', put_m, putT_t, putT_t', putT_m, init_t, init_m, initT_0, initT_1, initT_2, initT_3, initT_4, initT_5, initT_6, initT_7, initT_8, Nat.reduceEqDiff, ↓reduceIte, t5], by simp only [put_t, put_t', put_m, putT_t, putT_t', putT_m, init_t, init_m, initT_0, initT_1, initT_2, initT_3, initT_4, initT_5, initT_6, initT_7, initT_8, Nat.reduceEqDiff, ↓reduceIte, t6], by simp only [put_t, put_t', put_m, putT_t, putT_t', putT_m, init_t, init_m, initT_0, initT_1, initT_2, initT_3, initT_4, initT_5, initT_6, initT_7, initT_8, Nat.reduceEqDiff, ↓reduceIte, lastB_one]; rfl, rfl, by simp only [put_t, put_t', put_m, putT_t, putT_t', putT_m, init_t, init_m, initT_0, initT_1, initT_2, initT_3, initT_4, initT_5, initT_6, initT_7, initT_8, Nat.reduceEqDiff, ↓reduceIte, tm], Grow.refl _⟩ ?_
    rintro s2 ⟨x, M', h1x, hxj, u1, u4, u5, u6, u7, u8, um, hx'⟩
    have hxx := hx.trans hx'
    obtain ⟨q0, q1, q2, q3, hlM'⟩ := hxx.box4
    have fl := fwdC_len k q
    have ll := fwdL_len k q
    have ra := (hx'.own oa).ints (by omega) 1
    obtain ⟨b, hb⟩ : ∃ b, b = lastB (valF k (fwdC k q) j) x := ⟨_, rfl⟩
    have hbx : b < x := by
      have := lastB_lt (valF k (fwdC k q) j) (x - 1)
      rw [Nat.sub_add_cancel h1x] at this
      omega
    rw [← hb] at u7
    have hv : ∀ i, i ≤ q → 0 ≤ (fwdC k q).getD i 0 + spanF k i j ∧ (fwdC k q).getD i 0 + spanF k i j ≤ 130590 := fun i hi => by
      have := valF_in hg (i := i) (j := q) hi (by omega)
      unfold valF at this
      rw [← hj] at this
      omega
    have hvb := hv b (by omega)
    by_cases hlt2 : x < j
    · have hlt2' : (x : Int) < j := by omega
      have hvx := hv x (by omega)
      simp (config := {implicitDefEqProofs := false, maxDischargeDepth := 20}) (disch := first | omega | (simp only [lenE]; done) | (simp only [lenE]; omega) | rfl | (simp only [lenE, markR_len]; done) | (simp only [lenE, markR_len]; omega)) only [runE, mapE, listE, initT_5, initT_6, initT_7, initT_8, resV, oneV, binA, unA, reduceCtorEq, Nat.reduceEqDiff, Nat.reduceAdd, Nat.reduceLT, Nat.reduceLeDiff, Nat.reduceMul, Nat.reduceSub, ↓reduceIte, decide_true, decide_false, Bool.true_eq_false, Bool.false_eq_true, Bool.not_true, Bool.not_false, if_true, if_false, and_true, true_and, memE, celE, w64, Nat.zero_add, Nat.add_zero, Nat.mul_one, putL, and_self, ldn, u1, u4, u5, u6, u7, u8, um, hlt2', ra.at_ x (by omega), ra.ld x (by omega), ra.at_ b (by omega), ra.ld b (by omega), q0, q1, q2, q3]
      refine rcallH_rc (l3Span_rc _ _ k x j (hxx.caseV hc) hg hlt2 hlt) ?_
      rintro r new ⟨rfl, nr⟩
      simp (config := {implicitDefEqProofs := false, maxDischargeDepth := 20}) (disch := first | omega | (simp only [lenE]; done) | (simp only [lenE]; omega) | rfl | (simp only [lenE, markR_len]; done) | (simp only [lenE, markR_len]; omega)) only [runE, mapE, listE, initT_5, initT_6, initT_7, initT_8, resV, oneV, binA, unA, reduceCtorEq, Nat.reduceEqDiff, Nat.reduceAdd, Nat.reduceLT, Nat.reduceLeDiff, Nat.reduceMul, Nat.reduceSub, ↓reduceIte, decide_true, decide_false, Bool.true_eq_false, Bool.false_eq_true, Bool.not_true, Bool.not_false, if_true, if_false, and_true, true_and, memE, celE, w64, Nat.zero_add, Nat.add_zero, Nat.mul_one, putL, and_self, ldn]
      refine rcallH_rc (l3Span_rc _ _ k b j ((hxx.caseV hc).ext _) hg (by omega) hlt) ?_
      rintro r new2 ⟨rfl, nr2⟩
      by_cases hle : (fwdC k q).getD x 0 + spanF k x j ≤ (fwdC k q).getD b 0 + spanF k b j
      · simp (config := {implicitDefEqProofs := false, maxDischargeDepth := 20}) (disch := first | omega | (simp only [lenE]; done) | (simp only [lenE]; omega) | rfl | (simp only [lenE, markR_len]; done) | (simp only [lenE, markR_len]; omega)) only [runE, mapE, listE, initT_5, initT_6, initT_7, initT_8, resV, oneV, binA, unA, reduceCtorEq, Nat.reduceEqDiff, Nat.reduceAdd, Nat.reduceLT, Nat.reduceLeDiff, Nat.reduceMul, Nat.reduceSub, ↓reduceIte, decide_true, decide_false, Bool.true_eq_false, Bool.false_eq_true, Bool.not_true, Bool.not_false, if_true, if_false, and_true, true_and, memE, celE, w64, Nat.zero_add, Nat.add_zero, Nat.mul_one, putL, and_self, ldn, u1, u4, u5, u6, u7, u8, um, hle]
        exact ⟨⟨x + 1, _, by omega, by omega, by rw [lastB, ← hb]; unfold valF; rw [if_pos hle], by simp, rfl, (hx'.app nr).app nr2⟩, by simp [intOf]; omega⟩
      · simp (config := {implicitDefEqProofs := false, maxDischargeDepth := 20}) (disch := first | omega | (simp only [lenE]; done) | (simp only [lenE]; omega) | rfl | (simp only [lenE, markR_len]; done) | (simp only [lenE, markR_len]; omega)) only [runE, mapE, listE, initT_5, initT_6, initT_7, initT_8, resV, oneV, binA, unA, reduceCtorEq, Nat.reduceEqDiff, Nat.reduceAdd, Nat.reduceLT, Nat.reduceLeDiff, Nat.reduceMul, Nat.reduceSub, ↓reduceIte, decide_true, decide_false, Bool.true_eq_false, Bool.false_eq_true, Bool.not_true, Bool.not_false, if_true, if_false, and_true, true_and, memE, celE, w64, Nat.zero_add, Nat.add_zero, Nat.mul_one, putL, and_self, ldn, u1, u4, u5, u6, u7, u8, um, hle]
        exact ⟨⟨x + 1, _, by omega, by omega, by rw [lastB, ← hb]; unfold valF; rw [if_neg hle], by simp, rfl, (hx'.app nr).app nr2⟩, by simp [intOf]; omega⟩
    · have hlt2' : ¬ ((x : Int) < j) := by omega
      have hxe : x = j := by omega
      subst hxe
      simp (config := {implicitDefEqProofs := false, maxDischargeDepth := 20}) (disch := first | omega | (simp only [lenE]; done) | (simp only [lenE]; omega) | rfl | (simp only [lenE, markR_len]; done) | (simp only [lenE, markR_len]; omega)) only [runE, mapE, listE, initT_5, initT_6, initT_7, initT_8, resV, oneV, binA, unA, reduceCtorEq, Nat.reduceEqDiff, Nat.reduceAdd, Nat.reduceLT, Nat.reduceLeDiff, Nat.reduceMul, Nat.reduceSub, ↓reduceIte, decide_true, decide_false, Bool.true_eq_false, Bool.false_eq_true, Bool.not_true, Bool.not_false, if_true, if_false, and_true, true_and, memE, celE, w64, Nat.zero_add, Nat.add_zero, Nat.mul_one, putL, and_self, ldn, u1, u4, u5, u6, u7, u8, um, hlt2', ra.at_ b (by omega), ra.ld b (by omega), q0, q1, q2, q3]
      refine rcallH_rc (l3Span_rc _ _ k b x (hxx.caseV hc) hg hbx hlt) ?_
      rintro r new ⟨rfl, nr⟩
      have oa' := (hx'.own oa).ext new
      have ob' := (hx'.own ob).ext new
      have la' := oa'.lt
      have lb' := ob'.lt
      simp only [List.length_append] at la' lb'
      have ap1 := fun id2 n => app_genH (M := M' ++ new) (x := (fwdC k q).getD b 0 + spanF k b x) (id2 := id2) (n := n) oa' (by omega)
      have ap2 := fun id2 n => app_genH (M := (M' ++ new).set ia deadB ++ [⟨.own, 3, [.int .i64 ((fwdC k q).getD b 0 + spanF k b x)]⟩] ++ [⟨.own, 3, (fwdC k q ++ [(fwdC k q).getD b 0 + spanF k b x]).map (Value.int .i64)⟩]) (x := (b : Int)) (id2 := id2) (n := n) (((ob'.dead hab).ext _).ext _) (by omega)
      simp (config := {implicitDefEqProofs := false, maxDischargeDepth := 20}) (disch := first | omega | (simp only [lenE]; done) | (simp only [lenE]; omega) | rfl | (simp only [lenE, markR_len]; done) | (simp only [lenE, markR_len]; omega)) only [runE, mapE, listE, initT_5, initT_6, initT_7, initT_8, resV, oneV, binA, unA, reduceCtorEq, Nat.reduceEqDiff, Nat.reduceAdd, Nat.reduceLT, Nat.reduceLeDiff, Nat.reduceMul, Nat.reduceSub, ↓reduceIte, decide_true, decide_false, Bool.true_eq_false, Bool.false_eq_true, Bool.not_true, Bool.not_false, if_true, if_false, and_true, true_and, memE, celE, w64, Nat.zero_add, Nat.add_zero, Nat.mul_one, putL, and_self, ldn, u1, u4, u5, u6, u7, u8, um, bsl_one, ap1, ap2]
      have eC : fwdC k (q + 1) = fwdC k q ++ [(fwdC k q).getD b 0 + spanF k b x] := by rw [fwdC, ← hj, ← hb]; rfl
      have eL : fwdL k (q + 1) = fwdL k q ++ [(b : Int)] := by rw [fwdL]; unfold fwdB; rw [← hj, ← hb]
      refine ⟨⟨q + 1, x + 1, _, _, _, by omega, by omega, by rw [eC, List.length_append, List.length_singleton], by rw [eL, List.length_append, List.length_singleton], by simp, rfl,
        (((((((hxx.app nr).dead ?_).one _ _).one _ _).dead ?_).one _ _).one _ _), ?_, ?_, ?_, ?_, ?_⟩, by simp [intOf]; omega⟩
      · simp [roM_len]; omega
      · simp [roM_len]; omega
      · rw [eC]
        refine (((OwnR.end' (l := fwdC k q ++ [(fwdC k q).getD b 0 + spanF k b x]) ?_).dead ?_).ext _).ext _
        · simp
        · omega
      · rw [eL]
        refine OwnR.end' (l := fwdL k q ++ [(b : Int)]) ?_
        simp
      all_goals omega
  · have hlt' : ¬ ((j : Int) ≤ k.need.length) := by omega
    have e : q = k.need.length := by omega
    subst e
    simp (config := {implicitDefEqProofs := false, maxDischargeDepth := 20}) (disch := first | omega | (simp only [lenE]; done) | (simp only [lenE]; omega) | rfl | (simp only [lenE, markR_len]; done) | (simp only [lenE, markR_len]; omega)) only [runE, mapE, listE, initT_5, initT_6, initT_7, initT_8, resV, oneV, binA, unA, reduceCtorEq, Nat.reduceEqDiff, Nat.reduceAdd, Nat.reduceLT, Nat.reduceLeDiff, Nat.reduceMul, Nat.reduceSub, ↓reduceIte, decide_true, decide_false, Bool.true_eq_false, Bool.false_eq_true, Bool.not_true, Bool.not_false, if_true, if_false, and_true, true_and, memE, celE, w64, Nat.zero_add, Nat.add_zero, Nat.mul_one, putL, and_self, ldn, t1, t4, t5, t6, tm, hlt', r0, (hx.intsV h1).len]
    exact ext_ansT hx.ext oa ob (by omega) (by omega) rfl rfl

theorem forwardTable_rc (m : Mem) (v : Value) (k : Cs) (h : CaseA m v k) (hg : Good k) :
    RC Try.prog 58 [v] m (AnsT m (fwdC k k.need.length) (fwdL k k.need.length)) := by
  refine rc_of_run mixed ok_impl_forwardTable (by simp) (go_start _ _ _ ?_)
  obtain ⟨v1, v2, v3, v4, rfl, h1, h2, h3, h4⟩ := h.ro.ok
  have hc : CaseA (roM m) (.agg #[v1, v2, v3, v4]) k := ⟨_, _, _, _, rfl, h1, h2, h3, h4⟩
  have h8 := hg.n8
  simp (config := {implicitDefEqProofs := false, maxDischargeDepth := 20}) (disch := first | omega | (simp only [lenE]; done) | (simp only [lenE]; omega) | rfl | (simp only [lenE, markR_len]; done) | (simp only [lenE, markR_len]; omega)) only [runE, mapE, listE, initT_5, initT_6, initT_7, initT_8, resV, oneV, binA, unA, reduceCtorEq, Nat.reduceEqDiff, Nat.reduceAdd, Nat.reduceLT, Nat.reduceLeDiff, Nat.reduceMul, Nat.reduceSub, ↓reduceIte, decide_true, decide_false, Bool.true_eq_false, Bool.false_eq_true, Bool.not_true, Bool.not_false, if_true, if_false, and_true, true_and, memE, celE, w64, Nat.zero_add, Nat.add_zero, Nat.mul_one, putL, and_self, ldn, c_impl_forwardTable, r_impl_forwardTable, bsl_one, bsl_none]
  refine loop_inv mixed (fun s => ∃ (q j : Nat) (M : Mem) (ia ib : Nat), j = q + 1 ∧ q ≤ k.need.length ∧ s.t 1 = .pointer (some ⟨m.length, 0, none⟩) ∧ s.t 4 = .slice (some ⟨ia, 0, none⟩) (fwdC k q).length 1 ∧ s.t 5 = .slice (some ⟨ib, 0, none⟩) (fwdL k q).length 1 ∧ s.t 6 = .int .i64 j ∧ s.m = M ∧ Grow (roM m ++ [⟨.own, 28, [v1, v2, v3, v4]⟩]) M ∧ OwnR M ia (fwdC k q) ∧ OwnR M ib (fwdL k q) ∧ ia ≠ ib ∧ m.length < ia ∧ m.length < ib) (fun s => k.need.length + 1 - (intOf (s.t 6)).toNat)
    ⟨0, 1, _, m.length + 1, m.length + 1 + 1, rfl, by omega, rfl, rfl, rfl, rfl, rfl, ((Grow.refl _).one _ _).one _ _, (OwnR.end' (l := [0]) (by simp [roM_len])).ext _, OwnR.end' (l := []) (by simp [roM_len]), by omega, by omega, by omega⟩ ?_
  rintro s ⟨q, j, M, ia, ib, hj, hq, t1, t4, t5, t6, tm, hx, oa, ob, hab, la, lb⟩
  obtain ⟨r0, r1, r2, r3, hlM⟩ := hx.box4
  by_cases hlt : j ≤ k.need.length
  · have hlt' : (j : Int) ≤ k.need.length := by omega
    simp (config := {implicitDefEqProofs := false, maxDischargeDepth := 20}) (disch := first | omega | (simp only [lenE]; done) | (simp only [lenE]; omega) | rfl | (simp only [lenE, markR_len]; done) | (simp only [lenE, markR_len]; omega)) only [runE, mapE, listE, initT_5, initT_6, initT_7, initT_8, resV, oneV, binA, unA, reduceCtorEq, Nat.reduceEqDiff, Nat.reduceAdd, Nat.reduceLT, Nat.reduceLeDiff, Nat.reduceMul, Nat.reduceSub, ↓reduceIte, decide_true, decide_false, Bool.true_eq_false, Bool.false_eq_true, Bool.not_true, Bool.not_false, if_true, if_false, and_true, true_and, memE, celE, w64, Nat.zero_add, Nat.add_zero, Nat.mul_one, putL, and_self, ldn, t1, t4, t5, t6, tm, hlt', r0, r1, r2, r3, (hx.intsV h1).len]
    refine callH_rc (orderCost_rc _ _ k 0 j (hx.caseV hc) hg (by omega) hlt) ?_
    rintro r new0 ⟨rfl, nr0⟩
    simp (config := {implicitDefEqProofs := false, maxDischargeDepth := 20}) (disch := first | omega | (simp only [lenE]; done) | (simp only [lenE]; omega) | rfl | (simp only [lenE, markR_len]; done) | (simp only [lenE, markR_len]; omega)) only [runE, mapE, listE, initT_5, initT_6, initT_7, initT_8, resV, oneV, binA, unA, reduceCtorEq, Nat.reduceEqDiff, Nat.reduceAdd, Nat.reduceLT, Nat.reduceLeDiff, Nat.reduceMul, Nat.reduceSub, ↓reduceIte, decide_true, decide_false, Bool.true_eq_false, Bool.false_eq_true, Bool.not_true, Bool.not_false, if_true, if_false, and_true, true_and, memE, celE, w64, Nat.zero_add, Nat.add_zero, Nat.mul_one, putL, and_self, ldn, t1, t4, t5, t6, tm]
    refine loop_inv mixed (fun s => ∃ (x : Nat) (M' : Mem), 1 ≤ x ∧ x ≤ j ∧ s.t 1 = .pointer (some ⟨m.length, 0, none⟩) ∧ s.t 4 = .slice (some ⟨ia, 0, none⟩) (fwdC k q).length 1 ∧ s.t 5 = .slice (some ⟨ib, 0, none⟩) (fwdL k q).length 1 ∧ s.t 6 = .int .i64 j ∧ s.t 7 = .int .i64 (valF k (fwdC k q) j (lastB (valF k (fwdC k q) j) x)) ∧ s.t 8 = .int .i64 (lastB (valF k (fwdC k q) j) x : Nat) ∧ s.t 9 = .int .i64 x ∧ s.m = M' ∧ Grow M M') (fun s => j - (intOf (s.t 9)).toNat)
      ⟨1, _, by omega, by omega, by simp only [put_t, put_t', put_m, putT_t, putT_t', putT_m, init_t, init_m, initT_0, initT_1, initT_2, initT_3, initT_4, initT_5, initT_6, initT_7, initT_8, Nat.reduceEqDiff, ↓reduceIte, t1], by simp only [put_t, put_t', put_m, putT_t, putT_t', putT_m, init_t, init_m, initT_0, initT_1, initT_2, initT_3, initT_4, initT_5, initT_6, initT_7, initT_8, Nat.reduceEqDiff, ↓reduceIte, t4], by simp only [put_t, put_t', put_m, putT_t, putT_t', putT_m, init_t, init_m, initT_0, initT_1, initT_2, initT_3, initT_4, initT_5, initT_6, initT_7, initT_8, Nat.reduceEqDiff, ↓reduceIte, t5], by simp only [put_t, put_t', put_m, putT_t, putT_t', putT_m, init_t, init_m, initT_0, initT_1, initT_2, initT_3, initT_4, initT_5, initT_6, initT_7, initT_8, Nat.reduceEqDiff, ↓reduceIte, t6], by simp only [put_t, put_t', put_m, putT_t, putT_t', putT_m, init_t, init_m, initT_0, initT_1, initT_2, initT_3, initT_4, initT_5, initT_6, initT_7, initT_8, Nat.reduceEqDiff, ↓reduceIte, lastB_one]; unfold valF; rw [fwdC_at0, Int.zero_add], by simp only [put_t, put_t', put_m, putT_t, putT_t', putT_m, init_t, init_m, initT_0, initT_1, initT_2, initT_3, initT_4, initT_5, initT_6, initT_7, initT_8, Nat.reduceEqDiff, ↓reduceIte, lastB_one]; rfl, rfl, by simp only [put_t, put_t', put_m, putT_t, putT_t', putT_m, init_t, init_m, initT_0, initT_1, initT_2, initT_3, initT_4, initT_5, initT_6, initT_7, initT_8, Nat.reduceEqDiff, ↓reduceIte, tm], (Grow.refl _).app nr0⟩ ?_
    rintro s2 ⟨x, M', h1x, hxj, u1, u4, u5, u6, u7, u8, u9, um, hx'⟩
    have hxx := hx.trans hx'
    obtain ⟨q0, q1, q2, q3, hlM'⟩ := hxx.box4
    have fl := fwdC_len k q
    have ll := fwdL_len k q
    have ra := (hx'.own oa).ints (by omega) 1
    obtain ⟨b, hb⟩ : ∃ b, b = lastB (valF k (fwdC k q) j) x := ⟨_, rfl⟩
    have hbx : b < x := by
      have := lastB_lt (valF k (fwdC k q) j) (x - 1)
      rw [Nat.sub_add_cancel h1x] at this
      omega
    rw [← hb] at u7 u8
    have hv : ∀ i, i ≤ q → 0 ≤ valF k (fwdC k q) j i ∧ valF k (fwdC k q) j i ≤ 130590 := fun i hi => by
      have := valF_in hg (i := i) (j := q) hi (by omega)
      rw [← hj] at this
      omega
    have hvb := hv b (by omega)
    by_cases hlt2 : x < j
    · have hlt2' : (x : Int) < j := by omega
      have hvx := hv x (by omega)
      have hvx2 := hvx
      unfold valF at hvx2
      simp (config := {implicitDefEqProofs := false, maxDischargeDepth := 20}) (disch := first | omega | (simp only [lenE]; done) | (simp only [lenE]; omega) | rfl | (simp only [lenE, markR_len]; done) | (simp only [lenE, markR_len]; omega)) only [runE, mapE, listE, initT_5, initT_6, initT_7, initT_8, resV, oneV, binA, unA, reduceCtorEq, Nat.reduceEqDiff, Nat.reduceAdd, Nat.reduceLT, Nat.reduceLeDiff, Nat.reduceMul, Nat.reduceSub, ↓reduceIte, decide_true, decide_false, Bool.true_eq_false, Bool.false_eq_true, Bool.not_true, Bool.not_false, if_true, if_false, and_true, true_and, memE, celE, w64, Nat.zero_add, Nat.add_zero, Nat.mul_one, putL, and_self, ldn, u1, u4, u5, u6, u7, u8, u9, um, hlt2', ra.at_ x (by omega), ra.ld x (by omega), q0, q1, q2, q3]
      refine rcallH_rc (orderCost_rc _ _ k x j (hxx.caseV hc) hg hlt2 hlt) ?_
      rintro r new ⟨rfl, nr⟩
      by_cases hle : (fwdC k q).getD x 0 + spanF k x j ≤ valF k (fwdC k q) j b
      · simp (config := {implicitDefEqProofs := false, maxDischargeDepth := 20}) (disch := first | omega | (simp only [lenE]; done) | (simp only [lenE]; omega) | rfl | (simp only [lenE, markR_len]; done) | (simp only [lenE, markR_len]; omega)) only [runE, mapE, listE, initT_5, initT_6, initT_7, initT_8, resV, oneV, binA, unA, reduceCtorEq, Nat.reduceEqDiff, Nat.reduceAdd, Nat.reduceLT, Nat.reduceLeDiff, Nat.reduceMul, Nat.reduceSub, ↓reduceIte, decide_true, decide_false, Bool.true_eq_false, Bool.false_eq_true, Bool.not_true, Bool.not_false, if_true, if_false, and_true, true_and, memE, celE, w64, Nat.zero_add, Nat.add_zero, Nat.mul_one, putL, and_self, ldn, u1, u4, u5, u6, u7, u8, u9, um, hle]
        exact ⟨⟨x + 1, _, by omega, by omega, by rw [lastB, ← hb, if_pos (by unfold valF at hle ⊢; exact hle)]; rfl, by rw [lastB, ← hb, if_pos (by unfold valF at hle ⊢; exact hle)], by simp, rfl, hx'.app nr⟩, by simp [intOf]; omega⟩
      · simp (config := {implicitDefEqProofs := false, maxDischargeDepth := 20}) (disch := first | omega | (simp only [lenE]; done) | (simp only [lenE]; omega) | rfl | (simp only [lenE, markR_len]; done) | (simp only [lenE, markR_len]; omega)) only [runE, mapE, listE, initT_5, initT_6, initT_7, initT_8, resV, oneV, binA, unA, reduceCtorEq, Nat.reduceEqDiff, Nat.reduceAdd, Nat.reduceLT, Nat.reduceLeDiff, Nat.reduceMul, Nat.reduceSub, ↓reduceIte, decide_true, decide_false, Bool.true_eq_false, Bool.false_eq_true, Bool.not_true, Bool.not_false, if_true, if_false, and_true, true_and, memE, celE, w64, Nat.zero_add, Nat.add_zero, Nat.mul_one, putL, and_self, ldn, u1, u4, u5, u6, u7, u8, u9, um, hle]
        exact ⟨⟨x + 1, _, by omega, by omega, by rw [lastB, ← hb, if_neg (by unfold valF at hle ⊢; exact hle)], by rw [lastB, ← hb, if_neg (by unfold valF at hle ⊢; exact hle)], by simp, rfl, hx'.app nr⟩, by simp [intOf]; omega⟩
    · have hlt2' : ¬ ((x : Int) < j) := by omega
      have hxe : x = j := by omega
      subst hxe
      have oa' := hx'.own oa
      have ob' := hx'.own ob
      have la' := oa'.lt
      have lb' := ob'.lt
      have ap1 := fun id2 n => app_genH (M := M') (x := valF k (fwdC k q) x b) (id2 := id2) (n := n) oa' (by omega)
      have ap2 := fun id2 n => app_genH (M := M'.set ia deadB ++ [⟨.own, 3, [.int .i64 (valF k (fwdC k q) x b)]⟩] ++ [⟨.own, 3, (fwdC k q ++ [valF k (fwdC k q) x b]).map (Value.int .i64)⟩]) (x := (b : Int)) (id2 := id2) (n := n) (((ob'.dead hab).ext _).ext _) (by omega)
      simp (config := {implicitDefEqProofs := false, maxDischargeDepth := 20}) (disch := first | omega | (simp only [lenE]; done) | (simp only [lenE]; omega) | rfl | (simp only [lenE, markR_len]; done) | (simp only [lenE, markR_len]; omega)) only [runE, mapE, listE, initT_5, initT_6, initT_7, initT_8, resV, oneV, binA, unA, reduceCtorEq, Nat.reduceEqDiff, Nat.reduceAdd, Nat.reduceLT, Nat.reduceLeDiff, Nat.reduceMul, Nat.reduceSub, ↓reduceIte, decide_true, decide_false, Bool.true_eq_false, Bool.false_eq_true, Bool.not_true, Bool.not_false, if_true, if_false, and_true, true_and, memE, celE, w64, Nat.zero_add, Nat.add_zero, Nat.mul_one, putL, and_self, ldn, u1, u4, u5, u6, u7, u8, u9, um, hlt2', bsl_one, ap1, ap2]
      have eC : fwdC k (q + 1) = fwdC k q ++ [valF k (fwdC k q) x b] := by rw [fwdC, ← hj, ← hb]
      have eL : fwdL k (q + 1) = fwdL k q ++ [(b : Int)] := by rw [fwdL]; unfold fwdB; rw [← hj, ← hb]
      refine ⟨⟨q + 1, x + 1, _, _, _, by omega, by omega, by rw [eC, List.length_append, List.length_singleton], by rw [eL, List.length_append, List.length_singleton], by simp, rfl,
        ((((((hxx.dead ?_).one _ _).one _ _).dead ?_).one _ _).one _ _), ?_, ?_, ?_, ?_, ?_⟩, by simp [intOf]; omega⟩
      · simp [roM_len]; omega
      · simp [roM_len]; omega
      · rw [eC]
        refine (((OwnR.end' (l := fwdC k q ++ [valF k (fwdC k q) x b]) ?_).dead ?_).ext _).ext _
        · simp
        · omega
      · rw [eL]
        refine OwnR.end' (l := fwdL k q ++ [(b : Int)]) ?_
        simp
      all_goals omega
  · have hlt' : ¬ ((j : Int) ≤ k.need.length) := by omega
    have e : q = k.need.length := by omega
    subst e
    simp (config := {implicitDefEqProofs := false, maxDischargeDepth := 20}) (disch := first | omega | (simp only [lenE]; done) | (simp only [lenE]; omega) | rfl | (simp only [lenE, markR_len]; done) | (simp only [lenE, markR_len]; omega)) only [runE, mapE, listE, initT_5, initT_6, initT_7, initT_8, resV, oneV, binA, unA, reduceCtorEq, Nat.reduceEqDiff, Nat.reduceAdd, Nat.reduceLT, Nat.reduceLeDiff, Nat.reduceMul, Nat.reduceSub, ↓reduceIte, decide_true, decide_false, Bool.true_eq_false, Bool.false_eq_true, Bool.not_true, Bool.not_false, if_true, if_false, and_true, true_and, memE, celE, w64, Nat.zero_add, Nat.add_zero, Nat.mul_one, putL, and_self, ldn, t1, t4, t5, t6, tm, hlt', r0, (hx.intsV h1).len]
    exact ext_ansT hx.ext oa ob (by omega) (by omega) rfl rfl

def forwardA (k : Cs) : List Int := if k.good then fwdC k k.need.length else []
def lastsA (k : Cs) : List Int := if k.good then fwdL k k.need.length else []
theorem forwardA_no {k : Cs} (h : k.good = false) : forwardA k = [] := by unfold forwardA; rw [h]; rfl
theorem forwardA_yes {k : Cs} (h : k.good = true) : forwardA k = fwdC k k.need.length := by unfold forwardA; rw [h]; rfl
theorem lastsA_no {k : Cs} (h : k.good = false) : lastsA k = [] := by unfold lastsA; rw [h]; rfl
theorem lastsA_yes {k : Cs} (h : k.good = true) : lastsA k = fwdL k k.need.length := by unfold lastsA; rw [h]; rfl

theorem specForward_rc (m : Mem) (v : Value) (k : Cs) (h : CaseA m v k) : RC Try.prog 30 [v] m (AnsL m (forwardA k) k.good) := by
  refine rc_of_run mixed ok_spec_ForwardCosts (by simp) (go_start _ _ _ ?_)
  obtain ⟨v1, v2, v3, v4, rfl, h1, h2, h3, h4⟩ := h.ro.ok
  have hc : CaseA (roM m) (.agg #[v1, v2, v3, v4]) k := ⟨_, _, _, _, rfl, h1, h2, h3, h4⟩
  simp (config := {implicitDefEqProofs := false, maxDischargeDepth := 20}) (disch := first | omega | (simp only [lenE]; done) | (simp only [lenE]; omega) | rfl | (simp only [lenE, markR_len]; done) | (simp only [lenE, markR_len]; omega)) only [runE, mapE, listE, initT_5, initT_6, initT_7, initT_8, resV, oneV, binA, unA, reduceCtorEq, Nat.reduceEqDiff, Nat.reduceAdd, Nat.reduceLT, Nat.reduceLeDiff, Nat.reduceMul, Nat.reduceSub, ↓reduceIte, decide_true, decide_false, Bool.true_eq_false, Bool.false_eq_true, Bool.not_true, Bool.not_false, if_true, if_false, and_true, true_and, memE, celE, w64, Nat.zero_add, Nat.add_zero, Nat.mul_one, putL, and_self, ldn, c_spec_ForwardCosts, r_spec_ForwardCosts]
  refine callH_rc (l2Good_rc _ _ k (hc.ext _)) ?_
  rintro r new ⟨rfl, nr1⟩
  have hx : Grow (roM m ++ [⟨.own, 28, [v1, v2, v3, v4]⟩]) (roM m ++ [⟨.own, 28, [v1, v2, v3, v4]⟩] ++ new) := (Grow.refl _).app nr1
  cases hg : k.good with
  | false =>
    simp (config := {implicitDefEqProofs := false, maxDischargeDepth := 20}) (disch := first | omega | (simp only [lenE]; done) | (simp only [lenE]; omega) | rfl | (simp only [lenE, markR_len]; done) | (simp only [lenE, markR_len]; omega)) only [runE, mapE, listE, initT_5, initT_6, initT_7, initT_8, resV, oneV, binA, unA, reduceCtorEq, Nat.reduceEqDiff, Nat.reduceAdd, Nat.reduceLT, Nat.reduceLeDiff, Nat.reduceMul, Nat.reduceSub, ↓reduceIte, decide_true, decide_false, Bool.true_eq_false, Bool.false_eq_true, Bool.not_true, Bool.not_false, if_true, if_false, and_true, true_and, memE, celE, w64, Nat.zero_add, Nat.add_zero, Nat.mul_one, putL, and_self, ldn, bsl_none]
    rw [forwardA_no hg]
    refine ext_ansL (hx.ext.one _ _) (OwnR.end' (l := []) ?_) (by omega) rfl (by simp)
    simp only [List.length_append, List.length_cons, List.length_nil, roM_len]
  | true =>
    have gd := good_iff.1 hg
    have h8 := gd.n8
    rw [forwardA_yes hg]
    have fl := fwdC_len k k.need.length
    have ll := fwdL_len k k.need.length
    simp (config := {implicitDefEqProofs := false, maxDischargeDepth := 20}) (disch := first | omega | (simp only [lenE]; done) | (simp only [lenE]; omega) | rfl | (simp only [lenE, markR_len]; done) | (simp only [lenE, markR_len]; omega)) only [runE, mapE, listE, initT_5, initT_6, initT_7, initT_8, resV, oneV, binA, unA, reduceCtorEq, Nat.reduceEqDiff, Nat.reduceAdd, Nat.reduceLT, Nat.reduceLeDiff, Nat.reduceMul, Nat.reduceSub, ↓reduceIte, decide_true, decide_false, Bool.true_eq_false, Bool.false_eq_true, Bool.not_true, Bool.not_false, if_true, if_false, and_true, true_and, memE, celE, w64, Nat.zero_add, Nat.add_zero, Nat.mul_one, putL, and_self, ldn]
    refine callH_rc (l3Forward_rc _ _ k (hx.caseV hc) gd) ?_
    intro r new2 hA
    obtain ⟨d1, d2, f1, f2, rfl, l1, l2, o1, o2, nr2⟩ := hA.rows
    have hx2 := hx.app nr2
    simp only [List.length_append, List.length_cons, List.length_nil, roM_len] at l1 l2
    simp (config := {implicitDefEqProofs := false, maxDischargeDepth := 20}) (disch := first | omega | (simp only [lenE]; done) | (simp only [lenE]; omega) | rfl | (simp only [lenE, markR_len]; done) | (simp only [lenE, markR_len]; omega)) only [runE, mapE, listE, initT_5, initT_6, initT_7, initT_8, resV, oneV, binA, unA, reduceCtorEq, Nat.reduceEqDiff, Nat.reduceAdd, Nat.reduceLT, Nat.reduceLeDiff, Nat.reduceMul, Nat.reduceSub, ↓reduceIte, decide_true, decide_false, Bool.true_eq_false, Bool.false_eq_true, Bool.not_true, Bool.not_false, if_true, if_false, and_true, true_and, memE, celE, w64, Nat.zero_add, Nat.add_zero, Nat.mul_one, putL, and_self, ldn, ext_2_0, ext_2_1]
    exact ext_ansL hx2.ext o1 (by omega) rfl (by omega)

theorem specLasts_rc (m : Mem) (v : Value) (k : Cs) (h : CaseA m v k) : RC Try.prog 36 [v] m (AnsL m (lastsA k) k.good) := by
  refine rc_of_run mixed ok_spec_LastOrders (by simp) (go_start _ _ _ ?_)
  obtain ⟨v1, v2, v3, v4, rfl, h1, h2, h3, h4⟩ := h.ro.ok
  have hc : CaseA (roM m) (.agg #[v1, v2, v3, v4]) k := ⟨_, _, _, _, rfl, h1, h2, h3, h4⟩
  simp (config := {implicitDefEqProofs := false, maxDischargeDepth := 20}) (disch := first | omega | (simp only [lenE]; done) | (simp only [lenE]; omega) | rfl | (simp only [lenE, markR_len]; done) | (simp only [lenE, markR_len]; omega)) only [runE, mapE, listE, initT_5, initT_6, initT_7, initT_8, resV, oneV, binA, unA, reduceCtorEq, Nat.reduceEqDiff, Nat.reduceAdd, Nat.reduceLT, Nat.reduceLeDiff, Nat.reduceMul, Nat.reduceSub, ↓reduceIte, decide_true, decide_false, Bool.true_eq_false, Bool.false_eq_true, Bool.not_true, Bool.not_false, if_true, if_false, and_true, true_and, memE, celE, w64, Nat.zero_add, Nat.add_zero, Nat.mul_one, putL, and_self, ldn, c_spec_LastOrders, r_spec_LastOrders]
  refine callH_rc (l2Good_rc _ _ k (hc.ext _)) ?_
  rintro r new ⟨rfl, nr1⟩
  have hx : Grow (roM m ++ [⟨.own, 28, [v1, v2, v3, v4]⟩]) (roM m ++ [⟨.own, 28, [v1, v2, v3, v4]⟩] ++ new) := (Grow.refl _).app nr1
  cases hg : k.good with
  | false =>
    simp (config := {implicitDefEqProofs := false, maxDischargeDepth := 20}) (disch := first | omega | (simp only [lenE]; done) | (simp only [lenE]; omega) | rfl | (simp only [lenE, markR_len]; done) | (simp only [lenE, markR_len]; omega)) only [runE, mapE, listE, initT_5, initT_6, initT_7, initT_8, resV, oneV, binA, unA, reduceCtorEq, Nat.reduceEqDiff, Nat.reduceAdd, Nat.reduceLT, Nat.reduceLeDiff, Nat.reduceMul, Nat.reduceSub, ↓reduceIte, decide_true, decide_false, Bool.true_eq_false, Bool.false_eq_true, Bool.not_true, Bool.not_false, if_true, if_false, and_true, true_and, memE, celE, w64, Nat.zero_add, Nat.add_zero, Nat.mul_one, putL, and_self, ldn, bsl_none]
    rw [lastsA_no hg]
    refine ext_ansL (hx.ext.one _ _) (OwnR.end' (l := []) ?_) (by omega) rfl (by simp)
    simp only [List.length_append, List.length_cons, List.length_nil, roM_len]
  | true =>
    have gd := good_iff.1 hg
    have h8 := gd.n8
    rw [lastsA_yes hg]
    have fl := fwdC_len k k.need.length
    have ll := fwdL_len k k.need.length
    simp (config := {implicitDefEqProofs := false, maxDischargeDepth := 20}) (disch := first | omega | (simp only [lenE]; done) | (simp only [lenE]; omega) | rfl | (simp only [lenE, markR_len]; done) | (simp only [lenE, markR_len]; omega)) only [runE, mapE, listE, initT_5, initT_6, initT_7, initT_8, resV, oneV, binA, unA, reduceCtorEq, Nat.reduceEqDiff, Nat.reduceAdd, Nat.reduceLT, Nat.reduceLeDiff, Nat.reduceMul, Nat.reduceSub, ↓reduceIte, decide_true, decide_false, Bool.true_eq_false, Bool.false_eq_true, Bool.not_true, Bool.not_false, if_true, if_false, and_true, true_and, memE, celE, w64, Nat.zero_add, Nat.add_zero, Nat.mul_one, putL, and_self, ldn]
    refine callH_rc (l3Forward_rc _ _ k (hx.caseV hc) gd) ?_
    intro r new2 hA
    obtain ⟨d1, d2, f1, f2, rfl, l1, l2, o1, o2, nr2⟩ := hA.rows
    have hx2 := hx.app nr2
    simp only [List.length_append, List.length_cons, List.length_nil, roM_len] at l1 l2
    simp (config := {implicitDefEqProofs := false, maxDischargeDepth := 20}) (disch := first | omega | (simp only [lenE]; done) | (simp only [lenE]; omega) | rfl | (simp only [lenE, markR_len]; done) | (simp only [lenE, markR_len]; omega)) only [runE, mapE, listE, initT_5, initT_6, initT_7, initT_8, resV, oneV, binA, unA, reduceCtorEq, Nat.reduceEqDiff, Nat.reduceAdd, Nat.reduceLT, Nat.reduceLeDiff, Nat.reduceMul, Nat.reduceSub, ↓reduceIte, decide_true, decide_false, Bool.true_eq_false, Bool.false_eq_true, Bool.not_true, Bool.not_false, if_true, if_false, and_true, true_and, memE, celE, w64, Nat.zero_add, Nat.add_zero, Nat.mul_one, putL, and_self, ldn, ext_2_0, ext_2_1]
    exact ext_ansL hx2.ext o2 (by omega) rfl (by omega)

theorem implForward_rc (m : Mem) (v : Value) (k : Cs) (h : CaseA m v k) : RC Try.prog 31 [v] m (AnsL m (forwardA k) k.good) := by
  refine rc_of_run mixed ok_impl_ForwardCosts (by simp) (go_start _ _ _ ?_)
  obtain ⟨v1, v2, v3, v4, rfl, h1, h2, h3, h4⟩ := h.ro.ok
  have hc : CaseA (roM m) (.agg #[v1, v2, v3, v4]) k := ⟨_, _, _, _, rfl, h1, h2, h3, h4⟩
  simp (config := {implicitDefEqProofs := false, maxDischargeDepth := 20}) (disch := first | omega | (simp only [lenE]; done) | (simp only [lenE]; omega) | rfl | (simp only [lenE, markR_len]; done) | (simp only [lenE, markR_len]; omega)) only [runE, mapE, listE, initT_5, initT_6, initT_7, initT_8, resV, oneV, binA, unA, reduceCtorEq, Nat.reduceEqDiff, Nat.reduceAdd, Nat.reduceLT, Nat.reduceLeDiff, Nat.reduceMul, Nat.reduceSub, ↓reduceIte, decide_true, decide_false, Bool.true_eq_false, Bool.false_eq_true, Bool.not_true, Bool.not_false, if_true, if_false, and_true, true_and, memE, celE, w64, Nat.zero_add, Nat.add_zero, Nat.mul_one, putL, and_self, ldn, c_impl_ForwardCosts, r_impl_ForwardCosts]
  refine callH_rc (implIsCase_rc _ _ k (hc.ext _)) ?_
  rintro r new ⟨rfl, nr1⟩
  have hx : Grow (roM m ++ [⟨.own, 28, [v1, v2, v3, v4]⟩]) (roM m ++ [⟨.own, 28, [v1, v2, v3, v4]⟩] ++ new) := (Grow.refl _).app nr1
  cases hg : k.good with
  | false =>
    simp (config := {implicitDefEqProofs := false, maxDischargeDepth := 20}) (disch := first | omega | (simp only [lenE]; done) | (simp only [lenE]; omega) | rfl | (simp only [lenE, markR_len]; done) | (simp only [lenE, markR_len]; omega)) only [runE, mapE, listE, initT_5, initT_6, initT_7, initT_8, resV, oneV, binA, unA, reduceCtorEq, Nat.reduceEqDiff, Nat.reduceAdd, Nat.reduceLT, Nat.reduceLeDiff, Nat.reduceMul, Nat.reduceSub, ↓reduceIte, decide_true, decide_false, Bool.true_eq_false, Bool.false_eq_true, Bool.not_true, Bool.not_false, if_true, if_false, and_true, true_and, memE, celE, w64, Nat.zero_add, Nat.add_zero, Nat.mul_one, putL, and_self, ldn, bsl_none]
    rw [forwardA_no hg]
    refine ext_ansL (hx.ext.one _ _) (OwnR.end' (l := []) ?_) (by omega) rfl (by simp)
    simp only [List.length_append, List.length_cons, List.length_nil, roM_len]
  | true =>
    have gd := good_iff.1 hg
    have h8 := gd.n8
    rw [forwardA_yes hg]
    have fl := fwdC_len k k.need.length
    have ll := fwdL_len k k.need.length
    simp (config := {implicitDefEqProofs := false, maxDischargeDepth := 20}) (disch := first | omega | (simp only [lenE]; done) | (simp only [lenE]; omega) | rfl | (simp only [lenE, markR_len]; done) | (simp only [lenE, markR_len]; omega)) only [runE, mapE, listE, initT_5, initT_6, initT_7, initT_8, resV, oneV, binA, unA, reduceCtorEq, Nat.reduceEqDiff, Nat.reduceAdd, Nat.reduceLT, Nat.reduceLeDiff, Nat.reduceMul, Nat.reduceSub, ↓reduceIte, decide_true, decide_false, Bool.true_eq_false, Bool.false_eq_true, Bool.not_true, Bool.not_false, if_true, if_false, and_true, true_and, memE, celE, w64, Nat.zero_add, Nat.add_zero, Nat.mul_one, putL, and_self, ldn]
    refine callH_rc (forwardTable_rc _ _ k (hx.caseV hc) gd) ?_
    intro r new2 hA
    obtain ⟨d1, d2, f1, f2, rfl, l1, l2, o1, o2, nr2⟩ := hA.rows
    have hx2 := hx.app nr2
    simp only [List.length_append, List.length_cons, List.length_nil, roM_len] at l1 l2
    simp (config := {implicitDefEqProofs := false, maxDischargeDepth := 20}) (disch := first | omega | (simp only [lenE]; done) | (simp only [lenE]; omega) | rfl | (simp only [lenE, markR_len]; done) | (simp only [lenE, markR_len]; omega)) only [runE, mapE, listE, initT_5, initT_6, initT_7, initT_8, resV, oneV, binA, unA, reduceCtorEq, Nat.reduceEqDiff, Nat.reduceAdd, Nat.reduceLT, Nat.reduceLeDiff, Nat.reduceMul, Nat.reduceSub, ↓reduceIte, decide_true, decide_false, Bool.true_eq_false, Bool.false_eq_true, Bool.not_true, Bool.not_false, if_true, if_false, and_true, true_and, memE, celE, w64, Nat.zero_add, Nat.add_zero, Nat.mul_one, putL, and_self, ldn, ext_2_0, ext_2_1]
    exact ext_ansL hx2.ext o1 (by omega) rfl (by omega)

theorem implLasts_rc (m : Mem) (v : Value) (k : Cs) (h : CaseA m v k) : RC Try.prog 37 [v] m (AnsL m (lastsA k) k.good) := by
  refine rc_of_run mixed ok_impl_LastOrders (by simp) (go_start _ _ _ ?_)
  obtain ⟨v1, v2, v3, v4, rfl, h1, h2, h3, h4⟩ := h.ro.ok
  have hc : CaseA (roM m) (.agg #[v1, v2, v3, v4]) k := ⟨_, _, _, _, rfl, h1, h2, h3, h4⟩
  simp (config := {implicitDefEqProofs := false, maxDischargeDepth := 20}) (disch := first | omega | (simp only [lenE]; done) | (simp only [lenE]; omega) | rfl | (simp only [lenE, markR_len]; done) | (simp only [lenE, markR_len]; omega)) only [runE, mapE, listE, initT_5, initT_6, initT_7, initT_8, resV, oneV, binA, unA, reduceCtorEq, Nat.reduceEqDiff, Nat.reduceAdd, Nat.reduceLT, Nat.reduceLeDiff, Nat.reduceMul, Nat.reduceSub, ↓reduceIte, decide_true, decide_false, Bool.true_eq_false, Bool.false_eq_true, Bool.not_true, Bool.not_false, if_true, if_false, and_true, true_and, memE, celE, w64, Nat.zero_add, Nat.add_zero, Nat.mul_one, putL, and_self, ldn, c_impl_LastOrders, r_impl_LastOrders]
  refine callH_rc (implIsCase_rc _ _ k (hc.ext _)) ?_
  rintro r new ⟨rfl, nr1⟩
  have hx : Grow (roM m ++ [⟨.own, 28, [v1, v2, v3, v4]⟩]) (roM m ++ [⟨.own, 28, [v1, v2, v3, v4]⟩] ++ new) := (Grow.refl _).app nr1
  cases hg : k.good with
  | false =>
    simp (config := {implicitDefEqProofs := false, maxDischargeDepth := 20}) (disch := first | omega | (simp only [lenE]; done) | (simp only [lenE]; omega) | rfl | (simp only [lenE, markR_len]; done) | (simp only [lenE, markR_len]; omega)) only [runE, mapE, listE, initT_5, initT_6, initT_7, initT_8, resV, oneV, binA, unA, reduceCtorEq, Nat.reduceEqDiff, Nat.reduceAdd, Nat.reduceLT, Nat.reduceLeDiff, Nat.reduceMul, Nat.reduceSub, ↓reduceIte, decide_true, decide_false, Bool.true_eq_false, Bool.false_eq_true, Bool.not_true, Bool.not_false, if_true, if_false, and_true, true_and, memE, celE, w64, Nat.zero_add, Nat.add_zero, Nat.mul_one, putL, and_self, ldn, bsl_none]
    rw [lastsA_no hg]
    refine ext_ansL (hx.ext.one _ _) (OwnR.end' (l := []) ?_) (by omega) rfl (by simp)
    simp only [List.length_append, List.length_cons, List.length_nil, roM_len]
  | true =>
    have gd := good_iff.1 hg
    have h8 := gd.n8
    rw [lastsA_yes hg]
    have fl := fwdC_len k k.need.length
    have ll := fwdL_len k k.need.length
    simp (config := {implicitDefEqProofs := false, maxDischargeDepth := 20}) (disch := first | omega | (simp only [lenE]; done) | (simp only [lenE]; omega) | rfl | (simp only [lenE, markR_len]; done) | (simp only [lenE, markR_len]; omega)) only [runE, mapE, listE, initT_5, initT_6, initT_7, initT_8, resV, oneV, binA, unA, reduceCtorEq, Nat.reduceEqDiff, Nat.reduceAdd, Nat.reduceLT, Nat.reduceLeDiff, Nat.reduceMul, Nat.reduceSub, ↓reduceIte, decide_true, decide_false, Bool.true_eq_false, Bool.false_eq_true, Bool.not_true, Bool.not_false, if_true, if_false, and_true, true_and, memE, celE, w64, Nat.zero_add, Nat.add_zero, Nat.mul_one, putL, and_self, ldn]
    refine callH_rc (forwardTable_rc _ _ k (hx.caseV hc) gd) ?_
    intro r new2 hA
    obtain ⟨d1, d2, f1, f2, rfl, l1, l2, o1, o2, nr2⟩ := hA.rows
    have hx2 := hx.app nr2
    simp only [List.length_append, List.length_cons, List.length_nil, roM_len] at l1 l2
    simp (config := {implicitDefEqProofs := false, maxDischargeDepth := 20}) (disch := first | omega | (simp only [lenE]; done) | (simp only [lenE]; omega) | rfl | (simp only [lenE, markR_len]; done) | (simp only [lenE, markR_len]; omega)) only [runE, mapE, listE, initT_5, initT_6, initT_7, initT_8, resV, oneV, binA, unA, reduceCtorEq, Nat.reduceEqDiff, Nat.reduceAdd, Nat.reduceLT, Nat.reduceLeDiff, Nat.reduceMul, Nat.reduceSub, ↓reduceIte, decide_true, decide_false, Bool.true_eq_false, Bool.false_eq_true, Bool.not_true, Bool.not_false, if_true, if_false, and_true, true_and, memE, celE, w64, Nat.zero_add, Nat.add_zero, Nat.mul_one, putL, and_self, ldn, ext_2_0, ext_2_1]
    exact ext_ansL hx2.ext o2 (by omega) rfl (by omega)
end Go.Proofs.Ytbiipjdhabbleaa.Ab
