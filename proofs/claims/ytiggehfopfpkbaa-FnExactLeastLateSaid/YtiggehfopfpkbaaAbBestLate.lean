/- Late plans that cost least: the program's side. -/
import Derived.Test.YtiggehfopfpkbaaAbRep
namespace Go.Proofs.Ytiggehfopfpkbaa.Ab
open Go Go.RowKit
set_option linter.unusedVariables false
set_option linter.unusedSimpArgs false

/-- The search for late plans. -/
def lateW (k : Cs) (rates : List Int) : Ws := ⟨k, List.replicate k.need.length (sumTo k.need k.need.length), rates, -sumTo k.need k.need.length⟩
def bestLateA (k : Cs) (rates : List Int) : List Int := if rowsB k rates 9 then planW (lateW k rates) k.need.length else []
def leastLateA (k : Cs) (rates : List Int) : Int := if rowsB k rates 9 then vO (wayT (lateW k rates) 0 0) else 0
theorem bestLateA_no {k : Cs} {rates : List Int} (h : rowsB k rates 9 = false) : bestLateA k rates = [] := by unfold bestLateA; rw [h]; rfl
theorem bestLateA_yes {k : Cs} {rates : List Int} (h : rowsB k rates 9 = true) : bestLateA k rates = planW (lateW k rates) k.need.length := by unfold bestLateA; rw [h]; rfl
theorem leastLateA_no {k : Cs} {rates : List Int} (h : rowsB k rates 9 = false) : leastLateA k rates = 0 := by unfold leastLateA; rw [h]; rfl
theorem leastLateA_yes {k : Cs} {rates : List Int} (h : rowsB k rates 9 = true) : leastLateA k rates = vO (wayT (lateW k rates) 0 0) := by unfold leastLateA; rw [h]; rfl
theorem sumTo_rep (x : Int) : ∀ n t : Nat, t ≤ n → sumTo (List.replicate n x) t = x * t := by
  intro n t
  induction t with
  | zero => intro _; simp [sumTo]
  | succ t ih =>
    intro h
    rw [sumTo_g, ih (by omega), List.getD_eq_getElem?_getD, List.getElem?_replicate, if_pos (by omega), Option.getD_some, Int.natCast_add, Int.mul_add]; simp
theorem late_way {k : Cs} {rates : List Int} (h : rowsB k rates 9 = true) : WsOk (lateW k rates) ∧ SrchOk (lateW k rates) true ∧ ∃ r, wayT (lateW k rates) 0 0 = some r := by
  obtain ⟨g1, g2, g3⟩ := rowsB_iff.1 h
  have h8 := g1.n8
  have hb := sumTo_in g1.need k.need.length (Nat.le_refl _)
  have hw : WsOk (lateW k rates) := by
    refine ⟨g1, by simp [lateW, Ws.n], fun x hx => ?_, g2, by simp only [lateW]; omega⟩
    simp only [lateW] at hx
    rw [List.eq_of_mem_replicate hx]; omega
  refine ⟨hw, ⟨hw, (fun h => by cases h), fun _ => ⟨rfl, g3⟩⟩, way_can0 hw (by simp only [lateW]; omega) fun t ht => ?_⟩
  have ht' : t ≤ k.need.length := ht
  show 0 ≤ sumTo (List.replicate k.need.length (sumTo k.need k.need.length)) t - sumTo k.need t
  rw [sumTo_rep _ _ _ ht']
  cases t with
  | zero => simp [sumTo]
  | succ t =>
    have hd : sumTo k.need (t + 1) ≤ sumTo k.need k.need.length := sumTo_mono (fun x hx => (g1.need x hx).1) ht'
    have : sumTo k.need k.need.length * 1 ≤ sumTo k.need k.need.length * ((t + 1 : Nat) : Int) := Int.mul_le_mul_of_nonneg_left (by omega) (by omega)
    omega
theorem bld8l (v1 v2 v3 v4 : Value) (A B : Option Addr) (n c n2 c2 : Nat) : bldA [.slice none 0 0, .slice none 0 0, .slice none 0 0, .slice none 0 0, .slice none 0 0, .slice none 0 0, .bool false, .slice none 0 0] [(0, 4, .agg #[v1, v2, v3, v4]), (4, 1, .slice A n c), (5, 1, .slice B n2 c2), (6, 1, .bool true)] =
    some (.agg #[v1, v2, v3, v4, .slice A n c, .slice B n2 c2, .bool true, .slice none 0 0]) := rfl

set_option maxHeartbeats 4000000 in
theorem lateSearch_rc (m : Mem) (v u : Value) (k : Cs) (rates : List Int) (h : CaseA m v k) (h' : IntsA m u rates) :
    RC Try.prog 100 [v, u] m (AnsS m (lateW k rates) (rowsB k rates 9)) := by
  refine rc_of_run mixed ok_impl_lateSearch (by simp) (go_start _ _ _ ?_)
  obtain ⟨v1, v2, v3, v4, rfl, g1, -, -, -⟩ := h.ok
  obtain ⟨_, _, _, _, e, h1, h2, h3, h4⟩ := h.ro.ok
  cases e
  have hc : CaseA (roM m) (.agg #[v1, v2, v3, v4]) k := ⟨_, _, _, _, rfl, h1, h2, h3, h4⟩
  have hu := h'.ro
  simp (config := {implicitDefEqProofs := false, maxDischargeDepth := 20}) (disch := first | omega | (simp only [lenE]; done) | (simp only [lenE]; omega) | rfl | (simp only [lenE, markR_len]; done) | (simp only [lenE, markR_len]; omega)) only [runE, mapE, listE, resV, oneV, binA, unA, reduceCtorEq, Nat.reduceEqDiff, Nat.reduceAdd, Nat.reduceLT, Nat.reduceLeDiff, Nat.reduceMul, Nat.reduceSub, ↓reduceIte, decide_true, decide_false, Bool.true_eq_false, Bool.false_eq_true, Bool.not_true, Bool.not_false, if_true, if_false, and_true, true_and, memE, celE, w64, Nat.zero_add, Nat.add_zero, Nat.mul_one, putL, and_self, ldn, c_impl_lateSearch, r_impl_lateSearch]
  refine callH_rc (areRates_rc _ _ u k rates (hc.ext _) (hu.ext _)) ?_
  rintro r new ⟨rfl, nr1⟩
  have hx : Grow (roM m ++ [⟨.own, 28, [v1, v2, v3, v4]⟩]) (roM m ++ [⟨.own, 28, [v1, v2, v3, v4]⟩] ++ new) := (Grow.refl _).app nr1
  cases hg : rowsB k rates 9 with
  | false =>
    simp (config := {implicitDefEqProofs := false, maxDischargeDepth := 20}) (disch := first | omega | (simp only [lenE]; done) | (simp only [lenE]; omega) | rfl | (simp only [lenE, markR_len]; done) | (simp only [lenE, markR_len]; omega)) only [runE, mapE, listE, resV, oneV, binA, unA, reduceCtorEq, Nat.reduceEqDiff, Nat.reduceAdd, Nat.reduceLT, Nat.reduceLeDiff, Nat.reduceMul, Nat.reduceSub, ↓reduceIte, decide_true, decide_false, Bool.true_eq_false, Bool.false_eq_true, Bool.not_true, Bool.not_false, if_true, if_false, and_true, true_and, memE, celE, w64, Nat.zero_add, Nat.add_zero, Nat.mul_one, putL, and_self, ldn]
    obtain ⟨n0, e0, hn⟩ := hx.ext
    rw [e0]
    exact ⟨n0, rfl, hn, hn, .inl ⟨rfl, rfl⟩⟩
  | true =>
    obtain ⟨hw, hs, hway⟩ := late_way hg
    obtain ⟨p1, p2, p3⟩ := rowsB_iff.1 hg
    have h8 := p1.n8
    obtain ⟨M0, hM0⟩ : ∃ M0, M0 = roM m ++ [⟨.own, 28, [v1, v2, v3, v4]⟩] ++ new := ⟨_, rfl⟩
    rw [← hM0] at hx ⊢
    clear hM0
    obtain ⟨c0, c1, c2, c3, hml⟩ := hx.box4
    simp (config := {implicitDefEqProofs := false, maxDischargeDepth := 20}) (disch := first | omega | (simp only [lenE]; done) | (simp only [lenE]; omega) | rfl | (simp only [lenE, markR_len]; done) | (simp only [lenE, markR_len]; omega)) only [runE, mapE, listE, resV, oneV, binA, unA, reduceCtorEq, Nat.reduceEqDiff, Nat.reduceAdd, Nat.reduceLT, Nat.reduceLeDiff, Nat.reduceMul, Nat.reduceSub, ↓reduceIte, decide_true, decide_false, Bool.true_eq_false, Bool.false_eq_true, Bool.not_true, Bool.not_false, if_true, if_false, and_true, true_and, memE, celE, w64, Nat.zero_add, Nat.add_zero, Nat.mul_one, putL, and_self, ldn, c0, (hx.intsV h1).len]
    refine rcallH_rc (sumOf_rc _ v1 k.need (hx.intsV h1) fun j hj => by have := sumTo_in p1.need j hj; omega) ?_
    rintro r new2 ⟨rfl, rfl⟩
    rw [List.append_nil]
    simp (config := {implicitDefEqProofs := false, maxDischargeDepth := 20}) (disch := first | omega | (simp only [lenE]; done) | (simp only [lenE]; omega) | rfl | (simp only [lenE, markR_len]; done) | (simp only [lenE, markR_len]; omega)) only [runE, mapE, listE, resV, oneV, binA, unA, reduceCtorEq, Nat.reduceEqDiff, Nat.reduceAdd, Nat.reduceLT, Nat.reduceLeDiff, Nat.reduceMul, Nat.reduceSub, ↓reduceIte, decide_true, decide_false, Bool.true_eq_false, Bool.false_eq_true, Bool.not_true, Bool.not_false, if_true, if_false, and_true, true_and, memE, celE, w64, Nat.zero_add, Nat.add_zero, Nat.mul_one, putL, and_self, ldn, bsl_one]
    refine rcallH_rc (repeat_rc _ _ (sumTo k.need k.need.length) k.need.length ((OwnR.at_end M0 [sumTo k.need k.need.length]).ints (by simp) 1) h8) ?_
    intro r new3 hA
    obtain ⟨ia, fa, rfl, ga, oA, la, nr3⟩ := hA.row
    have hx2 := (hx.one 3 [.int .i64 (sumTo k.need k.need.length)]).app nr3
    obtain ⟨M1, hM1⟩ : ∃ M1, M1 = M0 ++ [⟨.own, 3, [.int .i64 (sumTo k.need k.need.length)]⟩] ++ new3 := ⟨_, rfl⟩
    rw [← hM1] at hx2 ⊢
    rw [← hM1] at oA
    clear hM1
    obtain ⟨d0, d1, d2, d3, hml2⟩ := hx2.box4
    obtain ⟨A, n, cc, rfl⟩ := hu.sl
    rw [List.length_replicate] at la ⊢
    have iA := oA.ints (by rw [List.length_replicate]; omega) fa
    rw [List.length_replicate] at iA
    simp (config := {implicitDefEqProofs := false, maxDischargeDepth := 20}) (disch := first | omega | (simp only [lenE]; done) | (simp only [lenE]; omega) | rfl | (simp only [lenE, markR_len]; done) | (simp only [lenE, markR_len]; omega)) only [runE, mapE, listE, resV, oneV, binA, unA, reduceCtorEq, Nat.reduceEqDiff, Nat.reduceAdd, Nat.reduceLT, Nat.reduceLeDiff, Nat.reduceMul, Nat.reduceSub, ↓reduceIte, decide_true, decide_false, Bool.true_eq_false, Bool.false_eq_true, Bool.not_true, Bool.not_false, if_true, if_false, and_true, true_and, memE, celE, w64, Nat.zero_add, Nat.add_zero, Nat.mul_one, putL, and_self, ldn, d0, d1, d2, d3, bld8l]
    refine callH_ac (fill_ac (lateW k rates) true hs M1 v1 v2 v3 v4 _ _ (hx2.caseV hc) iA (hx2.intsV hu)) ?_
    rintro r M ⟨hG, hF⟩
    simp (config := {implicitDefEqProofs := false, maxDischargeDepth := 20}) (disch := first | omega | (simp only [lenE]; done) | (simp only [lenE]; omega) | rfl | (simp only [lenE, markR_len]; done) | (simp only [lenE, markR_len]; omega)) only [runE, mapE, listE, resV, oneV, binA, unA, reduceCtorEq, Nat.reduceEqDiff, Nat.reduceAdd, Nat.reduceLT, Nat.reduceLeDiff, Nat.reduceMul, Nat.reduceSub, ↓reduceIte, decide_true, decide_false, Bool.true_eq_false, Bool.false_eq_true, Bool.not_true, Bool.not_false, if_true, if_false, and_true, true_and, memE, celE, w64, Nat.zero_add, Nat.add_zero, Nat.mul_one, putL, and_self, ldn]
    obtain ⟨n0, rfl, hn⟩ := (hx2.trans hG).ext
    refine ⟨n0, rfl, hn, hn, .inr ⟨rfl, _, v1, rfl, g1.ext _, ?_⟩⟩
    exact hF.read.keep fun id k v hv => by rw [← rdc_roM2]; exact hv

theorem implBestLate_rc (m : Mem) (v u : Value) (k : Cs) (rates : List Int) (h : CaseA m v k) (h' : IntsA m u rates) :
    RC Try.prog 53 [v, u] m (AnsL m (bestLateA k rates) (rowsB k rates 9)) := by
  refine rc_of_run mixed ok_impl_BestLatePlan (by simp) (go_start _ _ _ ?_)
  obtain ⟨v1, v2, v3, v4, rfl, h1, h2, h3, h4⟩ := h.ro.ok
  have hc : CaseA (roM m) (.agg #[v1, v2, v3, v4]) k := ⟨_, _, _, _, rfl, h1, h2, h3, h4⟩
  have hu := h'.ro
  simp (config := {implicitDefEqProofs := false, maxDischargeDepth := 20}) (disch := first | omega | (simp only [lenE]; done) | (simp only [lenE]; omega) | rfl | (simp only [lenE, markR_len]; done) | (simp only [lenE, markR_len]; omega)) only [runE, mapE, listE, resV, oneV, binA, unA, reduceCtorEq, Nat.reduceEqDiff, Nat.reduceAdd, Nat.reduceLT, Nat.reduceLeDiff, Nat.reduceMul, Nat.reduceSub, ↓reduceIte, decide_true, decide_false, Bool.true_eq_false, Bool.false_eq_true, Bool.not_true, Bool.not_false, if_true, if_false, and_true, true_and, memE, celE, w64, Nat.zero_add, Nat.add_zero, Nat.mul_one, putL, and_self, ldn, c_impl_BestLatePlan, r_impl_BestLatePlan]
  refine callH_rc (lateSearch_rc _ _ u k rates (hc.ext _) (hu.ext _)) ?_
  rintro r new ⟨nr1, hA⟩
  have hx : Grow (roM m ++ [⟨.own, 28, [v1, v2, v3, v4]⟩]) (roM m ++ [⟨.own, 28, [v1, v2, v3, v4]⟩] ++ new) := (Grow.refl _).app nr1
  rcases hA with ⟨hg, rfl⟩ | ⟨hg, sp, x1, rfl, hI, hW⟩
  · simp (config := {implicitDefEqProofs := false, maxDischargeDepth := 20}) (disch := first | omega | (simp only [lenE]; done) | (simp only [lenE]; omega) | rfl | (simp only [lenE, markR_len]; done) | (simp only [lenE, markR_len]; omega)) only [runE, mapE, listE, resV, oneV, binA, unA, reduceCtorEq, Nat.reduceEqDiff, Nat.reduceAdd, Nat.reduceLT, Nat.reduceLeDiff, Nat.reduceMul, Nat.reduceSub, ↓reduceIte, decide_true, decide_false, Bool.true_eq_false, Bool.false_eq_true, Bool.not_true, Bool.not_false, if_true, if_false, and_true, true_and, memE, celE, w64, Nat.zero_add, Nat.add_zero, Nat.mul_one, putL, and_self, ldn, ext_2_0, ext_2_1, bsl_none]
    rw [bestLateA_no hg, hg]
    refine ext_ansL (hx.ext.one _ _) (OwnR.end' (l := []) ?_) (by omega) rfl (by simp)
    simp only [List.length_append, List.length_cons, List.length_nil, roM_len]
  · obtain ⟨hw, hs, hway⟩ := late_way hg
    have h8 := hw.g.n8
    rw [bestLateA_yes hg, hg]
    simp (config := {implicitDefEqProofs := false, maxDischargeDepth := 20}) (disch := first | omega | (simp only [lenE]; done) | (simp only [lenE]; omega) | rfl | (simp only [lenE, markR_len]; done) | (simp only [lenE, markR_len]; omega)) only [runE, mapE, listE, resV, oneV, binA, unA, reduceCtorEq, Nat.reduceEqDiff, Nat.reduceAdd, Nat.reduceLT, Nat.reduceLeDiff, Nat.reduceMul, Nat.reduceSub, ↓reduceIte, decide_true, decide_false, Bool.true_eq_false, Bool.false_eq_true, Bool.not_true, Bool.not_false, if_true, if_false, and_true, true_and, memE, celE, w64, Nat.zero_add, Nat.add_zero, Nat.mul_one, putL, and_self, ldn, ext_2_0, ext_2_1]
    refine callH_rc (plan_rc (lateW k rates) hw hway _ sp x1 hI hW) ?_
    intro r new3 hA
    obtain ⟨d1, f1, rfl, l1, o1, hle, nr3⟩ := hA.row
    simp only [List.length_append, List.length_cons, List.length_nil, roM_len] at l1
    simp (config := {implicitDefEqProofs := false, maxDischargeDepth := 20}) (disch := first | omega | (simp only [lenE]; done) | (simp only [lenE]; omega) | rfl | (simp only [lenE, markR_len]; done) | (simp only [lenE, markR_len]; omega)) only [runE, mapE, listE, resV, oneV, binA, unA, reduceCtorEq, Nat.reduceEqDiff, Nat.reduceAdd, Nat.reduceLT, Nat.reduceLeDiff, Nat.reduceMul, Nat.reduceSub, ↓reduceIte, decide_true, decide_false, Bool.true_eq_false, Bool.false_eq_true, Bool.not_true, Bool.not_false, if_true, if_false, and_true, true_and, memE, celE, w64, Nat.zero_add, Nat.add_zero, Nat.mul_one, putL, and_self, ldn]
    exact ext_ansL (hx.app nr3).ext o1 (by omega) rfl (by rw [show planW (lateW k rates) (lateW k rates).n = planW (lateW k rates) k.need.length from rfl] at hle; exact hle)

theorem implLeastLate_rc (m : Mem) (v u : Value) (k : Cs) (rates : List Int) (h : CaseA m v k) (h' : IntsA m u rates) :
    RC Try.prog 55 [v, u] m (AnsV (.tuple #[.int .i64 (leastLateA k rates), .bool (rowsB k rates 9)])) := by
  refine rc_of_run mixed ok_impl_LeastLate (by simp) (go_start _ _ _ ?_)
  obtain ⟨v1, v2, v3, v4, rfl, h1, h2, h3, h4⟩ := h.ro.ok
  have hc : CaseA (roM m) (.agg #[v1, v2, v3, v4]) k := ⟨_, _, _, _, rfl, h1, h2, h3, h4⟩
  have hu := h'.ro
  simp (config := {implicitDefEqProofs := false, maxDischargeDepth := 20}) (disch := first | omega | (simp only [lenE]; done) | (simp only [lenE]; omega) | rfl | (simp only [lenE, markR_len]; done) | (simp only [lenE, markR_len]; omega)) only [runE, mapE, listE, resV, oneV, binA, unA, reduceCtorEq, Nat.reduceEqDiff, Nat.reduceAdd, Nat.reduceLT, Nat.reduceLeDiff, Nat.reduceMul, Nat.reduceSub, ↓reduceIte, decide_true, decide_false, Bool.true_eq_false, Bool.false_eq_true, Bool.not_true, Bool.not_false, if_true, if_false, and_true, true_and, memE, celE, w64, Nat.zero_add, Nat.add_zero, Nat.mul_one, putL, and_self, ldn, c_impl_LeastLate, r_impl_LeastLate]
  refine callH_rc (lateSearch_rc _ _ u k rates (hc.ext _) (hu.ext _)) ?_
  rintro r new ⟨nr1, hA⟩
  have hx : Grow (roM m ++ [⟨.own, 28, [v1, v2, v3, v4]⟩]) (roM m ++ [⟨.own, 28, [v1, v2, v3, v4]⟩] ++ new) := (Grow.refl _).app nr1
  rcases hA with ⟨hg, rfl⟩ | ⟨hg, sp, x1, rfl, hI, hW⟩
  · simp (config := {implicitDefEqProofs := false, maxDischargeDepth := 20}) (disch := first | omega | (simp only [lenE]; done) | (simp only [lenE]; omega) | rfl | (simp only [lenE, markR_len]; done) | (simp only [lenE, markR_len]; omega)) only [runE, mapE, listE, resV, oneV, binA, unA, reduceCtorEq, Nat.reduceEqDiff, Nat.reduceAdd, Nat.reduceLT, Nat.reduceLeDiff, Nat.reduceMul, Nat.reduceSub, ↓reduceIte, decide_true, decide_false, Bool.true_eq_false, Bool.false_eq_true, Bool.not_true, Bool.not_false, if_true, if_false, and_true, true_and, memE, celE, w64, Nat.zero_add, Nat.add_zero, Nat.mul_one, putL, and_self, ldn, ext_2_0, ext_2_1]
    rw [leastLateA_no hg, hg]
    exact ext_ansV hx.ext rfl
  · obtain ⟨hw, hs, hway⟩ := late_way hg
    rw [leastLateA_yes hg, hg]
    simp (config := {implicitDefEqProofs := false, maxDischargeDepth := 20}) (disch := first | omega | (simp only [lenE]; done) | (simp only [lenE]; omega) | rfl | (simp only [lenE, markR_len]; done) | (simp only [lenE, markR_len]; omega)) only [runE, mapE, listE, resV, oneV, binA, unA, reduceCtorEq, Nat.reduceEqDiff, Nat.reduceAdd, Nat.reduceLT, Nat.reduceLeDiff, Nat.reduceMul, Nat.reduceSub, ↓reduceIte, decide_true, decide_false, Bool.true_eq_false, Bool.false_eq_true, Bool.not_true, Bool.not_false, if_true, if_false, and_true, true_and, memE, celE, w64, Nat.zero_add, Nat.add_zero, Nat.mul_one, putL, and_self, ldn, ext_2_0, ext_2_1]
    refine callH_rc (cost_rc (lateW k rates) hw hway _ sp x1 hW) ?_
    rintro r new3 ⟨rfl, nr3⟩
    simp (config := {implicitDefEqProofs := false, maxDischargeDepth := 20}) (disch := first | omega | (simp only [lenE]; done) | (simp only [lenE]; omega) | rfl | (simp only [lenE, markR_len]; done) | (simp only [lenE, markR_len]; omega)) only [runE, mapE, listE, resV, oneV, binA, unA, reduceCtorEq, Nat.reduceEqDiff, Nat.reduceAdd, Nat.reduceLT, Nat.reduceLeDiff, Nat.reduceMul, Nat.reduceSub, ↓reduceIte, decide_true, decide_false, Bool.true_eq_false, Bool.false_eq_true, Bool.not_true, Bool.not_false, if_true, if_false, and_true, true_and, memE, celE, w64, Nat.zero_add, Nat.add_zero, Nat.mul_one, putL, and_self, ldn]
    exact ext_ansV (hx.app nr3).ext rfl
end Go.Proofs.Ytiggehfopfpkbaa.Ab
