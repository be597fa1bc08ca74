/- Smoothing: SmoothPlan. -/
import Derived.Test.YtiggehfopfpkbabAbPrice
import Derived.Test.YtiggehfopfpkbabAbSmoothMath
namespace Go.Proofs.Ytiggehfopfpkbab.Ab
open Go Go.RowKit
set_option linter.unusedVariables false
set_option linter.unusedSimpArgs false

theorem lastQ_le (plan : List Int) (x : Nat) : lastQ plan (x + 1) ≤ x := by
  induction x with
  | zero => rw [lastQ]; split <;> simp [lastQ]
  | succ x ih => rw [lastQ]; split <;> omega
/-- The row that a slice names. -/
def rowOf (m : Mem) : Value → List Int
  | .slice (some a) _ _ => match m[a.block]? with
    | some b => b.cs.map intOf
    | none => []
  | _ => []
def id_ : Int → Int := fun x => x
theorem OwnR.rowOf {M : Mem} {id n fl : Nat} {L : List Int} (h : OwnR M id L) : rowOf M (.slice (some ⟨id, 0, none⟩) n fl) = L := by
  have e : M[id]? = some (rowB L) := h
  simp only [Ab.rowOf, e, List.map_map]
  have : (intOf ∘ Value.int .i64) = id_ := rfl
  rw [this]; exact List.map_id' L

theorem l2Smoother_rc (m : Mem) (v u : Value) (k : Cs) (plan : List Int) (p : Nat) (h : CaseA m v k) (h' : IntsA m u plan) (hg : Good k) (hp : Plan k plan) (he : earlyO plan (stocksL plan k.need) = some p) :
    RC Try.prog 55 [v, u, .int .i64 p] m (AnsR m (smoothS k plan p)) := by
  refine rc_of_run mixed ok_spec_l2Smoother (by simp) (go_start _ _ _ ?_)
  obtain ⟨v1, v2, v3, v4, rfl, h1, h2, h3, h4⟩ := h.ro.ok
  have hc : CaseA (roM m) (.agg #[v1, v2, v3, v4]) k := ⟨_, _, _, _, rfl, h1, h2, h3, h4⟩
  have hu := h'.ro
  have h8 := hg.n8
  have E := early_of hg hp he
  have hpl := later_plan hg hp E
  have hps := sooner_plan hg hp E
  have hl := hp.1
  have hin := hp.2.1
  have e1 := E.qp
  have e2 := E.pn
  have e3 := E.p1
  have e4 := E.q0
  have e5 := E.flat
  simp (config := {implicitDefEqProofs := false, maxDischargeDepth := 20}) (disch := first | omega | (simp only [lenE]; done) | (simp only [lenE]; omega) | rfl | (simp only [lenE, markR_len]; done) | (simp only [lenE, markR_len]; omega)) only [runE, mapE, listE, resV, oneV, binA, unA, reduceCtorEq, Nat.reduceEqDiff, Nat.reduceAdd, Nat.reduceLT, Nat.reduceLeDiff, Nat.reduceMul, Nat.reduceSub, ↓reduceIte, decide_true, decide_false, Bool.true_eq_false, Bool.false_eq_true, Bool.not_true, Bool.not_false, if_true, if_false, and_true, true_and, memE, celE, w64, Nat.zero_add, Nat.add_zero, Nat.mul_one, putL, and_self, ldn, c_spec_l2Smoother, r_spec_l2Smoother]
  refine callH_rc (l2Stocks_rc _ _ u k plan (hc.ext _) (hu.ext _) hg hl hin) ?_
  intro r new hA
  obtain ⟨sid, sfl, rfl, hge, oS, hle, nrn⟩ := hA.row
  have hx := (Grow.refl (roM m ++ [⟨.own, 28, [v1, v2, v3, v4]⟩])).app nrn
  have hsl := stocksL_len plan k.need
  have hat : (stocksL plan k.need).getD (p - 1) 0 = stk plan k.need (p - 1) := stocksL_at (by omega)
  have smS : smoothS k plan p = if costOf k plan < costOf k (laterP plan (lastQ plan p) p (stk plan k.need (p - 1))) then soonerP plan (lastQ plan p) p else laterP plan (lastQ plan p) p (stk plan k.need (p - 1)) := rfl
  rw [smS]
  have sb := stk_bound hg hin (p - 1) (by omega)
  generalize stocksL plan k.need = st at *
  generalize stk plan k.need (p - 1) = mm at *
  obtain ⟨q, hq⟩ : ∃ q, q = lastQ plan p := ⟨_, rfl⟩
  rw [← hq] at e1 e4 e5 hpl hps ⊢
  obtain ⟨M0, hM0⟩ : ∃ M0, M0 = roM m ++ [⟨.own, 28, [v1, v2, v3, v4]⟩] ++ new := ⟨_, rfl⟩
  obtain ⟨p1, hp1⟩ : ∃ p1, p1 = p - 1 := ⟨_, rfl⟩
  have ep : (p : Int) - 1 = (p1 : Int) := by omega
  rw [← hp1] at hat
  simp (config := {implicitDefEqProofs := false, maxDischargeDepth := 20}) (disch := first | omega | (simp only [lenE]; done) | (simp only [lenE]; omega) | rfl | (simp only [lenE, markR_len]; done) | (simp only [lenE, markR_len]; omega)) only [runE, mapE, listE, resV, oneV, binA, unA, reduceCtorEq, Nat.reduceEqDiff, Nat.reduceAdd, Nat.reduceLT, Nat.reduceLeDiff, Nat.reduceMul, Nat.reduceSub, ↓reduceIte, decide_true, decide_false, Bool.true_eq_false, Bool.false_eq_true, Bool.not_true, Bool.not_false, if_true, if_false, and_true, true_and, memE, celE, w64, Nat.zero_add, Nat.add_zero, Nat.mul_one, putL, and_self, ldn, ep]
  rw [← hM0] at hx oS ⊢
  have hu0 := hx.intsV hu
  simp only [List.length_append, List.length_cons, List.length_nil, roM_len] at hge
  refine loop_inv mixed (fun s => ∃ x : Nat, x < p ∧ lastQ plan (x + 1) = q ∧ s.t 1 = u ∧ s.t 2 = .int .i64 p ∧ s.t 3 = .pointer (some ⟨m.length, 0, none⟩) ∧ s.t 7 = .slice (some ⟨sid, 0, none⟩) st.length sfl ∧ s.t 8 = .int .i64 x ∧ s.m = M0) (fun s => (intOf (s.t 8)).toNat)
    ⟨p1, by omega, by rw [hp1, Nat.sub_add_cancel e3]; exact hq.symm, rfl, rfl, rfl, rfl, rfl, rfl⟩ ?_
  rintro s ⟨x, hxp, hxq, t1, t2, t3, t7, t8, tm⟩
  have qle := lastQ_le plan x
  rw [hxq] at qle
  by_cases hz : plan.getD x 0 = 0
  · have hz' : (plan.getD x 0 == 0) = true := by rw [hz]; rfl
    have hne : q ≠ x := fun e => by rw [e] at e4; omega
    have ex : (x : Int) - 1 = ((x - 1 : Nat) : Int) := by omega
    simp (config := {implicitDefEqProofs := false, maxDischargeDepth := 20}) (disch := first | omega | (simp only [lenE]; done) | (simp only [lenE]; omega) | rfl | (simp only [lenE, markR_len]; done) | (simp only [lenE, markR_len]; omega)) only [runE, mapE, listE, resV, oneV, binA, unA, reduceCtorEq, Nat.reduceEqDiff, Nat.reduceAdd, Nat.reduceLT, Nat.reduceLeDiff, Nat.reduceMul, Nat.reduceSub, ↓reduceIte, decide_true, decide_false, Bool.true_eq_false, Bool.false_eq_true, Bool.not_true, Bool.not_false, if_true, if_false, and_true, true_and, memE, celE, w64, Nat.zero_add, Nat.add_zero, Nat.mul_one, putL, and_self, ldn, t1, t2, t3, t7, t8, tm, hu0.at_ x (by omega), hu0.ld x (by omega), hz', ex]
    refine ⟨⟨x - 1, by omega, ?_, rfl⟩, by simp [intOf]; omega⟩
    rw [Nat.sub_add_cancel (by omega), ← hxq, lastQ, if_pos hz]
  · have hz' : (plan.getD x 0 == 0) = false := by simp only [beq_eq_false_iff_ne]; exact hz
    have hqx : x = q := by rw [← hxq, lastQ, if_neg hz]
    subst hqx
    simp (config := {implicitDefEqProofs := false, maxDischargeDepth := 20}) (disch := first | omega | (simp only [lenE]; done) | (simp only [lenE]; omega) | rfl | (simp only [lenE, markR_len]; done) | (simp only [lenE, markR_len]; omega)) only [runE, mapE, listE, resV, oneV, binA, unA, reduceCtorEq, Nat.reduceEqDiff, Nat.reduceAdd, Nat.reduceLT, Nat.reduceLeDiff, Nat.reduceMul, Nat.reduceSub, ↓reduceIte, decide_true, decide_false, Bool.true_eq_false, Bool.false_eq_true, Bool.not_true, Bool.not_false, if_true, if_false, and_true, true_and, memE, celE, w64, Nat.zero_add, Nat.add_zero, Nat.mul_one, putL, and_self, ldn, t1, t2, t3, t7, t8, tm, hu0.at_ x (by omega), hu0.ld x (by omega), hz']
    refine callH_rc (l1Own_rc _ u plan hu0 (by omega)) ?_
    intro r new1 hA1
    obtain ⟨ia, fa, rfl, ga, oA, -, nr1⟩ := hA1.row
    simp (config := {implicitDefEqProofs := false, maxDischargeDepth := 20}) (disch := first | omega | (simp only [lenE]; done) | (simp only [lenE]; omega) | rfl | (simp only [lenE, markR_len]; done) | (simp only [lenE, markR_len]; omega)) only [runE, mapE, listE, resV, oneV, binA, unA, reduceCtorEq, Nat.reduceEqDiff, Nat.reduceAdd, Nat.reduceLT, Nat.reduceLeDiff, Nat.reduceMul, Nat.reduceSub, ↓reduceIte, decide_true, decide_false, Bool.true_eq_false, Bool.false_eq_true, Bool.not_true, Bool.not_false, if_true, if_false, and_true, true_and, memE, celE, w64, Nat.zero_add, Nat.add_zero, Nat.mul_one, putL, and_self, ldn, t1]
    refine callH_rc (l1Own_rc _ u plan (hu0.ext _) (by omega)) ?_
    intro r new2 hA2
    obtain ⟨ib, fb, rfl, gb, oB, -, nr2⟩ := hA2.row
    have la := oA.lt
    have ls := oS.lt
    have oA := oA.ext new2
    have oS := (oS.ext new1).ext new2
    have hx := (hx.app nr1).app nr2
    have hu2 := (hu0.ext new1).ext new2
    simp only [List.length_append] at ga gb la
    obtain ⟨M2, hM2⟩ : ∃ M2, M2 = M0 ++ new1 ++ new2 := ⟨_, rfl⟩
    simp (config := {implicitDefEqProofs := false, maxDischargeDepth := 20}) (disch := first | omega | (simp only [lenE]; done) | (simp only [lenE]; omega) | rfl | (simp only [lenE, markR_len]; done) | (simp only [lenE, markR_len]; omega)) only [runE, mapE, listE, resV, oneV, binA, unA, reduceCtorEq, Nat.reduceEqDiff, Nat.reduceAdd, Nat.reduceLT, Nat.reduceLeDiff, Nat.reduceMul, Nat.reduceSub, ↓reduceIte, decide_true, decide_false, Bool.true_eq_false, Bool.false_eq_true, Bool.not_true, Bool.not_false, if_true, if_false, and_true, true_and, memE, celE, w64, Nat.zero_add, Nat.add_zero, Nat.mul_one, putL, and_self, ldn]
    rw [← hM2] at oA oB oS hx hu2 ⊢
    have nab : ia ≠ ib := by omega
    have nsa : ia ≠ sid := by omega
    have nsb : ib ≠ sid := by omega
    have bq := getD_bound (m := 160) (by omega) hin x
    have bp := getD_bound (m := 160) (by omega) hin p
    -- later
    have rA1 := oA.rd (i := x) (by omega)
    have rS1 := oS.rd (i := p1) (by omega)
    rw [hat] at rS1
    have w1 := oA.st (off := x) (x := plan.getD x 0 - mm) (by omega)
    have oA1 : OwnR (M2.set ia (rowB (plan.set x (plan.getD x 0 - mm)))) ia (plan.set x (plan.getD x 0 - mm)) := OwnR.set_self oA
    have oB1 := oB.set_ne (b := rowB (plan.set x (plan.getD x 0 - mm))) nab
    have oS1 := oS.set_ne (b := rowB (plan.set x (plan.getD x 0 - mm))) nsa
    have hx1 := hx.put (id := ia) (by simp [roM_len]; omega) 3 ((plan.set x (plan.getD x 0 - mm)).map (Value.int .i64))
    have rA2 := oA1.rd (i := p) (by simp; omega)
    rw [getD_set _ _ _ _ (by omega), if_neg (by omega)] at rA2
    have rS2 := oS1.rd (i := p1) (by omega)
    rw [hat] at rS2
    have w2 := oA1.st (off := p) (x := plan.getD p 0 + mm) (by simp; omega)
    have oA2 : OwnR _ ia ((plan.set x (plan.getD x 0 - mm)).set p (plan.getD p 0 + mm)) := OwnR.set_self (L' := (plan.set x (plan.getD x 0 - mm)).set p (plan.getD p 0 + mm)) oA1
    have oB2 := oB1.set_ne (b := rowB ((plan.set x (plan.getD x 0 - mm)).set p (plan.getD p 0 + mm))) nab
    have hx2 := hx1.put (id := ia) (by simp [roM_len]; omega) 3 (((plan.set x (plan.getD x 0 - mm)).set p (plan.getD p 0 + mm)).map (Value.int .i64))
    have hpq : x < plan.length := by omega
    have hpp : p < plan.length := by omega
    have hps1 : p1 < st.length := by omega
    simp (config := {implicitDefEqProofs := false, maxDischargeDepth := 20}) (disch := first | omega | (simp only [lenE]; done) | (simp only [lenE]; omega) | rfl | (simp only [lenE, markR_len]; done) | (simp only [lenE, markR_len]; omega)) only [runE, mapE, listE, resV, oneV, binA, unA, reduceCtorEq, Nat.reduceEqDiff, Nat.reduceAdd, Nat.reduceLT, Nat.reduceLeDiff, Nat.reduceMul, Nat.reduceSub, ↓reduceIte, decide_true, decide_false, Bool.true_eq_false, Bool.false_eq_true, Bool.not_true, Bool.not_false, if_true, if_false, and_true, true_and, memE, celE, w64, Nat.zero_add, Nat.add_zero, Nat.mul_one, putL, and_self, ldn, t1, t2, t3, t7, t8, ep, iadA_in hpq, iadA_in hpp, iadA_in hps1, rA1, rS1, w1, rA2, rS2, w2]
    obtain ⟨M4, hM4⟩ : ∃ M4, M4 = (M2.set ia (rowB (plan.set x (plan.getD x 0 - mm)))).set ia (rowB ((plan.set x (plan.getD x 0 - mm)).set p (plan.getD p 0 + mm))) := ⟨_, rfl⟩
    have oA2 : OwnR M4 ia (laterP plan x p mm) := by rw [hM4]; exact oA2
    rw [← hM4] at oB2 ⊢
    have hx2 : Grow (roM m ++ [⟨.own, 28, [v1, v2, v3, v4]⟩]) M4 := by rw [hM4]; exact hx2
    have rB1 := oB2.rd (i := x) (by omega)
    have rB2 := oB2.rd (i := p) (by omega)
    have w3 := oB2.st (off := x) (x := plan.getD x 0 + plan.getD p 0) (by omega)
    have oB3 : OwnR (M4.set ib (rowB (plan.set x (plan.getD x 0 + plan.getD p 0)))) ib (plan.set x (plan.getD x 0 + plan.getD p 0)) := OwnR.set_self oB2
    have oA3 := oA2.set_ne (b := rowB (plan.set x (plan.getD x 0 + plan.getD p 0))) nab.symm
    have hx3 := hx2.put (id := ib) (by simp [roM_len]; omega) 3 ((plan.set x (plan.getD x 0 + plan.getD p 0)).map (Value.int .i64))
    have w4 := oB3.st (off := p) (x := 0) (by simp; omega)
    have oB4 : OwnR _ ib ((plan.set x (plan.getD x 0 + plan.getD p 0)).set p 0) := OwnR.set_self (L' := (plan.set x (plan.getD x 0 + plan.getD p 0)).set p 0) oB3
    have oA4 := oA3.set_ne (b := rowB ((plan.set x (plan.getD x 0 + plan.getD p 0)).set p 0)) nab.symm
    have hx4 := hx3.put (id := ib) (by simp [roM_len]; omega) 3 (((plan.set x (plan.getD x 0 + plan.getD p 0)).set p 0).map (Value.int .i64))
    simp (config := {implicitDefEqProofs := false, maxDischargeDepth := 20}) (disch := first | omega | (simp only [lenE]; done) | (simp only [lenE]; omega) | rfl | (simp only [lenE, markR_len]; done) | (simp only [lenE, markR_len]; omega)) only [runE, mapE, listE, resV, oneV, binA, unA, reduceCtorEq, Nat.reduceEqDiff, Nat.reduceAdd, Nat.reduceLT, Nat.reduceLeDiff, Nat.reduceMul, Nat.reduceSub, ↓reduceIte, decide_true, decide_false, Bool.true_eq_false, Bool.false_eq_true, Bool.not_true, Bool.not_false, if_true, if_false, and_true, true_and, memE, celE, w64, Nat.zero_add, Nat.add_zero, Nat.mul_one, putL, and_self, ldn, t1, t2, t3, t7, t8, iadA_in hpq, iadA_in hpp, rB1, rB2, w3, w4]
    obtain ⟨M6, hM6⟩ : ∃ M6, M6 = (M4.set ib (rowB (plan.set x (plan.getD x 0 + plan.getD p 0)))).set ib (rowB ((plan.set x (plan.getD x 0 + plan.getD p 0)).set p 0)) := ⟨_, rfl⟩
    have oB4 : OwnR M6 ib (soonerP plan x p) := by rw [hM6]; exact oB4
    have oA4 : OwnR M6 ia (laterP plan x p mm) := by rw [hM6]; exact oA4
    have hx4 : Grow (roM m ++ [⟨.own, 28, [v1, v2, v3, v4]⟩]) M6 := by rw [hM6]; exact hx4
    rw [← hM6]
    obtain ⟨r0, r1, r2, r3, hlM⟩ := hx4.box4
    have lenL : (laterP plan x p mm).length = plan.length := by simp [laterP]
    have lenS : (soonerP plan x p).length = plan.length := by simp [soonerP]
    have iA := oA4.ints (by omega) fa
    rw [lenL] at iA
    have iu := hx4.intsV hu
    simp (config := {implicitDefEqProofs := false, maxDischargeDepth := 20}) (disch := first | omega | (simp only [lenE]; done) | (simp only [lenE]; omega) | rfl | (simp only [lenE, markR_len]; done) | (simp only [lenE, markR_len]; omega)) only [runE, mapE, listE, resV, oneV, binA, unA, reduceCtorEq, Nat.reduceEqDiff, Nat.reduceAdd, Nat.reduceLT, Nat.reduceLeDiff, Nat.reduceMul, Nat.reduceSub, ↓reduceIte, decide_true, decide_false, Bool.true_eq_false, Bool.false_eq_true, Bool.not_true, Bool.not_false, if_true, if_false, and_true, true_and, memE, celE, w64, Nat.zero_add, Nat.add_zero, Nat.mul_one, putL, and_self, ldn, t1, t2, t3, t7, t8, r0, r1, r2, r3]
    refine rcallH_rc (l2Cost_rc _ _ _ k (laterP plan x p mm) (hx4.caseV hc) iA hg hpl.1 hpl.2.1) ?_
    rintro r n5 ⟨rfl, nr5⟩
    simp (config := {implicitDefEqProofs := false, maxDischargeDepth := 20}) (disch := first | omega | (simp only [lenE]; done) | (simp only [lenE]; omega) | rfl | (simp only [lenE, markR_len]; done) | (simp only [lenE, markR_len]; omega)) only [runE, mapE, listE, resV, oneV, binA, unA, reduceCtorEq, Nat.reduceEqDiff, Nat.reduceAdd, Nat.reduceLT, Nat.reduceLeDiff, Nat.reduceMul, Nat.reduceSub, ↓reduceIte, decide_true, decide_false, Bool.true_eq_false, Bool.false_eq_true, Bool.not_true, Bool.not_false, if_true, if_false, and_true, true_and, memE, celE, w64, Nat.zero_add, Nat.add_zero, Nat.mul_one, putL, and_self, ldn]
    refine rcallH_rc (l2Cost_rc _ _ u k plan ((hx4.caseV hc).ext _) (iu.ext _) hg hl hin) ?_
    rintro r n6 ⟨rfl, nr6⟩
    by_cases hcst : costOf k plan < costOf k (laterP plan x p mm)
    · simp (config := {implicitDefEqProofs := false, maxDischargeDepth := 20}) (disch := first | omega | (simp only [lenE]; done) | (simp only [lenE]; omega) | rfl | (simp only [lenE, markR_len]; done) | (simp only [lenE, markR_len]; omega)) only [runE, mapE, listE, resV, oneV, binA, unA, reduceCtorEq, Nat.reduceEqDiff, Nat.reduceAdd, Nat.reduceLT, Nat.reduceLeDiff, Nat.reduceMul, Nat.reduceSub, ↓reduceIte, decide_true, decide_false, Bool.true_eq_false, Bool.false_eq_true, Bool.not_true, Bool.not_false, if_true, if_false, and_true, true_and, memE, celE, w64, Nat.zero_add, Nat.add_zero, Nat.mul_one, putL, and_self, ldn, gt_iff_lt, hcst]
      exact ext_ansR ((hx4.app nr5).app nr6).ext ((oB4.ext _).ext _) (by omega) (by rw [lenS]) (by omega)
    · simp (config := {implicitDefEqProofs := false, maxDischargeDepth := 20}) (disch := first | omega | (simp only [lenE]; done) | (simp only [lenE]; omega) | rfl | (simp only [lenE, markR_len]; done) | (simp only [lenE, markR_len]; omega)) only [runE, mapE, listE, resV, oneV, binA, unA, reduceCtorEq, Nat.reduceEqDiff, Nat.reduceAdd, Nat.reduceLT, Nat.reduceLeDiff, Nat.reduceMul, Nat.reduceSub, ↓reduceIte, decide_true, decide_false, Bool.true_eq_false, Bool.false_eq_true, Bool.not_true, Bool.not_false, if_true, if_false, and_true, true_and, memE, celE, w64, Nat.zero_add, Nat.add_zero, Nat.mul_one, putL, and_self, ldn, gt_iff_lt, hcst]
      exact ext_ansR ((hx4.app nr5).app nr6).ext ((oA4.ext _).ext _) (by omega) (by rw [lenL]) (by omega)

theorem orderInstead_rc (m : Mem) (u : Value) (plan : List Int) (amt : Int) (a b : Nat) (h' : IntsA m u plan) (hl : plan.length ≤ 1000) (ha : a < plan.length) (hb : b < plan.length) (hab : a ≠ b) (hin : ∀ x ∈ plan, 0 ≤ x ∧ x ≤ 160) (hm : -100000 ≤ amt ∧ amt ≤ 100000) :
    RC Try.prog 64 [u, .int .i64 amt, .int .i64 a, .int .i64 b] m (AnsR m ((plan.set a (plan.getD a 0 - amt)).set b (plan.getD b 0 + amt))) := by
  refine rc_of_run mixed ok_impl_orderInstead (by simp) (go_start _ _ _ ?_)
  have hu := h'.ro
  have hap := app_own hu (by omega : plan.length ≤ 1048576)
  rw [roM_len] at hap
  have ba := getD_bound (m := 160) (by omega) hin a
  have bb := getD_bound (m := 160) (by omega) hin b
  simp (config := {implicitDefEqProofs := false, maxDischargeDepth := 20}) (disch := first | omega | (simp only [lenE]; done) | (simp only [lenE]; omega) | rfl | (simp only [lenE, markR_len]; done) | (simp only [lenE, markR_len]; omega)) only [runE, mapE, listE, resV, oneV, binA, unA, reduceCtorEq, Nat.reduceEqDiff, Nat.reduceAdd, Nat.reduceLT, Nat.reduceLeDiff, Nat.reduceMul, Nat.reduceSub, ↓reduceIte, decide_true, decide_false, Bool.true_eq_false, Bool.false_eq_true, Bool.not_true, Bool.not_false, if_true, if_false, and_true, true_and, memE, celE, w64, Nat.zero_add, Nat.add_zero, Nat.mul_one, putL, and_self, ldn, c_impl_orderInstead, r_impl_orderInstead, bsl_none', hap]
  obtain ⟨M1, hM1⟩ : ∃ M1, M1 = roM m ++ [deadB] ++ [⟨.own, 3, plan.map (Value.int .i64)⟩] := ⟨_, rfl⟩
  have o1 : OwnR M1 (m.length + 1) plan := by rw [hM1]; exact OwnR.end' (l := plan) (by simp [roM_len])
  have hx : Grow (roM m) M1 := by rw [hM1]; exact ((Grow.refl _).app (noRo_dead noRo_nil)).one _ _
  rw [← hM1]
  have r1 := o1.rd (i := a) ha
  have w1 := o1.st (off := a) (x := plan.getD a 0 - amt) ha
  have o2 : OwnR (M1.set (m.length + 1) (rowB (plan.set a (plan.getD a 0 - amt)))) (m.length + 1) (plan.set a (plan.getD a 0 - amt)) := OwnR.set_self o1
  have hx2 := hx.put (id := m.length + 1) (by simp [roM_len]) 3 ((plan.set a (plan.getD a 0 - amt)).map (Value.int .i64))
  have r2 := o2.rd (i := b) (by simpa using hb)
  rw [getD_set _ _ _ _ ha, if_neg hab] at r2
  have w2 := o2.st (off := b) (x := plan.getD b 0 + amt) (by simpa using hb)
  have o3 : OwnR _ (m.length + 1) ((plan.set a (plan.getD a 0 - amt)).set b (plan.getD b 0 + amt)) := OwnR.set_self (L' := (plan.set a (plan.getD a 0 - amt)).set b (plan.getD b 0 + amt)) o2
  have hx3 := hx2.put (id := m.length + 1) (by simp [roM_len]) 3 (((plan.set a (plan.getD a 0 - amt)).set b (plan.getD b 0 + amt)).map (Value.int .i64))
  simp (config := {implicitDefEqProofs := false, maxDischargeDepth := 20}) (disch := first | omega | (simp only [lenE]; done) | (simp only [lenE]; omega) | rfl | (simp only [lenE, markR_len]; done) | (simp only [lenE, markR_len]; omega)) only [runE, mapE, listE, resV, oneV, binA, unA, reduceCtorEq, Nat.reduceEqDiff, Nat.reduceAdd, Nat.reduceLT, Nat.reduceLeDiff, Nat.reduceMul, Nat.reduceSub, ↓reduceIte, decide_true, decide_false, Bool.true_eq_false, Bool.false_eq_true, Bool.not_true, Bool.not_false, if_true, if_false, and_true, true_and, memE, celE, w64, Nat.zero_add, Nat.add_zero, Nat.mul_one, putL, and_self, ldn, iadA_in ha, iadA_in hb, r1, w1, r2, w2]
  exact ext_ansR hx3 o3 (by omega) (by simp) (by simp; omega)

theorem smoothAt_rc (m : Mem) (v u : Value) (k : Cs) (plan : List Int) (p : Nat) (mm : Int) (h : CaseA m v k) (h' : IntsA m u plan) (hg : Good k) (hp : Plan k plan) (he : earlyO plan (stocksL plan k.need) = some p) (hmm : mm = stk plan k.need (p - 1)) :
    RC Try.prog 56 [v, u, .int .i64 p, .int .i64 mm] m (AnsR m (smoothS k plan p)) := by
  refine rc_of_run mixed ok_impl_smoothAt (by simp) (go_start _ _ _ ?_)
  obtain ⟨v1, v2, v3, v4, rfl, h1, h2, h3, h4⟩ := h.ro.ok
  have hc : CaseA (roM m) (.agg #[v1, v2, v3, v4]) k := ⟨_, _, _, _, rfl, h1, h2, h3, h4⟩
  have hu := h'.ro
  have h8 := hg.n8
  have E := early_of hg hp he
  have hpl := later_plan hg hp E
  have hps := sooner_plan hg hp E
  have hl := hp.1
  have hin := hp.2.1
  have e1 := E.qp
  have e2 := E.pn
  have e3 := E.p1
  have e4 := E.q0
  have sb := stk_bound hg hin (p - 1) (by omega)
  have smS : smoothS k plan p = if costOf k plan < costOf k (laterP plan (lastQ plan p) p (stk plan k.need (p - 1))) then soonerP plan (lastQ plan p) p else laterP plan (lastQ plan p) p (stk plan k.need (p - 1)) := rfl
  rw [smS]
  rw [← hmm] at sb hpl ⊢
  obtain ⟨q, hq⟩ : ∃ q, q = lastQ plan p := ⟨_, rfl⟩
  rw [← hq] at e1 e4 hpl hps ⊢
  obtain ⟨M0, hM0⟩ : ∃ M0, M0 = roM m ++ [⟨.own, 28, [v1, v2, v3, v4]⟩] := ⟨_, rfl⟩
  have hx : Grow (roM m ++ [⟨.own, 28, [v1, v2, v3, v4]⟩]) M0 := by rw [hM0]; exact Grow.refl _
  have ep : (p : Int) - 1 = ((p - 1 : Nat) : Int) := by omega
  simp (config := {implicitDefEqProofs := false, maxDischargeDepth := 20}) (disch := first | omega | (simp only [lenE]; done) | (simp only [lenE]; omega) | rfl | (simp only [lenE, markR_len]; done) | (simp only [lenE, markR_len]; omega)) only [runE, mapE, listE, resV, oneV, binA, unA, reduceCtorEq, Nat.reduceEqDiff, Nat.reduceAdd, Nat.reduceLT, Nat.reduceLeDiff, Nat.reduceMul, Nat.reduceSub, ↓reduceIte, decide_true, decide_false, Bool.true_eq_false, Bool.false_eq_true, Bool.not_true, Bool.not_false, if_true, if_false, and_true, true_and, memE, celE, w64, Nat.zero_add, Nat.add_zero, Nat.mul_one, putL, and_self, ldn, c_impl_smoothAt, r_impl_smoothAt, ep]
  rw [← hM0]
  have hu0 := hx.intsV hu
  obtain ⟨r0, r1, r2, r3, hlM⟩ := hx.box4
  refine loop_inv mixed (fun s => ∃ x : Nat, x < p ∧ lastQ plan (x + 1) = q ∧ s.t 1 = u ∧ s.t 2 = .int .i64 p ∧ s.t 3 = .int .i64 mm ∧ s.t 4 = .pointer (some ⟨m.length, 0, none⟩) ∧ s.t 9 = .int .i64 x ∧ s.m = M0) (fun s => (intOf (s.t 9)).toNat)
    ⟨p - 1, by omega, by rw [Nat.sub_add_cancel e3]; exact hq.symm, rfl, rfl, rfl, rfl, rfl, rfl⟩ ?_
  rintro s ⟨x, hxp, hxq, t1, t2, t3, t4, t9, tm⟩
  have qle := lastQ_le plan x
  rw [hxq] at qle
  by_cases hz : plan.getD x 0 = 0
  · have hz' : (plan.getD x 0 == 0) = true := by rw [hz]; rfl
    have hne : q ≠ x := fun e => by rw [e] at e4; omega
    have ex : (x : Int) - 1 = ((x - 1 : Nat) : Int) := by omega
    simp (config := {implicitDefEqProofs := false, maxDischargeDepth := 20}) (disch := first | omega | (simp only [lenE]; done) | (simp only [lenE]; omega) | rfl | (simp only [lenE, markR_len]; done) | (simp only [lenE, markR_len]; omega)) only [runE, mapE, listE, resV, oneV, binA, unA, reduceCtorEq, Nat.reduceEqDiff, Nat.reduceAdd, Nat.reduceLT, Nat.reduceLeDiff, Nat.reduceMul, Nat.reduceSub, ↓reduceIte, decide_true, decide_false, Bool.true_eq_false, Bool.false_eq_true, Bool.not_true, Bool.not_false, if_true, if_false, and_true, true_and, memE, celE, w64, Nat.zero_add, Nat.add_zero, Nat.mul_one, putL, and_self, ldn, t1, t2, t3, t4, t9, tm, hu0.at_ x (by omega), hu0.ld x (by omega), hz', ex]
    refine ⟨⟨x - 1, by omega, ?_, rfl⟩, by simp [intOf]; omega⟩
    rw [Nat.sub_add_cancel (by omega), ← hxq, lastQ, if_pos hz]
  · have hz' : (plan.getD x 0 == 0) = false := by simp only [beq_eq_false_iff_ne]; exact hz
    have hqx : x = q := by rw [← hxq, lastQ, if_neg hz]
    subst hqx
    have bp := getD_bound (m := 160) (by omega) hin p
    simp (config := {implicitDefEqProofs := false, maxDischargeDepth := 20}) (disch := first | omega | (simp only [lenE]; done) | (simp only [lenE]; omega) | rfl | (simp only [lenE, markR_len]; done) | (simp only [lenE, markR_len]; omega)) only [runE, mapE, listE, resV, oneV, binA, unA, reduceCtorEq, Nat.reduceEqDiff, Nat.reduceAdd, Nat.reduceLT, Nat.reduceLeDiff, Nat.reduceMul, Nat.reduceSub, ↓reduceIte, decide_true, decide_false, Bool.true_eq_false, Bool.false_eq_true, Bool.not_true, Bool.not_false, if_true, if_false, and_true, true_and, memE, celE, w64, Nat.zero_add, Nat.add_zero, Nat.mul_one, putL, and_self, ldn, t1, t2, t3, t4, t9, tm, hu0.at_ x (by omega), hu0.ld x (by omega), hz']
    refine callH_rc (orderInstead_rc _ u plan mm x p hu0 (by omega) (by omega) e2 (by omega) hin (by omega)) ?_
    intro r new1 hA1
    obtain ⟨ia, fa, rfl, ga, oA, -, nr1⟩ := hA1.row
    have hx1 := hx.app nr1
    have hl0 := hx.len
    simp only [List.length_append, List.length_cons, List.length_nil, roM_len] at hl0
    have eL : (plan.set x (plan.getD x 0 - mm)).set p (plan.getD p 0 + mm) = laterP plan x p mm := rfl
    rw [eL] at oA ⊢
    have lenL : (laterP plan x p mm).length = plan.length := by simp [laterP]
    simp (config := {implicitDefEqProofs := false, maxDischargeDepth := 20}) (disch := first | omega | (simp only [lenE]; done) | (simp only [lenE]; omega) | rfl | (simp only [lenE, markR_len]; done) | (simp only [lenE, markR_len]; omega)) only [runE, mapE, listE, resV, oneV, binA, unA, reduceCtorEq, Nat.reduceEqDiff, Nat.reduceAdd, Nat.reduceLT, Nat.reduceLeDiff, Nat.reduceMul, Nat.reduceSub, ↓reduceIte, decide_true, decide_false, Bool.true_eq_false, Bool.false_eq_true, Bool.not_true, Bool.not_false, if_true, if_false, and_true, true_and, memE, celE, w64, Nat.zero_add, Nat.add_zero, Nat.mul_one, putL, and_self, ldn, t1, t2, t3, t4, t9, r0, r1, r2, r3]
    refine callH_rc (implPlanCost_rc _ _ u k plan (hx1.caseV hc) (hx1.intsV hu)) ?_
    rintro r new2 ⟨rfl, nr2⟩
    have hx2 := hx1.app nr2
    have tw : two k plan = true := two_iff.2 ⟨hg, hp⟩
    have twL : two k (laterP plan x p mm) = true := two_iff.2 ⟨hg, hpl⟩
    rw [tw, costA_yes tw]
    simp (config := {implicitDefEqProofs := false, maxDischargeDepth := 20}) (disch := first | omega | (simp only [lenE]; done) | (simp only [lenE]; omega) | rfl | (simp only [lenE, markR_len]; done) | (simp only [lenE, markR_len]; omega)) only [runE, mapE, listE, resV, oneV, binA, unA, reduceCtorEq, Nat.reduceEqDiff, Nat.reduceAdd, Nat.reduceLT, Nat.reduceLeDiff, Nat.reduceMul, Nat.reduceSub, ↓reduceIte, decide_true, decide_false, Bool.true_eq_false, Bool.false_eq_true, Bool.not_true, Bool.not_false, if_true, if_false, and_true, true_and, memE, celE, w64, Nat.zero_add, Nat.add_zero, Nat.mul_one, putL, and_self, ldn, t1, t2, t3, t4, t9, r0, r1, r2, r3, ext_2_0, ext_2_1]
    refine callH_rc (implPlanCost_rc _ _ _ k (laterP plan x p mm) (hx2.caseV hc) ((oA.ext _).ints (by omega) fa)) ?_
    rintro r new3 ⟨rfl, nr3⟩
    have hx3 := hx2.app nr3
    rw [twL, costA_yes twL]
    by_cases hcst : costOf k plan < costOf k (laterP plan x p mm)
    · have eS : (plan.set p (plan.getD p 0 - plan.getD p 0)).set x (plan.getD x 0 + plan.getD p 0) = soonerP plan x p := by
        unfold soonerP
        rw [List.set_comm _ _ (by omega), Int.sub_self]
      have iu3 := hx3.intsV hu
      simp (config := {implicitDefEqProofs := false, maxDischargeDepth := 20}) (disch := first | omega | (simp only [lenE]; done) | (simp only [lenE]; omega) | rfl | (simp only [lenE, markR_len]; done) | (simp only [lenE, markR_len]; omega)) only [runE, mapE, listE, resV, oneV, binA, unA, reduceCtorEq, Nat.reduceEqDiff, Nat.reduceAdd, Nat.reduceLT, Nat.reduceLeDiff, Nat.reduceMul, Nat.reduceSub, ↓reduceIte, decide_true, decide_false, Bool.true_eq_false, Bool.false_eq_true, Bool.not_true, Bool.not_false, if_true, if_false, and_true, true_and, memE, celE, w64, Nat.zero_add, Nat.add_zero, Nat.mul_one, putL, and_self, ldn, t1, t2, t3, t4, t9, ext_2_0, ext_2_1, gt_iff_lt, hcst, iu3.at_ p (by omega), iu3.ld p (by omega)]
      refine callH_rc (orderInstead_rc _ u plan _ p x iu3 (by omega) e2 (by omega) (by omega) hin (by omega)) ?_
      intro r new4 hA4
      obtain ⟨ib, fb, rfl, gb, oB, -, nr4⟩ := hA4.row
      have hl3 := hx3.len
      simp only [List.length_append, List.length_cons, List.length_nil, roM_len] at hl3 gb
      rw [eS] at oB ⊢
      simp (config := {implicitDefEqProofs := false, maxDischargeDepth := 20}) (disch := first | omega | (simp only [lenE]; done) | (simp only [lenE]; omega) | rfl | (simp only [lenE, markR_len]; done) | (simp only [lenE, markR_len]; omega)) only [runE, mapE, listE, resV, oneV, binA, unA, reduceCtorEq, Nat.reduceEqDiff, Nat.reduceAdd, Nat.reduceLT, Nat.reduceLeDiff, Nat.reduceMul, Nat.reduceSub, ↓reduceIte, decide_true, decide_false, Bool.true_eq_false, Bool.false_eq_true, Bool.not_true, Bool.not_false, if_true, if_false, and_true, true_and, memE, celE, w64, Nat.zero_add, Nat.add_zero, Nat.mul_one, putL, and_self, ldn]
      exact ext_ansR (hx3.app nr4).ext oB (by omega) rfl (by simp [soonerP]; omega)
    · simp (config := {implicitDefEqProofs := false, maxDischargeDepth := 20}) (disch := first | omega | (simp only [lenE]; done) | (simp only [lenE]; omega) | rfl | (simp only [lenE, markR_len]; done) | (simp only [lenE, markR_len]; omega)) only [runE, mapE, listE, resV, oneV, binA, unA, reduceCtorEq, Nat.reduceEqDiff, Nat.reduceAdd, Nat.reduceLT, Nat.reduceLeDiff, Nat.reduceMul, Nat.reduceSub, ↓reduceIte, decide_true, decide_false, Bool.true_eq_false, Bool.false_eq_true, Bool.not_true, Bool.not_false, if_true, if_false, and_true, true_and, memE, celE, w64, Nat.zero_add, Nat.add_zero, Nat.mul_one, putL, and_self, ldn, t1, t2, t3, t4, t9, ext_2_0, ext_2_1, gt_iff_lt, hcst]
      exact ext_ansR hx3.ext ((oA.ext _).ext _) (by omega) rfl (by omega)

def smoothA (k : Cs) (plan : List Int) : List Int := if two k plan then smoothF k (measS k plan + 1) plan else []
theorem smoothA_no {k : Cs} {plan : List Int} (h : two k plan = false) : smoothA k plan = [] := by unfold smoothA; rw [h]; rfl
theorem smoothA_to {k : Cs} {plan : List Int} (h : two k plan = true) : SmoothTo k plan (smoothA k plan) := by
  unfold smoothA; rw [h]
  obtain ⟨hg, hp⟩ := two_iff.1 h
  exact smoothF_to hg _ _ hp (by omega)
theorem smoothTo_len {k : Cs} (hg : Good k) {plan res : List Int} (h : SmoothTo k plan res) : Plan k plan → Plan k res := by
  induction h with
  | done _ => exact id
  | step he _ ih => exact fun hp => ih (smooth_plan hg hp he)

theorem specSmooth_rc (m : Mem) (v u : Value) (k : Cs) (plan : List Int) (h : CaseA m v k) (h' : IntsA m u plan) : RC Try.prog 34 [v, u] m (AnsL m (smoothA k plan) (two k plan)) := by
  refine rc_of_run mixed ok_spec_SmoothPlan (by simp) (go_start _ _ _ ?_)
  obtain ⟨v1, v2, v3, v4, rfl, h1, h2, h3, h4⟩ := h.ro.ok
  have hc : CaseA (roM m) (.agg #[v1, v2, v3, v4]) k := ⟨_, _, _, _, rfl, h1, h2, h3, h4⟩
  have hu := h'.ro
  simp (config := {implicitDefEqProofs := false, maxDischargeDepth := 20}) (disch := first | omega | (simp only [lenE]; done) | (simp only [lenE]; omega) | rfl | (simp only [lenE, markR_len]; done) | (simp only [lenE, markR_len]; omega)) only [runE, mapE, listE, resV, oneV, binA, unA, reduceCtorEq, Nat.reduceEqDiff, Nat.reduceAdd, Nat.reduceLT, Nat.reduceLeDiff, Nat.reduceMul, Nat.reduceSub, ↓reduceIte, decide_true, decide_false, Bool.true_eq_false, Bool.false_eq_true, Bool.not_true, Bool.not_false, if_true, if_false, and_true, true_and, memE, celE, w64, Nat.zero_add, Nat.add_zero, Nat.mul_one, putL, and_self, ldn, c_spec_SmoothPlan, r_spec_SmoothPlan]
  refine callH_rc (l2Two_rc _ _ u k plan (hc.ext _) (hu.ext _)) ?_
  rintro r new ⟨rfl, nr1⟩
  have hx := (Grow.refl (roM m ++ [⟨.own, 28, [v1, v2, v3, v4]⟩])).app nr1
  cases ht : two k plan with
  | false =>
    simp (config := {implicitDefEqProofs := false, maxDischargeDepth := 20}) (disch := first | omega | (simp only [lenE]; done) | (simp only [lenE]; omega) | rfl | (simp only [lenE, markR_len]; done) | (simp only [lenE, markR_len]; omega)) only [runE, mapE, listE, resV, oneV, binA, unA, reduceCtorEq, Nat.reduceEqDiff, Nat.reduceAdd, Nat.reduceLT, Nat.reduceLeDiff, Nat.reduceMul, Nat.reduceSub, ↓reduceIte, decide_true, decide_false, Bool.true_eq_false, Bool.false_eq_true, Bool.not_true, Bool.not_false, if_true, if_false, and_true, true_and, memE, celE, w64, Nat.zero_add, Nat.add_zero, Nat.mul_one, putL, and_self, ldn, bsl_none]
    rw [smoothA_no ht]
    refine ext_ansL (hx.ext.one _ _) (OwnR.end' (l := []) ?_) (by omega) rfl (by simp)
    simp only [List.length_append, List.length_cons, List.length_nil, roM_len]
  | true =>
    obtain ⟨hg, hp⟩ := two_iff.1 ht
    have h8 := hg.n8
    have hto := smoothA_to ht
    have hres := smoothTo_len hg hto hp
    obtain ⟨res, hr⟩ : ∃ res, res = smoothA k plan := ⟨_, rfl⟩
    rw [← hr] at hto hres ⊢
    simp (config := {implicitDefEqProofs := false, maxDischargeDepth := 20}) (disch := first | omega | (simp only [lenE]; done) | (simp only [lenE]; omega) | rfl | (simp only [lenE, markR_len]; done) | (simp only [lenE, markR_len]; omega)) only [runE, mapE, listE, resV, oneV, binA, unA, reduceCtorEq, Nat.reduceEqDiff, Nat.reduceAdd, Nat.reduceLT, Nat.reduceLeDiff, Nat.reduceMul, Nat.reduceSub, ↓reduceIte, decide_true, decide_false, Bool.true_eq_false, Bool.false_eq_true, Bool.not_true, Bool.not_false, if_true, if_false, and_true, true_and, memE, celE, w64, Nat.zero_add, Nat.add_zero, Nat.mul_one, putL, and_self, ldn]
    refine callH_rc (l1Own_rc _ u plan (hx.intsV hu) (by have := hp.1; omega)) ?_
    intro r new2 hA
    obtain ⟨ia, fa, rfl, ga, oA, -, nr2⟩ := hA.row
    have hx2 := hx.app nr2
    simp only [List.length_append, List.length_cons, List.length_nil, roM_len] at ga
    have hpl := hp.1
    simp (config := {implicitDefEqProofs := false, maxDischargeDepth := 20}) (disch := first | omega | (simp only [lenE]; done) | (simp only [lenE]; omega) | rfl | (simp only [lenE, markR_len]; done) | (simp only [lenE, markR_len]; omega)) only [runE, mapE, listE, resV, oneV, binA, unA, reduceCtorEq, Nat.reduceEqDiff, Nat.reduceAdd, Nat.reduceLT, Nat.reduceLeDiff, Nat.reduceMul, Nat.reduceSub, ↓reduceIte, decide_true, decide_false, Bool.true_eq_false, Bool.false_eq_true, Bool.not_true, Bool.not_false, if_true, if_false, and_true, true_and, memE, celE, w64, Nat.zero_add, Nat.add_zero, Nat.mul_one, putL, and_self, ldn]
    refine callH_rc (l2Early_rc _ _ _ k plan (hx2.caseV hc) (oA.ints (by omega) fa) hg hp.1 hp.2.1) ?_
    rintro r new3 ⟨rfl, nr3⟩
    have hx3 := hx2.app nr3
    have oA3 := oA.ext new3
    simp (config := {implicitDefEqProofs := false, maxDischargeDepth := 20}) (disch := first | omega | (simp only [lenE]; done) | (simp only [lenE]; omega) | rfl | (simp only [lenE, markR_len]; done) | (simp only [lenE, markR_len]; omega)) only [runE, mapE, listE, resV, oneV, binA, unA, reduceCtorEq, Nat.reduceEqDiff, Nat.reduceAdd, Nat.reduceLT, Nat.reduceLeDiff, Nat.reduceMul, Nat.reduceSub, ↓reduceIte, decide_true, decide_false, Bool.true_eq_false, Bool.false_eq_true, Bool.not_true, Bool.not_false, if_true, if_false, and_true, true_and, memE, celE, w64, Nat.zero_add, Nat.add_zero, Nat.mul_one, putL, and_self, ldn]
    refine loop_inv mixed (fun s => ∃ (cur : List Int) (M : Mem) (id fl : Nat), Plan k cur ∧ SmoothTo k cur res ∧ s.t 2 = .pointer (some ⟨m.length, 0, none⟩) ∧ s.t 6 = .slice (some ⟨id, 0, none⟩) cur.length fl ∧ s.t 7 = .int .i64 (earlyI (earlyO cur (stocksL cur k.need))) ∧ s.m = M ∧ Grow (roM m ++ [⟨.own, 28, [v1, v2, v3, v4]⟩]) M ∧ OwnR M id cur ∧ m.length < id) (fun s => measS k (rowOf s.m (s.t 6)))
      ⟨plan, _, ia, fa, hp, hto, rfl, rfl, rfl, rfl, hx3, oA3, by omega⟩ ?_
    rintro s ⟨cur, M, id, fl, hpc, htc, t2, t6, t7, tm, hxM, oM, lid⟩
    obtain ⟨r0, r1, r2, r3, hlM⟩ := hxM.box4
    have hcl := hpc.1
    cases he : earlyO cur (stocksL cur k.need) with
    | none =>
      rw [he] at t7
      have en : ¬ ((0 : Int) ≤ earlyI none) := by decide
      have : cur = res := by
        cases htc with
        | done _ => rfl
        | step h1 _ => rw [he] at h1; cases h1
      subst this
      simp (config := {implicitDefEqProofs := false, maxDischargeDepth := 20}) (disch := first | omega | (simp only [lenE]; done) | (simp only [lenE]; omega) | rfl | (simp only [lenE, markR_len]; done) | (simp only [lenE, markR_len]; omega)) only [runE, mapE, listE, resV, oneV, binA, unA, reduceCtorEq, Nat.reduceEqDiff, Nat.reduceAdd, Nat.reduceLT, Nat.reduceLeDiff, Nat.reduceMul, Nat.reduceSub, ↓reduceIte, decide_true, decide_false, Bool.true_eq_false, Bool.false_eq_true, Bool.not_true, Bool.not_false, if_true, if_false, and_true, true_and, memE, celE, w64, Nat.zero_add, Nat.add_zero, Nat.mul_one, putL, and_self, ldn, t2, t6, t7, tm, ge_iff_le, en]
      exact ext_ansL hxM.ext oM (by omega) rfl (by omega)
    | some p =>
      rw [he] at t7
      have en : ((0 : Int) ≤ (p : Int)) := by omega
      have e7 : s.t 7 = .int .i64 (p : Int) := t7
      have hnext : SmoothTo k (smoothS k cur p) res := by
        cases htc with
        | done h1 => rw [he] at h1; cases h1
        | step h1 h2 => rw [he] at h1; cases h1; exact h2
      have hpn := smooth_plan hg hpc he
      have less := smooth_less hg hpc he
      have eme : measS k (rowOf s.m (s.t 6)) = measS k cur := by rw [tm, t6, oM.rowOf]
      rw [eme]
      simp (config := {implicitDefEqProofs := false, maxDischargeDepth := 20}) (disch := first | omega | (simp only [lenE]; done) | (simp only [lenE]; omega) | rfl | (simp only [lenE, markR_len]; done) | (simp only [lenE, markR_len]; omega)) only [runE, mapE, listE, resV, oneV, binA, unA, reduceCtorEq, Nat.reduceEqDiff, Nat.reduceAdd, Nat.reduceLT, Nat.reduceLeDiff, Nat.reduceMul, Nat.reduceSub, ↓reduceIte, decide_true, decide_false, Bool.true_eq_false, Bool.false_eq_true, Bool.not_true, Bool.not_false, if_true, if_false, and_true, true_and, memE, celE, w64, Nat.zero_add, Nat.add_zero, Nat.mul_one, putL, and_self, ldn, t2, t6, e7, tm, ge_iff_le, en, r0, r1, r2, r3]
      refine callH_rc (l2Smoother_rc _ _ _ k cur p (hxM.caseV hc) (oM.ints (by omega) fl) hg hpc he) ?_
      intro r new4 hB
      obtain ⟨ib, fb, rfl, gb, oB, -, nr4⟩ := hB.row
      have hxB := hxM.app nr4
      have hlB := hxM.len
      simp only [List.length_append, List.length_cons, List.length_nil, roM_len] at hlB
      simp (config := {implicitDefEqProofs := false, maxDischargeDepth := 20}) (disch := first | omega | (simp only [lenE]; done) | (simp only [lenE]; omega) | rfl | (simp only [lenE, markR_len]; done) | (simp only [lenE, markR_len]; omega)) only [runE, mapE, listE, resV, oneV, binA, unA, reduceCtorEq, Nat.reduceEqDiff, Nat.reduceAdd, Nat.reduceLT, Nat.reduceLeDiff, Nat.reduceMul, Nat.reduceSub, ↓reduceIte, decide_true, decide_false, Bool.true_eq_false, Bool.false_eq_true, Bool.not_true, Bool.not_false, if_true, if_false, and_true, true_and, memE, celE, w64, Nat.zero_add, Nat.add_zero, Nat.mul_one, putL, and_self, ldn, t2, r0, r1, r2, r3]
      refine callH_rc (l2Early_rc _ _ _ k (smoothS k cur p) (hxB.caseV hc) (oB.ints (by have := hpn.1; omega) fb) hg hpn.1 hpn.2.1) ?_
      rintro r new5 ⟨rfl, nr5⟩
      simp (config := {implicitDefEqProofs := false, maxDischargeDepth := 20}) (disch := first | omega | (simp only [lenE]; done) | (simp only [lenE]; omega) | rfl | (simp only [lenE, markR_len]; done) | (simp only [lenE, markR_len]; omega)) only [runE, mapE, listE, resV, oneV, binA, unA, reduceCtorEq, Nat.reduceEqDiff, Nat.reduceAdd, Nat.reduceLT, Nat.reduceLeDiff, Nat.reduceMul, Nat.reduceSub, ↓reduceIte, decide_true, decide_false, Bool.true_eq_false, Bool.false_eq_true, Bool.not_true, Bool.not_false, if_true, if_false, and_true, true_and, memE, celE, w64, Nat.zero_add, Nat.add_zero, Nat.mul_one, putL, and_self, ldn, t2]
      refine ⟨⟨smoothS k cur p, _, ib, fb, hpn, hnext, rfl, rfl, rfl, hxB.app nr5, oB.ext _, by omega⟩, ?_⟩
      rw [(oB.ext new5).rowOf]
      exact less

theorem implSmooth_rc (m : Mem) (v u : Value) (k : Cs) (plan : List Int) (h : CaseA m v k) (h' : IntsA m u plan) : RC Try.prog 35 [v, u] m (AnsL m (smoothA k plan) (two k plan)) := by
  refine rc_of_run mixed ok_impl_SmoothPlan (by simp) (go_start _ _ _ ?_)
  obtain ⟨v1, v2, v3, v4, rfl, h1, h2, h3, h4⟩ := h.ro.ok
  have hc : CaseA (roM m) (.agg #[v1, v2, v3, v4]) k := ⟨_, _, _, _, rfl, h1, h2, h3, h4⟩
  have hu := h'.ro
  simp (config := {implicitDefEqProofs := false, maxDischargeDepth := 20}) (disch := first | omega | (simp only [lenE]; done) | (simp only [lenE]; omega) | rfl | (simp only [lenE, markR_len]; done) | (simp only [lenE, markR_len]; omega)) only [runE, mapE, listE, resV, oneV, binA, unA, reduceCtorEq, Nat.reduceEqDiff, Nat.reduceAdd, Nat.reduceLT, Nat.reduceLeDiff, Nat.reduceMul, Nat.reduceSub, ↓reduceIte, decide_true, decide_false, Bool.true_eq_false, Bool.false_eq_true, Bool.not_true, Bool.not_false, if_true, if_false, and_true, true_and, memE, celE, w64, Nat.zero_add, Nat.add_zero, Nat.mul_one, putL, and_self, ldn, c_impl_SmoothPlan, r_impl_SmoothPlan]
  refine callH_rc (implStocksOf_rc _ _ u k plan (hc.ext _) (hu.ext _)) ?_
  intro r new hA
  obtain ⟨sid, sfl, rfl, gs, oS, hls, nr1⟩ := hA.row
  have hx := (Grow.refl (roM m ++ [⟨.own, 28, [v1, v2, v3, v4]⟩])).app nr1
  simp only [List.length_append, List.length_cons, List.length_nil, roM_len] at gs
  cases ht : two k plan with
  | false =>
    simp (config := {implicitDefEqProofs := false, maxDischargeDepth := 20}) (disch := first | omega | (simp only [lenE]; done) | (simp only [lenE]; omega) | rfl | (simp only [lenE, markR_len]; done) | (simp only [lenE, markR_len]; omega)) only [runE, mapE, listE, resV, oneV, binA, unA, reduceCtorEq, Nat.reduceEqDiff, Nat.reduceAdd, Nat.reduceLT, Nat.reduceLeDiff, Nat.reduceMul, Nat.reduceSub, ↓reduceIte, decide_true, decide_false, Bool.true_eq_false, Bool.false_eq_true, Bool.not_true, Bool.not_false, if_true, if_false, and_true, true_and, memE, celE, w64, Nat.zero_add, Nat.add_zero, Nat.mul_one, putL, and_self, ldn, ext_2_0, ext_2_1, bsl_none]
    rw [smoothA_no ht]
    refine ext_ansL (hx.ext.one _ _) (OwnR.end' (l := []) ?_) (by omega) rfl (by simp)
    simp only [List.length_append, List.length_cons, List.length_nil, roM_len]
  | true =>
    obtain ⟨hg, hp⟩ := two_iff.1 ht
    have h8 := hg.n8
    have hpl := hp.1
    have hto := smoothA_to ht
    have hres := smoothTo_len hg hto hp
    obtain ⟨res, hr⟩ : ∃ res, res = smoothA k plan := ⟨_, rfl⟩
    rw [← hr] at hto hres ⊢
    rw [stocksA_yes ht] at oS ⊢
    obtain ⟨M0, hM0⟩ : ∃ M0, M0 = roM m ++ [⟨.own, 28, [v1, v2, v3, v4]⟩] ++ new := ⟨_, rfl⟩
    have L0 : M0.length = m.length + 1 + new.length := by rw [hM0]; simp [roM_len]; omega
    have hap := app_own (hx.intsV hu) (by omega : plan.length ≤ 1048576)
    rw [← hM0] at hap
    simp (config := {implicitDefEqProofs := false, maxDischargeDepth := 20}) (disch := first | omega | (simp only [lenE]; done) | (simp only [lenE]; omega) | rfl | (simp only [lenE, markR_len]; done) | (simp only [lenE, markR_len]; omega)) only [runE, mapE, listE, resV, oneV, binA, unA, reduceCtorEq, Nat.reduceEqDiff, Nat.reduceAdd, Nat.reduceLT, Nat.reduceLeDiff, Nat.reduceMul, Nat.reduceSub, ↓reduceIte, decide_true, decide_false, Bool.true_eq_false, Bool.false_eq_true, Bool.not_true, Bool.not_false, if_true, if_false, and_true, true_and, memE, celE, w64, Nat.zero_add, Nat.add_zero, Nat.mul_one, putL, and_self, ldn, ext_2_0, ext_2_1]
    rw [← hM0] at hx oS ⊢
    simp (config := {implicitDefEqProofs := false, maxDischargeDepth := 20}) (disch := first | omega | (simp only [lenE]; done) | (simp only [lenE]; omega) | rfl | (simp only [lenE, markR_len]; done) | (simp only [lenE, markR_len]; omega)) only [runE, mapE, listE, resV, oneV, binA, unA, reduceCtorEq, Nat.reduceEqDiff, Nat.reduceAdd, Nat.reduceLT, Nat.reduceLeDiff, Nat.reduceMul, Nat.reduceSub, ↓reduceIte, decide_true, decide_false, Bool.true_eq_false, Bool.false_eq_true, Bool.not_true, Bool.not_false, if_true, if_false, and_true, true_and, memE, celE, w64, Nat.zero_add, Nat.add_zero, Nat.mul_one, putL, and_self, ldn, bsl_none', hap]
    obtain ⟨M1, hM1⟩ : ∃ M1, M1 = M0 ++ [deadB] ++ [⟨.own, 3, plan.map (Value.int .i64)⟩] := ⟨_, rfl⟩
    have hx1 : Grow (roM m ++ [⟨.own, 28, [v1, v2, v3, v4]⟩]) M1 := by rw [hM1]; exact (hx.app (noRo_dead noRo_nil)).one _ _
    have oP : OwnR M1 (M0.length + 1) plan := by rw [hM1]; exact OwnR.end' (l := plan) (by simp)
    have oS1 : OwnR M1 sid (stocksL plan k.need) := by rw [hM1]; exact (oS.ext _).ext _
    rw [← hM1]
    refine loop_inv mixed (fun s => ∃ (cur : List Int) (M : Mem) (id fl si sf : Nat), Plan k cur ∧ SmoothTo k cur res ∧ s.t 2 = .pointer (some ⟨m.length, 0, none⟩) ∧ s.t 8 = .slice (some ⟨id, 0, none⟩) cur.length fl ∧ s.t 6 = .slice (some ⟨si, 0, none⟩) (stocksL cur k.need).length sf ∧ s.m = M ∧ Grow (roM m ++ [⟨.own, 28, [v1, v2, v3, v4]⟩]) M ∧ OwnR M id cur ∧ OwnR M si (stocksL cur k.need) ∧ m.length < id) (fun s => measS k (rowOf s.m (s.t 8)))
      ⟨plan, M1, _, 1, sid, sfl, hp, hto, rfl, rfl, rfl, rfl, hx1, oP, oS1, by omega⟩ ?_
    rintro s ⟨cur, M, id, fl, si, sf, hpc, htc, t2, t8, t6, tm, hxM, oM, oSM, lid⟩
    obtain ⟨r0, r1, r2, r3, hlM⟩ := hxM.box4
    have hcl := hpc.1
    have hsl := stocksL_len cur k.need
    have eme : measS k (rowOf s.m (s.t 8)) = measS k cur := by rw [tm, t8, oM.rowOf]
    rw [eme]
    simp (config := {implicitDefEqProofs := false, maxDischargeDepth := 20}) (disch := first | omega | (simp only [lenE]; done) | (simp only [lenE]; omega) | rfl | (simp only [lenE, markR_len]; done) | (simp only [lenE, markR_len]; omega)) only [runE, mapE, listE, resV, oneV, binA, unA, reduceCtorEq, Nat.reduceEqDiff, Nat.reduceAdd, Nat.reduceLT, Nat.reduceLeDiff, Nat.reduceMul, Nat.reduceSub, ↓reduceIte, decide_true, decide_false, Bool.true_eq_false, Bool.false_eq_true, Bool.not_true, Bool.not_false, if_true, if_false, and_true, true_and, memE, celE, w64, Nat.zero_add, Nat.add_zero, Nat.mul_one, putL, and_self, ldn, t2, t8, t6, tm]
    refine callH_rc (firstEarly_rc _ _ _ cur (stocksL cur k.need) (oM.ints (by omega) fl) (oSM.ints (by omega) sf) (by omega) (by omega)) ?_
    rintro r new2 ⟨rfl, nr2⟩
    have hx2 := hxM.app nr2
    cases he : earlyO cur (stocksL cur k.need) with
    | none =>
      have : cur = res := by
        cases htc with
        | done _ => rfl
        | step h1 _ => rw [he] at h1; cases h1
      subst this
      simp (config := {implicitDefEqProofs := false, maxDischargeDepth := 20}) (disch := first | omega | (simp only [lenE]; done) | (simp only [lenE]; omega) | rfl | (simp only [lenE, markR_len]; done) | (simp only [lenE, markR_len]; omega)) only [runE, mapE, listE, resV, oneV, binA, unA, reduceCtorEq, Nat.reduceEqDiff, Nat.reduceAdd, Nat.reduceLT, Nat.reduceLeDiff, Nat.reduceMul, Nat.reduceSub, ↓reduceIte, decide_true, decide_false, Bool.true_eq_false, Bool.false_eq_true, Bool.not_true, Bool.not_false, if_true, if_false, and_true, true_and, memE, celE, w64, Nat.zero_add, Nat.add_zero, Nat.mul_one, putL, and_self, ldn, t2, t8, t6, ext_2_0, ext_2_1, Option.isSome_none]
      exact ext_ansL hx2.ext (oM.ext _) (by omega) rfl (by omega)
    | some p =>
      have E := early_of hg hpc he
      have e1 := E.p1
      have e2 := E.pn
      have hnext : SmoothTo k (smoothS k cur p) res := by
        cases htc with
        | done h1 => rw [he] at h1; cases h1
        | step h1 h2 => rw [he] at h1; cases h1; exact h2
      have hpn := smooth_plan hg hpc he
      have less := smooth_less hg hpc he
      have hat : (stocksL cur k.need).getD (p - 1) 0 = stk cur k.need (p - 1) := stocksL_at (by omega)
      have si2 := ((oSM.ext new2).ints (by omega) sf)
      have ldp := si2.ld (p - 1) (by omega)
      rw [hat] at ldp
      have ep : (p : Int) - 1 = ((p - 1 : Nat) : Int) := by omega
      have tw : two k (smoothS k cur p) = true := two_iff.2 ⟨hg, hpn⟩
      have eP : earlyP (some p) = (p : Int) := rfl
      rw [eP]
      simp (config := {implicitDefEqProofs := false, maxDischargeDepth := 20}) (disch := first | omega | (simp only [lenE]; done) | (simp only [lenE]; omega) | rfl | (simp only [lenE, markR_len]; done) | (simp only [lenE, markR_len]; omega)) only [runE, mapE, listE, resV, oneV, binA, unA, reduceCtorEq, Nat.reduceEqDiff, Nat.reduceAdd, Nat.reduceLT, Nat.reduceLeDiff, Nat.reduceMul, Nat.reduceSub, ↓reduceIte, decide_true, decide_false, Bool.true_eq_false, Bool.false_eq_true, Bool.not_true, Bool.not_false, if_true, if_false, and_true, true_and, memE, celE, w64, Nat.zero_add, Nat.add_zero, Nat.mul_one, putL, and_self, ldn, t2, t8, t6, ext_2_0, ext_2_1, Option.isSome_some, ep, si2.at_ (p - 1) (by omega), ldp, r0, r1, r2, r3]
      refine rcallH_rc (smoothAt_rc _ _ _ k cur p _ (hx2.caseV hc) ((oM.ext _).ints (by omega) fl) hg hpc he rfl) ?_
      intro r new4 hB
      obtain ⟨ib, fb, rfl, gb, oB, -, nr4⟩ := hB.row
      have hxB := hx2.app nr4
      have hlB := hx2.len
      simp only [List.length_append, List.length_cons, List.length_nil, roM_len] at hlB gb
      simp (config := {implicitDefEqProofs := false, maxDischargeDepth := 20}) (disch := first | omega | (simp only [lenE]; done) | (simp only [lenE]; omega) | rfl | (simp only [lenE, markR_len]; done) | (simp only [lenE, markR_len]; omega)) only [runE, mapE, listE, resV, oneV, binA, unA, reduceCtorEq, Nat.reduceEqDiff, Nat.reduceAdd, Nat.reduceLT, Nat.reduceLeDiff, Nat.reduceMul, Nat.reduceSub, ↓reduceIte, decide_true, decide_false, Bool.true_eq_false, Bool.false_eq_true, Bool.not_true, Bool.not_false, if_true, if_false, and_true, true_and, memE, celE, w64, Nat.zero_add, Nat.add_zero, Nat.mul_one, putL, and_self, ldn, t2, r0, r1, r2, r3]
      refine callH_rc (implStocksOf_rc _ _ _ k (smoothS k cur p) (hxB.caseV hc) (oB.ints (by have := hpn.1; omega) fb)) ?_
      intro r new5 hC
      obtain ⟨ic, fc, rfl, gc, oC, -, nr5⟩ := hC.row
      rw [stocksA_yes tw] at oC ⊢
      simp (config := {implicitDefEqProofs := false, maxDischargeDepth := 20}) (disch := first | omega | (simp only [lenE]; done) | (simp only [lenE]; omega) | rfl | (simp only [lenE, markR_len]; done) | (simp only [lenE, markR_len]; omega)) only [runE, mapE, listE, resV, oneV, binA, unA, reduceCtorEq, Nat.reduceEqDiff, Nat.reduceAdd, Nat.reduceLT, Nat.reduceLeDiff, Nat.reduceMul, Nat.reduceSub, ↓reduceIte, decide_true, decide_false, Bool.true_eq_false, Bool.false_eq_true, Bool.not_true, Bool.not_false, if_true, if_false, and_true, true_and, memE, celE, w64, Nat.zero_add, Nat.add_zero, Nat.mul_one, putL, and_self, ldn, t2, ext_2_0, ext_2_1]
      refine ⟨⟨smoothS k cur p, _, ib, fb, ic, fc, hpn, hnext, rfl, rfl, rfl, hxB.app nr5, oB.ext _, oC, by omega⟩, ?_⟩
      rw [(oB.ext new5).rowOf]
      exact less
end Go.Proofs.Ytiggehfopfpkbab.Ab
