/- What the law needs of the texts that it rests on. -/
import Derived.Test.YtfogmeofndclfaaShFnRules2
section
namespace Go.Proofs.Ytfogmeofndclfaa.Ab
open Go Go.RowKit
set_option linter.unusedVariables false
set_option linter.unusedSimpArgs false
set_option maxRecDepth 100000
theorem OwnR.ld4r {M : Mem} {id : Nat} {a b c d : Value} (h : M[id]? = some ⟨.own, 26, [a, b, c, d]⟩) : ldA M (some 4) (.pointer (some ⟨id, 0, none⟩)) = some (.agg #[a, b, c, d]) := by
  simp [ldA, rdn, rdc, h, aggO, consO]
set_option maxHeartbeats 16000000 in
theorem law_FnRules (l : List Int) (hb : ∀ x ∈ l, 0 ≤ x ∧ x ≤ 255) :
    AC Try.prog 3 [.slice (some ⟨0, 0, none⟩) l.length 0] [⟨.ro, 5, l.map (Value.int .u8)⟩] fun r _ => r = .bool true := by
  refine ac_of_run mixed ok_laws_FnRules (by simp) (go_start _ _ _ ?_)
  simp (config := {implicitDefEqProofs := false, maxDischargeDepth := 20}) (disch := first | omega | (simp only [lenE]; done) | (simp only [lenE]; omega) | rfl | (simp only [lenE, markR_len]; done) | (simp only [lenE, markR_len]; omega)) only [runE, mapE, listE, initT_5, initT_6, initT_7, initT_8, resV, oneV, binA, unA, reduceCtorEq, Nat.reduceEqDiff, Nat.reduceAdd, Nat.reduceLT, Nat.reduceLeDiff, Nat.reduceMul, Nat.reduceSub, ↓reduceIte, decide_true, decide_false, Bool.true_eq_false, Bool.false_eq_true, Bool.not_true, Bool.not_false, if_true, if_false, and_true, true_and, memE, celE, w64, Nat.zero_add, Nat.add_zero, Nat.mul_one, putL, and_self, ldn, c_laws_FnRules, r_laws_FnRules]
  refine callH_rc (vBig_rc _ 0 0 l.length) ?_
  rintro r new ⟨rfl, rfl⟩
  by_cases hbig : 65536 < l.length
  · simp (config := {implicitDefEqProofs := false, maxDischargeDepth := 20}) (disch := first | omega | (simp only [lenE]; done) | (simp only [lenE]; omega) | rfl | (simp only [lenE, markR_len]; done) | (simp only [lenE, markR_len]; omega)) only [runE, mapE, listE, initT_5, initT_6, initT_7, initT_8, resV, oneV, binA, unA, reduceCtorEq, Nat.reduceEqDiff, Nat.reduceAdd, Nat.reduceLT, Nat.reduceLeDiff, Nat.reduceMul, Nat.reduceSub, ↓reduceIte, decide_true, decide_false, Bool.true_eq_false, Bool.false_eq_true, Bool.not_true, Bool.not_false, if_true, if_false, and_true, true_and, memE, celE, w64, Nat.zero_add, Nat.add_zero, Nat.mul_one, putL, and_self, ldn, decide_eq_true hbig]
  have B : BytesA [⟨.ro, 5, l.map (Value.int .u8)⟩] 0 l := ⟨⟨.ro, by simp, rfl⟩, hb, by omega⟩
  obtain ⟨M, hM0⟩ : ∃ M : Mem, M = [⟨.ro, 5, l.map (Value.int .u8)⟩] := ⟨_, rfl⟩
  rw [← hM0] at B
  rw [List.append_nil, ← hM0]
  clear hM0
  simp (config := {implicitDefEqProofs := false, maxDischargeDepth := 20}) (disch := first | omega | (simp only [lenE]; done) | (simp only [lenE]; omega) | rfl | (simp only [lenE, markR_len]; done) | (simp only [lenE, markR_len]; omega)) only [runE, mapE, listE, initT_5, initT_6, initT_7, initT_8, resV, oneV, binA, unA, reduceCtorEq, Nat.reduceEqDiff, Nat.reduceAdd, Nat.reduceLT, Nat.reduceLeDiff, Nat.reduceMul, Nat.reduceSub, ↓reduceIte, decide_true, decide_false, Bool.true_eq_false, Bool.false_eq_true, Bool.not_true, Bool.not_false, if_true, if_false, and_true, true_and, memE, celE, w64, Nat.zero_add, Nat.add_zero, Nat.mul_one, putL, and_self, ldn, decide_eq_false hbig]
  refine callH_rc (DrawRulePeriods_rc _ 0 0 l B) ?_
  rintro r new ⟨nr, v, c, x, rfl, hc⟩
  obtain ⟨c1, c2, c3, c4, rfl, j1, j2, j3, j4⟩ := hc.ok
  have oc : onesB [c1, c2, c3, c4] = true := by simp [onesB, j1.one, j2.one, j3.one, j4.one]
  clear j1 j2 j3 j4 B
  obtain ⟨N1, hN⟩ : ∃ N, N = M ++ new := ⟨_, rfl⟩
  rw [← hN] at hc ⊢
  clear hN nr
  have D1 := rule_facts (k := c) (rule := x)
  have D2 := ruleA_bd c x
  have D3 := fromA_bd c x
  obtain ⟨pa, hpa⟩ : ∃ t, t = ruleA c x := ⟨_, rfl⟩
  obtain ⟨po, hpo⟩ : ∃ t, t = ruleOk c x := ⟨_, rfl⟩
  obtain ⟨ga, hga⟩ : ∃ t, t = gapA c x := ⟨_, rfl⟩
  rw [← hpa, ← hpo, ← hga] at D1
  rw [← hpa] at D2 D3
  obtain ⟨pl, hpl⟩ : ∃ t, t = fromA c pa := ⟨_, rfl⟩
  obtain ⟨fo, hfo⟩ : ∃ t, t = fromOk c pa := ⟨_, rfl⟩
  rw [← hpl, ← hfo] at D1
  rw [← hpl] at D3
  obtain ⟨ca, hca⟩ : ∃ t, t = costA c pl := ⟨_, rfl⟩
  obtain ⟨tw, htw⟩ : ∃ t, t = two c pl := ⟨_, rfl⟩
  obtain ⟨em, hem⟩ : ∃ t, t = atEmpty c pl := ⟨_, rfl⟩
  obtain ⟨bc, hbc⟩ : ∃ t, t = bestCA c := ⟨_, rfl⟩
  obtain ⟨kg, hkg⟩ : ∃ t, t = c.good := ⟨_, rfl⟩
  rw [← hca, ← htw, ← hem, ← hbc, ← hkg] at D1
  have C1 : ∀ M, CaseA M (.agg #[c1, c2, c3, c4]) c → RC Try.prog 6 [.agg #[c1, c2, c3, c4], .int .i64 x] M (AnsL M pa po) := fun M h => by rw [hpa, hpo]; exact implRule_rc M _ c x h
  have C2 : ∀ M, CaseA M (.agg #[c1, c2, c3, c4]) c → RC Try.prog 7 [.agg #[c1, c2, c3, c4], .int .i64 x] M (AnsL M pa po) := fun M h => by rw [hpa, hpo]; exact specRule_rc M _ c x h
  have C3 : ∀ M, CaseA M (.agg #[c1, c2, c3, c4]) c → RC Try.prog 8 [.agg #[c1, c2, c3, c4], .int .i64 x] M (AnsV (.tuple #[.int .i64 ga, .bool po])) := fun M h => by rw [hga, hpo]; exact implGap_rc M _ c x h
  have C4 : ∀ M, CaseA M (.agg #[c1, c2, c3, c4]) c → RC Try.prog 9 [.agg #[c1, c2, c3, c4], .int .i64 x] M (AnsV (.tuple #[.int .i64 ga, .bool po])) := fun M h => by rw [hga, hpo]; exact specGap_rc M _ c x h
  have C5 : ∀ M, CaseA M (.agg #[c1, c2, c3, c4]) c → RC Try.prog 13 [.agg #[c1, c2, c3, c4]] M (AnsV (.tuple #[.int .i64 bc, .bool kg])) := fun M h => by rw [hbc, hkg]; exact implBestCost_rc M _ c h
  have G1 : ∀ M (u : Value), CaseA M (.agg #[c1, c2, c3, c4]) c → IntsA M u pa → RC Try.prog 11 [.agg #[c1, c2, c3, c4], u] M (AnsL M pl fo) := fun M u h hu => by rw [hpl, hfo]; exact implPlanFrom_rc M _ u c pa h hu (by omega)
  have G2 : ∀ M (u : Value), CaseA M (.agg #[c1, c2, c3, c4]) c → IntsA M u pl → RC Try.prog 12 [.agg #[c1, c2, c3, c4], u] M (AnsV (.tuple #[.int .i64 ca, .bool tw])) := fun M u h hu => by rw [hca, htw]; exact implPlanCost_rc M _ u c pl h hu
  have G3 : ∀ M (u : Value), CaseA M (.agg #[c1, c2, c3, c4]) c → IntsA M u pl → RC Try.prog 14 [.agg #[c1, c2, c3, c4], u] M (AnsV (.tuple #[.bool em, .bool tw])) := fun M u h hu => by rw [hem, htw]; exact implAtEmpty_rc M _ u c pl h hu
  clear hpa hpo hga hpl hfo hca htw hem hbc hkg
  try simp (config := {implicitDefEqProofs := false, maxDischargeDepth := 20}) (disch := first | omega | (simp only [lenE]; done) | (simp only [lenE]; omega) | rfl | (simp only [lenE, markR_len]; done) | (simp only [lenE, markR_len]; omega)) only [runE, mapE, listE, initT_5, initT_6, initT_7, initT_8, resV, oneV, binA, unA, reduceCtorEq, Nat.reduceEqDiff, Nat.reduceAdd, Nat.reduceLT, Nat.reduceLeDiff, Nat.reduceMul, Nat.reduceSub, ↓reduceIte, decide_true, decide_false, Bool.true_eq_false, Bool.false_eq_true, Bool.not_true, Bool.not_false, if_true, if_false, and_true, true_and, memE, celE, w64, Nat.zero_add, Nat.add_zero, Nat.mul_one, putL, and_self, ldn, Bool.and_self, Bool.and_true, Bool.true_and, Bool.and_false, Bool.false_and, Bool.or_false, Bool.false_or, ext_2_0, ext_2_1, bne_self_eq_false, beq_self_eq_true, goG_undef, Bool.not_true, Bool.not_false, stP_aggL, oc]
  have b3 : (N1 ++ [(⟨.own, 26, [c1, c2, c3, c4]⟩ : Blk)])[N1.length]? = some ⟨.own, 26, [c1, c2, c3, c4]⟩ := by simp
  have hc := hc.ext [⟨.own, 26, [c1, c2, c3, c4]⟩]
  obtain ⟨pb3, hpb⟩ : ∃ t, t = N1.length := ⟨_, rfl⟩
  obtain ⟨N2, hN⟩ : ∃ N, N = N1 ++ [(⟨.own, 26, [c1, c2, c3, c4]⟩ : Blk)] := ⟨_, rfl⟩
  rw [← hN, ← hpb] at b3
  rw [← hN] at hc
  rw [← hN, ← hpb]
  clear hN hpb
  have b3r : ∀ j, rdc N2 pb3 j = ([c1, c2, c3, c4] : List Value)[j]? := fun j => by unfold rdc; rw [b3]; rfl
  try simp (config := {implicitDefEqProofs := false, maxDischargeDepth := 20}) (disch := first | omega | (simp only [lenE]; done) | (simp only [lenE]; omega) | rfl | (simp only [lenE, markR_len]; done) | (simp only [lenE, markR_len]; omega)) only [runE, mapE, listE, initT_5, initT_6, initT_7, initT_8, resV, oneV, binA, unA, reduceCtorEq, Nat.reduceEqDiff, Nat.reduceAdd, Nat.reduceLT, Nat.reduceLeDiff, Nat.reduceMul, Nat.reduceSub, ↓reduceIte, decide_true, decide_false, Bool.true_eq_false, Bool.false_eq_true, Bool.not_true, Bool.not_false, if_true, if_false, and_true, true_and, memE, celE, w64, Nat.zero_add, Nat.add_zero, Nat.mul_one, putL, and_self, ldn, Bool.and_self, Bool.and_true, Bool.true_and, Bool.and_false, Bool.false_and, Bool.or_false, Bool.false_or, ext_2_0, ext_2_1, bne_self_eq_false, beq_self_eq_true, goG_undef, Bool.not_true, Bool.not_false, stP_aggL, OwnR.ld4r b3, b3r]
  try clear b3r
  refine callH_rc (C1 _ hc) ?_
  rintro r new ⟨nr, -, iR1, fR1, rfl, hrow⟩
  have hc := hc.ext new
  have b3 : (N2 ++ new)[pb3]? = some ⟨.own, 26, [c1, c2, c3, c4]⟩ := by rw [List.getElem?_append_left (List.getElem?_eq_some_iff.1 b3).1]; exact b3
  have R1 := (OwnR.new hrow rfl : OwnR (N2 ++ new) (N2.length + iR1) pa)
  obtain ⟨N3, hN⟩ : ∃ N, N = N2 ++ new := ⟨_, rfl⟩
  rw [← hN] at hc R1 b3 ⊢
  clear hN
  clear nr hrow
  have b3r : ∀ j, rdc N3 pb3 j = ([c1, c2, c3, c4] : List Value)[j]? := fun j => by unfold rdc; rw [b3]; rfl
  try simp (config := {implicitDefEqProofs := false, maxDischargeDepth := 20}) (disch := first | omega | (simp only [lenE]; done) | (simp only [lenE]; omega) | rfl | (simp only [lenE, markR_len]; done) | (simp only [lenE, markR_len]; omega)) only [runE, mapE, listE, initT_5, initT_6, initT_7, initT_8, resV, oneV, binA, unA, reduceCtorEq, Nat.reduceEqDiff, Nat.reduceAdd, Nat.reduceLT, Nat.reduceLeDiff, Nat.reduceMul, Nat.reduceSub, ↓reduceIte, decide_true, decide_false, Bool.true_eq_false, Bool.false_eq_true, Bool.not_true, Bool.not_false, if_true, if_false, and_true, true_and, memE, celE, w64, Nat.zero_add, Nat.add_zero, Nat.mul_one, putL, and_self, ldn, Bool.and_self, Bool.and_true, Bool.true_and, Bool.and_false, Bool.false_and, Bool.or_false, Bool.false_or, ext_2_0, ext_2_1, bne_self_eq_false, beq_self_eq_true, goG_undef, Bool.not_true, Bool.not_false, stP_aggL, OwnR.ld4r b3, b3r]
  try clear b3r
  refine callH_rc (C2 _ hc) ?_
  rintro r new ⟨nr, -, iR2, fR2, rfl, hrow⟩
  have hc := hc.ext new
  have R1 := R1.ext new
  have b3 : (N3 ++ new)[pb3]? = some ⟨.own, 26, [c1, c2, c3, c4]⟩ := by rw [List.getElem?_append_left (List.getElem?_eq_some_iff.1 b3).1]; exact b3
  have R2 := (OwnR.new hrow rfl : OwnR (N3 ++ new) (N3.length + iR2) pa)
  obtain ⟨N4, hN⟩ : ∃ N, N = N3 ++ new := ⟨_, rfl⟩
  rw [← hN] at hc R1 R2 b3 ⊢
  clear hN
  clear nr hrow
  have b3r : ∀ j, rdc N4 pb3 j = ([c1, c2, c3, c4] : List Value)[j]? := fun j => by unfold rdc; rw [b3]; rfl
  try simp (config := {implicitDefEqProofs := false, maxDischargeDepth := 20}) (disch := first | omega | (simp only [lenE]; done) | (simp only [lenE]; omega) | rfl | (simp only [lenE, markR_len]; done) | (simp only [lenE, markR_len]; omega)) only [runE, mapE, listE, initT_5, initT_6, initT_7, initT_8, resV, oneV, binA, unA, reduceCtorEq, Nat.reduceEqDiff, Nat.reduceAdd, Nat.reduceLT, Nat.reduceLeDiff, Nat.reduceMul, Nat.reduceSub, ↓reduceIte, decide_true, decide_false, Bool.true_eq_false, Bool.false_eq_true, Bool.not_true, Bool.not_false, if_true, if_false, and_true, true_and, memE, celE, w64, Nat.zero_add, Nat.add_zero, Nat.mul_one, putL, and_self, ldn, Bool.and_self, Bool.and_true, Bool.true_and, Bool.and_false, Bool.false_and, Bool.or_false, Bool.false_or, ext_2_0, ext_2_1, bne_self_eq_false, beq_self_eq_true, goG_undef, Bool.not_true, Bool.not_false, stP_aggL, OwnR.ld4r b3, b3r]
  try clear b3r
  refine callH_rc (C3 _ hc) ?_
  rintro r new ⟨rfl, nr⟩
  have hc := hc.ext new
  have R1 := R1.ext new
  have R2 := R2.ext new
  have b3 : (N4 ++ new)[pb3]? = some ⟨.own, 26, [c1, c2, c3, c4]⟩ := by rw [List.getElem?_append_left (List.getElem?_eq_some_iff.1 b3).1]; exact b3
  obtain ⟨N5, hN⟩ : ∃ N, N = N4 ++ new := ⟨_, rfl⟩
  rw [← hN] at hc R1 R2 b3 ⊢
  clear hN
  clear nr
  have b3r : ∀ j, rdc N5 pb3 j = ([c1, c2, c3, c4] : List Value)[j]? := fun j => by unfold rdc; rw [b3]; rfl
  try simp (config := {implicitDefEqProofs := false, maxDischargeDepth := 20}) (disch := first | omega | (simp only [lenE]; done) | (simp only [lenE]; omega) | rfl | (simp only [lenE, markR_len]; done) | (simp only [lenE, markR_len]; omega)) only [runE, mapE, listE, initT_5, initT_6, initT_7, initT_8, resV, oneV, binA, unA, reduceCtorEq, Nat.reduceEqDiff, Nat.reduceAdd, Nat.reduceLT, Nat.reduceLeDiff, Nat.reduceMul, Nat.reduceSub, ↓reduceIte, decide_true, decide_false, Bool.true_eq_false, Bool.false_eq_true, Bool.not_true, Bool.not_false, if_true, if_false, and_true, true_and, memE, celE, w64, Nat.zero_add, Nat.add_zero, Nat.mul_one, putL, and_self, ldn, Bool.and_self, Bool.and_true, Bool.true_and, Bool.and_false, Bool.false_and, Bool.or_false, Bool.false_or, ext_2_0, ext_2_1, bne_self_eq_false, beq_self_eq_true, goG_undef, Bool.not_true, Bool.not_false, stP_aggL, OwnR.ld4r b3, b3r]
  try clear b3r
  refine callH_rc (C4 _ hc) ?_
  rintro r new ⟨rfl, nr⟩
  have hc := hc.ext new
  have R1 := R1.ext new
  have R2 := R2.ext new
  have b3 : (N5 ++ new)[pb3]? = some ⟨.own, 26, [c1, c2, c3, c4]⟩ := by rw [List.getElem?_append_left (List.getElem?_eq_some_iff.1 b3).1]; exact b3
  obtain ⟨N6, hN⟩ : ∃ N, N = N5 ++ new := ⟨_, rfl⟩
  rw [← hN] at hc R1 R2 b3 ⊢
  clear hN
  clear nr
  have b3r : ∀ j, rdc N6 pb3 j = ([c1, c2, c3, c4] : List Value)[j]? := fun j => by unfold rdc; rw [b3]; rfl
  try simp (config := {implicitDefEqProofs := false, maxDischargeDepth := 20}) (disch := first | omega | (simp only [lenE]; done) | (simp only [lenE]; omega) | rfl | (simp only [lenE, markR_len]; done) | (simp only [lenE, markR_len]; omega)) only [runE, mapE, listE, initT_5, initT_6, initT_7, initT_8, resV, oneV, binA, unA, reduceCtorEq, Nat.reduceEqDiff, Nat.reduceAdd, Nat.reduceLT, Nat.reduceLeDiff, Nat.reduceMul, Nat.reduceSub, ↓reduceIte, decide_true, decide_false, Bool.true_eq_false, Bool.false_eq_true, Bool.not_true, Bool.not_false, if_true, if_false, and_true, true_and, memE, celE, w64, Nat.zero_add, Nat.add_zero, Nat.mul_one, putL, and_self, ldn, Bool.and_self, Bool.and_true, Bool.true_and, Bool.and_false, Bool.false_and, Bool.or_false, Bool.false_or, ext_2_0, ext_2_1, bne_self_eq_false, beq_self_eq_true, goG_undef, Bool.not_true, Bool.not_false, stP_aggL, OwnR.ld4r b3, b3r]
  try clear b3r
  first
    | refine callH_rc (vInts_rc _ _ _ pa (R1.ints (by omega) fR1) (R2.ints (by omega) fR2)) ?_
    | refine rcallH_rc (vInts_rc _ _ _ pa (R1.ints (by omega) fR1) (R2.ints (by omega) fR2)) ?_
  rintro r new ⟨rfl, rfl⟩
  rw [List.append_nil]
  clear R2
  cases po with
  | false =>
    have b3r : ∀ j, rdc N6 pb3 j = ([c1, c2, c3, c4] : List Value)[j]? := fun j => by unfold rdc; rw [b3]; rfl
    try simp (config := {implicitDefEqProofs := false, maxDischargeDepth := 20}) (disch := first | omega | (simp only [lenE]; done) | (simp only [lenE]; omega) | rfl | (simp only [lenE, markR_len]; done) | (simp only [lenE, markR_len]; omega)) only [runE, mapE, listE, initT_5, initT_6, initT_7, initT_8, resV, oneV, binA, unA, reduceCtorEq, Nat.reduceEqDiff, Nat.reduceAdd, Nat.reduceLT, Nat.reduceLeDiff, Nat.reduceMul, Nat.reduceSub, ↓reduceIte, decide_true, decide_false, Bool.true_eq_false, Bool.false_eq_true, Bool.not_true, Bool.not_false, if_true, if_false, and_true, true_and, memE, celE, w64, Nat.zero_add, Nat.add_zero, Nat.mul_one, putL, and_self, ldn, Bool.and_self, Bool.and_true, Bool.true_and, Bool.and_false, Bool.false_and, Bool.or_false, Bool.false_or, ext_2_0, ext_2_1, bne_self_eq_false, beq_self_eq_true, goG_undef, Bool.not_true, Bool.not_false, stP_aggL, OwnR.ld4r b3, b3r]
    try clear b3r
  | true =>
    obtain ⟨d1, d2, d3, d4, d5, d6, d7, d8⟩ := D1 rfl
    subst d1 d2 d3 d4
    have zf : IntKind.i64.wrap (ca - bc) = ca - bc := IntWalk.i64_in _ ⟨by omega, by omega⟩
    have b3r : ∀ j, rdc N6 pb3 j = ([c1, c2, c3, c4] : List Value)[j]? := fun j => by unfold rdc; rw [b3]; rfl
    try simp (config := {implicitDefEqProofs := false, maxDischargeDepth := 20}) (disch := first | omega | (simp only [lenE]; done) | (simp only [lenE]; omega) | rfl | (simp only [lenE, markR_len]; done) | (simp only [lenE, markR_len]; omega)) only [runE, mapE, listE, initT_5, initT_6, initT_7, initT_8, resV, oneV, binA, unA, reduceCtorEq, Nat.reduceEqDiff, Nat.reduceAdd, Nat.reduceLT, Nat.reduceLeDiff, Nat.reduceMul, Nat.reduceSub, ↓reduceIte, decide_true, decide_false, Bool.true_eq_false, Bool.false_eq_true, Bool.not_true, Bool.not_false, if_true, if_false, and_true, true_and, memE, celE, w64, Nat.zero_add, Nat.add_zero, Nat.mul_one, putL, and_self, ldn, Bool.and_self, Bool.and_true, Bool.true_and, Bool.and_false, Bool.false_and, Bool.or_false, Bool.false_or, ext_2_0, ext_2_1, bne_self_eq_false, beq_self_eq_true, goG_undef, Bool.not_true, Bool.not_false, stP_aggL, OwnR.ld4r b3, b3r]
    try clear b3r
    refine callH_rc (G1 _ _ hc (R1.ints (by omega) fR1)) ?_
    rintro r new ⟨nr, -, iR3, fR3, rfl, hrow⟩
    have hc := hc.ext new
    have R1 := R1.ext new
    have b3 : (N6 ++ new)[pb3]? = some ⟨.own, 26, [c1, c2, c3, c4]⟩ := by rw [List.getElem?_append_left (List.getElem?_eq_some_iff.1 b3).1]; exact b3
    have R3 := (OwnR.new hrow rfl : OwnR (N6 ++ new) (N6.length + iR3) pl)
    obtain ⟨N7, hN⟩ : ∃ N, N = N6 ++ new := ⟨_, rfl⟩
    rw [← hN] at hc R1 R3 b3 ⊢
    clear hN
    clear nr hrow
    have b3r : ∀ j, rdc N7 pb3 j = ([c1, c2, c3, c4] : List Value)[j]? := fun j => by unfold rdc; rw [b3]; rfl
    try simp (config := {implicitDefEqProofs := false, maxDischargeDepth := 20}) (disch := first | omega | (simp only [lenE]; done) | (simp only [lenE]; omega) | rfl | (simp only [lenE, markR_len]; done) | (simp only [lenE, markR_len]; omega)) only [runE, mapE, listE, initT_5, initT_6, initT_7, initT_8, resV, oneV, binA, unA, reduceCtorEq, Nat.reduceEqDiff, Nat.reduceAdd, Nat.reduceLT, Nat.reduceLeDiff, Nat.reduceMul, Nat.reduceSub, ↓reduceIte, decide_true, decide_false, Bool.true_eq_false, Bool.false_eq_true, Bool.not_true, Bool.not_false, if_true, if_false, and_true, true_and, memE, celE, w64, Nat.zero_add, Nat.add_zero, Nat.mul_one, putL, and_self, ldn, Bool.and_self, Bool.and_true, Bool.true_and, Bool.and_false, Bool.false_and, Bool.or_false, Bool.false_or, ext_2_0, ext_2_1, bne_self_eq_false, beq_self_eq_true, goG_undef, Bool.not_true, Bool.not_false, stP_aggL, OwnR.ld4r b3, b3r]
    try clear b3r
    refine callH_rc (G2 _ _ hc (R3.ints (by omega) fR3)) ?_
    rintro r new ⟨rfl, nr⟩
    have hc := hc.ext new
    have R1 := R1.ext new
    have R3 := R3.ext new
    have b3 : (N7 ++ new)[pb3]? = some ⟨.own, 26, [c1, c2, c3, c4]⟩ := by rw [List.getElem?_append_left (List.getElem?_eq_some_iff.1 b3).1]; exact b3
    obtain ⟨N8, hN⟩ : ∃ N, N = N7 ++ new := ⟨_, rfl⟩
    rw [← hN] at hc R1 R3 b3 ⊢
    clear hN
    clear nr
    have b3r : ∀ j, rdc N8 pb3 j = ([c1, c2, c3, c4] : List Value)[j]? := fun j => by unfold rdc; rw [b3]; rfl
    try simp (config := {implicitDefEqProofs := false, maxDischargeDepth := 20}) (disch := first | omega | (simp only [lenE]; done) | (simp only [lenE]; omega) | rfl | (simp only [lenE, markR_len]; done) | (simp only [lenE, markR_len]; omega)) only [runE, mapE, listE, initT_5, initT_6, initT_7, initT_8, resV, oneV, binA, unA, reduceCtorEq, Nat.reduceEqDiff, Nat.reduceAdd, Nat.reduceLT, Nat.reduceLeDiff, Nat.reduceMul, Nat.reduceSub, ↓reduceIte, decide_true, decide_false, Bool.true_eq_false, Bool.false_eq_true, Bool.not_true, Bool.not_false, if_true, if_false, and_true, true_and, memE, celE, w64, Nat.zero_add, Nat.add_zero, Nat.mul_one, putL, and_self, ldn, Bool.and_self, Bool.and_true, Bool.true_and, Bool.and_false, Bool.false_and, Bool.or_false, Bool.false_or, ext_2_0, ext_2_1, bne_self_eq_false, beq_self_eq_true, goG_undef, Bool.not_true, Bool.not_false, stP_aggL, OwnR.ld4r b3, b3r]
    try clear b3r
    refine callH_rc (C5 _ hc) ?_
    rintro r new ⟨rfl, nr⟩
    have hc := hc.ext new
    have R1 := R1.ext new
    have R3 := R3.ext new
    have b3 : (N8 ++ new)[pb3]? = some ⟨.own, 26, [c1, c2, c3, c4]⟩ := by rw [List.getElem?_append_left (List.getElem?_eq_some_iff.1 b3).1]; exact b3
    obtain ⟨N9, hN⟩ : ∃ N, N = N8 ++ new := ⟨_, rfl⟩
    rw [← hN] at hc R1 R3 b3 ⊢
    clear hN
    clear nr
    have b3r : ∀ j, rdc N9 pb3 j = ([c1, c2, c3, c4] : List Value)[j]? := fun j => by unfold rdc; rw [b3]; rfl
    try simp (config := {implicitDefEqProofs := false, maxDischargeDepth := 20}) (disch := first | omega | (simp only [lenE]; done) | (simp only [lenE]; omega) | rfl | (simp only [lenE, markR_len]; done) | (simp only [lenE, markR_len]; omega)) only [runE, mapE, listE, initT_5, initT_6, initT_7, initT_8, resV, oneV, binA, unA, reduceCtorEq, Nat.reduceEqDiff, Nat.reduceAdd, Nat.reduceLT, Nat.reduceLeDiff, Nat.reduceMul, Nat.reduceSub, ↓reduceIte, decide_true, decide_false, Bool.true_eq_false, Bool.false_eq_true, Bool.not_true, Bool.not_false, if_true, if_false, and_true, true_and, memE, celE, w64, Nat.zero_add, Nat.add_zero, Nat.mul_one, putL, and_self, ldn, Bool.and_self, Bool.and_true, Bool.true_and, Bool.and_false, Bool.false_and, Bool.or_false, Bool.false_or, ext_2_0, ext_2_1, bne_self_eq_false, beq_self_eq_true, goG_undef, Bool.not_true, Bool.not_false, stP_aggL, OwnR.ld4r b3, b3r]
    try clear b3r
    refine callH_rc (G3 _ _ hc (R3.ints (by omega) fR3)) ?_
    rintro r new ⟨rfl, nr⟩
    have hc := hc.ext new
    have R1 := R1.ext new
    have R3 := R3.ext new
    have b3 : (N9 ++ new)[pb3]? = some ⟨.own, 26, [c1, c2, c3, c4]⟩ := by rw [List.getElem?_append_left (List.getElem?_eq_some_iff.1 b3).1]; exact b3
    obtain ⟨N10, hN⟩ : ∃ N, N = N9 ++ new := ⟨_, rfl⟩
    rw [← hN] at hc R1 R3 b3 ⊢
    clear hN
    clear nr
    have b3r : ∀ j, rdc N10 pb3 j = ([c1, c2, c3, c4] : List Value)[j]? := fun j => by unfold rdc; rw [b3]; rfl
    try simp (config := {implicitDefEqProofs := false, maxDischargeDepth := 20}) (disch := first | omega | (simp only [lenE]; done) | (simp only [lenE]; omega) | rfl | (simp only [lenE, markR_len]; done) | (simp only [lenE, markR_len]; omega)) only [runE, mapE, listE, initT_5, initT_6, initT_7, initT_8, resV, oneV, binA, unA, reduceCtorEq, Nat.reduceEqDiff, Nat.reduceAdd, Nat.reduceLT, Nat.reduceLeDiff, Nat.reduceMul, Nat.reduceSub, ↓reduceIte, decide_true, decide_false, Bool.true_eq_false, Bool.false_eq_true, Bool.not_true, Bool.not_false, if_true, if_false, and_true, true_and, memE, celE, w64, Nat.zero_add, Nat.add_zero, Nat.mul_one, putL, and_self, ldn, Bool.and_self, Bool.and_true, Bool.true_and, Bool.and_false, Bool.false_and, Bool.or_false, Bool.false_or, ext_2_0, ext_2_1, bne_self_eq_false, beq_self_eq_true, goG_undef, Bool.not_true, Bool.not_false, stP_aggL, OwnR.ld4r b3, b3r, zf, d5, ge_iff_le]
    try clear b3r
    rw [decide_eq_true (by omega)]
end Go.Proofs.Ytfogmeofndclfaa.Ab
end
section
namespace Go.Proofs.Ytfogmeofndclfaa.Ab
open Go Go.RowKit
set_option linter.unusedVariables false
theorem ws_word : ∀ (p r : List Char), p.all (fun c => c != ' ') = true → wordsSigns (p ++ ' ' :: r) = p :: wordsSigns r
  | [], r, _ => by rw [List.nil_append, wordsSigns]
  | c :: p, r, h => by
    rw [List.all_cons, Bool.and_eq_true] at h
    have hc : c ≠ ' ' := by simpa using h.1
    rw [List.cons_append, wordsSigns, ws_word p r h.2]
    intro e; exact hc e
def sumW : List Char := ['1', 'd', '1', 'e', '7', 'b', 'd', 'c', 'e', 'c', '7', '4', '2', '5', '1', '8', '4', '3', '1', '3', '6', '4', '1', '4', '1', '9', '5', 'b', 'e', '8', '7', '5', 'a', '6', '3', '7', '2', 'c', 'b', '5', '7', '7', '9', '0', 'b', '7', '9', '3', '9', 'f', 'c', '9', 'b', 'd', '6', '4', 'a', '6', '3', 'c', 'a', '8', 'f', '0']
def restW : List Char := ['a', 't', ' ', 'l', 'o', 'o', 'p', '.', 'e', 'x', 'a', 'm', 'p', 'l', 'e', '/', 'g', '0', '1', '1', '1', '1', '/', 'l', 'a', 'w', 's', '.', 'F', 'n', 'R', 'u', 'l', 'e', 's']
set_option maxRecDepth 100000 in
theorem head_is : Try.prog.initOrder = String.ofList (['h', 'a', 'r', 'n', 'e', 's', 's'] ++ ' ' :: (sumW ++ ' ' :: (['c', 'u', 't'] ++ ' ' :: restW))) := by kernel_rfl
set_option maxRecDepth 100000 in
theorem sum_ok : isSumSigns sumW = true := by kernel_rfl
theorem head_words : behindMainWord (wordsSigns Try.prog.initOrder.toList) = ['c', 'u', 't'] :: wordsSigns restW := by
  rw [head_is, String.toList_ofList, ws_word _ _ (by decide), ws_word _ _ (by decide), ws_word _ _ (by decide)]
  simp only [behindMainWord, sum_ok, Bool.and_true]
  rfl
set_option maxRecDepth 100000 in
theorem strip_cut (X : List (List Char)) : stripLifts liftWords (['c', 'u', 't'] :: X) = ([], ['c', 'u', 't'] :: X) := by kernel_rfl
theorem lifts_gen (P : Program) (X : List (List Char)) (h : behindMainWord (wordsSigns P.initOrder.toList) = ['c', 'u', 't'] :: X) : P.headLifts = [] := by
  unfold Program.headLifts
  rw [h, strip_cut]
  rfl
theorem enters_gen (P : Program) (X : List (List Char)) (h : behindMainWord (wordsSigns P.initOrder.toList) = ['c', 'u', 't'] :: X) (h1 : P.laysLater = false) (h2 : P.bearsReflect = false) (h3 : P.doorFits [] = true) : P.mayEnter = true := by
  unfold Program.mayEnter
  rw [h]
  simp only [strip_cut, h1, h2, h3]
  rfl
theorem finals_gen (P : Program) (X : List (List Char)) (h : behindMainWord (wordsSigns P.initOrder.toList) = ['c', 'u', 't'] :: X) : P.liftsFinal = false := by
  unfold Program.liftsFinal
  rw [lifts_gen P X h, h]
  rfl
theorem make_gen (P : Program) (X : List (List Char)) (h : behindMainWord (wordsSigns P.initOrder.toList) = ['c', 'u', 't'] :: X) : P.make = some .cut := by
  unfold Program.make
  rw [h]
  rfl
set_option maxRecDepth 100000 in
theorem enters : Try.prog.mayEnter = true := enters_gen _ _ head_words (by kernel_rfl) (by kernel_rfl) (by kernel_rfl)
theorem no_finals : Try.prog.liftsFinal = false := finals_gen _ _ head_words
theorem makes : Try.prog.make = some .cut := make_gen _ _ head_words
end Go.Proofs.Ytfogmeofndclfaa.Ab
end
