/- What the law needs of the texts that it rests on. -/
import Derived.Test.YtdgfbmilbhckiaaShFnAges2
section
namespace Go.Proofs.Ytdgfbmilbhckiaa.Ab
open Go Go.RowKit
set_option linter.unusedVariables false
set_option linter.unusedSimpArgs false
set_option maxRecDepth 100000
set_option maxHeartbeats 16000000 in
theorem law_FnAges (l : List Int) (hb : ∀ x ∈ l, 0 ≤ x ∧ x ≤ 255) :
    AC Try.prog 4 [.slice (some ⟨0, 0, none⟩) l.length 0] [⟨.ro, 5, l.map (Value.int .u8)⟩] fun r _ => r = .bool true := by
  refine ac_of_run mixed ok_laws_FnAges (by simp) (go_start _ _ _ ?_)
  simp (config := {implicitDefEqProofs := false, maxDischargeDepth := 20}) (disch := first | omega | (simp only [lenE]; done) | (simp only [lenE]; omega) | rfl | (simp only [lenE, markR_len]; done) | (simp only [lenE, markR_len]; omega)) only [runE, mapE, listE, initT_5, initT_6, initT_7, initT_8, resV, oneV, binA, unA, reduceCtorEq, Nat.reduceEqDiff, Nat.reduceAdd, Nat.reduceLT, Nat.reduceLeDiff, Nat.reduceMul, Nat.reduceSub, ↓reduceIte, decide_true, decide_false, Bool.true_eq_false, Bool.false_eq_true, Bool.not_true, Bool.not_false, if_true, if_false, and_true, true_and, memE, celE, w64, Nat.zero_add, Nat.add_zero, Nat.mul_one, putL, and_self, ldn, c_laws_FnAges, r_laws_FnAges]
  refine callH_rc (vBig_rc _ 0 0 l.length) ?_
  rintro r new ⟨rfl, rfl⟩
  by_cases hbig : 65536 < l.length
  · simp (config := {implicitDefEqProofs := false, maxDischargeDepth := 20}) (disch := first | omega | (simp only [lenE]; done) | (simp only [lenE]; omega) | rfl | (simp only [lenE, markR_len]; done) | (simp only [lenE, markR_len]; omega)) only [runE, mapE, listE, initT_5, initT_6, initT_7, initT_8, resV, oneV, binA, unA, reduceCtorEq, Nat.reduceEqDiff, Nat.reduceAdd, Nat.reduceLT, Nat.reduceLeDiff, Nat.reduceMul, Nat.reduceSub, ↓reduceIte, decide_true, decide_false, Bool.true_eq_false, Bool.false_eq_true, Bool.not_true, Bool.not_false, if_true, if_false, and_true, true_and, memE, celE, w64, Nat.zero_add, Nat.add_zero, Nat.mul_one, putL, and_self, ldn, decide_eq_true hbig]
  have B : BytesA [⟨.ro, 5, l.map (Value.int .u8)⟩] 0 l := ⟨⟨.ro, by simp, rfl⟩, hb, by omega⟩
  obtain ⟨M, hM0⟩ : ∃ M : Mem, M = [⟨.ro, 5, l.map (Value.int .u8)⟩] := ⟨_, rfl⟩
  rw [← hM0] at B
  rw [List.append_nil, ← hM0]
  clear hM0
  simp (config := {implicitDefEqProofs := false, maxDischargeDepth := 20}) (disch := first | omega | (simp only [lenE]; done) | (simp only [lenE]; omega) | rfl | (simp only [lenE, markR_len]; done) | (simp only [lenE, markR_len]; omega)) only [runE, mapE, listE, initT_5, initT_6, initT_7, initT_8, resV, oneV, binA, unA, reduceCtorEq, Nat.reduceEqDiff, Nat.reduceAdd, Nat.reduceLT, Nat.reduceLeDiff, Nat.reduceMul, Nat.reduceSub, ↓reduceIte, decide_true, decide_false, Bool.true_eq_false, Bool.false_eq_true, Bool.not_true, Bool.not_false, if_true, if_false, and_true, true_and, memE, celE, w64, Nat.zero_add, Nat.add_zero, Nat.mul_one, putL, and_self, ldn, decide_eq_false hbig]
  refine callH_rc (DrawStockByAge_rc _ 0 0 l B) ?_
  rintro r new ⟨nr, v, tv, s, T, z, rfl, hs, hT, hn1, hz1, hz2⟩
  obtain ⟨u, w, rfl, ia, iw⟩ := hs
  have B := B.ext new
  obtain ⟨N1, hN⟩ : ∃ N, N = M ++ new := ⟨_, rfl⟩
  rw [← hN] at B ia iw hT ⊢
  clear hN
  clear nr
  have oc : onesB [.int .i64 s.life, u, w, .int .i64 s.waste, .int .i64 s.lost] = true := by
    have q1 : u.oneCell' = true := by have := ia.one []; simpa [onesB] using this
    have q2 : w.oneCell' = true := by have := iw.one []; simpa [onesB] using this
    simp [onesB, q1, q2]
    exact ⟨rfl, rfl, rfl⟩
  have D1 := age_next (s := s) (T := T) (z := z)
  have D2 := ageA_len9 s T z
  have D3 := ageA_len9 s T (z + 1)
  obtain ⟨pa, hpa⟩ : ∃ t, t = ageA s T z := ⟨_, rfl⟩
  obtain ⟨po, hpo⟩ : ∃ t, t = ageOk s T z := ⟨_, rfl⟩
  obtain ⟨na, hna⟩ : ∃ t, t = ageA s T (z + 1) := ⟨_, rfl⟩
  obtain ⟨no, hno⟩ : ∃ t, t = ageOk s T (z + 1) := ⟨_, rfl⟩
  rw [← hpa, ← hpo, ← hna, ← hno] at D1
  rw [← hpa] at D2
  rw [← hna] at D3
  have C1 : ∀ M, ShA M (.agg #[.int .i64 s.life, u, w, .int .i64 s.waste, .int .i64 s.lost]) s → TabA M tv T → RC Try.prog 30 [.agg #[.int .i64 s.life, u, w, .int .i64 s.waste, .int .i64 s.lost], tv, .int .i64 z] M (AnsO M (IntsO pa) fun v => .tuple #[v, .bool po]) := fun M h hT => by rw [hpa, hpo]; exact implByAge_rc M _ tv s T z h hT
  have C2 : ∀ M, ShA M (.agg #[.int .i64 s.life, u, w, .int .i64 s.waste, .int .i64 s.lost]) s → TabA M tv T → RC Try.prog 31 [.agg #[.int .i64 s.life, u, w, .int .i64 s.waste, .int .i64 s.lost], tv, .int .i64 z] M (AnsO M (IntsO pa) fun v => .tuple #[v, .bool po]) := fun M h hT => by rw [hpa, hpo]; exact specByAge_rc M _ tv s T z h hT
  have C3 : ∀ M, ShA M (.agg #[.int .i64 s.life, u, w, .int .i64 s.waste, .int .i64 s.lost]) s → TabA M tv T → RC Try.prog 30 [.agg #[.int .i64 s.life, u, w, .int .i64 s.waste, .int .i64 s.lost], tv, .int .i64 (z + 1)] M (AnsO M (IntsO na) fun v => .tuple #[v, .bool no]) := fun M h hT => by rw [hna, hno]; exact implByAge_rc M _ tv s T (z + 1) h hT
  clear hpa hpo hna hno
  try simp (config := {implicitDefEqProofs := false, maxDischargeDepth := 20}) (disch := first | omega | (simp only [lenE]; done) | (simp only [lenE]; omega) | rfl | (simp only [lenE, markR_len]; done) | (simp only [lenE, markR_len]; omega)) only [runE, mapE, listE, initT_5, initT_6, initT_7, initT_8, resV, oneV, binA, unA, reduceCtorEq, Nat.reduceEqDiff, Nat.reduceAdd, Nat.reduceLT, Nat.reduceLeDiff, Nat.reduceMul, Nat.reduceSub, ↓reduceIte, decide_true, decide_false, Bool.true_eq_false, Bool.false_eq_true, Bool.not_true, Bool.not_false, if_true, if_false, and_true, true_and, memE, celE, w64, Nat.zero_add, Nat.add_zero, Nat.mul_one, putL, and_self, ldn, Bool.and_self, Bool.and_true, Bool.true_and, Bool.and_false, Bool.false_and, Bool.or_false, Bool.false_or, ext_2_0, ext_2_1, ext_3_0, ext_3_1, ext_3_2, bne_self_eq_false, beq_self_eq_true, goG_undef, Bool.not_true, Bool.not_false, stP5s, oc]
  have B := B.ext [⟨.own, 26, [.int .i64 s.life, u, w, .int .i64 s.waste, .int .i64 s.lost]⟩]
  have ia := ia.ext [⟨.own, 26, [.int .i64 s.life, u, w, .int .i64 s.waste, .int .i64 s.lost]⟩]
  have iw := iw.ext [⟨.own, 26, [.int .i64 s.life, u, w, .int .i64 s.waste, .int .i64 s.lost]⟩]
  have hT := hT.ext [⟨.own, 26, [.int .i64 s.life, u, w, .int .i64 s.waste, .int .i64 s.lost]⟩]
  have b3 : OwnB (N1 ++ [⟨.own, 26, [.int .i64 s.life, u, w, .int .i64 s.waste, .int .i64 s.lost]⟩]) N1.length 26 [.int .i64 s.life, u, w, .int .i64 s.waste, .int .i64 s.lost] := OwnB.here rfl
  obtain ⟨N2, hN⟩ : ∃ N, N = N1 ++ [⟨.own, 26, [.int .i64 s.life, u, w, .int .i64 s.waste, .int .i64 s.lost]⟩] := ⟨_, rfl⟩
  rw [← hN] at B ia iw hT b3 ⊢
  clear hN
  try simp (config := {implicitDefEqProofs := false, maxDischargeDepth := 20}) (disch := first | omega | (simp only [lenE]; done) | (simp only [lenE]; omega) | rfl | (simp only [lenE, markR_len]; done) | (simp only [lenE, markR_len]; omega)) only [runE, mapE, listE, initT_5, initT_6, initT_7, initT_8, resV, oneV, binA, unA, reduceCtorEq, Nat.reduceEqDiff, Nat.reduceAdd, Nat.reduceLT, Nat.reduceLeDiff, Nat.reduceMul, Nat.reduceSub, ↓reduceIte, decide_true, decide_false, Bool.true_eq_false, Bool.false_eq_true, Bool.not_true, Bool.not_false, if_true, if_false, and_true, true_and, memE, celE, w64, Nat.zero_add, Nat.add_zero, Nat.mul_one, putL, and_self, ldn, Bool.and_self, Bool.and_true, Bool.true_and, Bool.and_false, Bool.false_and, Bool.or_false, Bool.false_or, ext_2_0, ext_2_1, ext_3_0, ext_3_1, ext_3_2, bne_self_eq_false, beq_self_eq_true, goG_undef, Bool.not_true, Bool.not_false, stP5s, b3.rd, b3.ld5']
  refine callH_rc (C1 _ (ShA.mk ia iw) hT) ?_
  intro r new hA
  obtain ⟨nr, w9, rfl, hw⟩ := hA
  obtain ⟨-, dR6, fR6, rfl, -, -, own9⟩ := hw.now
  have B := B.ext new
  have ia := ia.ext new
  have iw := iw.ext new
  have hT := hT.ext new
  have b3 := b3.ext new
  have R6 := (own9 : OwnR (N2 ++ new) dR6 pa)
  obtain ⟨N3, hN⟩ : ∃ N, N = N2 ++ new := ⟨_, rfl⟩
  rw [← hN] at B ia iw hT b3 R6 ⊢
  clear hN
  clear nr hw own9
  try simp (config := {implicitDefEqProofs := false, maxDischargeDepth := 20}) (disch := first | omega | (simp only [lenE]; done) | (simp only [lenE]; omega) | rfl | (simp only [lenE, markR_len]; done) | (simp only [lenE, markR_len]; omega)) only [runE, mapE, listE, initT_5, initT_6, initT_7, initT_8, resV, oneV, binA, unA, reduceCtorEq, Nat.reduceEqDiff, Nat.reduceAdd, Nat.reduceLT, Nat.reduceLeDiff, Nat.reduceMul, Nat.reduceSub, ↓reduceIte, decide_true, decide_false, Bool.true_eq_false, Bool.false_eq_true, Bool.not_true, Bool.not_false, if_true, if_false, and_true, true_and, memE, celE, w64, Nat.zero_add, Nat.add_zero, Nat.mul_one, putL, and_self, ldn, Bool.and_self, Bool.and_true, Bool.true_and, Bool.and_false, Bool.false_and, Bool.or_false, Bool.false_or, ext_2_0, ext_2_1, ext_3_0, ext_3_1, ext_3_2, bne_self_eq_false, beq_self_eq_true, goG_undef, Bool.not_true, Bool.not_false, stP5s, b3.rd, b3.ld5']
  refine callH_rc (C2 _ (ShA.mk ia iw) hT) ?_
  intro r new hA
  obtain ⟨nr, w9, rfl, hw⟩ := hA
  obtain ⟨-, dR8, fR8, rfl, -, -, own9⟩ := hw.now
  have B := B.ext new
  have ia := ia.ext new
  have iw := iw.ext new
  have hT := hT.ext new
  have b3 := b3.ext new
  have R6 := R6.ext new
  have R8 := (own9 : OwnR (N3 ++ new) dR8 pa)
  obtain ⟨N4, hN⟩ : ∃ N, N = N3 ++ new := ⟨_, rfl⟩
  rw [← hN] at B ia iw hT b3 R6 R8 ⊢
  clear hN
  clear nr hw own9
  try simp (config := {implicitDefEqProofs := false, maxDischargeDepth := 20}) (disch := first | omega | (simp only [lenE]; done) | (simp only [lenE]; omega) | rfl | (simp only [lenE, markR_len]; done) | (simp only [lenE, markR_len]; omega)) only [runE, mapE, listE, initT_5, initT_6, initT_7, initT_8, resV, oneV, binA, unA, reduceCtorEq, Nat.reduceEqDiff, Nat.reduceAdd, Nat.reduceLT, Nat.reduceLeDiff, Nat.reduceMul, Nat.reduceSub, ↓reduceIte, decide_true, decide_false, Bool.true_eq_false, Bool.false_eq_true, Bool.not_true, Bool.not_false, if_true, if_false, and_true, true_and, memE, celE, w64, Nat.zero_add, Nat.add_zero, Nat.mul_one, putL, and_self, ldn, Bool.and_self, Bool.and_true, Bool.true_and, Bool.and_false, Bool.false_and, Bool.or_false, Bool.false_or, ext_2_0, ext_2_1, ext_3_0, ext_3_1, ext_3_2, bne_self_eq_false, beq_self_eq_true, goG_undef, Bool.not_true, Bool.not_false, stP5s, b3.rd, b3.ld5']
  refine callH_rc (vCut_rc _ 0 0 1 l B (by omega) (by omega)) ?_
  rintro r new ⟨nr, ci, lb, rfl, hrow, hb1, hl1⟩
  have B := B.ext new
  have ia := ia.ext new
  have iw := iw.ext new
  have hT := hT.ext new
  have b3 := b3.ext new
  have R6 := R6.ext new
  have R8 := R8.ext new
  have C := (⟨⟨.own, by simp, by rw [List.getElem?_append_right (by omega), Nat.add_sub_cancel_left]; exact hrow⟩, hb1, hl1⟩ : BytesA (N4 ++ new) (N4.length + ci) lb)
  obtain ⟨N5, hN⟩ : ∃ N, N = N4 ++ new := ⟨_, rfl⟩
  rw [← hN] at B ia iw hT b3 R6 R8 C ⊢
  clear hN
  clear nr hrow hb1 hl1
  try simp (config := {implicitDefEqProofs := false, maxDischargeDepth := 20}) (disch := first | omega | (simp only [lenE]; done) | (simp only [lenE]; omega) | rfl | (simp only [lenE, markR_len]; done) | (simp only [lenE, markR_len]; omega)) only [runE, mapE, listE, initT_5, initT_6, initT_7, initT_8, resV, oneV, binA, unA, reduceCtorEq, Nat.reduceEqDiff, Nat.reduceAdd, Nat.reduceLT, Nat.reduceLeDiff, Nat.reduceMul, Nat.reduceSub, ↓reduceIte, decide_true, decide_false, Bool.true_eq_false, Bool.false_eq_true, Bool.not_true, Bool.not_false, if_true, if_false, and_true, true_and, memE, celE, w64, Nat.zero_add, Nat.add_zero, Nat.mul_one, putL, and_self, ldn, Bool.and_self, Bool.and_true, Bool.true_and, Bool.and_false, Bool.false_and, Bool.or_false, Bool.false_or, ext_2_0, ext_2_1, ext_3_0, ext_3_1, ext_3_2, bne_self_eq_false, beq_self_eq_true, goG_undef, Bool.not_true, Bool.not_false, stP5s, b3.rd, b3.ld5']
  clear B
  refine callH_rc (DrawLostBound_rc _ _ 1 lb C) ?_
  rintro r new ⟨nr, v, s2, ri, set, rfl, hs2, hrow, hset⟩
  obtain ⟨u2, w2, rfl, ia2, iw2⟩ := hs2
  clear C
  have ia := ia.ext new
  have iw := iw.ext new
  have hT := hT.ext new
  have b3 := b3.ext new
  have R6 := R6.ext new
  have R8 := R8.ext new
  have R11 := (OwnR.new hrow rfl : OwnR (N5 ++ new) (N5.length + ri) set)
  obtain ⟨N6, hN⟩ : ∃ N, N = N5 ++ new := ⟨_, rfl⟩
  rw [← hN] at ia iw hT b3 R6 R8 R11 ia2 iw2 ⊢
  clear hN
  clear nr hrow
  have oc2 : onesB [.int .i64 s2.life, u2, w2, .int .i64 s2.waste, .int .i64 s2.lost] = true := by
    have q1 : u2.oneCell' = true := by have := ia2.one []; simpa [onesB] using this
    have q2 : w2.oneCell' = true := by have := iw2.one []; simpa [onesB] using this
    simp [onesB, q1, q2]
    exact ⟨rfl, rfl, rfl⟩
  have E1 := bound_most (s := s2) (set := set)
  have E2 := proof_bd s2
  obtain ⟨fa, hfa⟩ : ∃ t, t = lboundA s2 set := ⟨_, rfl⟩
  obtain ⟨fo, hfo⟩ : ∃ t, t = lboundOk s2 set := ⟨_, rfl⟩
  obtain ⟨pr, hpr⟩ : ∃ t, t = proof9A s2 := ⟨_, rfl⟩
  obtain ⟨ma, hma⟩ : ∃ t, t = lboundA s2 pr := ⟨_, rfl⟩
  obtain ⟨mo, hmo⟩ : ∃ t, t = lboundOk s2 pr := ⟨_, rfl⟩
  rw [← hfa, ← hfo, ← hpr, ← hma, ← hmo] at E1
  rw [← hpr] at E2
  have G1 : ∀ M (x : Value), ShA M (.agg #[.int .i64 s2.life, u2, w2, .int .i64 s2.waste, .int .i64 s2.lost]) s2 → IntsA M x set → RC Try.prog 26 [.agg #[.int .i64 s2.life, u2, w2, .int .i64 s2.waste, .int .i64 s2.lost], x] M (AnsV (.tuple #[.int .i64 fa, .bool fo])) := fun M x h hu => by rw [hfa, hfo]; exact implLostBound_rc M _ x s2 set h hu
  have G2 : ∀ M (x : Value), ShA M (.agg #[.int .i64 s2.life, u2, w2, .int .i64 s2.waste, .int .i64 s2.lost]) s2 → IntsA M x set → RC Try.prog 34 [.agg #[.int .i64 s2.life, u2, w2, .int .i64 s2.waste, .int .i64 s2.lost], x] M (AnsV (.tuple #[.int .i64 fa, .bool fo])) := fun M x h hu => by rw [hfa, hfo]; exact specLostBound_rc M _ x s2 set h hu
  have G3 : ∀ M, ShA M (.agg #[.int .i64 s2.life, u2, w2, .int .i64 s2.waste, .int .i64 s2.lost]) s2 → RC Try.prog 20 [.agg #[.int .i64 s2.life, u2, w2, .int .i64 s2.waste, .int .i64 s2.lost]] M (AnsO M (IntsO pr) fun v => .tuple #[v, .bool s2.good]) := fun M h => by rw [hpr]; exact implProof9_rc M _ s2 h
  have G4 : ∀ M (x : Value), ShA M (.agg #[.int .i64 s2.life, u2, w2, .int .i64 s2.waste, .int .i64 s2.lost]) s2 → IntsA M x pr → RC Try.prog 26 [.agg #[.int .i64 s2.life, u2, w2, .int .i64 s2.waste, .int .i64 s2.lost], x] M (AnsV (.tuple #[.int .i64 ma, .bool mo])) := fun M x h hu => by rw [hma, hmo]; exact implLostBound_rc M _ x s2 pr h hu
  clear hfa hfo hpr hma hmo
  try simp (config := {implicitDefEqProofs := false, maxDischargeDepth := 20}) (disch := first | omega | (simp only [lenE]; done) | (simp only [lenE]; omega) | rfl | (simp only [lenE, markR_len]; done) | (simp only [lenE, markR_len]; omega)) only [runE, mapE, listE, initT_5, initT_6, initT_7, initT_8, resV, oneV, binA, unA, reduceCtorEq, Nat.reduceEqDiff, Nat.reduceAdd, Nat.reduceLT, Nat.reduceLeDiff, Nat.reduceMul, Nat.reduceSub, ↓reduceIte, decide_true, decide_false, Bool.true_eq_false, Bool.false_eq_true, Bool.not_true, Bool.not_false, if_true, if_false, and_true, true_and, memE, celE, w64, Nat.zero_add, Nat.add_zero, Nat.mul_one, putL, and_self, ldn, Bool.and_self, Bool.and_true, Bool.true_and, Bool.and_false, Bool.false_and, Bool.or_false, Bool.false_or, ext_2_0, ext_2_1, ext_3_0, ext_3_1, ext_3_2, bne_self_eq_false, beq_self_eq_true, goG_undef, Bool.not_true, Bool.not_false, stP5s, b3.rd, b3.ld5', oc2]
  have ia := ia.ext [⟨.own, 26, [.int .i64 s2.life, u2, w2, .int .i64 s2.waste, .int .i64 s2.lost]⟩]
  have iw := iw.ext [⟨.own, 26, [.int .i64 s2.life, u2, w2, .int .i64 s2.waste, .int .i64 s2.lost]⟩]
  have hT := hT.ext [⟨.own, 26, [.int .i64 s2.life, u2, w2, .int .i64 s2.waste, .int .i64 s2.lost]⟩]
  have b3 := b3.ext [⟨.own, 26, [.int .i64 s2.life, u2, w2, .int .i64 s2.waste, .int .i64 s2.lost]⟩]
  have R6 := R6.ext [⟨.own, 26, [.int .i64 s2.life, u2, w2, .int .i64 s2.waste, .int .i64 s2.lost]⟩]
  have R8 := R8.ext [⟨.own, 26, [.int .i64 s2.life, u2, w2, .int .i64 s2.waste, .int .i64 s2.lost]⟩]
  have R11 := R11.ext [⟨.own, 26, [.int .i64 s2.life, u2, w2, .int .i64 s2.waste, .int .i64 s2.lost]⟩]
  have ia2 := ia2.ext [⟨.own, 26, [.int .i64 s2.life, u2, w2, .int .i64 s2.waste, .int .i64 s2.lost]⟩]
  have iw2 := iw2.ext [⟨.own, 26, [.int .i64 s2.life, u2, w2, .int .i64 s2.waste, .int .i64 s2.lost]⟩]
  have b10 : OwnB (N6 ++ [⟨.own, 26, [.int .i64 s2.life, u2, w2, .int .i64 s2.waste, .int .i64 s2.lost]⟩]) N6.length 26 [.int .i64 s2.life, u2, w2, .int .i64 s2.waste, .int .i64 s2.lost] := OwnB.here rfl
  obtain ⟨N7, hN⟩ : ∃ N, N = N6 ++ [⟨.own, 26, [.int .i64 s2.life, u2, w2, .int .i64 s2.waste, .int .i64 s2.lost]⟩] := ⟨_, rfl⟩
  rw [← hN] at ia iw hT b3 R6 R8 R11 ia2 iw2 b10 ⊢
  clear hN
  try simp (config := {implicitDefEqProofs := false, maxDischargeDepth := 20}) (disch := first | omega | (simp only [lenE]; done) | (simp only [lenE]; omega) | rfl | (simp only [lenE, markR_len]; done) | (simp only [lenE, markR_len]; omega)) only [runE, mapE, listE, initT_5, initT_6, initT_7, initT_8, resV, oneV, binA, unA, reduceCtorEq, Nat.reduceEqDiff, Nat.reduceAdd, Nat.reduceLT, Nat.reduceLeDiff, Nat.reduceMul, Nat.reduceSub, ↓reduceIte, decide_true, decide_false, Bool.true_eq_false, Bool.false_eq_true, Bool.not_true, Bool.not_false, if_true, if_false, and_true, true_and, memE, celE, w64, Nat.zero_add, Nat.add_zero, Nat.mul_one, putL, and_self, ldn, Bool.and_self, Bool.and_true, Bool.true_and, Bool.and_false, Bool.false_and, Bool.or_false, Bool.false_or, ext_2_0, ext_2_1, ext_3_0, ext_3_1, ext_3_2, bne_self_eq_false, beq_self_eq_true, goG_undef, Bool.not_true, Bool.not_false, stP5s, b3.rd, b3.ld5', b10.rd, b10.ld5']
  refine callH_rc (G1 _ _ (ShA.mk ia2 iw2) (R11.ints (by omega) 1)) ?_
  rintro r new ⟨rfl, nr⟩
  have ia := ia.ext new
  have iw := iw.ext new
  have hT := hT.ext new
  have b3 := b3.ext new
  have R6 := R6.ext new
  have R8 := R8.ext new
  have R11 := R11.ext new
  have ia2 := ia2.ext new
  have iw2 := iw2.ext new
  have b10 := b10.ext new
  obtain ⟨N8, hN⟩ : ∃ N, N = N7 ++ new := ⟨_, rfl⟩
  rw [← hN] at ia iw hT b3 R6 R8 R11 ia2 iw2 b10 ⊢
  clear hN
  clear nr
  try simp (config := {implicitDefEqProofs := false, maxDischargeDepth := 20}) (disch := first | omega | (simp only [lenE]; done) | (simp only [lenE]; omega) | rfl | (simp only [lenE, markR_len]; done) | (simp only [lenE, markR_len]; omega)) only [runE, mapE, listE, initT_5, initT_6, initT_7, initT_8, resV, oneV, binA, unA, reduceCtorEq, Nat.reduceEqDiff, Nat.reduceAdd, Nat.reduceLT, Nat.reduceLeDiff, Nat.reduceMul, Nat.reduceSub, ↓reduceIte, decide_true, decide_false, Bool.true_eq_false, Bool.false_eq_true, Bool.not_true, Bool.not_false, if_true, if_false, and_true, true_and, memE, celE, w64, Nat.zero_add, Nat.add_zero, Nat.mul_one, putL, and_self, ldn, Bool.and_self, Bool.and_true, Bool.true_and, Bool.and_false, Bool.false_and, Bool.or_false, Bool.false_or, ext_2_0, ext_2_1, ext_3_0, ext_3_1, ext_3_2, bne_self_eq_false, beq_self_eq_true, goG_undef, Bool.not_true, Bool.not_false, stP5s, b3.rd, b3.ld5', b10.rd, b10.ld5']
  refine callH_rc (G2 _ _ (ShA.mk ia2 iw2) (R11.ints (by omega) 1)) ?_
  rintro r new ⟨rfl, nr⟩
  have ia := ia.ext new
  have iw := iw.ext new
  have hT := hT.ext new
  have b3 := b3.ext new
  have R6 := R6.ext new
  have R8 := R8.ext new
  have R11 := R11.ext new
  have ia2 := ia2.ext new
  have iw2 := iw2.ext new
  have b10 := b10.ext new
  obtain ⟨N9, hN⟩ : ∃ N, N = N8 ++ new := ⟨_, rfl⟩
  rw [← hN] at ia iw hT b3 R6 R8 R11 ia2 iw2 b10 ⊢
  clear hN
  clear nr
  try simp (config := {implicitDefEqProofs := false, maxDischargeDepth := 20}) (disch := first | omega | (simp only [lenE]; done) | (simp only [lenE]; omega) | rfl | (simp only [lenE, markR_len]; done) | (simp only [lenE, markR_len]; omega)) only [runE, mapE, listE, initT_5, initT_6, initT_7, initT_8, resV, oneV, binA, unA, reduceCtorEq, Nat.reduceEqDiff, Nat.reduceAdd, Nat.reduceLT, Nat.reduceLeDiff, Nat.reduceMul, Nat.reduceSub, ↓reduceIte, decide_true, decide_false, Bool.true_eq_false, Bool.false_eq_true, Bool.not_true, Bool.not_false, if_true, if_false, and_true, true_and, memE, celE, w64, Nat.zero_add, Nat.add_zero, Nat.mul_one, putL, and_self, ldn, Bool.and_self, Bool.and_true, Bool.true_and, Bool.and_false, Bool.false_and, Bool.or_false, Bool.false_or, ext_2_0, ext_2_1, ext_3_0, ext_3_1, ext_3_2, bne_self_eq_false, beq_self_eq_true, goG_undef, Bool.not_true, Bool.not_false, stP5s, b3.rd, b3.ld5', b10.rd, b10.ld5']
  clear R11
  refine callH_rc (vInts_rc _ _ _ pa (R6.ints (by omega) fR6) (R8.ints (by omega) fR8)) ?_
  rintro r new ⟨rfl, rfl⟩
  rw [List.append_nil]
  clear R8
  obtain ⟨pb3, hpb3⟩ : ∃ t, t = N1.length := ⟨_, rfl⟩
  rw [← hpb3] at b3 ⊢
  clear hpb3
  have hlw := iw.len
  have zf : IntKind.i64.wrap (z + 1) = z + 1 := IntWalk.i64_in _ ⟨by omega, by omega⟩
  cases fo with
  | false =>
    try simp (config := {implicitDefEqProofs := false, maxDischargeDepth := 20}) (disch := first | omega | (simp only [lenE]; done) | (simp only [lenE]; omega) | rfl | (simp only [lenE, markR_len]; done) | (simp only [lenE, markR_len]; omega)) only [runE, mapE, listE, initT_5, initT_6, initT_7, initT_8, resV, oneV, binA, unA, reduceCtorEq, Nat.reduceEqDiff, Nat.reduceAdd, Nat.reduceLT, Nat.reduceLeDiff, Nat.reduceMul, Nat.reduceSub, ↓reduceIte, decide_true, decide_false, Bool.true_eq_false, Bool.false_eq_true, Bool.not_true, Bool.not_false, if_true, if_false, and_true, true_and, memE, celE, w64, Nat.zero_add, Nat.add_zero, Nat.mul_one, putL, and_self, ldn, Bool.and_self, Bool.and_true, Bool.true_and, Bool.and_false, Bool.false_and, Bool.or_false, Bool.false_or, ext_2_0, ext_2_1, ext_3_0, ext_3_1, ext_3_2, bne_self_eq_false, beq_self_eq_true, goG_undef, Bool.not_true, Bool.not_false, stP5s, b3.rd, b3.ld5', b10.rd, b10.ld5']
    cases po with
    | false =>
      try simp (config := {implicitDefEqProofs := false, maxDischargeDepth := 20}) (disch := first | omega | (simp only [lenE]; done) | (simp only [lenE]; omega) | rfl | (simp only [lenE, markR_len]; done) | (simp only [lenE, markR_len]; omega)) only [runE, mapE, listE, initT_5, initT_6, initT_7, initT_8, resV, oneV, binA, unA, reduceCtorEq, Nat.reduceEqDiff, Nat.reduceAdd, Nat.reduceLT, Nat.reduceLeDiff, Nat.reduceMul, Nat.reduceSub, ↓reduceIte, decide_true, decide_false, Bool.true_eq_false, Bool.false_eq_true, Bool.not_true, Bool.not_false, if_true, if_false, and_true, true_and, memE, celE, w64, Nat.zero_add, Nat.add_zero, Nat.mul_one, putL, and_self, ldn, Bool.and_self, Bool.and_true, Bool.true_and, Bool.and_false, Bool.false_and, Bool.or_false, Bool.false_or, ext_2_0, ext_2_1, ext_3_0, ext_3_1, ext_3_2, bne_self_eq_false, beq_self_eq_true, goG_undef, Bool.not_true, Bool.not_false, stP5s, b3.rd, b3.ld5', b10.rd, b10.ld5', zf, hlw]
    | true =>
      by_cases hge : (s.need.length : Int) ≤ z + 1
      · skip
        try simp (config := {implicitDefEqProofs := false, maxDischargeDepth := 20}) (disch := first | omega | (simp only [lenE]; done) | (simp only [lenE]; omega) | rfl | (simp only [lenE, markR_len]; done) | (simp only [lenE, markR_len]; omega)) only [runE, mapE, listE, initT_5, initT_6, initT_7, initT_8, resV, oneV, binA, unA, reduceCtorEq, Nat.reduceEqDiff, Nat.reduceAdd, Nat.reduceLT, Nat.reduceLeDiff, Nat.reduceMul, Nat.reduceSub, ↓reduceIte, decide_true, decide_false, Bool.true_eq_false, Bool.false_eq_true, Bool.not_true, Bool.not_false, if_true, if_false, and_true, true_and, memE, celE, w64, Nat.zero_add, Nat.add_zero, Nat.mul_one, putL, and_self, ldn, Bool.and_self, Bool.and_true, Bool.true_and, Bool.and_false, Bool.false_and, Bool.or_false, Bool.false_or, ext_2_0, ext_2_1, ext_3_0, ext_3_1, ext_3_2, bne_self_eq_false, beq_self_eq_true, goG_undef, Bool.not_true, Bool.not_false, stP5s, b3.rd, b3.ld5', b10.rd, b10.ld5', zf, hlw, ge_iff_le, hge]
      · have hge2 : z + 1 < (s.need.length : Int) := by omega
        obtain ⟨t, hzt, rfl, an⟩ := D1 rfl hge2
        try simp (config := {implicitDefEqProofs := false, maxDischargeDepth := 20}) (disch := first | omega | (simp only [lenE]; done) | (simp only [lenE]; omega) | rfl | (simp only [lenE, markR_len]; done) | (simp only [lenE, markR_len]; omega)) only [runE, mapE, listE, initT_5, initT_6, initT_7, initT_8, resV, oneV, binA, unA, reduceCtorEq, Nat.reduceEqDiff, Nat.reduceAdd, Nat.reduceLT, Nat.reduceLeDiff, Nat.reduceMul, Nat.reduceSub, ↓reduceIte, decide_true, decide_false, Bool.true_eq_false, Bool.false_eq_true, Bool.not_true, Bool.not_false, if_true, if_false, and_true, true_and, memE, celE, w64, Nat.zero_add, Nat.add_zero, Nat.mul_one, putL, and_self, ldn, Bool.and_self, Bool.and_true, Bool.true_and, Bool.and_false, Bool.false_and, Bool.or_false, Bool.false_or, ext_2_0, ext_2_1, ext_3_0, ext_3_1, ext_3_2, bne_self_eq_false, beq_self_eq_true, goG_undef, Bool.not_true, Bool.not_false, stP5s, b3.rd, b3.ld5', b10.rd, b10.ld5', zf, hlw, ge_iff_le, hge]
        refine callH_rc (C3 _ (ShA.mk ia iw) hT) ?_
        intro r new hA
        obtain ⟨nr, w9, rfl, hw⟩ := hA
        obtain ⟨-, dR20, fR20, rfl, -, -, own9⟩ := hw.now
        have ia := ia.ext new
        have iw := iw.ext new
        have hT := hT.ext new
        have b3 := b3.ext new
        have R6 := R6.ext new
        have ia2 := ia2.ext new
        have iw2 := iw2.ext new
        have b10 := b10.ext new
        have R20 := (own9 : OwnR (N9 ++ new) dR20 na)
        obtain ⟨N10, hN⟩ : ∃ N, N = N9 ++ new := ⟨_, rfl⟩
        rw [← hN] at ia iw hT b3 R6 ia2 iw2 b10 R20 ⊢
        clear hN
        clear nr hw own9
        have tn := an.tn
        have lf := an.life
        have lp := an.lp
        have ln := an.ln
        have lfz : IntKind.i64.wrap (s.life - 1) = s.life - 1 := IntWalk.i64_in _ ⟨by omega, by omega⟩
        have plb : (((pa.length : Nat) : Int) != s.life - 1) = false := by rw [lp]; exact bne_self_eq_false _
        try simp (config := {implicitDefEqProofs := false, maxDischargeDepth := 20}) (disch := first | omega | (simp only [lenE]; done) | (simp only [lenE]; omega) | rfl | (simp only [lenE, markR_len]; done) | (simp only [lenE, markR_len]; omega)) only [runE, mapE, listE, initT_5, initT_6, initT_7, initT_8, resV, oneV, binA, unA, reduceCtorEq, Nat.reduceEqDiff, Nat.reduceAdd, Nat.reduceLT, Nat.reduceLeDiff, Nat.reduceMul, Nat.reduceSub, ↓reduceIte, decide_true, decide_false, Bool.true_eq_false, Bool.false_eq_true, Bool.not_true, Bool.not_false, if_true, if_false, and_true, true_and, memE, celE, w64, Nat.zero_add, Nat.add_zero, Nat.mul_one, putL, and_self, ldn, Bool.and_self, Bool.and_true, Bool.true_and, Bool.and_false, Bool.false_and, Bool.or_false, Bool.false_or, ext_2_0, ext_2_1, ext_3_0, ext_3_1, ext_3_2, bne_self_eq_false, beq_self_eq_true, goG_undef, Bool.not_true, Bool.not_false, stP5s, b3.rd, b3.ld5', b10.rd, b10.ld5', zf, hlw, lfz, plb, lp]
        refine loop_inv mixed (fun s' => ∃ a : Nat, a ≤ na.length ∧ s'.m = N10 ∧ s'.t 3 = .pointer (some ⟨pb3, 0, none⟩) ∧ s'.t 4 = tv ∧ s'.t 5 = .int .i64 z ∧ s'.t 6 = .slice (some ⟨dR6, 0, none⟩) pa.length fR6 ∧ s'.t 20 = .slice (some ⟨dR20, 0, none⟩) na.length fR20 ∧ s'.t 22 = .int .i64 (a : Int)) (fun s' => na.length - (intOf (s'.t 22)).toNat) ⟨0, by omega, rfl, rfl, rfl, rfl, rfl, rfl, rfl⟩ ?_
        rintro s' ⟨a, ha, tm, t3, t4, t5, t6, t20, t22⟩
        have gP := R6.ints (by omega) fR6
        have gN := R20.ints (by omega) fR20
        by_cases hlt : a < na.length
        · have hlt' : (a : Int) < na.length := by omega
          have hap : a < pa.length := by omega
          have la := an.la
          have lT := an.lt
          have lr := an.lr
          have e1 : z + 1 = ((t + 1 : Nat) : Int) := by omega
          have ab := an.ab
          have iA := ia.at_ (t + 1) (by omega)
          have lA := ia.ld (t + 1) (by omega)
          have iT := hT.at_ (t + 1) (by omega)
          obtain ⟨ru, lT2, ri2⟩ := hT.ld (t + 1) (by omega)
          have iR := ri2.at_ (t + 1) (by omega)
          have lR := ri2.ld (t + 1) (by omega)
          have iN := gN.at_ a hlt
          have lN := gN.ld a hlt
          have tb1 := an.tb (t + 1) (by omega)
          rw [← e1] at iA iT iR
          by_cases ha0 : 0 < a
          · have ha0' : (0 : Int) < (a : Int) := by omega
            have am : ((a : Int) - 1) = ((a - 1 : Nat) : Int) := by omega
            have iP := gP.at_ (a - 1) (by omega)
            have lP := gP.ld (a - 1) (by omega)
            rw [← am] at iP
            have pb1 := an.pb (a - 1) (by omega)
            have azf : IntKind.i64.wrap ((a : Int) - 1) = (a : Int) - 1 := IntWalk.i64_in _ ⟨by omega, by omega⟩
            have dzf : IntKind.i64.wrap (z + 1 - (a : Int)) = z + 1 - (a : Int) := IntWalk.i64_in _ ⟨by omega, by omega⟩
            by_cases hle : a ≤ t + 1
            · have hle' : 0 ≤ z + 1 - (a : Int) := by omega
              have dm : z + 1 - (a : Int) = ((t + 1 - a : Nat) : Int) := by omega
              have iR2 := ri2.at_ (t + 1 - a) (by omega)
              have lR2 := ri2.ld (t + 1 - a) (by omega)
              rw [← dm] at iR2
              have tb2 := an.tb (t + 1 - a) (by omega)
              have z1 := an.z1 a hap ha0 hle
              have szf : IntKind.i64.wrap (pa.getD (a - 1) 0 - (T.getD (t + 1) []).getD (t + 1 - a) 0) = pa.getD (a - 1) 0 - (T.getD (t + 1) []).getD (t + 1 - a) 0 := IntWalk.i64_in _ ⟨by omega, by omega⟩
              try simp (config := {implicitDefEqProofs := false, maxDischargeDepth := 20}) (disch := first | omega | (simp only [lenE]; done) | (simp only [lenE]; omega) | rfl | (simp only [lenE, markR_len]; done) | (simp only [lenE, markR_len]; omega)) only [runE, mapE, listE, initT_5, initT_6, initT_7, initT_8, resV, oneV, binA, unA, reduceCtorEq, Nat.reduceEqDiff, Nat.reduceAdd, Nat.reduceLT, Nat.reduceLeDiff, Nat.reduceMul, Nat.reduceSub, ↓reduceIte, decide_true, decide_false, Bool.true_eq_false, Bool.false_eq_true, Bool.not_true, Bool.not_false, if_true, if_false, and_true, true_and, memE, celE, w64, Nat.zero_add, Nat.add_zero, Nat.mul_one, putL, and_self, ldn, Bool.and_self, Bool.and_true, Bool.true_and, Bool.and_false, Bool.false_and, Bool.or_false, Bool.false_or, ext_2_0, ext_2_1, ext_3_0, ext_3_1, ext_3_2, bne_self_eq_false, beq_self_eq_true, goG_undef, Bool.not_true, Bool.not_false, stP5s, b3.rd, b3.ld5', b10.rd, b10.ld5', tm, t3, t4, t5, t6, t20, t22, zf, hlt', iA, lA, iT, lT2, iR, lR, iN, lN, gt_iff_lt, ge_iff_le, ha0', azf, dzf, iP, lP, hle', iR2, lR2, z1, szf]
              exact ⟨⟨a + 1, by omega, by simp⟩, by simp [intOf]; omega⟩
            · have hle' : ¬ (0 ≤ z + 1 - (a : Int)) := by omega
              have z2 := an.z2 a hap (by omega)
              have szf : IntKind.i64.wrap (pa.getD (a - 1) 0 - 0) = pa.getD (a - 1) 0 := by rw [Int.sub_zero]; exact IntWalk.i64_in _ ⟨by omega, by omega⟩
              try simp (config := {implicitDefEqProofs := false, maxDischargeDepth := 20}) (disch := first | omega | (simp only [lenE]; done) | (simp only [lenE]; omega) | rfl | (simp only [lenE, markR_len]; done) | (simp only [lenE, markR_len]; omega)) only [runE, mapE, listE, initT_5, initT_6, initT_7, initT_8, resV, oneV, binA, unA, reduceCtorEq, Nat.reduceEqDiff, Nat.reduceAdd, Nat.reduceLT, Nat.reduceLeDiff, Nat.reduceMul, Nat.reduceSub, ↓reduceIte, decide_true, decide_false, Bool.true_eq_false, Bool.false_eq_true, Bool.not_true, Bool.not_false, if_true, if_false, and_true, true_and, memE, celE, w64, Nat.zero_add, Nat.add_zero, Nat.mul_one, putL, and_self, ldn, Bool.and_self, Bool.and_true, Bool.true_and, Bool.and_false, Bool.false_and, Bool.or_false, Bool.false_or, ext_2_0, ext_2_1, ext_3_0, ext_3_1, ext_3_2, bne_self_eq_false, beq_self_eq_true, goG_undef, Bool.not_true, Bool.not_false, stP5s, b3.rd, b3.ld5', b10.rd, b10.ld5', tm, t3, t4, t5, t6, t20, t22, zf, hlt', iA, lA, iT, lT2, iR, lR, iN, lN, gt_iff_lt, ge_iff_le, ha0', azf, dzf, iP, lP, hle', z2, szf]
              exact ⟨⟨a + 1, by omega, by simp⟩, by simp [intOf]; omega⟩
          · have ha0' : ¬ ((0 : Int) < (a : Int)) := by omega
            have z0 := an.z0 a hap (by omega)
            have szf : IntKind.i64.wrap (s.arr.getD (t + 1) 0 - (T.getD (t + 1) []).getD (t + 1) 0) = s.arr.getD (t + 1) 0 - (T.getD (t + 1) []).getD (t + 1) 0 := IntWalk.i64_in _ ⟨by omega, by omega⟩
            try simp (config := {implicitDefEqProofs := false, maxDischargeDepth := 20}) (disch := first | omega | (simp only [lenE]; done) | (simp only [lenE]; omega) | rfl | (simp only [lenE, markR_len]; done) | (simp only [lenE, markR_len]; omega)) only [runE, mapE, listE, initT_5, initT_6, initT_7, initT_8, resV, oneV, binA, unA, reduceCtorEq, Nat.reduceEqDiff, Nat.reduceAdd, Nat.reduceLT, Nat.reduceLeDiff, Nat.reduceMul, Nat.reduceSub, ↓reduceIte, decide_true, decide_false, Bool.true_eq_false, Bool.false_eq_true, Bool.not_true, Bool.not_false, if_true, if_false, and_true, true_and, memE, celE, w64, Nat.zero_add, Nat.add_zero, Nat.mul_one, putL, and_self, ldn, Bool.and_self, Bool.and_true, Bool.true_and, Bool.and_false, Bool.false_and, Bool.or_false, Bool.false_or, ext_2_0, ext_2_1, ext_3_0, ext_3_1, ext_3_2, bne_self_eq_false, beq_self_eq_true, goG_undef, Bool.not_true, Bool.not_false, stP5s, b3.rd, b3.ld5', b10.rd, b10.ld5', tm, t3, t4, t5, t6, t20, t22, zf, hlt', iA, lA, iT, lT2, iR, lR, iN, lN, gt_iff_lt, ge_iff_le, ha0', z0, szf]
            exact ⟨⟨a + 1, by omega, by simp⟩, by simp [intOf]; omega⟩
        · have hlt' : ¬ ((a : Int) < na.length) := by omega
          try simp (config := {implicitDefEqProofs := false, maxDischargeDepth := 20}) (disch := first | omega | (simp only [lenE]; done) | (simp only [lenE]; omega) | rfl | (simp only [lenE, markR_len]; done) | (simp only [lenE, markR_len]; omega)) only [runE, mapE, listE, initT_5, initT_6, initT_7, initT_8, resV, oneV, binA, unA, reduceCtorEq, Nat.reduceEqDiff, Nat.reduceAdd, Nat.reduceLT, Nat.reduceLeDiff, Nat.reduceMul, Nat.reduceSub, ↓reduceIte, decide_true, decide_false, Bool.true_eq_false, Bool.false_eq_true, Bool.not_true, Bool.not_false, if_true, if_false, and_true, true_and, memE, celE, w64, Nat.zero_add, Nat.add_zero, Nat.mul_one, putL, and_self, ldn, Bool.and_self, Bool.and_true, Bool.true_and, Bool.and_false, Bool.false_and, Bool.or_false, Bool.false_or, ext_2_0, ext_2_1, ext_3_0, ext_3_1, ext_3_2, bne_self_eq_false, beq_self_eq_true, goG_undef, Bool.not_true, Bool.not_false, stP5s, b3.rd, b3.ld5', b10.rd, b10.ld5', tm, t3, t4, t5, t6, t20, t22, hlt']
  | true =>
    obtain ⟨e1, e2⟩ := E1 rfl
    subst e1
    try simp (config := {implicitDefEqProofs := false, maxDischargeDepth := 20}) (disch := first | omega | (simp only [lenE]; done) | (simp only [lenE]; omega) | rfl | (simp only [lenE, markR_len]; done) | (simp only [lenE, markR_len]; omega)) only [runE, mapE, listE, initT_5, initT_6, initT_7, initT_8, resV, oneV, binA, unA, reduceCtorEq, Nat.reduceEqDiff, Nat.reduceAdd, Nat.reduceLT, Nat.reduceLeDiff, Nat.reduceMul, Nat.reduceSub, ↓reduceIte, decide_true, decide_false, Bool.true_eq_false, Bool.false_eq_true, Bool.not_true, Bool.not_false, if_true, if_false, and_true, true_and, memE, celE, w64, Nat.zero_add, Nat.add_zero, Nat.mul_one, putL, and_self, ldn, Bool.and_self, Bool.and_true, Bool.true_and, Bool.and_false, Bool.false_and, Bool.or_false, Bool.false_or, ext_2_0, ext_2_1, ext_3_0, ext_3_1, ext_3_2, bne_self_eq_false, beq_self_eq_true, goG_undef, Bool.not_true, Bool.not_false, stP5s, b3.rd, b3.ld5', b10.rd, b10.ld5']
    refine callH_rc (G3 _ (ShA.mk ia2 iw2)) ?_
    intro r new hA
    obtain ⟨nr, w9, rfl, hw⟩ := hA
    obtain ⟨-, dR16, fR16, rfl, -, -, own9⟩ := hw.now
    have ia := ia.ext new
    have iw := iw.ext new
    have hT := hT.ext new
    have b3 := b3.ext new
    have R6 := R6.ext new
    have ia2 := ia2.ext new
    have iw2 := iw2.ext new
    have b10 := b10.ext new
    have R16 := (own9 : OwnR (N9 ++ new) dR16 pr)
    obtain ⟨N10, hN⟩ : ∃ N, N = N9 ++ new := ⟨_, rfl⟩
    rw [← hN] at ia iw hT b3 R6 ia2 iw2 b10 R16 ⊢
    clear hN
    clear nr hw own9
    try simp (config := {implicitDefEqProofs := false, maxDischargeDepth := 20}) (disch := first | omega | (simp only [lenE]; done) | (simp only [lenE]; omega) | rfl | (simp only [lenE, markR_len]; done) | (simp only [lenE, markR_len]; omega)) only [runE, mapE, listE, initT_5, initT_6, initT_7, initT_8, resV, oneV, binA, unA, reduceCtorEq, Nat.reduceEqDiff, Nat.reduceAdd, Nat.reduceLT, Nat.reduceLeDiff, Nat.reduceMul, Nat.reduceSub, ↓reduceIte, decide_true, decide_false, Bool.true_eq_false, Bool.false_eq_true, Bool.not_true, Bool.not_false, if_true, if_false, and_true, true_and, memE, celE, w64, Nat.zero_add, Nat.add_zero, Nat.mul_one, putL, and_self, ldn, Bool.and_self, Bool.and_true, Bool.true_and, Bool.and_false, Bool.false_and, Bool.or_false, Bool.false_or, ext_2_0, ext_2_1, ext_3_0, ext_3_1, ext_3_2, bne_self_eq_false, beq_self_eq_true, goG_undef, Bool.not_true, Bool.not_false, stP5s, b3.rd, b3.ld5', b10.rd, b10.ld5']
    refine callH_rc (G4 _ _ (ShA.mk ia2 iw2) (R16.ints (by omega) fR16)) ?_
    rintro r new ⟨rfl, nr⟩
    have ia := ia.ext new
    have iw := iw.ext new
    have hT := hT.ext new
    have b3 := b3.ext new
    have R6 := R6.ext new
    have ia2 := ia2.ext new
    have iw2 := iw2.ext new
    have b10 := b10.ext new
    have R16 := R16.ext new
    obtain ⟨N11, hN⟩ : ∃ N, N = N10 ++ new := ⟨_, rfl⟩
    rw [← hN] at ia iw hT b3 R6 ia2 iw2 b10 R16 ⊢
    clear hN
    clear nr
    have q1 : ¬ (ma < fa) := by omega
    try simp (config := {implicitDefEqProofs := false, maxDischargeDepth := 20}) (disch := first | omega | (simp only [lenE]; done) | (simp only [lenE]; omega) | rfl | (simp only [lenE, markR_len]; done) | (simp only [lenE, markR_len]; omega)) only [runE, mapE, listE, initT_5, initT_6, initT_7, initT_8, resV, oneV, binA, unA, reduceCtorEq, Nat.reduceEqDiff, Nat.reduceAdd, Nat.reduceLT, Nat.reduceLeDiff, Nat.reduceMul, Nat.reduceSub, ↓reduceIte, decide_true, decide_false, Bool.true_eq_false, Bool.false_eq_true, Bool.not_true, Bool.not_false, if_true, if_false, and_true, true_and, memE, celE, w64, Nat.zero_add, Nat.add_zero, Nat.mul_one, putL, and_self, ldn, Bool.and_self, Bool.and_true, Bool.true_and, Bool.and_false, Bool.false_and, Bool.or_false, Bool.false_or, ext_2_0, ext_2_1, ext_3_0, ext_3_1, ext_3_2, bne_self_eq_false, beq_self_eq_true, goG_undef, Bool.not_true, Bool.not_false, stP5s, b3.rd, b3.ld5', b10.rd, b10.ld5', gt_iff_lt, q1]
    cases po with
    | false =>
      try simp (config := {implicitDefEqProofs := false, maxDischargeDepth := 20}) (disch := first | omega | (simp only [lenE]; done) | (simp only [lenE]; omega) | rfl | (simp only [lenE, markR_len]; done) | (simp only [lenE, markR_len]; omega)) only [runE, mapE, listE, initT_5, initT_6, initT_7, initT_8, resV, oneV, binA, unA, reduceCtorEq, Nat.reduceEqDiff, Nat.reduceAdd, Nat.reduceLT, Nat.reduceLeDiff, Nat.reduceMul, Nat.reduceSub, ↓reduceIte, decide_true, decide_false, Bool.true_eq_false, Bool.false_eq_true, Bool.not_true, Bool.not_false, if_true, if_false, and_true, true_and, memE, celE, w64, Nat.zero_add, Nat.add_zero, Nat.mul_one, putL, and_self, ldn, Bool.and_self, Bool.and_true, Bool.true_and, Bool.and_false, Bool.false_and, Bool.or_false, Bool.false_or, ext_2_0, ext_2_1, ext_3_0, ext_3_1, ext_3_2, bne_self_eq_false, beq_self_eq_true, goG_undef, Bool.not_true, Bool.not_false, stP5s, b3.rd, b3.ld5', b10.rd, b10.ld5', zf, hlw]
    | true =>
      by_cases hge : (s.need.length : Int) ≤ z + 1
      · skip
        try simp (config := {implicitDefEqProofs := false, maxDischargeDepth := 20}) (disch := first | omega | (simp only [lenE]; done) | (simp only [lenE]; omega) | rfl | (simp only [lenE, markR_len]; done) | (simp only [lenE, markR_len]; omega)) only [runE, mapE, listE, initT_5, initT_6, initT_7, initT_8, resV, oneV, binA, unA, reduceCtorEq, Nat.reduceEqDiff, Nat.reduceAdd, Nat.reduceLT, Nat.reduceLeDiff, Nat.reduceMul, Nat.reduceSub, ↓reduceIte, decide_true, decide_false, Bool.true_eq_false, Bool.false_eq_true, Bool.not_true, Bool.not_false, if_true, if_false, and_true, true_and, memE, celE, w64, Nat.zero_add, Nat.add_zero, Nat.mul_one, putL, and_self, ldn, Bool.and_self, Bool.and_true, Bool.true_and, Bool.and_false, Bool.false_and, Bool.or_false, Bool.false_or, ext_2_0, ext_2_1, ext_3_0, ext_3_1, ext_3_2, bne_self_eq_false, beq_self_eq_true, goG_undef, Bool.not_true, Bool.not_false, stP5s, b3.rd, b3.ld5', b10.rd, b10.ld5', zf, hlw, ge_iff_le, hge]
      · have hge2 : z + 1 < (s.need.length : Int) := by omega
        obtain ⟨t, hzt, rfl, an⟩ := D1 rfl hge2
        try simp (config := {implicitDefEqProofs := false, maxDischargeDepth := 20}) (disch := first | omega | (simp only [lenE]; done) | (simp only [lenE]; omega) | rfl | (simp only [lenE, markR_len]; done) | (simp only [lenE, markR_len]; omega)) only [runE, mapE, listE, initT_5, initT_6, initT_7, initT_8, resV, oneV, binA, unA, reduceCtorEq, Nat.reduceEqDiff, Nat.reduceAdd, Nat.reduceLT, Nat.reduceLeDiff, Nat.reduceMul, Nat.reduceSub, ↓reduceIte, decide_true, decide_false, Bool.true_eq_false, Bool.false_eq_true, Bool.not_true, Bool.not_false, if_true, if_false, and_true, true_and, memE, celE, w64, Nat.zero_add, Nat.add_zero, Nat.mul_one, putL, and_self, ldn, Bool.and_self, Bool.and_true, Bool.true_and, Bool.and_false, Bool.false_and, Bool.or_false, Bool.false_or, ext_2_0, ext_2_1, ext_3_0, ext_3_1, ext_3_2, bne_self_eq_false, beq_self_eq_true, goG_undef, Bool.not_true, Bool.not_false, stP5s, b3.rd, b3.ld5', b10.rd, b10.ld5', zf, hlw, ge_iff_le, hge]
        refine callH_rc (C3 _ (ShA.mk ia iw) hT) ?_
        intro r new hA
        obtain ⟨nr, w9, rfl, hw⟩ := hA
        obtain ⟨-, dR20, fR20, rfl, -, -, own9⟩ := hw.now
        have ia := ia.ext new
        have iw := iw.ext new
        have hT := hT.ext new
        have b3 := b3.ext new
        have R6 := R6.ext new
        have ia2 := ia2.ext new
        have iw2 := iw2.ext new
        have b10 := b10.ext new
        have R16 := R16.ext new
        have R20 := (own9 : OwnR (N11 ++ new) dR20 na)
        obtain ⟨N12, hN⟩ : ∃ N, N = N11 ++ new := ⟨_, rfl⟩
        rw [← hN] at ia iw hT b3 R6 ia2 iw2 b10 R16 R20 ⊢
        clear hN
        clear nr hw own9
        have tn := an.tn
        have lf := an.life
        have lp := an.lp
        have ln := an.ln
        have lfz : IntKind.i64.wrap (s.life - 1) = s.life - 1 := IntWalk.i64_in _ ⟨by omega, by omega⟩
        have plb : (((pa.length : Nat) : Int) != s.life - 1) = false := by rw [lp]; exact bne_self_eq_false _
        try simp (config := {implicitDefEqProofs := false, maxDischargeDepth := 20}) (disch := first | omega | (simp only [lenE]; done) | (simp only [lenE]; omega) | rfl | (simp only [lenE, markR_len]; done) | (simp only [lenE, markR_len]; omega)) only [runE, mapE, listE, initT_5, initT_6, initT_7, initT_8, resV, oneV, binA, unA, reduceCtorEq, Nat.reduceEqDiff, Nat.reduceAdd, Nat.reduceLT, Nat.reduceLeDiff, Nat.reduceMul, Nat.reduceSub, ↓reduceIte, decide_true, decide_false, Bool.true_eq_false, Bool.false_eq_true, Bool.not_true, Bool.not_false, if_true, if_false, and_true, true_and, memE, celE, w64, Nat.zero_add, Nat.add_zero, Nat.mul_one, putL, and_self, ldn, Bool.and_self, Bool.and_true, Bool.true_and, Bool.and_false, Bool.false_and, Bool.or_false, Bool.false_or, ext_2_0, ext_2_1, ext_3_0, ext_3_1, ext_3_2, bne_self_eq_false, beq_self_eq_true, goG_undef, Bool.not_true, Bool.not_false, stP5s, b3.rd, b3.ld5', b10.rd, b10.ld5', zf, hlw, lfz, plb, lp]
        refine loop_inv mixed (fun s' => ∃ a : Nat, a ≤ na.length ∧ s'.m = N12 ∧ s'.t 3 = .pointer (some ⟨pb3, 0, none⟩) ∧ s'.t 4 = tv ∧ s'.t 5 = .int .i64 z ∧ s'.t 6 = .slice (some ⟨dR6, 0, none⟩) pa.length fR6 ∧ s'.t 20 = .slice (some ⟨dR20, 0, none⟩) na.length fR20 ∧ s'.t 22 = .int .i64 (a : Int)) (fun s' => na.length - (intOf (s'.t 22)).toNat) ⟨0, by omega, rfl, rfl, rfl, rfl, rfl, rfl, rfl⟩ ?_
        rintro s' ⟨a, ha, tm, t3, t4, t5, t6, t20, t22⟩
        have gP := R6.ints (by omega) fR6
        have gN := R20.ints (by omega) fR20
        by_cases hlt : a < na.length
        · have hlt' : (a : Int) < na.length := by omega
          have hap : a < pa.length := by omega
          have la := an.la
          have lT := an.lt
          have lr := an.lr
          have e1 : z + 1 = ((t + 1 : Nat) : Int) := by omega
          have ab := an.ab
          have iA := ia.at_ (t + 1) (by omega)
          have lA := ia.ld (t + 1) (by omega)
          have iT := hT.at_ (t + 1) (by omega)
          obtain ⟨ru, lT2, ri2⟩ := hT.ld (t + 1) (by omega)
          have iR := ri2.at_ (t + 1) (by omega)
          have lR := ri2.ld (t + 1) (by omega)
          have iN := gN.at_ a hlt
          have lN := gN.ld a hlt
          have tb1 := an.tb (t + 1) (by omega)
          rw [← e1] at iA iT iR
          by_cases ha0 : 0 < a
          · have ha0' : (0 : Int) < (a : Int) := by omega
            have am : ((a : Int) - 1) = ((a - 1 : Nat) : Int) := by omega
            have iP := gP.at_ (a - 1) (by omega)
            have lP := gP.ld (a - 1) (by omega)
            rw [← am] at iP
            have pb1 := an.pb (a - 1) (by omega)
            have azf : IntKind.i64.wrap ((a : Int) - 1) = (a : Int) - 1 := IntWalk.i64_in _ ⟨by omega, by omega⟩
            have dzf : IntKind.i64.wrap (z + 1 - (a : Int)) = z + 1 - (a : Int) := IntWalk.i64_in _ ⟨by omega, by omega⟩
            by_cases hle : a ≤ t + 1
            · have hle' : 0 ≤ z + 1 - (a : Int) := by omega
              have dm : z + 1 - (a : Int) = ((t + 1 - a : Nat) : Int) := by omega
              have iR2 := ri2.at_ (t + 1 - a) (by omega)
              have lR2 := ri2.ld (t + 1 - a) (by omega)
              rw [← dm] at iR2
              have tb2 := an.tb (t + 1 - a) (by omega)
              have z1 := an.z1 a hap ha0 hle
              have szf : IntKind.i64.wrap (pa.getD (a - 1) 0 - (T.getD (t + 1) []).getD (t + 1 - a) 0) = pa.getD (a - 1) 0 - (T.getD (t + 1) []).getD (t + 1 - a) 0 := IntWalk.i64_in _ ⟨by omega, by omega⟩
              try simp (config := {implicitDefEqProofs := false, maxDischargeDepth := 20}) (disch := first | omega | (simp only [lenE]; done) | (simp only [lenE]; omega) | rfl | (simp only [lenE, markR_len]; done) | (simp only [lenE, markR_len]; omega)) only [runE, mapE, listE, initT_5, initT_6, initT_7, initT_8, resV, oneV, binA, unA, reduceCtorEq, Nat.reduceEqDiff, Nat.reduceAdd, Nat.reduceLT, Nat.reduceLeDiff, Nat.reduceMul, Nat.reduceSub, ↓reduceIte, decide_true, decide_false, Bool.true_eq_false, Bool.false_eq_true, Bool.not_true, Bool.not_false, if_true, if_false, and_true, true_and, memE, celE, w64, Nat.zero_add, Nat.add_zero, Nat.mul_one, putL, and_self, ldn, Bool.and_self, Bool.and_true, Bool.true_and, Bool.and_false, Bool.false_and, Bool.or_false, Bool.false_or, ext_2_0, ext_2_1, ext_3_0, ext_3_1, ext_3_2, bne_self_eq_false, beq_self_eq_true, goG_undef, Bool.not_true, Bool.not_false, stP5s, b3.rd, b3.ld5', b10.rd, b10.ld5', tm, t3, t4, t5, t6, t20, t22, zf, hlt', iA, lA, iT, lT2, iR, lR, iN, lN, gt_iff_lt, ge_iff_le, ha0', azf, dzf, iP, lP, hle', iR2, lR2, z1, szf]
              exact ⟨⟨a + 1, by omega, by simp⟩, by simp [intOf]; omega⟩
            · have hle' : ¬ (0 ≤ z + 1 - (a : Int)) := by omega
              have z2 := an.z2 a hap (by omega)
              have szf : IntKind.i64.wrap (pa.getD (a - 1) 0 - 0) = pa.getD (a - 1) 0 := by rw [Int.sub_zero]; exact IntWalk.i64_in _ ⟨by omega, by omega⟩
              try simp (config := {implicitDefEqProofs := false, maxDischargeDepth := 20}) (disch := first | omega | (simp only [lenE]; done) | (simp only [lenE]; omega) | rfl | (simp only [lenE, markR_len]; done) | (simp only [lenE, markR_len]; omega)) only [runE, mapE, listE, initT_5, initT_6, initT_7, initT_8, resV, oneV, binA, unA, reduceCtorEq, Nat.reduceEqDiff, Nat.reduceAdd, Nat.reduceLT, Nat.reduceLeDiff, Nat.reduceMul, Nat.reduceSub, ↓reduceIte, decide_true, decide_false, Bool.true_eq_false, Bool.false_eq_true, Bool.not_true, Bool.not_false, if_true, if_false, and_true, true_and, memE, celE, w64, Nat.zero_add, Nat.add_zero, Nat.mul_one, putL, and_self, ldn, Bool.and_self, Bool.and_true, Bool.true_and, Bool.and_false, Bool.false_and, Bool.or_false, Bool.false_or, ext_2_0, ext_2_1, ext_3_0, ext_3_1, ext_3_2, bne_self_eq_false, beq_self_eq_true, goG_undef, Bool.not_true, Bool.not_false, stP5s, b3.rd, b3.ld5', b10.rd, b10.ld5', tm, t3, t4, t5, t6, t20, t22, zf, hlt', iA, lA, iT, lT2, iR, lR, iN, lN, gt_iff_lt, ge_iff_le, ha0', azf, dzf, iP, lP, hle', z2, szf]
              exact ⟨⟨a + 1, by omega, by simp⟩, by simp [intOf]; omega⟩
          · have ha0' : ¬ ((0 : Int) < (a : Int)) := by omega
            have z0 := an.z0 a hap (by omega)
            have szf : IntKind.i64.wrap (s.arr.getD (t + 1) 0 - (T.getD (t + 1) []).getD (t + 1) 0) = s.arr.getD (t + 1) 0 - (T.getD (t + 1) []).getD (t + 1) 0 := IntWalk.i64_in _ ⟨by omega, by omega⟩
            try simp (config := {implicitDefEqProofs := false, maxDischargeDepth := 20}) (disch := first | omega | (simp only [lenE]; done) | (simp only [lenE]; omega) | rfl | (simp only [lenE, markR_len]; done) | (simp only [lenE, markR_len]; omega)) only [runE, mapE, listE, initT_5, initT_6, initT_7, initT_8, resV, oneV, binA, unA, reduceCtorEq, Nat.reduceEqDiff, Nat.reduceAdd, Nat.reduceLT, Nat.reduceLeDiff, Nat.reduceMul, Nat.reduceSub, ↓reduceIte, decide_true, decide_false, Bool.true_eq_false, Bool.false_eq_true, Bool.not_true, Bool.not_false, if_true, if_false, and_true, true_and, memE, celE, w64, Nat.zero_add, Nat.add_zero, Nat.mul_one, putL, and_self, ldn, Bool.and_self, Bool.and_true, Bool.true_and, Bool.and_false, Bool.false_and, Bool.or_false, Bool.false_or, ext_2_0, ext_2_1, ext_3_0, ext_3_1, ext_3_2, bne_self_eq_false, beq_self_eq_true, goG_undef, Bool.not_true, Bool.not_false, stP5s, b3.rd, b3.ld5', b10.rd, b10.ld5', tm, t3, t4, t5, t6, t20, t22, zf, hlt', iA, lA, iT, lT2, iR, lR, iN, lN, gt_iff_lt, ge_iff_le, ha0', z0, szf]
            exact ⟨⟨a + 1, by omega, by simp⟩, by simp [intOf]; omega⟩
        · have hlt' : ¬ ((a : Int) < na.length) := by omega
          try simp (config := {implicitDefEqProofs := false, maxDischargeDepth := 20}) (disch := first | omega | (simp only [lenE]; done) | (simp only [lenE]; omega) | rfl | (simp only [lenE, markR_len]; done) | (simp only [lenE, markR_len]; omega)) only [runE, mapE, listE, initT_5, initT_6, initT_7, initT_8, resV, oneV, binA, unA, reduceCtorEq, Nat.reduceEqDiff, Nat.reduceAdd, Nat.reduceLT, Nat.reduceLeDiff, Nat.reduceMul, Nat.reduceSub, ↓reduceIte, decide_true, decide_false, Bool.true_eq_false, Bool.false_eq_true, Bool.not_true, Bool.not_false, if_true, if_false, and_true, true_and, memE, celE, w64, Nat.zero_add, Nat.add_zero, Nat.mul_one, putL, and_self, ldn, Bool.and_self, Bool.and_true, Bool.true_and, Bool.and_false, Bool.false_and, Bool.or_false, Bool.false_or, ext_2_0, ext_2_1, ext_3_0, ext_3_1, ext_3_2, bne_self_eq_false, beq_self_eq_true, goG_undef, Bool.not_true, Bool.not_false, stP5s, b3.rd, b3.ld5', b10.rd, b10.ld5', tm, t3, t4, t5, t6, t20, t22, hlt']
end Go.Proofs.Ytdgfbmilbhckiaa.Ab
end
section
namespace Go.Proofs.Ytdgfbmilbhckiaa.Ab
open Go Go.RowKit
set_option linter.unusedVariables false
theorem ws_word : ∀ (p r : List Char), p.all (fun c => c != ' ') = true → wordsSigns (p ++ ' ' :: r) = p :: wordsSigns r
  | [], r, _ => by rw [List.nil_append, wordsSigns]
  | c :: p, r, h => by
    rw [List.all_cons, Bool.and_eq_true] at h
    have hc : c ≠ ' ' := by simpa using h.1
    rw [List.cons_append, wordsSigns, ws_word p r h.2]
    intro e; exact hc e
def sumW : List Char := ['f', '9', 'c', 'a', '5', '3', '9', '8', 'e', 'f', '3', '8', '5', '2', 'c', 'c', 'f', '5', '6', '6', '5', '3', '2', '4', '0', '4', '3', 'd', 'd', 'd', '6', 'b', '0', '9', 'c', '5', 'b', '1', '7', '9', '4', '5', '7', '9', '2', '1', 'a', 'd', 'b', 'a', '9', 'e', 'f', 'd', 'e', 'd', 'f', '3', '2', '0', 'a', 'c', 'f', '7']
def restW : List Char := ['a', 't', ' ', 'l', 'o', 'o', 'p', '.', 'e', 'x', 'a', 'm', 'p', 'l', 'e', '/', 'g', '0', '1', '1', '1', '1', '/', 'l', 'a', 'w', 's', '.', 'F', 'n', 'S', 'h', 'e', 'l', 'v', 'e', 's', ' ', 'l', 'o', 'o', 'p', '.', 'e', 'x', 'a', 'm', 'p', 'l', 'e', '/', 'g', '0', '1', '1', '1', '1', '/', 'l', 'a', 'w', 's', '.', 'F', 'n', 'A', 'g', 'e', 's', ' ', 'l', 'o', 'o', 'p', '.', 'e', 'x', 'a', 'm', 'p', 'l', 'e', '/', 'g', '0', '1', '1', '1', '1', '/', 'l', 'a', 'w', 's', '.', 'F', 'n', 'F', 'r', 'e', 's', 'h']
set_option maxRecDepth 100000 in
theorem head_is : Try.prog.initOrder = String.ofList (['h', 'a', 'r', 'n', 'e', 's', 's'] ++ ' ' :: (sumW ++ ' ' :: (['c', 'u', 't'] ++ ' ' :: restW))) := by kernel_rfl
set_option maxRecDepth 100000 in
theorem sum_ok : isSumSigns sumW = true := by kernel_rfl
theorem head_words : behindMainWord (wordsSigns Try.prog.initOrder.toList) = ['c', 'u', 't'] :: wordsSigns restW := by
  rw [head_is, String.toList_ofList, ws_word _ _ (by decide), ws_word _ _ (by decide), ws_word _ _ (by decide)]
  simp only [behindMainWord, sum_ok, Bool.and_true]
  rfl
set_option maxRecDepth 100000 in
theorem strip_cut (X : List (List Char)) : stripLifts liftWords (['c', 'u', 't'] :: X) = ([], ['c', 'u', 't'] :: X) := by kernel_rfl
theorem lifts_gen (P : Program) (X : List (List Char)) (h : behindMainWord (wordsSigns P.initOrder.toList) = ['c', 'u', 't'] :: X) : P.headLifts = [] := by
  unfold Program.headLifts
  rw [h, strip_cut]
  rfl
theorem enters_gen (P : Program) (X : List (List Char)) (h : behindMainWord (wordsSigns P.initOrder.toList) = ['c', 'u', 't'] :: X) (h1 : P.laysLater = false) (h2 : P.bearsReflect = false) (h3 : P.doorFits [] = true) : P.mayEnter = true := by
  unfold Program.mayEnter
  rw [h]
  simp only [strip_cut, h1, h2, h3]
  rfl
theorem finals_gen (P : Program) (X : List (List Char)) (h : behindMainWord (wordsSigns P.initOrder.toList) = ['c', 'u', 't'] :: X) : P.liftsFinal = false := by
  unfold Program.liftsFinal
  rw [lifts_gen P X h, h]
  rfl
theorem make_gen (P : Program) (X : List (List Char)) (h : behindMainWord (wordsSigns P.initOrder.toList) = ['c', 'u', 't'] :: X) : P.make = some .cut := by
  unfold Program.make
  rw [h]
  rfl
set_option maxRecDepth 100000 in
theorem enters : Try.prog.mayEnter = true := enters_gen _ _ head_words (by kernel_rfl) (by kernel_rfl) (by kernel_rfl)
theorem no_finals : Try.prog.liftsFinal = false := finals_gen _ _ head_words
theorem makes : Try.prog.make = some .cut := make_gen _ _ head_words
end Go.Proofs.Ytdgfbmilbhckiaa.Ab
end
