/- What the law needs of the texts that it rests on. -/
import Derived.Test.YtpedjcagaeedjaaShFnProfits2
section
namespace Go.Proofs.Ytpedjcagaeedjaa.Ab
open Go Go.RowKit
set_option linter.unusedVariables false
set_option linter.unusedSimpArgs false
set_option maxRecDepth 100000
set_option maxHeartbeats 16000000 in
theorem law_FnProfits (l : List Int) (hb : ∀ x ∈ l, 0 ≤ x ∧ x ≤ 255) :
    AC Try.prog 3 [.slice (some ⟨0, 0, none⟩) l.length 0] [⟨.ro, 5, l.map (Value.int .u8)⟩] fun r _ => r = .bool true := by
  refine ac_of_run mixed ok_laws_FnProfits (by simp) (go_start _ _ _ ?_)
  simp (config := {implicitDefEqProofs := false, maxDischargeDepth := 20}) (disch := first | omega | (simp only [lenE]; done) | (simp only [lenE]; omega) | rfl | (simp only [lenE, markR_len]; done) | (simp only [lenE, markR_len]; omega)) only [runE, mapE, listE, initT_5, initT_6, initT_7, initT_8, resV, oneV, binA, unA, reduceCtorEq, Nat.reduceEqDiff, Nat.reduceAdd, Nat.reduceLT, Nat.reduceLeDiff, Nat.reduceMul, Nat.reduceSub, ↓reduceIte, decide_true, decide_false, Bool.true_eq_false, Bool.false_eq_true, Bool.not_true, Bool.not_false, if_true, if_false, and_true, true_and, memE, celE, w64, Nat.zero_add, Nat.add_zero, Nat.mul_one, putL, and_self, ldn, c_laws_FnProfits, r_laws_FnProfits]
  refine callH_rc (rBigM_rc _ 0 0 l.length) ?_
  rintro r new ⟨rfl, rfl⟩
  by_cases hbig : 65536 < l.length
  · simp (config := {implicitDefEqProofs := false, maxDischargeDepth := 20}) (disch := first | omega | (simp only [lenE]; done) | (simp only [lenE]; omega) | rfl | (simp only [lenE, markR_len]; done) | (simp only [lenE, markR_len]; omega)) only [runE, mapE, listE, initT_5, initT_6, initT_7, initT_8, resV, oneV, binA, unA, reduceCtorEq, Nat.reduceEqDiff, Nat.reduceAdd, Nat.reduceLT, Nat.reduceLeDiff, Nat.reduceMul, Nat.reduceSub, ↓reduceIte, decide_true, decide_false, Bool.true_eq_false, Bool.false_eq_true, Bool.not_true, Bool.not_false, if_true, if_false, and_true, true_and, memE, celE, w64, Nat.zero_add, Nat.add_zero, Nat.mul_one, putL, and_self, ldn, decide_eq_true hbig]
  have B : BytesA [⟨.ro, 5, l.map (Value.int .u8)⟩] 0 l := ⟨⟨.ro, by simp, rfl⟩, hb, by omega⟩
  obtain ⟨M, hM0⟩ : ∃ M : Mem, M = [⟨.ro, 5, l.map (Value.int .u8)⟩] := ⟨_, rfl⟩
  rw [← hM0] at B
  rw [List.append_nil, ← hM0]
  clear hM0
  simp (config := {implicitDefEqProofs := false, maxDischargeDepth := 20}) (disch := first | omega | (simp only [lenE]; done) | (simp only [lenE]; omega) | rfl | (simp only [lenE, markR_len]; done) | (simp only [lenE, markR_len]; omega)) only [runE, mapE, listE, initT_5, initT_6, initT_7, initT_8, resV, oneV, binA, unA, reduceCtorEq, Nat.reduceEqDiff, Nat.reduceAdd, Nat.reduceLT, Nat.reduceLeDiff, Nat.reduceMul, Nat.reduceSub, ↓reduceIte, decide_true, decide_false, Bool.true_eq_false, Bool.false_eq_true, Bool.not_true, Bool.not_false, if_true, if_false, and_true, true_and, memE, celE, w64, Nat.zero_add, Nat.add_zero, Nat.mul_one, putL, and_self, ldn, decide_eq_false hbig]
  refine callH_rc (DrawSellerProfit_rc _ 0 0 l B) ?_
  rintro r new ⟨nr, p, u, ⟨c, q, rfl⟩, hm⟩
  have iu : IntsA (M ++ new) u p.w := by
    obtain ⟨u2, e2, h2⟩ := hm.here
    have : u = u2 := by simpa [mkV] using e2
    rw [this]; exact h2
  obtain ⟨N0, hN⟩ : ∃ N, N = M ++ new := ⟨_, rfl⟩
  rw [← hN] at iu ⊢
  clear hN B hm nr
  have oc := ones_mk (p := p) (u := u) iu
  have s1 : stA (N0 ++ [⟨.own, 26, [.slice none 0 0, .int .i64 0, .int .i64 0, .int .i64 0]⟩] ++ [⟨.own, 28, [.int .i64 0, .int .i64 0, .int .i64 0]⟩]) N0.length 0 [u, .int .i64 p.price, .int .i64 p.make, .int .i64 p.left] = some (N0 ++ [⟨.own, 26, mkC p u⟩] ++ [⟨.own, 28, [.int .i64 0, .int .i64 0, .int .i64 0]⟩]) := by
    have h0 : OwnB (N0 ++ [(⟨.own, 26, [.slice none 0 0, .int .i64 0, .int .i64 0, .int .i64 0]⟩ : Blk)] ++ [⟨.own, 28, [.int .i64 0, .int .i64 0, .int .i64 0]⟩]) N0.length 26 [.slice none 0 0, .int .i64 0, .int .i64 0, .int .i64 0] := (OwnB.here rfl).ext _
    rw [h0.st (by simp) oc]
    simp [putL]
  have s2 : stA (N0 ++ [⟨.own, 26, mkC p u⟩] ++ [⟨.own, 28, [.int .i64 0, .int .i64 0, .int .i64 0]⟩]) (N0.length + 1) 0 [.int .i64 c.pay, .int .i64 c.back, .int .i64 c.share] = some (N0 ++ [⟨.own, 26, mkC p u⟩] ++ [⟨.own, 28, ctL c⟩]) := by
    have h0 : OwnB (N0 ++ [(⟨.own, 26, mkC p u⟩ : Blk)] ++ [⟨.own, 28, [.int .i64 0, .int .i64 0, .int .i64 0]⟩]) (N0.length + 1) 28 [.int .i64 0, .int .i64 0, .int .i64 0] := OwnB.here (by simp)
    rw [h0.st (by simp) rfl]
    simp [putL]
  have b3 : OwnB (N0 ++ [⟨.own, 26, mkC p u⟩] ++ [⟨.own, 28, ctL c⟩]) N0.length 26 (mkC p u) := (OwnB.here rfl).ext _
  have b4 : OwnB (N0 ++ [⟨.own, 26, mkC p u⟩] ++ [⟨.own, 28, ctL c⟩]) (N0.length + 1) 28 (ctL c) := OwnB.here (by simp)
  have iu : IntsA (N0 ++ [⟨.own, 26, mkC p u⟩] ++ [⟨.own, 28, ctL c⟩]) u p.w := (iu.ext _).ext _
  simp (config := {implicitDefEqProofs := false, maxDischargeDepth := 20}) (disch := first | omega | (simp only [lenE]; done) | (simp only [lenE]; omega) | rfl | (simp only [lenE, markR_len]; done) | (simp only [lenE, markR_len]; omega)) only [runE, mapE, listE, initT_5, initT_6, initT_7, initT_8, resV, oneV, binA, unA, reduceCtorEq, Nat.reduceEqDiff, Nat.reduceAdd, Nat.reduceLT, Nat.reduceLeDiff, Nat.reduceMul, Nat.reduceSub, ↓reduceIte, decide_true, decide_false, Bool.true_eq_false, Bool.false_eq_true, Bool.not_true, Bool.not_false, if_true, if_false, and_true, true_and, memE, celE, w64, Nat.zero_add, Nat.add_zero, Nat.mul_one, putL, and_self, ldn, Bool.and_self, Bool.and_true, Bool.true_and, Bool.and_false, Bool.false_and, Bool.or_false, Bool.false_or, ext_2_0, ext_2_1, ext_3_0, ext_3_1, ext_3_2, bne_self_eq_false, beq_self_eq_true, goG_undef, Bool.not_true, Bool.not_false, stP_aggL, s1, s2, b3.mk4, b4.mk3]
  clear s1 s2
  generalize N0 ++ [(⟨.own, 26, mkC p u⟩ : Blk)] ++ [(⟨.own, 28, ctL c⟩ : Blk)] = N1 at *
  generalize N0.length = bm at *
  clear oc
  obtain ⟨sp, hsp⟩ : ∃ t, t = (if ordC p c q then selP p c q.toNat else 0) := ⟨_, rfl⟩
  obtain ⟨mp, hmp⟩ : ∃ t, t = (if ordC p c q then makP p c q.toNat else 0) := ⟨_, rfl⟩
  obtain ⟨jp, hjp⟩ : ∃ t, t = (if ordM p q then joiP p q.toNat else 0) := ⟨_, rfl⟩
  obtain ⟨sa, hsa⟩ : ∃ t, t = (if ordM p q then sal p.w q.toNat else 0) := ⟨_, rfl⟩
  obtain ⟨ok, hok⟩ : ∃ t, t = ordC p c q := ⟨_, rfl⟩
  obtain ⟨o2, ho2⟩ : ∃ t, t = ordM p q := ⟨_, rfl⟩
  obtain ⟨gd, hgd⟩ : ∃ t, t = p.good := ⟨_, rfl⟩
  obtain ⟨lj, hlj⟩ : ∃ t, t = jpsA p := ⟨_, rfl⟩
  obtain ⟨bo, hbo⟩ : ∃ t, t = (if p.good then (joiO p : Int) else 0) := ⟨_, rfl⟩
  obtain ⟨mi, hmi⟩ : ∃ t, t = (if quoOk p then (quoO p : Int) else 0) := ⟨_, rfl⟩
  obtain ⟨qo, hqo⟩ : ∃ t, t = quoOk p := ⟨_, rfl⟩
  obtain ⟨pl, hpl⟩ : ∃ t, t = plainsA p := ⟨_, rfl⟩
  obtain ⟨py, hpy⟩ : ∃ t, t = (if p.good then bestPl p else 0) := ⟨_, rfl⟩
  have P1 : ok = true → o2 = true := fun h => by
    rw [hok, ordC, bothM] at h
    rw [ho2, ordM]
    simp only [Bool.and_eq_true] at h ⊢
    exact ⟨h.1.1, h.2⟩
  have P2 : ok = true → sp + mp = jp := fun h => by
    have h2 := P1 h
    rw [hok] at h
    rw [ho2] at h2
    rw [hsp, hmp, hjp, if_pos h, if_pos h, if_pos h2, both_P]
  have P3 : -8553600 ≤ sp ∧ sp ≤ 8553600 ∧ -8553600 ≤ mp ∧ mp ≤ 8553600 := by
    by_cases h : ordC p c q = true
    · have h2 := h
      rw [ordC, Bool.and_eq_true, bothM_iff, inM_iff] at h2
      have a1 := sel_bd h2.1.1 h2.1.2 (q := q.toNat) (by omega)
      have a2 := mak_bd h2.1.1 h2.1.2 (q := q.toNat) (by omega)
      rw [hsp, hmp, if_pos h, if_pos h]; omega
    · rw [hsp, hmp, if_neg h, if_neg h]; omega
  have P4 : gd = true → qo = true → mi = bo := fun h1 h2 => by
    rw [hgd] at h1
    rw [hqo] at h2
    rw [hmi, hbo, if_pos h1, if_pos h2, quo_joi (goodM_iff.1 h1)]
  have C1a : ∀ M, IntsA M u p.w → RC Try.prog 7 [mkV p u, ctV c, .int .i64 q] M (AnsV (.tuple #[.int .i64 sp, .bool ok])) := fun M h => by rw [hsp, hok]; exact implSellerProfit_rc _ _ p c q (MkA.mk h)
  have C1b : ∀ M, IntsA M u p.w → RC Try.prog 9 [mkV p u, ctV c, .int .i64 q] M (AnsV (.tuple #[.int .i64 mp, .bool ok])) := fun M h => by rw [hmp, hok]; exact implMakerProfit_rc _ _ p c q (MkA.mk h)
  have C1c : ∀ M, IntsA M u p.w → RC Try.prog 11 [mkV p u, .int .i64 q] M (AnsV (.tuple #[.int .i64 jp, .bool o2])) := fun M h => by rw [hjp, ho2]; exact implJointProfit_rc _ _ p q (MkA.mk h)
  have C1d : ∀ M, IntsA M u p.w → RC Try.prog 13 [mkV p u, .int .i64 q] M (AnsV (.tuple #[.int .i64 sa, .bool o2])) := fun M h => by rw [hsa, ho2]; exact implSalesOf_rc _ _ p q (MkA.mk h)
  have C1e : ∀ M, IntsA M u p.w → RC Try.prog 15 [mkV p u] M (AnsO M (IntsO lj) fun v => .tuple #[v, .bool gd]) := fun M h => by rw [hlj, hgd]; exact implJointProfits_rc _ _ p (MkA.mk h)
  have C1f : ∀ M, IntsA M u p.w → RC Try.prog 19 [mkV p u] M (AnsV (.tuple #[.int .i64 bo, .bool gd])) := fun M h => by rw [hbo, hgd]; exact implJointOrder_rc _ _ p (MkA.mk h)
  have C1g : ∀ M, IntsA M u p.w → RC Try.prog 21 [mkV p u] M (AnsV (.tuple #[.int .i64 mi, .bool qo])) := fun M h => by rw [hmi, hqo]; exact implQuotient_rc _ _ p (MkA.mk h)
  have C1h : ∀ M, IntsA M u p.w → RC Try.prog 23 [mkV p u] M (AnsO M (PairsO 43 pl) fun v => .tuple #[v, .bool gd]) := fun M h => by rw [hpl, hgd]; exact implPlainContracts_rc _ _ p (MkA.mk h)
  have C1i : ∀ M, IntsA M u p.w → RC Try.prog 26 [mkV p u] M (AnsV (.tuple #[.int .i64 py, .bool gd])) := fun M h => by rw [hpy, hgd]; exact implBestPlain_rc _ _ p (MkA.mk h)
  have C2a : ∀ M, IntsA M u p.w → RC Try.prog 8 [mkV p u, ctV c, .int .i64 q] M (AnsV (.tuple #[.int .i64 sp, .bool ok])) := fun M h => by rw [hsp, hok]; exact specSellerProfit_rc _ _ p c q (MkA.mk h)
  have C2b : ∀ M, IntsA M u p.w → RC Try.prog 10 [mkV p u, ctV c, .int .i64 q] M (AnsV (.tuple #[.int .i64 mp, .bool ok])) := fun M h => by rw [hmp, hok]; exact specMakerProfit_rc _ _ p c q (MkA.mk h)
  have C2c : ∀ M, IntsA M u p.w → RC Try.prog 12 [mkV p u, .int .i64 q] M (AnsV (.tuple #[.int .i64 jp, .bool o2])) := fun M h => by rw [hjp, ho2]; exact specJointProfit_rc _ _ p q (MkA.mk h)
  have C2d : ∀ M, IntsA M u p.w → RC Try.prog 14 [mkV p u, .int .i64 q] M (AnsV (.tuple #[.int .i64 sa, .bool o2])) := fun M h => by rw [hsa, ho2]; exact specSalesOf_rc _ _ p q (MkA.mk h)
  have C2e : ∀ M, IntsA M u p.w → RC Try.prog 16 [mkV p u] M (AnsO M (IntsO lj) fun v => .tuple #[v, .bool gd]) := fun M h => by rw [hlj, hgd]; exact specJointProfits_rc _ _ p (MkA.mk h)
  have C2f : ∀ M, IntsA M u p.w → RC Try.prog 20 [mkV p u] M (AnsV (.tuple #[.int .i64 bo, .bool gd])) := fun M h => by rw [hbo, hgd]; exact specJointOrder_rc _ _ p (MkA.mk h)
  have C2g : ∀ M, IntsA M u p.w → RC Try.prog 22 [mkV p u] M (AnsV (.tuple #[.int .i64 mi, .bool qo])) := fun M h => by rw [hmi, hqo]; exact specQuotient_rc _ _ p (MkA.mk h)
  have C2h : ∀ M, IntsA M u p.w → RC Try.prog 24 [mkV p u] M (AnsO M (PairsO 43 pl) fun v => .tuple #[v, .bool gd]) := fun M h => by rw [hpl, hgd]; exact specPlainContracts_rc _ _ p (MkA.mk h)
  have C2i : ∀ M, IntsA M u p.w → RC Try.prog 27 [mkV p u] M (AnsV (.tuple #[.int .i64 py, .bool gd])) := fun M h => by rw [hpy, hgd]; exact specBestPlain_rc _ _ p (MkA.mk h)
  have C1m : ∀ M, IntsA M u p.w → RC Try.prog 17 [mkV p u] M (AnsV (.bool gd)) := fun M h => by rw [hgd]; exact implIsMarket_rc _ _ p (MkA.mk h)
  have G : gd = true → GoodM p ∧ lj = fL (joiP p) 9 ∧ bo = joiO p ∧ pl = plainsL p (plainN p) ∧ py = bestPl p := fun h => by
    rw [hgd] at h
    refine ⟨goodM_iff.1 h, ?_, ?_, ?_, ?_⟩
    · rw [hlj, jpsA, if_pos h]
    · rw [hbo, if_pos h]
    · rw [hpl, plainsA, if_pos h]
    · rw [hpy, if_pos h]
  have G0 : gd = false → lj.length ≤ 100 ∧ pl.length ≤ 1000 := fun h => by
    rw [hgd] at h
    rw [hlj, jpsA, hpl, plainsA, h]
    simp
  clear hsp hmp hjp hsa hok ho2 hgd hlj hbo hmi hqo hpl hpy
  first | refine callH_rc (C1a _ iu) ?_ | refine rcallH_rc (C1a _ iu) ?_
  rintro r new ⟨rfl, nr⟩
  have iu := iu.ext new
  have b3 := b3.ext new
  have b4 := b4.ext new
  obtain ⟨N2, hN⟩ : ∃ N, N = N1 ++ new := ⟨_, rfl⟩
  rw [← hN] at iu b3 b4 ⊢
  clear hN
  clear nr
  try simp (config := {implicitDefEqProofs := false, maxDischargeDepth := 20}) (disch := first | omega | (simp only [lenE]; done) | (simp only [lenE]; omega) | rfl | (simp only [lenE, markR_len]; done) | (simp only [lenE, markR_len]; omega)) only [runE, mapE, listE, initT_5, initT_6, initT_7, initT_8, resV, oneV, binA, unA, reduceCtorEq, Nat.reduceEqDiff, Nat.reduceAdd, Nat.reduceLT, Nat.reduceLeDiff, Nat.reduceMul, Nat.reduceSub, ↓reduceIte, decide_true, decide_false, Bool.true_eq_false, Bool.false_eq_true, Bool.not_true, Bool.not_false, if_true, if_false, and_true, true_and, memE, celE, w64, Nat.zero_add, Nat.add_zero, Nat.mul_one, putL, and_self, ldn, Bool.and_self, Bool.and_true, Bool.true_and, Bool.and_false, Bool.false_and, Bool.or_false, Bool.false_or, ext_2_0, ext_2_1, ext_3_0, ext_3_1, ext_3_2, bne_self_eq_false, beq_self_eq_true, goG_undef, Bool.not_true, Bool.not_false, stP_aggL, b3.mk4, b4.mk3]
  first | refine callH_rc (C2a _ iu) ?_ | refine rcallH_rc (C2a _ iu) ?_
  rintro r new ⟨rfl, nr⟩
  have iu := iu.ext new
  have b3 := b3.ext new
  have b4 := b4.ext new
  obtain ⟨N3, hN⟩ : ∃ N, N = N2 ++ new := ⟨_, rfl⟩
  rw [← hN] at iu b3 b4 ⊢
  clear hN
  clear nr
  try simp (config := {implicitDefEqProofs := false, maxDischargeDepth := 20}) (disch := first | omega | (simp only [lenE]; done) | (simp only [lenE]; omega) | rfl | (simp only [lenE, markR_len]; done) | (simp only [lenE, markR_len]; omega)) only [runE, mapE, listE, initT_5, initT_6, initT_7, initT_8, resV, oneV, binA, unA, reduceCtorEq, Nat.reduceEqDiff, Nat.reduceAdd, Nat.reduceLT, Nat.reduceLeDiff, Nat.reduceMul, Nat.reduceSub, ↓reduceIte, decide_true, decide_false, Bool.true_eq_false, Bool.false_eq_true, Bool.not_true, Bool.not_false, if_true, if_false, and_true, true_and, memE, celE, w64, Nat.zero_add, Nat.add_zero, Nat.mul_one, putL, and_self, ldn, Bool.and_self, Bool.and_true, Bool.true_and, Bool.and_false, Bool.false_and, Bool.or_false, Bool.false_or, ext_2_0, ext_2_1, ext_3_0, ext_3_1, ext_3_2, bne_self_eq_false, beq_self_eq_true, goG_undef, Bool.not_true, Bool.not_false, stP_aggL, b3.mk4, b4.mk3]
  first | refine callH_rc (C1b _ iu) ?_ | refine rcallH_rc (C1b _ iu) ?_
  rintro r new ⟨rfl, nr⟩
  have iu := iu.ext new
  have b3 := b3.ext new
  have b4 := b4.ext new
  obtain ⟨N4, hN⟩ : ∃ N, N = N3 ++ new := ⟨_, rfl⟩
  rw [← hN] at iu b3 b4 ⊢
  clear hN
  clear nr
  try simp (config := {implicitDefEqProofs := false, maxDischargeDepth := 20}) (disch := first | omega | (simp only [lenE]; done) | (simp only [lenE]; omega) | rfl | (simp only [lenE, markR_len]; done) | (simp only [lenE, markR_len]; omega)) only [runE, mapE, listE, initT_5, initT_6, initT_7, initT_8, resV, oneV, binA, unA, reduceCtorEq, Nat.reduceEqDiff, Nat.reduceAdd, Nat.reduceLT, Nat.reduceLeDiff, Nat.reduceMul, Nat.reduceSub, ↓reduceIte, decide_true, decide_false, Bool.true_eq_false, Bool.false_eq_true, Bool.not_true, Bool.not_false, if_true, if_false, and_true, true_and, memE, celE, w64, Nat.zero_add, Nat.add_zero, Nat.mul_one, putL, and_self, ldn, Bool.and_self, Bool.and_true, Bool.true_and, Bool.and_false, Bool.false_and, Bool.or_false, Bool.false_or, ext_2_0, ext_2_1, ext_3_0, ext_3_1, ext_3_2, bne_self_eq_false, beq_self_eq_true, goG_undef, Bool.not_true, Bool.not_false, stP_aggL, b3.mk4, b4.mk3]
  first | refine callH_rc (C2b _ iu) ?_ | refine rcallH_rc (C2b _ iu) ?_
  rintro r new ⟨rfl, nr⟩
  have iu := iu.ext new
  have b3 := b3.ext new
  have b4 := b4.ext new
  obtain ⟨N5, hN⟩ : ∃ N, N = N4 ++ new := ⟨_, rfl⟩
  rw [← hN] at iu b3 b4 ⊢
  clear hN
  clear nr
  try simp (config := {implicitDefEqProofs := false, maxDischargeDepth := 20}) (disch := first | omega | (simp only [lenE]; done) | (simp only [lenE]; omega) | rfl | (simp only [lenE, markR_len]; done) | (simp only [lenE, markR_len]; omega)) only [runE, mapE, listE, initT_5, initT_6, initT_7, initT_8, resV, oneV, binA, unA, reduceCtorEq, Nat.reduceEqDiff, Nat.reduceAdd, Nat.reduceLT, Nat.reduceLeDiff, Nat.reduceMul, Nat.reduceSub, ↓reduceIte, decide_true, decide_false, Bool.true_eq_false, Bool.false_eq_true, Bool.not_true, Bool.not_false, if_true, if_false, and_true, true_and, memE, celE, w64, Nat.zero_add, Nat.add_zero, Nat.mul_one, putL, and_self, ldn, Bool.and_self, Bool.and_true, Bool.true_and, Bool.and_false, Bool.false_and, Bool.or_false, Bool.false_or, ext_2_0, ext_2_1, ext_3_0, ext_3_1, ext_3_2, bne_self_eq_false, beq_self_eq_true, goG_undef, Bool.not_true, Bool.not_false, stP_aggL, b3.mk4, b4.mk3]
  first | refine callH_rc (C1c _ iu) ?_ | refine rcallH_rc (C1c _ iu) ?_
  rintro r new ⟨rfl, nr⟩
  have iu := iu.ext new
  have b3 := b3.ext new
  have b4 := b4.ext new
  obtain ⟨N6, hN⟩ : ∃ N, N = N5 ++ new := ⟨_, rfl⟩
  rw [← hN] at iu b3 b4 ⊢
  clear hN
  clear nr
  try simp (config := {implicitDefEqProofs := false, maxDischargeDepth := 20}) (disch := first | omega | (simp only [lenE]; done) | (simp only [lenE]; omega) | rfl | (simp only [lenE, markR_len]; done) | (simp only [lenE, markR_len]; omega)) only [runE, mapE, listE, initT_5, initT_6, initT_7, initT_8, resV, oneV, binA, unA, reduceCtorEq, Nat.reduceEqDiff, Nat.reduceAdd, Nat.reduceLT, Nat.reduceLeDiff, Nat.reduceMul, Nat.reduceSub, ↓reduceIte, decide_true, decide_false, Bool.true_eq_false, Bool.false_eq_true, Bool.not_true, Bool.not_false, if_true, if_false, and_true, true_and, memE, celE, w64, Nat.zero_add, Nat.add_zero, Nat.mul_one, putL, and_self, ldn, Bool.and_self, Bool.and_true, Bool.true_and, Bool.and_false, Bool.false_and, Bool.or_false, Bool.false_or, ext_2_0, ext_2_1, ext_3_0, ext_3_1, ext_3_2, bne_self_eq_false, beq_self_eq_true, goG_undef, Bool.not_true, Bool.not_false, stP_aggL, b3.mk4, b4.mk3]
  first | refine callH_rc (C2c _ iu) ?_ | refine rcallH_rc (C2c _ iu) ?_
  rintro r new ⟨rfl, nr⟩
  have iu := iu.ext new
  have b3 := b3.ext new
  have b4 := b4.ext new
  obtain ⟨N7, hN⟩ : ∃ N, N = N6 ++ new := ⟨_, rfl⟩
  rw [← hN] at iu b3 b4 ⊢
  clear hN
  clear nr
  try simp (config := {implicitDefEqProofs := false, maxDischargeDepth := 20}) (disch := first | omega | (simp only [lenE]; done) | (simp only [lenE]; omega) | rfl | (simp only [lenE, markR_len]; done) | (simp only [lenE, markR_len]; omega)) only [runE, mapE, listE, initT_5, initT_6, initT_7, initT_8, resV, oneV, binA, unA, reduceCtorEq, Nat.reduceEqDiff, Nat.reduceAdd, Nat.reduceLT, Nat.reduceLeDiff, Nat.reduceMul, Nat.reduceSub, ↓reduceIte, decide_true, decide_false, Bool.true_eq_false, Bool.false_eq_true, Bool.not_true, Bool.not_false, if_true, if_false, and_true, true_and, memE, celE, w64, Nat.zero_add, Nat.add_zero, Nat.mul_one, putL, and_self, ldn, Bool.and_self, Bool.and_true, Bool.true_and, Bool.and_false, Bool.false_and, Bool.or_false, Bool.false_or, ext_2_0, ext_2_1, ext_3_0, ext_3_1, ext_3_2, bne_self_eq_false, beq_self_eq_true, goG_undef, Bool.not_true, Bool.not_false, stP_aggL, b3.mk4, b4.mk3]
  cases ok with
  | true =>
    as_aux_lemma =>
    have hoo := P1 rfl
    have hsum := P2 rfl
    subst hoo
    try simp (config := {implicitDefEqProofs := false, maxDischargeDepth := 20}) (disch := first | omega | (simp only [lenE]; done) | (simp only [lenE]; omega) | rfl | (simp only [lenE, markR_len]; done) | (simp only [lenE, markR_len]; omega)) only [runE, mapE, listE, initT_5, initT_6, initT_7, initT_8, resV, oneV, binA, unA, reduceCtorEq, Nat.reduceEqDiff, Nat.reduceAdd, Nat.reduceLT, Nat.reduceLeDiff, Nat.reduceMul, Nat.reduceSub, ↓reduceIte, decide_true, decide_false, Bool.true_eq_false, Bool.false_eq_true, Bool.not_true, Bool.not_false, if_true, if_false, and_true, true_and, memE, celE, w64, Nat.zero_add, Nat.add_zero, Nat.mul_one, putL, and_self, ldn, Bool.and_self, Bool.and_true, Bool.true_and, Bool.and_false, Bool.false_and, Bool.or_false, Bool.false_or, ext_2_0, ext_2_1, ext_3_0, ext_3_1, ext_3_2, bne_self_eq_false, beq_self_eq_true, goG_undef, Bool.not_true, Bool.not_false, stP_aggL, b3.mk4, b4.mk3]
    first | refine callH_rc (C1d _ iu) ?_ | refine rcallH_rc (C1d _ iu) ?_
    rintro r new ⟨rfl, nr⟩
    have iu := iu.ext new
    have b3 := b3.ext new
    have b4 := b4.ext new
    obtain ⟨N8, hN⟩ : ∃ N, N = N7 ++ new := ⟨_, rfl⟩
    rw [← hN] at iu b3 b4 ⊢
    clear hN
    clear nr
    try simp (config := {implicitDefEqProofs := false, maxDischargeDepth := 20}) (disch := first | omega | (simp only [lenE]; done) | (simp only [lenE]; omega) | rfl | (simp only [lenE, markR_len]; done) | (simp only [lenE, markR_len]; omega)) only [runE, mapE, listE, initT_5, initT_6, initT_7, initT_8, resV, oneV, binA, unA, reduceCtorEq, Nat.reduceEqDiff, Nat.reduceAdd, Nat.reduceLT, Nat.reduceLeDiff, Nat.reduceMul, Nat.reduceSub, ↓reduceIte, decide_true, decide_false, Bool.true_eq_false, Bool.false_eq_true, Bool.not_true, Bool.not_false, if_true, if_false, and_true, true_and, memE, celE, w64, Nat.zero_add, Nat.add_zero, Nat.mul_one, putL, and_self, ldn, Bool.and_self, Bool.and_true, Bool.true_and, Bool.and_false, Bool.false_and, Bool.or_false, Bool.false_or, ext_2_0, ext_2_1, ext_3_0, ext_3_1, ext_3_2, bne_self_eq_false, beq_self_eq_true, goG_undef, Bool.not_true, Bool.not_false, stP_aggL, b3.mk4, b4.mk3]
    first | refine callH_rc (C2d _ iu) ?_ | refine rcallH_rc (C2d _ iu) ?_
    rintro r new ⟨rfl, nr⟩
    have iu := iu.ext new
    have b3 := b3.ext new
    have b4 := b4.ext new
    obtain ⟨N9, hN⟩ : ∃ N, N = N8 ++ new := ⟨_, rfl⟩
    rw [← hN] at iu b3 b4 ⊢
    clear hN
    clear nr
    try simp (config := {implicitDefEqProofs := false, maxDischargeDepth := 20}) (disch := first | omega | (simp only [lenE]; done) | (simp only [lenE]; omega) | rfl | (simp only [lenE, markR_len]; done) | (simp only [lenE, markR_len]; omega)) only [runE, mapE, listE, initT_5, initT_6, initT_7, initT_8, resV, oneV, binA, unA, reduceCtorEq, Nat.reduceEqDiff, Nat.reduceAdd, Nat.reduceLT, Nat.reduceLeDiff, Nat.reduceMul, Nat.reduceSub, ↓reduceIte, decide_true, decide_false, Bool.true_eq_false, Bool.false_eq_true, Bool.not_true, Bool.not_false, if_true, if_false, and_true, true_and, memE, celE, w64, Nat.zero_add, Nat.add_zero, Nat.mul_one, putL, and_self, ldn, Bool.and_self, Bool.and_true, Bool.true_and, Bool.and_false, Bool.false_and, Bool.or_false, Bool.false_or, ext_2_0, ext_2_1, ext_3_0, ext_3_1, ext_3_2, bne_self_eq_false, beq_self_eq_true, goG_undef, Bool.not_true, Bool.not_false, stP_aggL, b3.mk4, b4.mk3]
    first | refine callH_rc (C1e _ iu) ?_ | refine rcallH_rc (C1e _ iu) ?_
    intro r new hA
    obtain ⟨nr, w9, rfl, hw⟩ := hA
    obtain ⟨-, dL, fL, rfl, -, -, own9⟩ := hw.now
    have iu := iu.ext new
    have b3 := b3.ext new
    have b4 := b4.ext new
    have L := (own9 : OwnR (N9 ++ new) dL lj)
    obtain ⟨N10, hN⟩ : ∃ N, N = N9 ++ new := ⟨_, rfl⟩
    rw [← hN] at iu b3 b4 L ⊢
    clear hN
    clear nr hw own9
    try simp (config := {implicitDefEqProofs := false, maxDischargeDepth := 20}) (disch := first | omega | (simp only [lenE]; done) | (simp only [lenE]; omega) | rfl | (simp only [lenE, markR_len]; done) | (simp only [lenE, markR_len]; omega)) only [runE, mapE, listE, initT_5, initT_6, initT_7, initT_8, resV, oneV, binA, unA, reduceCtorEq, Nat.reduceEqDiff, Nat.reduceAdd, Nat.reduceLT, Nat.reduceLeDiff, Nat.reduceMul, Nat.reduceSub, ↓reduceIte, decide_true, decide_false, Bool.true_eq_false, Bool.false_eq_true, Bool.not_true, Bool.not_false, if_true, if_false, and_true, true_and, memE, celE, w64, Nat.zero_add, Nat.add_zero, Nat.mul_one, putL, and_self, ldn, Bool.and_self, Bool.and_true, Bool.true_and, Bool.and_false, Bool.false_and, Bool.or_false, Bool.false_or, ext_2_0, ext_2_1, ext_3_0, ext_3_1, ext_3_2, bne_self_eq_false, beq_self_eq_true, goG_undef, Bool.not_true, Bool.not_false, stP_aggL, b3.mk4, b4.mk3]
    first | refine callH_rc (C2e _ iu) ?_ | refine rcallH_rc (C2e _ iu) ?_
    intro r new hA
    obtain ⟨nr, w9, rfl, hw⟩ := hA
    obtain ⟨-, dW, fW, rfl, -, -, own9⟩ := hw.now
    have iu := iu.ext new
    have b3 := b3.ext new
    have b4 := b4.ext new
    have L := L.ext new
    have W := (own9 : OwnR (N10 ++ new) dW lj)
    obtain ⟨N11, hN⟩ : ∃ N, N = N10 ++ new := ⟨_, rfl⟩
    rw [← hN] at iu b3 b4 L W ⊢
    clear hN
    clear nr hw own9
    try simp (config := {implicitDefEqProofs := false, maxDischargeDepth := 20}) (disch := first | omega | (simp only [lenE]; done) | (simp only [lenE]; omega) | rfl | (simp only [lenE, markR_len]; done) | (simp only [lenE, markR_len]; omega)) only [runE, mapE, listE, initT_5, initT_6, initT_7, initT_8, resV, oneV, binA, unA, reduceCtorEq, Nat.reduceEqDiff, Nat.reduceAdd, Nat.reduceLT, Nat.reduceLeDiff, Nat.reduceMul, Nat.reduceSub, ↓reduceIte, decide_true, decide_false, Bool.true_eq_false, Bool.false_eq_true, Bool.not_true, Bool.not_false, if_true, if_false, and_true, true_and, memE, celE, w64, Nat.zero_add, Nat.add_zero, Nat.mul_one, putL, and_self, ldn, Bool.and_self, Bool.and_true, Bool.true_and, Bool.and_false, Bool.false_and, Bool.or_false, Bool.false_or, ext_2_0, ext_2_1, ext_3_0, ext_3_1, ext_3_2, bne_self_eq_false, beq_self_eq_true, goG_undef, Bool.not_true, Bool.not_false, stP_aggL, b3.mk4, b4.mk3]
    first | refine callH_rc (C1m _ iu) ?_ | refine rcallH_rc (C1m _ iu) ?_
    rintro r new ⟨rfl, nr⟩
    have iu := iu.ext new
    have b3 := b3.ext new
    have b4 := b4.ext new
    have L := L.ext new
    have W := W.ext new
    obtain ⟨N12, hN⟩ : ∃ N, N = N11 ++ new := ⟨_, rfl⟩
    rw [← hN] at iu b3 b4 L W ⊢
    clear hN
    clear nr
    try simp (config := {implicitDefEqProofs := false, maxDischargeDepth := 20}) (disch := first | omega | (simp only [lenE]; done) | (simp only [lenE]; omega) | rfl | (simp only [lenE, markR_len]; done) | (simp only [lenE, markR_len]; omega)) only [runE, mapE, listE, initT_5, initT_6, initT_7, initT_8, resV, oneV, binA, unA, reduceCtorEq, Nat.reduceEqDiff, Nat.reduceAdd, Nat.reduceLT, Nat.reduceLeDiff, Nat.reduceMul, Nat.reduceSub, ↓reduceIte, decide_true, decide_false, Bool.true_eq_false, Bool.false_eq_true, Bool.not_true, Bool.not_false, if_true, if_false, and_true, true_and, memE, celE, w64, Nat.zero_add, Nat.add_zero, Nat.mul_one, putL, and_self, ldn, Bool.and_self, Bool.and_true, Bool.true_and, Bool.and_false, Bool.false_and, Bool.or_false, Bool.false_or, ext_2_0, ext_2_1, ext_3_0, ext_3_1, ext_3_2, bne_self_eq_false, beq_self_eq_true, goG_undef, Bool.not_true, Bool.not_false, stP_aggL, b3.mk4, b4.mk3]
    have ljb : lj.length ≤ 100 := by
      cases hg : gd with
      | true => rw [(G hg).2.1, fL_len]; omega
      | false => exact (G0 hg).1
    first | refine callH_rc (rIntsM_rc _ _ _ lj (L.ints (by omega) fL) (W.ints (by omega) fW)) ?_ | refine rcallH_rc (rIntsM_rc _ _ _ lj (L.ints (by omega) fL) (W.ints (by omega) fW)) ?_
    rintro r new ⟨rfl, rfl⟩
    rw [List.append_nil]
    try simp (config := {implicitDefEqProofs := false, maxDischargeDepth := 20}) (disch := first | omega | (simp only [lenE]; done) | (simp only [lenE]; omega) | rfl | (simp only [lenE, markR_len]; done) | (simp only [lenE, markR_len]; omega)) only [runE, mapE, listE, initT_5, initT_6, initT_7, initT_8, resV, oneV, binA, unA, reduceCtorEq, Nat.reduceEqDiff, Nat.reduceAdd, Nat.reduceLT, Nat.reduceLeDiff, Nat.reduceMul, Nat.reduceSub, ↓reduceIte, decide_true, decide_false, Bool.true_eq_false, Bool.false_eq_true, Bool.not_true, Bool.not_false, if_true, if_false, and_true, true_and, memE, celE, w64, Nat.zero_add, Nat.add_zero, Nat.mul_one, putL, and_self, ldn, Bool.and_self, Bool.and_true, Bool.true_and, Bool.and_false, Bool.false_and, Bool.or_false, Bool.false_or, ext_2_0, ext_2_1, ext_3_0, ext_3_1, ext_3_2, bne_self_eq_false, beq_self_eq_true, goG_undef, Bool.not_true, Bool.not_false, stP_aggL, b3.mk4, b4.mk3]
    clear W
    first | refine callH_rc (C1f _ iu) ?_ | refine rcallH_rc (C1f _ iu) ?_
    rintro r new ⟨rfl, nr⟩
    have iu := iu.ext new
    have b3 := b3.ext new
    have b4 := b4.ext new
    have L := L.ext new
    obtain ⟨N13, hN⟩ : ∃ N, N = N12 ++ new := ⟨_, rfl⟩
    rw [← hN] at iu b3 b4 L ⊢
    clear hN
    clear nr
    try simp (config := {implicitDefEqProofs := false, maxDischargeDepth := 20}) (disch := first | omega | (simp only [lenE]; done) | (simp only [lenE]; omega) | rfl | (simp only [lenE, markR_len]; done) | (simp only [lenE, markR_len]; omega)) only [runE, mapE, listE, initT_5, initT_6, initT_7, initT_8, resV, oneV, binA, unA, reduceCtorEq, Nat.reduceEqDiff, Nat.reduceAdd, Nat.reduceLT, Nat.reduceLeDiff, Nat.reduceMul, Nat.reduceSub, ↓reduceIte, decide_true, decide_false, Bool.true_eq_false, Bool.false_eq_true, Bool.not_true, Bool.not_false, if_true, if_false, and_true, true_and, memE, celE, w64, Nat.zero_add, Nat.add_zero, Nat.mul_one, putL, and_self, ldn, Bool.and_self, Bool.and_true, Bool.true_and, Bool.and_false, Bool.false_and, Bool.or_false, Bool.false_or, ext_2_0, ext_2_1, ext_3_0, ext_3_1, ext_3_2, bne_self_eq_false, beq_self_eq_true, goG_undef, Bool.not_true, Bool.not_false, stP_aggL, b3.mk4, b4.mk3]
    first | refine callH_rc (C2f _ iu) ?_ | refine rcallH_rc (C2f _ iu) ?_
    rintro r new ⟨rfl, nr⟩
    have iu := iu.ext new
    have b3 := b3.ext new
    have b4 := b4.ext new
    have L := L.ext new
    obtain ⟨N14, hN⟩ : ∃ N, N = N13 ++ new := ⟨_, rfl⟩
    rw [← hN] at iu b3 b4 L ⊢
    clear hN
    clear nr
    try simp (config := {implicitDefEqProofs := false, maxDischargeDepth := 20}) (disch := first | omega | (simp only [lenE]; done) | (simp only [lenE]; omega) | rfl | (simp only [lenE, markR_len]; done) | (simp only [lenE, markR_len]; omega)) only [runE, mapE, listE, initT_5, initT_6, initT_7, initT_8, resV, oneV, binA, unA, reduceCtorEq, Nat.reduceEqDiff, Nat.reduceAdd, Nat.reduceLT, Nat.reduceLeDiff, Nat.reduceMul, Nat.reduceSub, ↓reduceIte, decide_true, decide_false, Bool.true_eq_false, Bool.false_eq_true, Bool.not_true, Bool.not_false, if_true, if_false, and_true, true_and, memE, celE, w64, Nat.zero_add, Nat.add_zero, Nat.mul_one, putL, and_self, ldn, Bool.and_self, Bool.and_true, Bool.true_and, Bool.and_false, Bool.false_and, Bool.or_false, Bool.false_or, ext_2_0, ext_2_1, ext_3_0, ext_3_1, ext_3_2, bne_self_eq_false, beq_self_eq_true, goG_undef, Bool.not_true, Bool.not_false, stP_aggL, b3.mk4, b4.mk3]
    first | refine callH_rc (C1g _ iu) ?_ | refine rcallH_rc (C1g _ iu) ?_
    rintro r new ⟨rfl, nr⟩
    have iu := iu.ext new
    have b3 := b3.ext new
    have b4 := b4.ext new
    have L := L.ext new
    obtain ⟨N15, hN⟩ : ∃ N, N = N14 ++ new := ⟨_, rfl⟩
    rw [← hN] at iu b3 b4 L ⊢
    clear hN
    clear nr
    try simp (config := {implicitDefEqProofs := false, maxDischargeDepth := 20}) (disch := first | omega | (simp only [lenE]; done) | (simp only [lenE]; omega) | rfl | (simp only [lenE, markR_len]; done) | (simp only [lenE, markR_len]; omega)) only [runE, mapE, listE, initT_5, initT_6, initT_7, initT_8, resV, oneV, binA, unA, reduceCtorEq, Nat.reduceEqDiff, Nat.reduceAdd, Nat.reduceLT, Nat.reduceLeDiff, Nat.reduceMul, Nat.reduceSub, ↓reduceIte, decide_true, decide_false, Bool.true_eq_false, Bool.false_eq_true, Bool.not_true, Bool.not_false, if_true, if_false, and_true, true_and, memE, celE, w64, Nat.zero_add, Nat.add_zero, Nat.mul_one, putL, and_self, ldn, Bool.and_self, Bool.and_true, Bool.true_and, Bool.and_false, Bool.false_and, Bool.or_false, Bool.false_or, ext_2_0, ext_2_1, ext_3_0, ext_3_1, ext_3_2, bne_self_eq_false, beq_self_eq_true, goG_undef, Bool.not_true, Bool.not_false, stP_aggL, b3.mk4, b4.mk3]
    first | refine callH_rc (C2g _ iu) ?_ | refine rcallH_rc (C2g _ iu) ?_
    rintro r new ⟨rfl, nr⟩
    have iu := iu.ext new
    have b3 := b3.ext new
    have b4 := b4.ext new
    have L := L.ext new
    obtain ⟨N16, hN⟩ : ∃ N, N = N15 ++ new := ⟨_, rfl⟩
    rw [← hN] at iu b3 b4 L ⊢
    clear hN
    clear nr
    try simp (config := {implicitDefEqProofs := false, maxDischargeDepth := 20}) (disch := first | omega | (simp only [lenE]; done) | (simp only [lenE]; omega) | rfl | (simp only [lenE, markR_len]; done) | (simp only [lenE, markR_len]; omega)) only [runE, mapE, listE, initT_5, initT_6, initT_7, initT_8, resV, oneV, binA, unA, reduceCtorEq, Nat.reduceEqDiff, Nat.reduceAdd, Nat.reduceLT, Nat.reduceLeDiff, Nat.reduceMul, Nat.reduceSub, ↓reduceIte, decide_true, decide_false, Bool.true_eq_false, Bool.false_eq_true, Bool.not_true, Bool.not_false, if_true, if_false, and_true, true_and, memE, celE, w64, Nat.zero_add, Nat.add_zero, Nat.mul_one, putL, and_self, ldn, Bool.and_self, Bool.and_true, Bool.true_and, Bool.and_false, Bool.false_and, Bool.or_false, Bool.false_or, ext_2_0, ext_2_1, ext_3_0, ext_3_1, ext_3_2, bne_self_eq_false, beq_self_eq_true, goG_undef, Bool.not_true, Bool.not_false, stP_aggL, b3.mk4, b4.mk3]
    first | refine callH_rc (C1h _ iu) ?_ | refine rcallH_rc (C1h _ iu) ?_
    intro r new hA
    obtain ⟨nr, w9, rfl, hw⟩ := hA
    obtain ⟨-, dP, fP, rfl, -, -, own9⟩ := hw.now
    have iu := iu.ext new
    have b3 := b3.ext new
    have b4 := b4.ext new
    have L := L.ext new
    have P := (own9 : OwnB (N16 ++ new) dP 43 (pairsC pl))
    obtain ⟨N17, hN⟩ : ∃ N, N = N16 ++ new := ⟨_, rfl⟩
    rw [← hN] at iu b3 b4 L P ⊢
    clear hN
    clear nr hw own9
    try simp (config := {implicitDefEqProofs := false, maxDischargeDepth := 20}) (disch := first | omega | (simp only [lenE]; done) | (simp only [lenE]; omega) | rfl | (simp only [lenE, markR_len]; done) | (simp only [lenE, markR_len]; omega)) only [runE, mapE, listE, initT_5, initT_6, initT_7, initT_8, resV, oneV, binA, unA, reduceCtorEq, Nat.reduceEqDiff, Nat.reduceAdd, Nat.reduceLT, Nat.reduceLeDiff, Nat.reduceMul, Nat.reduceSub, ↓reduceIte, decide_true, decide_false, Bool.true_eq_false, Bool.false_eq_true, Bool.not_true, Bool.not_false, if_true, if_false, and_true, true_and, memE, celE, w64, Nat.zero_add, Nat.add_zero, Nat.mul_one, putL, and_self, ldn, Bool.and_self, Bool.and_true, Bool.true_and, Bool.and_false, Bool.false_and, Bool.or_false, Bool.false_or, ext_2_0, ext_2_1, ext_3_0, ext_3_1, ext_3_2, bne_self_eq_false, beq_self_eq_true, goG_undef, Bool.not_true, Bool.not_false, stP_aggL, b3.mk4, b4.mk3]
    first | refine callH_rc (C2h _ iu) ?_ | refine rcallH_rc (C2h _ iu) ?_
    intro r new hA
    obtain ⟨nr, w9, rfl, hw⟩ := hA
    obtain ⟨-, dQ, fQ, rfl, -, -, own9⟩ := hw.now
    have iu := iu.ext new
    have b3 := b3.ext new
    have b4 := b4.ext new
    have L := L.ext new
    have P := P.ext new
    have Q := (own9 : OwnB (N17 ++ new) dQ 43 (pairsC pl))
    obtain ⟨N18, hN⟩ : ∃ N, N = N17 ++ new := ⟨_, rfl⟩
    rw [← hN] at iu b3 b4 L P Q ⊢
    clear hN
    clear nr hw own9
    try simp (config := {implicitDefEqProofs := false, maxDischargeDepth := 20}) (disch := first | omega | (simp only [lenE]; done) | (simp only [lenE]; omega) | rfl | (simp only [lenE, markR_len]; done) | (simp only [lenE, markR_len]; omega)) only [runE, mapE, listE, initT_5, initT_6, initT_7, initT_8, resV, oneV, binA, unA, reduceCtorEq, Nat.reduceEqDiff, Nat.reduceAdd, Nat.reduceLT, Nat.reduceLeDiff, Nat.reduceMul, Nat.reduceSub, ↓reduceIte, decide_true, decide_false, Bool.true_eq_false, Bool.false_eq_true, Bool.not_true, Bool.not_false, if_true, if_false, and_true, true_and, memE, celE, w64, Nat.zero_add, Nat.add_zero, Nat.mul_one, putL, and_self, ldn, Bool.and_self, Bool.and_true, Bool.true_and, Bool.and_false, Bool.false_and, Bool.or_false, Bool.false_or, ext_2_0, ext_2_1, ext_3_0, ext_3_1, ext_3_2, bne_self_eq_false, beq_self_eq_true, goG_undef, Bool.not_true, Bool.not_false, stP_aggL, b3.mk4, b4.mk3]
    have plb : pl.length ≤ 1000 := by
      cases hg : gd with
      | true => rw [(G hg).2.2.2.1, plainsL_len]; have := plainN_in (G hg).1; omega
      | false => exact (G0 hg).2
    have pA : PairsA N18 (.slice (some ⟨dP, 0, none⟩) pl.length fP) pl := PairsO.in (e := 43) (lo := 0) (hi := dP + 1) ⟨by omega, dP, fP, rfl, by omega, by omega, P⟩
    have qA : PairsA N18 (.slice (some ⟨dQ, 0, none⟩) pl.length fQ) pl := PairsO.in (e := 43) (lo := 0) (hi := dQ + 1) ⟨by omega, dQ, fQ, rfl, by omega, by omega, Q⟩
    first | refine callH_rc (rPairsM_rc _ _ _ pl pA qA) ?_ | refine rcallH_rc (rPairsM_rc _ _ _ pl pA qA) ?_
    clear pA qA
    rintro r new ⟨rfl, nr⟩
    clear Q
    have iu := iu.ext new
    have b3 := b3.ext new
    have b4 := b4.ext new
    have L := L.ext new
    have P := P.ext new
    obtain ⟨N19, hN⟩ : ∃ N, N = N18 ++ new := ⟨_, rfl⟩
    rw [← hN] at iu b3 b4 L P ⊢
    clear hN
    clear nr
    try simp (config := {implicitDefEqProofs := false, maxDischargeDepth := 20}) (disch := first | omega | (simp only [lenE]; done) | (simp only [lenE]; omega) | rfl | (simp only [lenE, markR_len]; done) | (simp only [lenE, markR_len]; omega)) only [runE, mapE, listE, initT_5, initT_6, initT_7, initT_8, resV, oneV, binA, unA, reduceCtorEq, Nat.reduceEqDiff, Nat.reduceAdd, Nat.reduceLT, Nat.reduceLeDiff, Nat.reduceMul, Nat.reduceSub, ↓reduceIte, decide_true, decide_false, Bool.true_eq_false, Bool.false_eq_true, Bool.not_true, Bool.not_false, if_true, if_false, and_true, true_and, memE, celE, w64, Nat.zero_add, Nat.add_zero, Nat.mul_one, putL, and_self, ldn, Bool.and_self, Bool.and_true, Bool.true_and, Bool.and_false, Bool.false_and, Bool.or_false, Bool.false_or, ext_2_0, ext_2_1, ext_3_0, ext_3_1, ext_3_2, bne_self_eq_false, beq_self_eq_true, goG_undef, Bool.not_true, Bool.not_false, stP_aggL, b3.mk4, b4.mk3]
    first | refine callH_rc (C1i _ iu) ?_ | refine rcallH_rc (C1i _ iu) ?_
    rintro r new ⟨rfl, nr⟩
    have iu := iu.ext new
    have b3 := b3.ext new
    have b4 := b4.ext new
    have L := L.ext new
    have P := P.ext new
    obtain ⟨N20, hN⟩ : ∃ N, N = N19 ++ new := ⟨_, rfl⟩
    rw [← hN] at iu b3 b4 L P ⊢
    clear hN
    clear nr
    try simp (config := {implicitDefEqProofs := false, maxDischargeDepth := 20}) (disch := first | omega | (simp only [lenE]; done) | (simp only [lenE]; omega) | rfl | (simp only [lenE, markR_len]; done) | (simp only [lenE, markR_len]; omega)) only [runE, mapE, listE, initT_5, initT_6, initT_7, initT_8, resV, oneV, binA, unA, reduceCtorEq, Nat.reduceEqDiff, Nat.reduceAdd, Nat.reduceLT, Nat.reduceLeDiff, Nat.reduceMul, Nat.reduceSub, ↓reduceIte, decide_true, decide_false, Bool.true_eq_false, Bool.false_eq_true, Bool.not_true, Bool.not_false, if_true, if_false, and_true, true_and, memE, celE, w64, Nat.zero_add, Nat.add_zero, Nat.mul_one, putL, and_self, ldn, Bool.and_self, Bool.and_true, Bool.true_and, Bool.and_false, Bool.false_and, Bool.or_false, Bool.false_or, ext_2_0, ext_2_1, ext_3_0, ext_3_1, ext_3_2, bne_self_eq_false, beq_self_eq_true, goG_undef, Bool.not_true, Bool.not_false, stP_aggL, b3.mk4, b4.mk3]
    first | refine callH_rc (C2i _ iu) ?_ | refine rcallH_rc (C2i _ iu) ?_
    rintro r new ⟨rfl, nr⟩
    have iu := iu.ext new
    have b3 := b3.ext new
    have b4 := b4.ext new
    have L := L.ext new
    have P := P.ext new
    obtain ⟨N21, hN⟩ : ∃ N, N = N20 ++ new := ⟨_, rfl⟩
    rw [← hN] at iu b3 b4 L P ⊢
    clear hN
    clear nr
    try simp (config := {implicitDefEqProofs := false, maxDischargeDepth := 20}) (disch := first | omega | (simp only [lenE]; done) | (simp only [lenE]; omega) | rfl | (simp only [lenE, markR_len]; done) | (simp only [lenE, markR_len]; omega)) only [runE, mapE, listE, initT_5, initT_6, initT_7, initT_8, resV, oneV, binA, unA, reduceCtorEq, Nat.reduceEqDiff, Nat.reduceAdd, Nat.reduceLT, Nat.reduceLeDiff, Nat.reduceMul, Nat.reduceSub, ↓reduceIte, decide_true, decide_false, Bool.true_eq_false, Bool.false_eq_true, Bool.not_true, Bool.not_false, if_true, if_false, and_true, true_and, memE, celE, w64, Nat.zero_add, Nat.add_zero, Nat.mul_one, putL, and_self, ldn, Bool.and_self, Bool.and_true, Bool.true_and, Bool.and_false, Bool.false_and, Bool.or_false, Bool.false_or, ext_2_0, ext_2_1, ext_3_0, ext_3_1, ext_3_2, bne_self_eq_false, beq_self_eq_true, goG_undef, Bool.not_true, Bool.not_false, stP_aggL, b3.mk4, b4.mk3, hsum]
    cases hg : gd with
    | false => simp (config := {implicitDefEqProofs := false, maxDischargeDepth := 20}) (disch := first | omega | (simp only [lenE]; done) | (simp only [lenE]; omega) | rfl | (simp only [lenE, markR_len]; done) | (simp only [lenE, markR_len]; omega)) only [runE, mapE, listE, initT_5, initT_6, initT_7, initT_8, resV, oneV, binA, unA, reduceCtorEq, Nat.reduceEqDiff, Nat.reduceAdd, Nat.reduceLT, Nat.reduceLeDiff, Nat.reduceMul, Nat.reduceSub, ↓reduceIte, decide_true, decide_false, Bool.true_eq_false, Bool.false_eq_true, Bool.not_true, Bool.not_false, if_true, if_false, and_true, true_and, memE, celE, w64, Nat.zero_add, Nat.add_zero, Nat.mul_one, putL, and_self, ldn, Bool.and_self, Bool.and_true, Bool.true_and, Bool.and_false, Bool.false_and, Bool.or_false, Bool.false_or, ext_2_0, ext_2_1, ext_3_0, ext_3_1, ext_3_2, bne_self_eq_false, beq_self_eq_true, goG_undef, Bool.not_true, Bool.not_false, stP_aggL]
    | true =>
      obtain ⟨hG, e1, e2, e3, e4⟩ := G hg
      subst e1
      subst e2
      subst e3
      subst e4
      subst hg
      have hq : qo = true → mi = (joiO p : Int) := fun h => P4 rfl h
      have jl := joiO_le p
      have pn := plainN_in hG
      have hmk := hG.make
      have hpr := hG.price
      cases qo with
      | true =>
        have hmi := hq rfl
        subst hmi
        try simp (config := {implicitDefEqProofs := false, maxDischargeDepth := 20}) (disch := first | omega | (simp only [lenE]; done) | (simp only [lenE]; omega) | rfl | (simp only [lenE, markR_len]; done) | (simp only [lenE, markR_len]; omega)) only [runE, mapE, listE, initT_5, initT_6, initT_7, initT_8, resV, oneV, binA, unA, reduceCtorEq, Nat.reduceEqDiff, Nat.reduceAdd, Nat.reduceLT, Nat.reduceLeDiff, Nat.reduceMul, Nat.reduceSub, ↓reduceIte, decide_true, decide_false, Bool.true_eq_false, Bool.false_eq_true, Bool.not_true, Bool.not_false, if_true, if_false, and_true, true_and, memE, celE, w64, Nat.zero_add, Nat.add_zero, Nat.mul_one, putL, and_self, ldn, Bool.and_self, Bool.and_true, Bool.true_and, Bool.and_false, Bool.false_and, Bool.or_false, Bool.false_or, ext_2_0, ext_2_1, ext_3_0, ext_3_1, ext_3_2, bne_self_eq_false, beq_self_eq_true, goG_undef, Bool.not_true, Bool.not_false, stP_aggL, b3.mk4, b4.mk3]
        have iL := L.ints (by rw [Ab.fL_len]; omega) fL
        rw [fL_len] at iL ⊢
        rw [plainsL_len]
        refine loop_inv mixed (fun s => ∃ a : Nat, a ≤ 9 ∧ s.m = N21 ∧ s.t 3 = .pointer (some ⟨bm, 0, none⟩) ∧ s.t 22 = .slice (some ⟨dL, 0, none⟩) 9 fL ∧ s.t 26 = .int .i64 (joiO p : Nat) ∧ s.t 34 = .slice (some ⟨dP, 0, none⟩) (plainN p) fP ∧ s.t 38 = .int .i64 (bestPl p) ∧ s.t 42 = .int .i64 (a : Int)) (fun s => 15 - (intOf (s.t 42)).toNat) ⟨0, by omega, rfl, rfl, rfl, rfl, rfl, rfl, rfl⟩ ?_
        rintro s ⟨a, ha, tm, t3, t22, t26, t34, t38, t42⟩
        have iB := iL.at_ (joiO p) (by rw [Ab.fL_len]; omega)
        have lB := iL.ld (joiO p) (by rw [Ab.fL_len]; omega)
        rw [fL_at (by omega)] at lB
        have jb := joi_bd hG jl
        by_cases hlt : a < 9
        · have hlt' : (a : Int) < ((9 : Nat) : Int) := by omega
          have iA := iL.at_ a (by rw [Ab.fL_len]; omega)
          have lA := iL.ld a (by rw [Ab.fL_len]; omega)
          rw [fL_at hlt] at lA
          have m1 : ¬ (joiP p (joiO p) < joiP p a) := by have := joi_most p (q := a) (by omega); omega
          by_cases h1 : 1 < a
          · have h1' : (1 : Int) < (a : Int) := by omega
            have am : (a : Int) - 1 = ((a - 1 : Nat) : Int) := by omega
            have am2 : (a : Int) - 2 = ((a - 2 : Nat) : Int) := by omega
            have i1 := iL.at_ (a - 1) (by rw [Ab.fL_len]; omega)
            have l1 := iL.ld (a - 1) (by rw [Ab.fL_len]; omega)
            have i2 := iL.at_ (a - 2) (by rw [Ab.fL_len]; omega)
            have l2 := iL.ld (a - 2) (by rw [Ab.fL_len]; omega)
            rw [fL_at (by omega)] at l1 l2
            have b0 := joi_bd hG (q := a) (by omega)
            have b1 := joi_bd hG (q := a - 1) (by omega)
            have b2 := joi_bd hG (q := a - 2) (by omega)
            have cv := joi_conc hG (a - 2)
            rw [show a - 2 + 2 = a by omega, show a - 2 + 1 = a - 1 by omega] at cv
            have c1 : ¬ (joiP p (a - 1) - joiP p (a - 2) < joiP p a - joiP p (a - 1)) := by omega
            simp (config := {implicitDefEqProofs := false, maxDischargeDepth := 20}) (disch := first | omega | (simp only [lenE]; done) | (simp only [lenE]; omega) | rfl | (simp only [lenE, markR_len]; done) | (simp only [lenE, markR_len]; omega)) only [runE, mapE, listE, initT_5, initT_6, initT_7, initT_8, resV, oneV, binA, unA, reduceCtorEq, Nat.reduceEqDiff, Nat.reduceAdd, Nat.reduceLT, Nat.reduceLeDiff, Nat.reduceMul, Nat.reduceSub, ↓reduceIte, decide_true, decide_false, Bool.true_eq_false, Bool.false_eq_true, Bool.not_true, Bool.not_false, if_true, if_false, and_true, true_and, memE, celE, w64, Nat.zero_add, Nat.add_zero, Nat.mul_one, putL, and_self, ldn, Bool.and_self, Bool.and_true, Bool.true_and, Bool.and_false, Bool.false_and, Bool.or_false, Bool.false_or, ext_2_0, ext_2_1, ext_3_0, ext_3_1, ext_3_2, bne_self_eq_false, beq_self_eq_true, goG_undef, Bool.not_true, Bool.not_false, stP_aggL, b3.mk4, tm, t3, t22, t26, t34, t38, t42, hlt', iA, lA, iB, lB, gt_iff_lt, m1, h1', am, am2, i1, l1, i2, l2, c1]
            exact ⟨⟨a + 1, by omega, by simp⟩, by simp [intOf]; omega⟩
          · have h1' : ¬ ((1 : Int) < (a : Int)) := by omega
            simp (config := {implicitDefEqProofs := false, maxDischargeDepth := 20}) (disch := first | omega | (simp only [lenE]; done) | (simp only [lenE]; omega) | rfl | (simp only [lenE, markR_len]; done) | (simp only [lenE, markR_len]; omega)) only [runE, mapE, listE, initT_5, initT_6, initT_7, initT_8, resV, oneV, binA, unA, reduceCtorEq, Nat.reduceEqDiff, Nat.reduceAdd, Nat.reduceLT, Nat.reduceLeDiff, Nat.reduceMul, Nat.reduceSub, ↓reduceIte, decide_true, decide_false, Bool.true_eq_false, Bool.false_eq_true, Bool.not_true, Bool.not_false, if_true, if_false, and_true, true_and, memE, celE, w64, Nat.zero_add, Nat.add_zero, Nat.mul_one, putL, and_self, ldn, Bool.and_self, Bool.and_true, Bool.true_and, Bool.and_false, Bool.false_and, Bool.or_false, Bool.false_or, ext_2_0, ext_2_1, ext_3_0, ext_3_1, ext_3_2, bne_self_eq_false, beq_self_eq_true, goG_undef, Bool.not_true, Bool.not_false, stP_aggL, b3.mk4, tm, t3, t22, t26, t34, t38, t42, hlt', iA, lA, iB, lB, gt_iff_lt, m1, h1']
            exact ⟨⟨a + 1, by omega, by simp⟩, by simp [intOf]; omega⟩
        · have hlt' : ¬ ((a : Int) < ((9 : Nat) : Int)) := by omega
          simp (config := {implicitDefEqProofs := false, maxDischargeDepth := 20}) (disch := first | omega | (simp only [lenE]; done) | (simp only [lenE]; omega) | rfl | (simp only [lenE, markR_len]; done) | (simp only [lenE, markR_len]; omega)) only [runE, mapE, listE, initT_5, initT_6, initT_7, initT_8, resV, oneV, binA, unA, reduceCtorEq, Nat.reduceEqDiff, Nat.reduceAdd, Nat.reduceLT, Nat.reduceLeDiff, Nat.reduceMul, Nat.reduceSub, ↓reduceIte, decide_true, decide_false, Bool.true_eq_false, Bool.false_eq_true, Bool.not_true, Bool.not_false, if_true, if_false, and_true, true_and, memE, celE, w64, Nat.zero_add, Nat.add_zero, Nat.mul_one, putL, and_self, ldn, Bool.and_self, Bool.and_true, Bool.true_and, Bool.and_false, Bool.false_and, Bool.or_false, Bool.false_or, ext_2_0, ext_2_1, ext_3_0, ext_3_1, ext_3_2, bne_self_eq_false, beq_self_eq_true, goG_undef, Bool.not_true, Bool.not_false, stP_aggL, tm, t3, t22, t26, t34, t38, t42, hlt']
          have rdp : ∀ j, j < plainN p → rdc N21 dP (j * 2) = some (.int .i64 (plainP p j).1) ∧ rdc N21 dP (j * 2 + 1) = some (.int .i64 (plainP p j).2) := fun j hj => by
            have := pairsC_at (plainsL p (plainN p)) j (by rw [plainsL_len]; exact hj)
            rw [plainsL_at hj] at this
            rw [P.rd, P.rd]; exact this
          obtain ⟨ib, hib⟩ : ∃ ib, ib = argG (fun i => (plainP p i).2) (plainN p - 1) := ⟨_, rfl⟩
          have ibl : ib < plainN p := by have := argG_le (fun i => (plainP p i).2) (plainN p - 1); omega
          have bpe : bestPl p - p.make = (ib : Int) := by rw [hib]; unfold bestPl; omega
          have bpb : -1000 ≤ bestPl p ∧ bestPl p ≤ 1000 := by omega
          refine loop_inv mixed (fun s => ∃ a : Nat, a ≤ plainN p ∧ s.m = N21 ∧ s.t 3 = .pointer (some ⟨bm, 0, none⟩) ∧ s.t 26 = .int .i64 (joiO p : Nat) ∧ s.t 34 = .slice (some ⟨dP, 0, none⟩) (plainN p) fP ∧ s.t 38 = .int .i64 (bestPl p) ∧ s.t 43 = .int .i64 (a : Int)) (fun s => 105 - (intOf (s.t 43)).toNat) ⟨0, by omega, by simp only [put_t, put_t', put_m, putT_t, putT_t', putT_m, init_t, init_m, initT_0, initT_1, initT_2, initT_3, initT_4, initT_5, initT_6, initT_7, initT_8, Nat.reduceEqDiff, ↓reduceIte, tm], by simp only [put_t, put_t', put_m, putT_t, putT_t', putT_m, init_t, init_m, initT_0, initT_1, initT_2, initT_3, initT_4, initT_5, initT_6, initT_7, initT_8, Nat.reduceEqDiff, ↓reduceIte, t3], by simp only [put_t, put_t', put_m, putT_t, putT_t', putT_m, init_t, init_m, initT_0, initT_1, initT_2, initT_3, initT_4, initT_5, initT_6, initT_7, initT_8, Nat.reduceEqDiff, ↓reduceIte, t26], by simp only [put_t, put_t', put_m, putT_t, putT_t', putT_m, init_t, init_m, initT_0, initT_1, initT_2, initT_3, initT_4, initT_5, initT_6, initT_7, initT_8, Nat.reduceEqDiff, ↓reduceIte, t34], by simp only [put_t, put_t', put_m, putT_t, putT_t', putT_m, init_t, init_m, initT_0, initT_1, initT_2, initT_3, initT_4, initT_5, initT_6, initT_7, initT_8, Nat.reduceEqDiff, ↓reduceIte, t38], rfl⟩ ?_
          rintro s ⟨a, ha, tm, t3, t26, t34, t38, t43⟩
          by_cases hpa : a < plainN p
          · have hpa' : (a : Int) < (plainN p : Nat) := by omega
            obtain ⟨r1, r2⟩ := rdp a hpa
            obtain ⟨-, r3⟩ := rdp ib ibl
            have m1 : ¬ ((joiO p : Int) < (plainP p a).1) := by
              have := plain_best hG (r := p.make + a) (by omega)
              simp only [plainP]; omega
            have m2 : ¬ ((plainP p ib).2 < (plainP p a).2) := by
              have := argG_max (fun i => (plainP p i).2) (plainN p - 1) a (by omega)
              rw [← hib] at this; omega
            have zi := iadA_in (id := dP) (off := 0) (n := plainN p) (fl := fP) (sz := 2) (k := .i64) (j := a) hpa
            have zb := iadA_in (id := dP) (off := 0) (n := plainN p) (fl := fP) (sz := 2) (k := .i64) (j := ib) ibl
            by_cases h0 : 0 < a
            · have h0' : (0 : Int) < (a : Int) := by omega
              have am : (a : Int) - 1 = ((a - 1 : Nat) : Int) := by omega
              obtain ⟨r5, -⟩ := rdp (a - 1) (by omega)
              have za := iadA_in (id := dP) (off := 0) (n := plainN p) (fl := fP) (sz := 2) (k := .i64) (j := a - 1) (by omega)
              have m3 : ¬ ((plainP p (a - 1)).1 < (plainP p a).1) := by
                have := plain_less hG (p := p.make + ((a - 1 : Nat) : Int)) (r := p.make + a) (by omega)
                simp only [plainP]; omega
              simp (config := {implicitDefEqProofs := false, maxDischargeDepth := 20}) (disch := first | omega | (simp only [lenE]; done) | (simp only [lenE]; omega) | rfl | (simp only [lenE, markR_len]; done) | (simp only [lenE, markR_len]; omega)) only [runE, mapE, listE, initT_5, initT_6, initT_7, initT_8, resV, oneV, binA, unA, reduceCtorEq, Nat.reduceEqDiff, Nat.reduceAdd, Nat.reduceLT, Nat.reduceLeDiff, Nat.reduceMul, Nat.reduceSub, ↓reduceIte, decide_true, decide_false, Bool.true_eq_false, Bool.false_eq_true, Bool.not_true, Bool.not_false, if_true, if_false, and_true, true_and, memE, celE, w64, Nat.zero_add, Nat.add_zero, Nat.mul_one, putL, and_self, ldn, Bool.and_self, Bool.and_true, Bool.true_and, Bool.and_false, Bool.false_and, Bool.or_false, Bool.false_or, ext_2_0, ext_2_1, ext_3_0, ext_3_1, ext_3_2, bne_self_eq_false, beq_self_eq_true, goG_undef, Bool.not_true, Bool.not_false, stP_aggL, b3.mk4, tm, t3, t26, t34, t38, t43, hpa', zi, zb, za, iada_0, iada_1, r1, r2, r3, r5, gt_iff_lt, m1, m2, m3, h0', am, bpe]
              exact ⟨⟨a + 1, by omega, by simp⟩, by simp [intOf]; omega⟩
            · have h0' : ¬ ((0 : Int) < (a : Int)) := by omega
              simp (config := {implicitDefEqProofs := false, maxDischargeDepth := 20}) (disch := first | omega | (simp only [lenE]; done) | (simp only [lenE]; omega) | rfl | (simp only [lenE, markR_len]; done) | (simp only [lenE, markR_len]; omega)) only [runE, mapE, listE, initT_5, initT_6, initT_7, initT_8, resV, oneV, binA, unA, reduceCtorEq, Nat.reduceEqDiff, Nat.reduceAdd, Nat.reduceLT, Nat.reduceLeDiff, Nat.reduceMul, Nat.reduceSub, ↓reduceIte, decide_true, decide_false, Bool.true_eq_false, Bool.false_eq_true, Bool.not_true, Bool.not_false, if_true, if_false, and_true, true_and, memE, celE, w64, Nat.zero_add, Nat.add_zero, Nat.mul_one, putL, and_self, ldn, Bool.and_self, Bool.and_true, Bool.true_and, Bool.and_false, Bool.false_and, Bool.or_false, Bool.false_or, ext_2_0, ext_2_1, ext_3_0, ext_3_1, ext_3_2, bne_self_eq_false, beq_self_eq_true, goG_undef, Bool.not_true, Bool.not_false, stP_aggL, b3.mk4, tm, t3, t26, t34, t38, t43, hpa', zi, zb, iada_0, iada_1, r1, r2, r3, gt_iff_lt, m1, m2, h0', bpe]
              exact ⟨⟨a + 1, by omega, by simp⟩, by simp [intOf]; omega⟩
          · have hpa' : ¬ ((a : Int) < (plainN p : Nat)) := by omega
            simp (config := {implicitDefEqProofs := false, maxDischargeDepth := 20}) (disch := first | omega | (simp only [lenE]; done) | (simp only [lenE]; omega) | rfl | (simp only [lenE, markR_len]; done) | (simp only [lenE, markR_len]; omega)) only [runE, mapE, listE, initT_5, initT_6, initT_7, initT_8, resV, oneV, binA, unA, reduceCtorEq, Nat.reduceEqDiff, Nat.reduceAdd, Nat.reduceLT, Nat.reduceLeDiff, Nat.reduceMul, Nat.reduceSub, ↓reduceIte, decide_true, decide_false, Bool.true_eq_false, Bool.false_eq_true, Bool.not_true, Bool.not_false, if_true, if_false, and_true, true_and, memE, celE, w64, Nat.zero_add, Nat.add_zero, Nat.mul_one, putL, and_self, ldn, Bool.and_self, Bool.and_true, Bool.true_and, Bool.and_false, Bool.false_and, Bool.or_false, Bool.false_or, ext_2_0, ext_2_1, ext_3_0, ext_3_1, ext_3_2, bne_self_eq_false, beq_self_eq_true, goG_undef, Bool.not_true, Bool.not_false, stP_aggL, tm, t3, t26, t34, t38, t43, hpa']
      | false =>
        try simp (config := {implicitDefEqProofs := false, maxDischargeDepth := 20}) (disch := first | omega | (simp only [lenE]; done) | (simp only [lenE]; omega) | rfl | (simp only [lenE, markR_len]; done) | (simp only [lenE, markR_len]; omega)) only [runE, mapE, listE, initT_5, initT_6, initT_7, initT_8, resV, oneV, binA, unA, reduceCtorEq, Nat.reduceEqDiff, Nat.reduceAdd, Nat.reduceLT, Nat.reduceLeDiff, Nat.reduceMul, Nat.reduceSub, ↓reduceIte, decide_true, decide_false, Bool.true_eq_false, Bool.false_eq_true, Bool.not_true, Bool.not_false, if_true, if_false, and_true, true_and, memE, celE, w64, Nat.zero_add, Nat.add_zero, Nat.mul_one, putL, and_self, ldn, Bool.and_self, Bool.and_true, Bool.true_and, Bool.and_false, Bool.false_and, Bool.or_false, Bool.false_or, ext_2_0, ext_2_1, ext_3_0, ext_3_1, ext_3_2, bne_self_eq_false, beq_self_eq_true, goG_undef, Bool.not_true, Bool.not_false, stP_aggL, b3.mk4, b4.mk3]
        have iL := L.ints (by rw [Ab.fL_len]; omega) fL
        rw [fL_len] at iL ⊢
        rw [plainsL_len]
        refine loop_inv mixed (fun s => ∃ a : Nat, a ≤ 9 ∧ s.m = N21 ∧ s.t 3 = .pointer (some ⟨bm, 0, none⟩) ∧ s.t 22 = .slice (some ⟨dL, 0, none⟩) 9 fL ∧ s.t 26 = .int .i64 (joiO p : Nat) ∧ s.t 34 = .slice (some ⟨dP, 0, none⟩) (plainN p) fP ∧ s.t 38 = .int .i64 (bestPl p) ∧ s.t 42 = .int .i64 (a : Int)) (fun s => 15 - (intOf (s.t 42)).toNat) ⟨0, by omega, rfl, rfl, rfl, rfl, rfl, rfl, rfl⟩ ?_
        rintro s ⟨a, ha, tm, t3, t22, t26, t34, t38, t42⟩
        have iB := iL.at_ (joiO p) (by rw [Ab.fL_len]; omega)
        have lB := iL.ld (joiO p) (by rw [Ab.fL_len]; omega)
        rw [fL_at (by omega)] at lB
        have jb := joi_bd hG jl
        by_cases hlt : a < 9
        · have hlt' : (a : Int) < ((9 : Nat) : Int) := by omega
          have iA := iL.at_ a (by rw [Ab.fL_len]; omega)
          have lA := iL.ld a (by rw [Ab.fL_len]; omega)
          rw [fL_at hlt] at lA
          have m1 : ¬ (joiP p (joiO p) < joiP p a) := by have := joi_most p (q := a) (by omega); omega
          by_cases h1 : 1 < a
          · have h1' : (1 : Int) < (a : Int) := by omega
            have am : (a : Int) - 1 = ((a - 1 : Nat) : Int) := by omega
            have am2 : (a : Int) - 2 = ((a - 2 : Nat) : Int) := by omega
            have i1 := iL.at_ (a - 1) (by rw [Ab.fL_len]; omega)
            have l1 := iL.ld (a - 1) (by rw [Ab.fL_len]; omega)
            have i2 := iL.at_ (a - 2) (by rw [Ab.fL_len]; omega)
            have l2 := iL.ld (a - 2) (by rw [Ab.fL_len]; omega)
            rw [fL_at (by omega)] at l1 l2
            have b0 := joi_bd hG (q := a) (by omega)
            have b1 := joi_bd hG (q := a - 1) (by omega)
            have b2 := joi_bd hG (q := a - 2) (by omega)
            have cv := joi_conc hG (a - 2)
            rw [show a - 2 + 2 = a by omega, show a - 2 + 1 = a - 1 by omega] at cv
            have c1 : ¬ (joiP p (a - 1) - joiP p (a - 2) < joiP p a - joiP p (a - 1)) := by omega
            simp (config := {implicitDefEqProofs := false, maxDischargeDepth := 20}) (disch := first | omega | (simp only [lenE]; done) | (simp only [lenE]; omega) | rfl | (simp only [lenE, markR_len]; done) | (simp only [lenE, markR_len]; omega)) only [runE, mapE, listE, initT_5, initT_6, initT_7, initT_8, resV, oneV, binA, unA, reduceCtorEq, Nat.reduceEqDiff, Nat.reduceAdd, Nat.reduceLT, Nat.reduceLeDiff, Nat.reduceMul, Nat.reduceSub, ↓reduceIte, decide_true, decide_false, Bool.true_eq_false, Bool.false_eq_true, Bool.not_true, Bool.not_false, if_true, if_false, and_true, true_and, memE, celE, w64, Nat.zero_add, Nat.add_zero, Nat.mul_one, putL, and_self, ldn, Bool.and_self, Bool.and_true, Bool.true_and, Bool.and_false, Bool.false_and, Bool.or_false, Bool.false_or, ext_2_0, ext_2_1, ext_3_0, ext_3_1, ext_3_2, bne_self_eq_false, beq_self_eq_true, goG_undef, Bool.not_true, Bool.not_false, stP_aggL, b3.mk4, tm, t3, t22, t26, t34, t38, t42, hlt', iA, lA, iB, lB, gt_iff_lt, m1, h1', am, am2, i1, l1, i2, l2, c1]
            exact ⟨⟨a + 1, by omega, by simp⟩, by simp [intOf]; omega⟩
          · have h1' : ¬ ((1 : Int) < (a : Int)) := by omega
            simp (config := {implicitDefEqProofs := false, maxDischargeDepth := 20}) (disch := first | omega | (simp only [lenE]; done) | (simp only [lenE]; omega) | rfl | (simp only [lenE, markR_len]; done) | (simp only [lenE, markR_len]; omega)) only [runE, mapE, listE, initT_5, initT_6, initT_7, initT_8, resV, oneV, binA, unA, reduceCtorEq, Nat.reduceEqDiff, Nat.reduceAdd, Nat.reduceLT, Nat.reduceLeDiff, Nat.reduceMul, Nat.reduceSub, ↓reduceIte, decide_true, decide_false, Bool.true_eq_false, Bool.false_eq_true, Bool.not_true, Bool.not_false, if_true, if_false, and_true, true_and, memE, celE, w64, Nat.zero_add, Nat.add_zero, Nat.mul_one, putL, and_self, ldn, Bool.and_self, Bool.and_true, Bool.true_and, Bool.and_false, Bool.false_and, Bool.or_false, Bool.false_or, ext_2_0, ext_2_1, ext_3_0, ext_3_1, ext_3_2, bne_self_eq_false, beq_self_eq_true, goG_undef, Bool.not_true, Bool.not_false, stP_aggL, b3.mk4, tm, t3, t22, t26, t34, t38, t42, hlt', iA, lA, iB, lB, gt_iff_lt, m1, h1']
            exact ⟨⟨a + 1, by omega, by simp⟩, by simp [intOf]; omega⟩
        · have hlt' : ¬ ((a : Int) < ((9 : Nat) : Int)) := by omega
          simp (config := {implicitDefEqProofs := false, maxDischargeDepth := 20}) (disch := first | omega | (simp only [lenE]; done) | (simp only [lenE]; omega) | rfl | (simp only [lenE, markR_len]; done) | (simp only [lenE, markR_len]; omega)) only [runE, mapE, listE, initT_5, initT_6, initT_7, initT_8, resV, oneV, binA, unA, reduceCtorEq, Nat.reduceEqDiff, Nat.reduceAdd, Nat.reduceLT, Nat.reduceLeDiff, Nat.reduceMul, Nat.reduceSub, ↓reduceIte, decide_true, decide_false, Bool.true_eq_false, Bool.false_eq_true, Bool.not_true, Bool.not_false, if_true, if_false, and_true, true_and, memE, celE, w64, Nat.zero_add, Nat.add_zero, Nat.mul_one, putL, and_self, ldn, Bool.and_self, Bool.and_true, Bool.true_and, Bool.and_false, Bool.false_and, Bool.or_false, Bool.false_or, ext_2_0, ext_2_1, ext_3_0, ext_3_1, ext_3_2, bne_self_eq_false, beq_self_eq_true, goG_undef, Bool.not_true, Bool.not_false, stP_aggL, tm, t3, t22, t26, t34, t38, t42, hlt']
          have rdp : ∀ j, j < plainN p → rdc N21 dP (j * 2) = some (.int .i64 (plainP p j).1) ∧ rdc N21 dP (j * 2 + 1) = some (.int .i64 (plainP p j).2) := fun j hj => by
            have := pairsC_at (plainsL p (plainN p)) j (by rw [plainsL_len]; exact hj)
            rw [plainsL_at hj] at this
            rw [P.rd, P.rd]; exact this
          obtain ⟨ib, hib⟩ : ∃ ib, ib = argG (fun i => (plainP p i).2) (plainN p - 1) := ⟨_, rfl⟩
          have ibl : ib < plainN p := by have := argG_le (fun i => (plainP p i).2) (plainN p - 1); omega
          have bpe : bestPl p - p.make = (ib : Int) := by rw [hib]; unfold bestPl; omega
          have bpb : -1000 ≤ bestPl p ∧ bestPl p ≤ 1000 := by omega
          refine loop_inv mixed (fun s => ∃ a : Nat, a ≤ plainN p ∧ s.m = N21 ∧ s.t 3 = .pointer (some ⟨bm, 0, none⟩) ∧ s.t 26 = .int .i64 (joiO p : Nat) ∧ s.t 34 = .slice (some ⟨dP, 0, none⟩) (plainN p) fP ∧ s.t 38 = .int .i64 (bestPl p) ∧ s.t 43 = .int .i64 (a : Int)) (fun s => 105 - (intOf (s.t 43)).toNat) ⟨0, by omega, by simp only [put_t, put_t', put_m, putT_t, putT_t', putT_m, init_t, init_m, initT_0, initT_1, initT_2, initT_3, initT_4, initT_5, initT_6, initT_7, initT_8, Nat.reduceEqDiff, ↓reduceIte, tm], by simp only [put_t, put_t', put_m, putT_t, putT_t', putT_m, init_t, init_m, initT_0, initT_1, initT_2, initT_3, initT_4, initT_5, initT_6, initT_7, initT_8, Nat.reduceEqDiff, ↓reduceIte, t3], by simp only [put_t, put_t', put_m, putT_t, putT_t', putT_m, init_t, init_m, initT_0, initT_1, initT_2, initT_3, initT_4, initT_5, initT_6, initT_7, initT_8, Nat.reduceEqDiff, ↓reduceIte, t26], by simp only [put_t, put_t', put_m, putT_t, putT_t', putT_m, init_t, init_m, initT_0, initT_1, initT_2, initT_3, initT_4, initT_5, initT_6, initT_7, initT_8, Nat.reduceEqDiff, ↓reduceIte, t34], by simp only [put_t, put_t', put_m, putT_t, putT_t', putT_m, init_t, init_m, initT_0, initT_1, initT_2, initT_3, initT_4, initT_5, initT_6, initT_7, initT_8, Nat.reduceEqDiff, ↓reduceIte, t38], rfl⟩ ?_
          rintro s ⟨a, ha, tm, t3, t26, t34, t38, t43⟩
          by_cases hpa : a < plainN p
          · have hpa' : (a : Int) < (plainN p : Nat) := by omega
            obtain ⟨r1, r2⟩ := rdp a hpa
            obtain ⟨-, r3⟩ := rdp ib ibl
            have m1 : ¬ ((joiO p : Int) < (plainP p a).1) := by
              have := plain_best hG (r := p.make + a) (by omega)
              simp only [plainP]; omega
            have m2 : ¬ ((plainP p ib).2 < (plainP p a).2) := by
              have := argG_max (fun i => (plainP p i).2) (plainN p - 1) a (by omega)
              rw [← hib] at this; omega
            have zi := iadA_in (id := dP) (off := 0) (n := plainN p) (fl := fP) (sz := 2) (k := .i64) (j := a) hpa
            have zb := iadA_in (id := dP) (off := 0) (n := plainN p) (fl := fP) (sz := 2) (k := .i64) (j := ib) ibl
            by_cases h0 : 0 < a
            · have h0' : (0 : Int) < (a : Int) := by omega
              have am : (a : Int) - 1 = ((a - 1 : Nat) : Int) := by omega
              obtain ⟨r5, -⟩ := rdp (a - 1) (by omega)
              have za := iadA_in (id := dP) (off := 0) (n := plainN p) (fl := fP) (sz := 2) (k := .i64) (j := a - 1) (by omega)
              have m3 : ¬ ((plainP p (a - 1)).1 < (plainP p a).1) := by
                have := plain_less hG (p := p.make + ((a - 1 : Nat) : Int)) (r := p.make + a) (by omega)
                simp only [plainP]; omega
              simp (config := {implicitDefEqProofs := false, maxDischargeDepth := 20}) (disch := first | omega | (simp only [lenE]; done) | (simp only [lenE]; omega) | rfl | (simp only [lenE, markR_len]; done) | (simp only [lenE, markR_len]; omega)) only [runE, mapE, listE, initT_5, initT_6, initT_7, initT_8, resV, oneV, binA, unA, reduceCtorEq, Nat.reduceEqDiff, Nat.reduceAdd, Nat.reduceLT, Nat.reduceLeDiff, Nat.reduceMul, Nat.reduceSub, ↓reduceIte, decide_true, decide_false, Bool.true_eq_false, Bool.false_eq_true, Bool.not_true, Bool.not_false, if_true, if_false, and_true, true_and, memE, celE, w64, Nat.zero_add, Nat.add_zero, Nat.mul_one, putL, and_self, ldn, Bool.and_self, Bool.and_true, Bool.true_and, Bool.and_false, Bool.false_and, Bool.or_false, Bool.false_or, ext_2_0, ext_2_1, ext_3_0, ext_3_1, ext_3_2, bne_self_eq_false, beq_self_eq_true, goG_undef, Bool.not_true, Bool.not_false, stP_aggL, b3.mk4, tm, t3, t26, t34, t38, t43, hpa', zi, zb, za, iada_0, iada_1, r1, r2, r3, r5, gt_iff_lt, m1, m2, m3, h0', am, bpe]
              exact ⟨⟨a + 1, by omega, by simp⟩, by simp [intOf]; omega⟩
            · have h0' : ¬ ((0 : Int) < (a : Int)) := by omega
              simp (config := {implicitDefEqProofs := false, maxDischargeDepth := 20}) (disch := first | omega | (simp only [lenE]; done) | (simp only [lenE]; omega) | rfl | (simp only [lenE, markR_len]; done) | (simp only [lenE, markR_len]; omega)) only [runE, mapE, listE, initT_5, initT_6, initT_7, initT_8, resV, oneV, binA, unA, reduceCtorEq, Nat.reduceEqDiff, Nat.reduceAdd, Nat.reduceLT, Nat.reduceLeDiff, Nat.reduceMul, Nat.reduceSub, ↓reduceIte, decide_true, decide_false, Bool.true_eq_false, Bool.false_eq_true, Bool.not_true, Bool.not_false, if_true, if_false, and_true, true_and, memE, celE, w64, Nat.zero_add, Nat.add_zero, Nat.mul_one, putL, and_self, ldn, Bool.and_self, Bool.and_true, Bool.true_and, Bool.and_false, Bool.false_and, Bool.or_false, Bool.false_or, ext_2_0, ext_2_1, ext_3_0, ext_3_1, ext_3_2, bne_self_eq_false, beq_self_eq_true, goG_undef, Bool.not_true, Bool.not_false, stP_aggL, b3.mk4, tm, t3, t26, t34, t38, t43, hpa', zi, zb, iada_0, iada_1, r1, r2, r3, gt_iff_lt, m1, m2, h0', bpe]
              exact ⟨⟨a + 1, by omega, by simp⟩, by simp [intOf]; omega⟩
          · have hpa' : ¬ ((a : Int) < (plainN p : Nat)) := by omega
            simp (config := {implicitDefEqProofs := false, maxDischargeDepth := 20}) (disch := first | omega | (simp only [lenE]; done) | (simp only [lenE]; omega) | rfl | (simp only [lenE, markR_len]; done) | (simp only [lenE, markR_len]; omega)) only [runE, mapE, listE, initT_5, initT_6, initT_7, initT_8, resV, oneV, binA, unA, reduceCtorEq, Nat.reduceEqDiff, Nat.reduceAdd, Nat.reduceLT, Nat.reduceLeDiff, Nat.reduceMul, Nat.reduceSub, ↓reduceIte, decide_true, decide_false, Bool.true_eq_false, Bool.false_eq_true, Bool.not_true, Bool.not_false, if_true, if_false, and_true, true_and, memE, celE, w64, Nat.zero_add, Nat.add_zero, Nat.mul_one, putL, and_self, ldn, Bool.and_self, Bool.and_true, Bool.true_and, Bool.and_false, Bool.false_and, Bool.or_false, Bool.false_or, ext_2_0, ext_2_1, ext_3_0, ext_3_1, ext_3_2, bne_self_eq_false, beq_self_eq_true, goG_undef, Bool.not_true, Bool.not_false, stP_aggL, tm, t3, t26, t34, t38, t43, hpa']
  | false =>
    as_aux_lemma =>
    try simp (config := {implicitDefEqProofs := false, maxDischargeDepth := 20}) (disch := first | omega | (simp only [lenE]; done) | (simp only [lenE]; omega) | rfl | (simp only [lenE, markR_len]; done) | (simp only [lenE, markR_len]; omega)) only [runE, mapE, listE, initT_5, initT_6, initT_7, initT_8, resV, oneV, binA, unA, reduceCtorEq, Nat.reduceEqDiff, Nat.reduceAdd, Nat.reduceLT, Nat.reduceLeDiff, Nat.reduceMul, Nat.reduceSub, ↓reduceIte, decide_true, decide_false, Bool.true_eq_false, Bool.false_eq_true, Bool.not_true, Bool.not_false, if_true, if_false, and_true, true_and, memE, celE, w64, Nat.zero_add, Nat.add_zero, Nat.mul_one, putL, and_self, ldn, Bool.and_self, Bool.and_true, Bool.true_and, Bool.and_false, Bool.false_and, Bool.or_false, Bool.false_or, ext_2_0, ext_2_1, ext_3_0, ext_3_1, ext_3_2, bne_self_eq_false, beq_self_eq_true, goG_undef, Bool.not_true, Bool.not_false, stP_aggL, b3.mk4, b4.mk3]
    first | refine callH_rc (C1d _ iu) ?_ | refine rcallH_rc (C1d _ iu) ?_
    rintro r new ⟨rfl, nr⟩
    have iu := iu.ext new
    have b3 := b3.ext new
    have b4 := b4.ext new
    obtain ⟨N8, hN⟩ : ∃ N, N = N7 ++ new := ⟨_, rfl⟩
    rw [← hN] at iu b3 b4 ⊢
    clear hN
    clear nr
    try simp (config := {implicitDefEqProofs := false, maxDischargeDepth := 20}) (disch := first | omega | (simp only [lenE]; done) | (simp only [lenE]; omega) | rfl | (simp only [lenE, markR_len]; done) | (simp only [lenE, markR_len]; omega)) only [runE, mapE, listE, initT_5, initT_6, initT_7, initT_8, resV, oneV, binA, unA, reduceCtorEq, Nat.reduceEqDiff, Nat.reduceAdd, Nat.reduceLT, Nat.reduceLeDiff, Nat.reduceMul, Nat.reduceSub, ↓reduceIte, decide_true, decide_false, Bool.true_eq_false, Bool.false_eq_true, Bool.not_true, Bool.not_false, if_true, if_false, and_true, true_and, memE, celE, w64, Nat.zero_add, Nat.add_zero, Nat.mul_one, putL, and_self, ldn, Bool.and_self, Bool.and_true, Bool.true_and, Bool.and_false, Bool.false_and, Bool.or_false, Bool.false_or, ext_2_0, ext_2_1, ext_3_0, ext_3_1, ext_3_2, bne_self_eq_false, beq_self_eq_true, goG_undef, Bool.not_true, Bool.not_false, stP_aggL, b3.mk4, b4.mk3]
    first | refine callH_rc (C2d _ iu) ?_ | refine rcallH_rc (C2d _ iu) ?_
    rintro r new ⟨rfl, nr⟩
    have iu := iu.ext new
    have b3 := b3.ext new
    have b4 := b4.ext new
    obtain ⟨N9, hN⟩ : ∃ N, N = N8 ++ new := ⟨_, rfl⟩
    rw [← hN] at iu b3 b4 ⊢
    clear hN
    clear nr
    try simp (config := {implicitDefEqProofs := false, maxDischargeDepth := 20}) (disch := first | omega | (simp only [lenE]; done) | (simp only [lenE]; omega) | rfl | (simp only [lenE, markR_len]; done) | (simp only [lenE, markR_len]; omega)) only [runE, mapE, listE, initT_5, initT_6, initT_7, initT_8, resV, oneV, binA, unA, reduceCtorEq, Nat.reduceEqDiff, Nat.reduceAdd, Nat.reduceLT, Nat.reduceLeDiff, Nat.reduceMul, Nat.reduceSub, ↓reduceIte, decide_true, decide_false, Bool.true_eq_false, Bool.false_eq_true, Bool.not_true, Bool.not_false, if_true, if_false, and_true, true_and, memE, celE, w64, Nat.zero_add, Nat.add_zero, Nat.mul_one, putL, and_self, ldn, Bool.and_self, Bool.and_true, Bool.true_and, Bool.and_false, Bool.false_and, Bool.or_false, Bool.false_or, ext_2_0, ext_2_1, ext_3_0, ext_3_1, ext_3_2, bne_self_eq_false, beq_self_eq_true, goG_undef, Bool.not_true, Bool.not_false, stP_aggL, b3.mk4, b4.mk3]
    first | refine callH_rc (C1e _ iu) ?_ | refine rcallH_rc (C1e _ iu) ?_
    intro r new hA
    obtain ⟨nr, w9, rfl, hw⟩ := hA
    obtain ⟨-, dL, fL, rfl, -, -, own9⟩ := hw.now
    have iu := iu.ext new
    have b3 := b3.ext new
    have b4 := b4.ext new
    have L := (own9 : OwnR (N9 ++ new) dL lj)
    obtain ⟨N10, hN⟩ : ∃ N, N = N9 ++ new := ⟨_, rfl⟩
    rw [← hN] at iu b3 b4 L ⊢
    clear hN
    clear nr hw own9
    try simp (config := {implicitDefEqProofs := false, maxDischargeDepth := 20}) (disch := first | omega | (simp only [lenE]; done) | (simp only [lenE]; omega) | rfl | (simp only [lenE, markR_len]; done) | (simp only [lenE, markR_len]; omega)) only [runE, mapE, listE, initT_5, initT_6, initT_7, initT_8, resV, oneV, binA, unA, reduceCtorEq, Nat.reduceEqDiff, Nat.reduceAdd, Nat.reduceLT, Nat.reduceLeDiff, Nat.reduceMul, Nat.reduceSub, ↓reduceIte, decide_true, decide_false, Bool.true_eq_false, Bool.false_eq_true, Bool.not_true, Bool.not_false, if_true, if_false, and_true, true_and, memE, celE, w64, Nat.zero_add, Nat.add_zero, Nat.mul_one, putL, and_self, ldn, Bool.and_self, Bool.and_true, Bool.true_and, Bool.and_false, Bool.false_and, Bool.or_false, Bool.false_or, ext_2_0, ext_2_1, ext_3_0, ext_3_1, ext_3_2, bne_self_eq_false, beq_self_eq_true, goG_undef, Bool.not_true, Bool.not_false, stP_aggL, b3.mk4, b4.mk3]
    first | refine callH_rc (C2e _ iu) ?_ | refine rcallH_rc (C2e _ iu) ?_
    intro r new hA
    obtain ⟨nr, w9, rfl, hw⟩ := hA
    obtain ⟨-, dW, fW, rfl, -, -, own9⟩ := hw.now
    have iu := iu.ext new
    have b3 := b3.ext new
    have b4 := b4.ext new
    have L := L.ext new
    have W := (own9 : OwnR (N10 ++ new) dW lj)
    obtain ⟨N11, hN⟩ : ∃ N, N = N10 ++ new := ⟨_, rfl⟩
    rw [← hN] at iu b3 b4 L W ⊢
    clear hN
    clear nr hw own9
    try simp (config := {implicitDefEqProofs := false, maxDischargeDepth := 20}) (disch := first | omega | (simp only [lenE]; done) | (simp only [lenE]; omega) | rfl | (simp only [lenE, markR_len]; done) | (simp only [lenE, markR_len]; omega)) only [runE, mapE, listE, initT_5, initT_6, initT_7, initT_8, resV, oneV, binA, unA, reduceCtorEq, Nat.reduceEqDiff, Nat.reduceAdd, Nat.reduceLT, Nat.reduceLeDiff, Nat.reduceMul, Nat.reduceSub, ↓reduceIte, decide_true, decide_false, Bool.true_eq_false, Bool.false_eq_true, Bool.not_true, Bool.not_false, if_true, if_false, and_true, true_and, memE, celE, w64, Nat.zero_add, Nat.add_zero, Nat.mul_one, putL, and_self, ldn, Bool.and_self, Bool.and_true, Bool.true_and, Bool.and_false, Bool.false_and, Bool.or_false, Bool.false_or, ext_2_0, ext_2_1, ext_3_0, ext_3_1, ext_3_2, bne_self_eq_false, beq_self_eq_true, goG_undef, Bool.not_true, Bool.not_false, stP_aggL, b3.mk4, b4.mk3]
    first | refine callH_rc (C1m _ iu) ?_ | refine rcallH_rc (C1m _ iu) ?_
    rintro r new ⟨rfl, nr⟩
    have iu := iu.ext new
    have b3 := b3.ext new
    have b4 := b4.ext new
    have L := L.ext new
    have W := W.ext new
    obtain ⟨N12, hN⟩ : ∃ N, N = N11 ++ new := ⟨_, rfl⟩
    rw [← hN] at iu b3 b4 L W ⊢
    clear hN
    clear nr
    try simp (config := {implicitDefEqProofs := false, maxDischargeDepth := 20}) (disch := first | omega | (simp only [lenE]; done) | (simp only [lenE]; omega) | rfl | (simp only [lenE, markR_len]; done) | (simp only [lenE, markR_len]; omega)) only [runE, mapE, listE, initT_5, initT_6, initT_7, initT_8, resV, oneV, binA, unA, reduceCtorEq, Nat.reduceEqDiff, Nat.reduceAdd, Nat.reduceLT, Nat.reduceLeDiff, Nat.reduceMul, Nat.reduceSub, ↓reduceIte, decide_true, decide_false, Bool.true_eq_false, Bool.false_eq_true, Bool.not_true, Bool.not_false, if_true, if_false, and_true, true_and, memE, celE, w64, Nat.zero_add, Nat.add_zero, Nat.mul_one, putL, and_self, ldn, Bool.and_self, Bool.and_true, Bool.true_and, Bool.and_false, Bool.false_and, Bool.or_false, Bool.false_or, ext_2_0, ext_2_1, ext_3_0, ext_3_1, ext_3_2, bne_self_eq_false, beq_self_eq_true, goG_undef, Bool.not_true, Bool.not_false, stP_aggL, b3.mk4, b4.mk3]
    have ljb : lj.length ≤ 100 := by
      cases hg : gd with
      | true => rw [(G hg).2.1, fL_len]; omega
      | false => exact (G0 hg).1
    first | refine callH_rc (rIntsM_rc _ _ _ lj (L.ints (by omega) fL) (W.ints (by omega) fW)) ?_ | refine rcallH_rc (rIntsM_rc _ _ _ lj (L.ints (by omega) fL) (W.ints (by omega) fW)) ?_
    rintro r new ⟨rfl, rfl⟩
    rw [List.append_nil]
    try simp (config := {implicitDefEqProofs := false, maxDischargeDepth := 20}) (disch := first | omega | (simp only [lenE]; done) | (simp only [lenE]; omega) | rfl | (simp only [lenE, markR_len]; done) | (simp only [lenE, markR_len]; omega)) only [runE, mapE, listE, initT_5, initT_6, initT_7, initT_8, resV, oneV, binA, unA, reduceCtorEq, Nat.reduceEqDiff, Nat.reduceAdd, Nat.reduceLT, Nat.reduceLeDiff, Nat.reduceMul, Nat.reduceSub, ↓reduceIte, decide_true, decide_false, Bool.true_eq_false, Bool.false_eq_true, Bool.not_true, Bool.not_false, if_true, if_false, and_true, true_and, memE, celE, w64, Nat.zero_add, Nat.add_zero, Nat.mul_one, putL, and_self, ldn, Bool.and_self, Bool.and_true, Bool.true_and, Bool.and_false, Bool.false_and, Bool.or_false, Bool.false_or, ext_2_0, ext_2_1, ext_3_0, ext_3_1, ext_3_2, bne_self_eq_false, beq_self_eq_true, goG_undef, Bool.not_true, Bool.not_false, stP_aggL, b3.mk4, b4.mk3]
    clear W
    first | refine callH_rc (C1f _ iu) ?_ | refine rcallH_rc (C1f _ iu) ?_
    rintro r new ⟨rfl, nr⟩
    have iu := iu.ext new
    have b3 := b3.ext new
    have b4 := b4.ext new
    have L := L.ext new
    obtain ⟨N13, hN⟩ : ∃ N, N = N12 ++ new := ⟨_, rfl⟩
    rw [← hN] at iu b3 b4 L ⊢
    clear hN
    clear nr
    try simp (config := {implicitDefEqProofs := false, maxDischargeDepth := 20}) (disch := first | omega | (simp only [lenE]; done) | (simp only [lenE]; omega) | rfl | (simp only [lenE, markR_len]; done) | (simp only [lenE, markR_len]; omega)) only [runE, mapE, listE, initT_5, initT_6, initT_7, initT_8, resV, oneV, binA, unA, reduceCtorEq, Nat.reduceEqDiff, Nat.reduceAdd, Nat.reduceLT, Nat.reduceLeDiff, Nat.reduceMul, Nat.reduceSub, ↓reduceIte, decide_true, decide_false, Bool.true_eq_false, Bool.false_eq_true, Bool.not_true, Bool.not_false, if_true, if_false, and_true, true_and, memE, celE, w64, Nat.zero_add, Nat.add_zero, Nat.mul_one, putL, and_self, ldn, Bool.and_self, Bool.and_true, Bool.true_and, Bool.and_false, Bool.false_and, Bool.or_false, Bool.false_or, ext_2_0, ext_2_1, ext_3_0, ext_3_1, ext_3_2, bne_self_eq_false, beq_self_eq_true, goG_undef, Bool.not_true, Bool.not_false, stP_aggL, b3.mk4, b4.mk3]
    first | refine callH_rc (C2f _ iu) ?_ | refine rcallH_rc (C2f _ iu) ?_
    rintro r new ⟨rfl, nr⟩
    have iu := iu.ext new
    have b3 := b3.ext new
    have b4 := b4.ext new
    have L := L.ext new
    obtain ⟨N14, hN⟩ : ∃ N, N = N13 ++ new := ⟨_, rfl⟩
    rw [← hN] at iu b3 b4 L ⊢
    clear hN
    clear nr
    try simp (config := {implicitDefEqProofs := false, maxDischargeDepth := 20}) (disch := first | omega | (simp only [lenE]; done) | (simp only [lenE]; omega) | rfl | (simp only [lenE, markR_len]; done) | (simp only [lenE, markR_len]; omega)) only [runE, mapE, listE, initT_5, initT_6, initT_7, initT_8, resV, oneV, binA, unA, reduceCtorEq, Nat.reduceEqDiff, Nat.reduceAdd, Nat.reduceLT, Nat.reduceLeDiff, Nat.reduceMul, Nat.reduceSub, ↓reduceIte, decide_true, decide_false, Bool.true_eq_false, Bool.false_eq_true, Bool.not_true, Bool.not_false, if_true, if_false, and_true, true_and, memE, celE, w64, Nat.zero_add, Nat.add_zero, Nat.mul_one, putL, and_self, ldn, Bool.and_self, Bool.and_true, Bool.true_and, Bool.and_false, Bool.false_and, Bool.or_false, Bool.false_or, ext_2_0, ext_2_1, ext_3_0, ext_3_1, ext_3_2, bne_self_eq_false, beq_self_eq_true, goG_undef, Bool.not_true, Bool.not_false, stP_aggL, b3.mk4, b4.mk3]
    first | refine callH_rc (C1g _ iu) ?_ | refine rcallH_rc (C1g _ iu) ?_
    rintro r new ⟨rfl, nr⟩
    have iu := iu.ext new
    have b3 := b3.ext new
    have b4 := b4.ext new
    have L := L.ext new
    obtain ⟨N15, hN⟩ : ∃ N, N = N14 ++ new := ⟨_, rfl⟩
    rw [← hN] at iu b3 b4 L ⊢
    clear hN
    clear nr
    try simp (config := {implicitDefEqProofs := false, maxDischargeDepth := 20}) (disch := first | omega | (simp only [lenE]; done) | (simp only [lenE]; omega) | rfl | (simp only [lenE, markR_len]; done) | (simp only [lenE, markR_len]; omega)) only [runE, mapE, listE, initT_5, initT_6, initT_7, initT_8, resV, oneV, binA, unA, reduceCtorEq, Nat.reduceEqDiff, Nat.reduceAdd, Nat.reduceLT, Nat.reduceLeDiff, Nat.reduceMul, Nat.reduceSub, ↓reduceIte, decide_true, decide_false, Bool.true_eq_false, Bool.false_eq_true, Bool.not_true, Bool.not_false, if_true, if_false, and_true, true_and, memE, celE, w64, Nat.zero_add, Nat.add_zero, Nat.mul_one, putL, and_self, ldn, Bool.and_self, Bool.and_true, Bool.true_and, Bool.and_false, Bool.false_and, Bool.or_false, Bool.false_or, ext_2_0, ext_2_1, ext_3_0, ext_3_1, ext_3_2, bne_self_eq_false, beq_self_eq_true, goG_undef, Bool.not_true, Bool.not_false, stP_aggL, b3.mk4, b4.mk3]
    first | refine callH_rc (C2g _ iu) ?_ | refine rcallH_rc (C2g _ iu) ?_
    rintro r new ⟨rfl, nr⟩
    have iu := iu.ext new
    have b3 := b3.ext new
    have b4 := b4.ext new
    have L := L.ext new
    obtain ⟨N16, hN⟩ : ∃ N, N = N15 ++ new := ⟨_, rfl⟩
    rw [← hN] at iu b3 b4 L ⊢
    clear hN
    clear nr
    try simp (config := {implicitDefEqProofs := false, maxDischargeDepth := 20}) (disch := first | omega | (simp only [lenE]; done) | (simp only [lenE]; omega) | rfl | (simp only [lenE, markR_len]; done) | (simp only [lenE, markR_len]; omega)) only [runE, mapE, listE, initT_5, initT_6, initT_7, initT_8, resV, oneV, binA, unA, reduceCtorEq, Nat.reduceEqDiff, Nat.reduceAdd, Nat.reduceLT, Nat.reduceLeDiff, Nat.reduceMul, Nat.reduceSub, ↓reduceIte, decide_true, decide_false, Bool.true_eq_false, Bool.false_eq_true, Bool.not_true, Bool.not_false, if_true, if_false, and_true, true_and, memE, celE, w64, Nat.zero_add, Nat.add_zero, Nat.mul_one, putL, and_self, ldn, Bool.and_self, Bool.and_true, Bool.true_and, Bool.and_false, Bool.false_and, Bool.or_false, Bool.false_or, ext_2_0, ext_2_1, ext_3_0, ext_3_1, ext_3_2, bne_self_eq_false, beq_self_eq_true, goG_undef, Bool.not_true, Bool.not_false, stP_aggL, b3.mk4, b4.mk3]
    first | refine callH_rc (C1h _ iu) ?_ | refine rcallH_rc (C1h _ iu) ?_
    intro r new hA
    obtain ⟨nr, w9, rfl, hw⟩ := hA
    obtain ⟨-, dP, fP, rfl, -, -, own9⟩ := hw.now
    have iu := iu.ext new
    have b3 := b3.ext new
    have b4 := b4.ext new
    have L := L.ext new
    have P := (own9 : OwnB (N16 ++ new) dP 43 (pairsC pl))
    obtain ⟨N17, hN⟩ : ∃ N, N = N16 ++ new := ⟨_, rfl⟩
    rw [← hN] at iu b3 b4 L P ⊢
    clear hN
    clear nr hw own9
    try simp (config := {implicitDefEqProofs := false, maxDischargeDepth := 20}) (disch := first | omega | (simp only [lenE]; done) | (simp only [lenE]; omega) | rfl | (simp only [lenE, markR_len]; done) | (simp only [lenE, markR_len]; omega)) only [runE, mapE, listE, initT_5, initT_6, initT_7, initT_8, resV, oneV, binA, unA, reduceCtorEq, Nat.reduceEqDiff, Nat.reduceAdd, Nat.reduceLT, Nat.reduceLeDiff, Nat.reduceMul, Nat.reduceSub, ↓reduceIte, decide_true, decide_false, Bool.true_eq_false, Bool.false_eq_true, Bool.not_true, Bool.not_false, if_true, if_false, and_true, true_and, memE, celE, w64, Nat.zero_add, Nat.add_zero, Nat.mul_one, putL, and_self, ldn, Bool.and_self, Bool.and_true, Bool.true_and, Bool.and_false, Bool.false_and, Bool.or_false, Bool.false_or, ext_2_0, ext_2_1, ext_3_0, ext_3_1, ext_3_2, bne_self_eq_false, beq_self_eq_true, goG_undef, Bool.not_true, Bool.not_false, stP_aggL, b3.mk4, b4.mk3]
    first | refine callH_rc (C2h _ iu) ?_ | refine rcallH_rc (C2h _ iu) ?_
    intro r new hA
    obtain ⟨nr, w9, rfl, hw⟩ := hA
    obtain ⟨-, dQ, fQ, rfl, -, -, own9⟩ := hw.now
    have iu := iu.ext new
    have b3 := b3.ext new
    have b4 := b4.ext new
    have L := L.ext new
    have P := P.ext new
    have Q := (own9 : OwnB (N17 ++ new) dQ 43 (pairsC pl))
    obtain ⟨N18, hN⟩ : ∃ N, N = N17 ++ new := ⟨_, rfl⟩
    rw [← hN] at iu b3 b4 L P Q ⊢
    clear hN
    clear nr hw own9
    try simp (config := {implicitDefEqProofs := false, maxDischargeDepth := 20}) (disch := first | omega | (simp only [lenE]; done) | (simp only [lenE]; omega) | rfl | (simp only [lenE, markR_len]; done) | (simp only [lenE, markR_len]; omega)) only [runE, mapE, listE, initT_5, initT_6, initT_7, initT_8, resV, oneV, binA, unA, reduceCtorEq, Nat.reduceEqDiff, Nat.reduceAdd, Nat.reduceLT, Nat.reduceLeDiff, Nat.reduceMul, Nat.reduceSub, ↓reduceIte, decide_true, decide_false, Bool.true_eq_false, Bool.false_eq_true, Bool.not_true, Bool.not_false, if_true, if_false, and_true, true_and, memE, celE, w64, Nat.zero_add, Nat.add_zero, Nat.mul_one, putL, and_self, ldn, Bool.and_self, Bool.and_true, Bool.true_and, Bool.and_false, Bool.false_and, Bool.or_false, Bool.false_or, ext_2_0, ext_2_1, ext_3_0, ext_3_1, ext_3_2, bne_self_eq_false, beq_self_eq_true, goG_undef, Bool.not_true, Bool.not_false, stP_aggL, b3.mk4, b4.mk3]
    have plb : pl.length ≤ 1000 := by
      cases hg : gd with
      | true => rw [(G hg).2.2.2.1, plainsL_len]; have := plainN_in (G hg).1; omega
      | false => exact (G0 hg).2
    have pA : PairsA N18 (.slice (some ⟨dP, 0, none⟩) pl.length fP) pl := PairsO.in (e := 43) (lo := 0) (hi := dP + 1) ⟨by omega, dP, fP, rfl, by omega, by omega, P⟩
    have qA : PairsA N18 (.slice (some ⟨dQ, 0, none⟩) pl.length fQ) pl := PairsO.in (e := 43) (lo := 0) (hi := dQ + 1) ⟨by omega, dQ, fQ, rfl, by omega, by omega, Q⟩
    first | refine callH_rc (rPairsM_rc _ _ _ pl pA qA) ?_ | refine rcallH_rc (rPairsM_rc _ _ _ pl pA qA) ?_
    clear pA qA
    rintro r new ⟨rfl, nr⟩
    clear Q
    have iu := iu.ext new
    have b3 := b3.ext new
    have b4 := b4.ext new
    have L := L.ext new
    have P := P.ext new
    obtain ⟨N19, hN⟩ : ∃ N, N = N18 ++ new := ⟨_, rfl⟩
    rw [← hN] at iu b3 b4 L P ⊢
    clear hN
    clear nr
    try simp (config := {implicitDefEqProofs := false, maxDischargeDepth := 20}) (disch := first | omega | (simp only [lenE]; done) | (simp only [lenE]; omega) | rfl | (simp only [lenE, markR_len]; done) | (simp only [lenE, markR_len]; omega)) only [runE, mapE, listE, initT_5, initT_6, initT_7, initT_8, resV, oneV, binA, unA, reduceCtorEq, Nat.reduceEqDiff, Nat.reduceAdd, Nat.reduceLT, Nat.reduceLeDiff, Nat.reduceMul, Nat.reduceSub, ↓reduceIte, decide_true, decide_false, Bool.true_eq_false, Bool.false_eq_true, Bool.not_true, Bool.not_false, if_true, if_false, and_true, true_and, memE, celE, w64, Nat.zero_add, Nat.add_zero, Nat.mul_one, putL, and_self, ldn, Bool.and_self, Bool.and_true, Bool.true_and, Bool.and_false, Bool.false_and, Bool.or_false, Bool.false_or, ext_2_0, ext_2_1, ext_3_0, ext_3_1, ext_3_2, bne_self_eq_false, beq_self_eq_true, goG_undef, Bool.not_true, Bool.not_false, stP_aggL, b3.mk4, b4.mk3]
    first | refine callH_rc (C1i _ iu) ?_ | refine rcallH_rc (C1i _ iu) ?_
    rintro r new ⟨rfl, nr⟩
    have iu := iu.ext new
    have b3 := b3.ext new
    have b4 := b4.ext new
    have L := L.ext new
    have P := P.ext new
    obtain ⟨N20, hN⟩ : ∃ N, N = N19 ++ new := ⟨_, rfl⟩
    rw [← hN] at iu b3 b4 L P ⊢
    clear hN
    clear nr
    try simp (config := {implicitDefEqProofs := false, maxDischargeDepth := 20}) (disch := first | omega | (simp only [lenE]; done) | (simp only [lenE]; omega) | rfl | (simp only [lenE, markR_len]; done) | (simp only [lenE, markR_len]; omega)) only [runE, mapE, listE, initT_5, initT_6, initT_7, initT_8, resV, oneV, binA, unA, reduceCtorEq, Nat.reduceEqDiff, Nat.reduceAdd, Nat.reduceLT, Nat.reduceLeDiff, Nat.reduceMul, Nat.reduceSub, ↓reduceIte, decide_true, decide_false, Bool.true_eq_false, Bool.false_eq_true, Bool.not_true, Bool.not_false, if_true, if_false, and_true, true_and, memE, celE, w64, Nat.zero_add, Nat.add_zero, Nat.mul_one, putL, and_self, ldn, Bool.and_self, Bool.and_true, Bool.true_and, Bool.and_false, Bool.false_and, Bool.or_false, Bool.false_or, ext_2_0, ext_2_1, ext_3_0, ext_3_1, ext_3_2, bne_self_eq_false, beq_self_eq_true, goG_undef, Bool.not_true, Bool.not_false, stP_aggL, b3.mk4, b4.mk3]
    first | refine callH_rc (C2i _ iu) ?_ | refine rcallH_rc (C2i _ iu) ?_
    rintro r new ⟨rfl, nr⟩
    have iu := iu.ext new
    have b3 := b3.ext new
    have b4 := b4.ext new
    have L := L.ext new
    have P := P.ext new
    obtain ⟨N21, hN⟩ : ∃ N, N = N20 ++ new := ⟨_, rfl⟩
    rw [← hN] at iu b3 b4 L P ⊢
    clear hN
    clear nr
    try simp (config := {implicitDefEqProofs := false, maxDischargeDepth := 20}) (disch := first | omega | (simp only [lenE]; done) | (simp only [lenE]; omega) | rfl | (simp only [lenE, markR_len]; done) | (simp only [lenE, markR_len]; omega)) only [runE, mapE, listE, initT_5, initT_6, initT_7, initT_8, resV, oneV, binA, unA, reduceCtorEq, Nat.reduceEqDiff, Nat.reduceAdd, Nat.reduceLT, Nat.reduceLeDiff, Nat.reduceMul, Nat.reduceSub, ↓reduceIte, decide_true, decide_false, Bool.true_eq_false, Bool.false_eq_true, Bool.not_true, Bool.not_false, if_true, if_false, and_true, true_and, memE, celE, w64, Nat.zero_add, Nat.add_zero, Nat.mul_one, putL, and_self, ldn, Bool.and_self, Bool.and_true, Bool.true_and, Bool.and_false, Bool.false_and, Bool.or_false, Bool.false_or, ext_2_0, ext_2_1, ext_3_0, ext_3_1, ext_3_2, bne_self_eq_false, beq_self_eq_true, goG_undef, Bool.not_true, Bool.not_false, stP_aggL, b3.mk4, b4.mk3]
    cases hg : gd with
    | false => simp (config := {implicitDefEqProofs := false, maxDischargeDepth := 20}) (disch := first | omega | (simp only [lenE]; done) | (simp only [lenE]; omega) | rfl | (simp only [lenE, markR_len]; done) | (simp only [lenE, markR_len]; omega)) only [runE, mapE, listE, initT_5, initT_6, initT_7, initT_8, resV, oneV, binA, unA, reduceCtorEq, Nat.reduceEqDiff, Nat.reduceAdd, Nat.reduceLT, Nat.reduceLeDiff, Nat.reduceMul, Nat.reduceSub, ↓reduceIte, decide_true, decide_false, Bool.true_eq_false, Bool.false_eq_true, Bool.not_true, Bool.not_false, if_true, if_false, and_true, true_and, memE, celE, w64, Nat.zero_add, Nat.add_zero, Nat.mul_one, putL, and_self, ldn, Bool.and_self, Bool.and_true, Bool.true_and, Bool.and_false, Bool.false_and, Bool.or_false, Bool.false_or, ext_2_0, ext_2_1, ext_3_0, ext_3_1, ext_3_2, bne_self_eq_false, beq_self_eq_true, goG_undef, Bool.not_true, Bool.not_false, stP_aggL]
    | true =>
      obtain ⟨hG, e1, e2, e3, e4⟩ := G hg
      subst e1
      subst e2
      subst e3
      subst e4
      subst hg
      have hq : qo = true → mi = (joiO p : Int) := fun h => P4 rfl h
      have jl := joiO_le p
      have pn := plainN_in hG
      have hmk := hG.make
      have hpr := hG.price
      cases qo with
      | true =>
        have hmi := hq rfl
        subst hmi
        try simp (config := {implicitDefEqProofs := false, maxDischargeDepth := 20}) (disch := first | omega | (simp only [lenE]; done) | (simp only [lenE]; omega) | rfl | (simp only [lenE, markR_len]; done) | (simp only [lenE, markR_len]; omega)) only [runE, mapE, listE, initT_5, initT_6, initT_7, initT_8, resV, oneV, binA, unA, reduceCtorEq, Nat.reduceEqDiff, Nat.reduceAdd, Nat.reduceLT, Nat.reduceLeDiff, Nat.reduceMul, Nat.reduceSub, ↓reduceIte, decide_true, decide_false, Bool.true_eq_false, Bool.false_eq_true, Bool.not_true, Bool.not_false, if_true, if_false, and_true, true_and, memE, celE, w64, Nat.zero_add, Nat.add_zero, Nat.mul_one, putL, and_self, ldn, Bool.and_self, Bool.and_true, Bool.true_and, Bool.and_false, Bool.false_and, Bool.or_false, Bool.false_or, ext_2_0, ext_2_1, ext_3_0, ext_3_1, ext_3_2, bne_self_eq_false, beq_self_eq_true, goG_undef, Bool.not_true, Bool.not_false, stP_aggL, b3.mk4, b4.mk3]
        have iL := L.ints (by rw [Ab.fL_len]; omega) fL
        rw [fL_len] at iL ⊢
        rw [plainsL_len]
        refine loop_inv mixed (fun s => ∃ a : Nat, a ≤ 9 ∧ s.m = N21 ∧ s.t 3 = .pointer (some ⟨bm, 0, none⟩) ∧ s.t 22 = .slice (some ⟨dL, 0, none⟩) 9 fL ∧ s.t 26 = .int .i64 (joiO p : Nat) ∧ s.t 34 = .slice (some ⟨dP, 0, none⟩) (plainN p) fP ∧ s.t 38 = .int .i64 (bestPl p) ∧ s.t 42 = .int .i64 (a : Int)) (fun s => 15 - (intOf (s.t 42)).toNat) ⟨0, by omega, rfl, rfl, rfl, rfl, rfl, rfl, rfl⟩ ?_
        rintro s ⟨a, ha, tm, t3, t22, t26, t34, t38, t42⟩
        have iB := iL.at_ (joiO p) (by rw [Ab.fL_len]; omega)
        have lB := iL.ld (joiO p) (by rw [Ab.fL_len]; omega)
        rw [fL_at (by omega)] at lB
        have jb := joi_bd hG jl
        by_cases hlt : a < 9
        · have hlt' : (a : Int) < ((9 : Nat) : Int) := by omega
          have iA := iL.at_ a (by rw [Ab.fL_len]; omega)
          have lA := iL.ld a (by rw [Ab.fL_len]; omega)
          rw [fL_at hlt] at lA
          have m1 : ¬ (joiP p (joiO p) < joiP p a) := by have := joi_most p (q := a) (by omega); omega
          by_cases h1 : 1 < a
          · have h1' : (1 : Int) < (a : Int) := by omega
            have am : (a : Int) - 1 = ((a - 1 : Nat) : Int) := by omega
            have am2 : (a : Int) - 2 = ((a - 2 : Nat) : Int) := by omega
            have i1 := iL.at_ (a - 1) (by rw [Ab.fL_len]; omega)
            have l1 := iL.ld (a - 1) (by rw [Ab.fL_len]; omega)
            have i2 := iL.at_ (a - 2) (by rw [Ab.fL_len]; omega)
            have l2 := iL.ld (a - 2) (by rw [Ab.fL_len]; omega)
            rw [fL_at (by omega)] at l1 l2
            have b0 := joi_bd hG (q := a) (by omega)
            have b1 := joi_bd hG (q := a - 1) (by omega)
            have b2 := joi_bd hG (q := a - 2) (by omega)
            have cv := joi_conc hG (a - 2)
            rw [show a - 2 + 2 = a by omega, show a - 2 + 1 = a - 1 by omega] at cv
            have c1 : ¬ (joiP p (a - 1) - joiP p (a - 2) < joiP p a - joiP p (a - 1)) := by omega
            simp (config := {implicitDefEqProofs := false, maxDischargeDepth := 20}) (disch := first | omega | (simp only [lenE]; done) | (simp only [lenE]; omega) | rfl | (simp only [lenE, markR_len]; done) | (simp only [lenE, markR_len]; omega)) only [runE, mapE, listE, initT_5, initT_6, initT_7, initT_8, resV, oneV, binA, unA, reduceCtorEq, Nat.reduceEqDiff, Nat.reduceAdd, Nat.reduceLT, Nat.reduceLeDiff, Nat.reduceMul, Nat.reduceSub, ↓reduceIte, decide_true, decide_false, Bool.true_eq_false, Bool.false_eq_true, Bool.not_true, Bool.not_false, if_true, if_false, and_true, true_and, memE, celE, w64, Nat.zero_add, Nat.add_zero, Nat.mul_one, putL, and_self, ldn, Bool.and_self, Bool.and_true, Bool.true_and, Bool.and_false, Bool.false_and, Bool.or_false, Bool.false_or, ext_2_0, ext_2_1, ext_3_0, ext_3_1, ext_3_2, bne_self_eq_false, beq_self_eq_true, goG_undef, Bool.not_true, Bool.not_false, stP_aggL, b3.mk4, tm, t3, t22, t26, t34, t38, t42, hlt', iA, lA, iB, lB, gt_iff_lt, m1, h1', am, am2, i1, l1, i2, l2, c1]
            exact ⟨⟨a + 1, by omega, by simp⟩, by simp [intOf]; omega⟩
          · have h1' : ¬ ((1 : Int) < (a : Int)) := by omega
            simp (config := {implicitDefEqProofs := false, maxDischargeDepth := 20}) (disch := first | omega | (simp only [lenE]; done) | (simp only [lenE]; omega) | rfl | (simp only [lenE, markR_len]; done) | (simp only [lenE, markR_len]; omega)) only [runE, mapE, listE, initT_5, initT_6, initT_7, initT_8, resV, oneV, binA, unA, reduceCtorEq, Nat.reduceEqDiff, Nat.reduceAdd, Nat.reduceLT, Nat.reduceLeDiff, Nat.reduceMul, Nat.reduceSub, ↓reduceIte, decide_true, decide_false, Bool.true_eq_false, Bool.false_eq_true, Bool.not_true, Bool.not_false, if_true, if_false, and_true, true_and, memE, celE, w64, Nat.zero_add, Nat.add_zero, Nat.mul_one, putL, and_self, ldn, Bool.and_self, Bool.and_true, Bool.true_and, Bool.and_false, Bool.false_and, Bool.or_false, Bool.false_or, ext_2_0, ext_2_1, ext_3_0, ext_3_1, ext_3_2, bne_self_eq_false, beq_self_eq_true, goG_undef, Bool.not_true, Bool.not_false, stP_aggL, b3.mk4, tm, t3, t22, t26, t34, t38, t42, hlt', iA, lA, iB, lB, gt_iff_lt, m1, h1']
            exact ⟨⟨a + 1, by omega, by simp⟩, by simp [intOf]; omega⟩
        · have hlt' : ¬ ((a : Int) < ((9 : Nat) : Int)) := by omega
          simp (config := {implicitDefEqProofs := false, maxDischargeDepth := 20}) (disch := first | omega | (simp only [lenE]; done) | (simp only [lenE]; omega) | rfl | (simp only [lenE, markR_len]; done) | (simp only [lenE, markR_len]; omega)) only [runE, mapE, listE, initT_5, initT_6, initT_7, initT_8, resV, oneV, binA, unA, reduceCtorEq, Nat.reduceEqDiff, Nat.reduceAdd, Nat.reduceLT, Nat.reduceLeDiff, Nat.reduceMul, Nat.reduceSub, ↓reduceIte, decide_true, decide_false, Bool.true_eq_false, Bool.false_eq_true, Bool.not_true, Bool.not_false, if_true, if_false, and_true, true_and, memE, celE, w64, Nat.zero_add, Nat.add_zero, Nat.mul_one, putL, and_self, ldn, Bool.and_self, Bool.and_true, Bool.true_and, Bool.and_false, Bool.false_and, Bool.or_false, Bool.false_or, ext_2_0, ext_2_1, ext_3_0, ext_3_1, ext_3_2, bne_self_eq_false, beq_self_eq_true, goG_undef, Bool.not_true, Bool.not_false, stP_aggL, tm, t3, t22, t26, t34, t38, t42, hlt']
          have rdp : ∀ j, j < plainN p → rdc N21 dP (j * 2) = some (.int .i64 (plainP p j).1) ∧ rdc N21 dP (j * 2 + 1) = some (.int .i64 (plainP p j).2) := fun j hj => by
            have := pairsC_at (plainsL p (plainN p)) j (by rw [plainsL_len]; exact hj)
            rw [plainsL_at hj] at this
            rw [P.rd, P.rd]; exact this
          obtain ⟨ib, hib⟩ : ∃ ib, ib = argG (fun i => (plainP p i).2) (plainN p - 1) := ⟨_, rfl⟩
          have ibl : ib < plainN p := by have := argG_le (fun i => (plainP p i).2) (plainN p - 1); omega
          have bpe : bestPl p - p.make = (ib : Int) := by rw [hib]; unfold bestPl; omega
          have bpb : -1000 ≤ bestPl p ∧ bestPl p ≤ 1000 := by omega
          refine loop_inv mixed (fun s => ∃ a : Nat, a ≤ plainN p ∧ s.m = N21 ∧ s.t 3 = .pointer (some ⟨bm, 0, none⟩) ∧ s.t 26 = .int .i64 (joiO p : Nat) ∧ s.t 34 = .slice (some ⟨dP, 0, none⟩) (plainN p) fP ∧ s.t 38 = .int .i64 (bestPl p) ∧ s.t 43 = .int .i64 (a : Int)) (fun s => 105 - (intOf (s.t 43)).toNat) ⟨0, by omega, by simp only [put_t, put_t', put_m, putT_t, putT_t', putT_m, init_t, init_m, initT_0, initT_1, initT_2, initT_3, initT_4, initT_5, initT_6, initT_7, initT_8, Nat.reduceEqDiff, ↓reduceIte, tm], by simp only [put_t, put_t', put_m, putT_t, putT_t', putT_m, init_t, init_m, initT_0, initT_1, initT_2, initT_3, initT_4, initT_5, initT_6, initT_7, initT_8, Nat.reduceEqDiff, ↓reduceIte, t3], by simp only [put_t, put_t', put_m, putT_t, putT_t', putT_m, init_t, init_m, initT_0, initT_1, initT_2, initT_3, initT_4, initT_5, initT_6, initT_7, initT_8, Nat.reduceEqDiff, ↓reduceIte, t26], by simp only [put_t, put_t', put_m, putT_t, putT_t', putT_m, init_t, init_m, initT_0, initT_1, initT_2, initT_3, initT_4, initT_5, initT_6, initT_7, initT_8, Nat.reduceEqDiff, ↓reduceIte, t34], by simp only [put_t, put_t', put_m, putT_t, putT_t', putT_m, init_t, init_m, initT_0, initT_1, initT_2, initT_3, initT_4, initT_5, initT_6, initT_7, initT_8, Nat.reduceEqDiff, ↓reduceIte, t38], rfl⟩ ?_
          rintro s ⟨a, ha, tm, t3, t26, t34, t38, t43⟩
          by_cases hpa : a < plainN p
          · have hpa' : (a : Int) < (plainN p : Nat) := by omega
            obtain ⟨r1, r2⟩ := rdp a hpa
            obtain ⟨-, r3⟩ := rdp ib ibl
            have m1 : ¬ ((joiO p : Int) < (plainP p a).1) := by
              have := plain_best hG (r := p.make + a) (by omega)
              simp only [plainP]; omega
            have m2 : ¬ ((plainP p ib).2 < (plainP p a).2) := by
              have := argG_max (fun i => (plainP p i).2) (plainN p - 1) a (by omega)
              rw [← hib] at this; omega
            have zi := iadA_in (id := dP) (off := 0) (n := plainN p) (fl := fP) (sz := 2) (k := .i64) (j := a) hpa
            have zb := iadA_in (id := dP) (off := 0) (n := plainN p) (fl := fP) (sz := 2) (k := .i64) (j := ib) ibl
            by_cases h0 : 0 < a
            · have h0' : (0 : Int) < (a : Int) := by omega
              have am : (a : Int) - 1 = ((a - 1 : Nat) : Int) := by omega
              obtain ⟨r5, -⟩ := rdp (a - 1) (by omega)
              have za := iadA_in (id := dP) (off := 0) (n := plainN p) (fl := fP) (sz := 2) (k := .i64) (j := a - 1) (by omega)
              have m3 : ¬ ((plainP p (a - 1)).1 < (plainP p a).1) := by
                have := plain_less hG (p := p.make + ((a - 1 : Nat) : Int)) (r := p.make + a) (by omega)
                simp only [plainP]; omega
              simp (config := {implicitDefEqProofs := false, maxDischargeDepth := 20}) (disch := first | omega | (simp only [lenE]; done) | (simp only [lenE]; omega) | rfl | (simp only [lenE, markR_len]; done) | (simp only [lenE, markR_len]; omega)) only [runE, mapE, listE, initT_5, initT_6, initT_7, initT_8, resV, oneV, binA, unA, reduceCtorEq, Nat.reduceEqDiff, Nat.reduceAdd, Nat.reduceLT, Nat.reduceLeDiff, Nat.reduceMul, Nat.reduceSub, ↓reduceIte, decide_true, decide_false, Bool.true_eq_false, Bool.false_eq_true, Bool.not_true, Bool.not_false, if_true, if_false, and_true, true_and, memE, celE, w64, Nat.zero_add, Nat.add_zero, Nat.mul_one, putL, and_self, ldn, Bool.and_self, Bool.and_true, Bool.true_and, Bool.and_false, Bool.false_and, Bool.or_false, Bool.false_or, ext_2_0, ext_2_1, ext_3_0, ext_3_1, ext_3_2, bne_self_eq_false, beq_self_eq_true, goG_undef, Bool.not_true, Bool.not_false, stP_aggL, b3.mk4, tm, t3, t26, t34, t38, t43, hpa', zi, zb, za, iada_0, iada_1, r1, r2, r3, r5, gt_iff_lt, m1, m2, m3, h0', am, bpe]
              exact ⟨⟨a + 1, by omega, by simp⟩, by simp [intOf]; omega⟩
            · have h0' : ¬ ((0 : Int) < (a : Int)) := by omega
              simp (config := {implicitDefEqProofs := false, maxDischargeDepth := 20}) (disch := first | omega | (simp only [lenE]; done) | (simp only [lenE]; omega) | rfl | (simp only [lenE, markR_len]; done) | (simp only [lenE, markR_len]; omega)) only [runE, mapE, listE, initT_5, initT_6, initT_7, initT_8, resV, oneV, binA, unA, reduceCtorEq, Nat.reduceEqDiff, Nat.reduceAdd, Nat.reduceLT, Nat.reduceLeDiff, Nat.reduceMul, Nat.reduceSub, ↓reduceIte, decide_true, decide_false, Bool.true_eq_false, Bool.false_eq_true, Bool.not_true, Bool.not_false, if_true, if_false, and_true, true_and, memE, celE, w64, Nat.zero_add, Nat.add_zero, Nat.mul_one, putL, and_self, ldn, Bool.and_self, Bool.and_true, Bool.true_and, Bool.and_false, Bool.false_and, Bool.or_false, Bool.false_or, ext_2_0, ext_2_1, ext_3_0, ext_3_1, ext_3_2, bne_self_eq_false, beq_self_eq_true, goG_undef, Bool.not_true, Bool.not_false, stP_aggL, b3.mk4, tm, t3, t26, t34, t38, t43, hpa', zi, zb, iada_0, iada_1, r1, r2, r3, gt_iff_lt, m1, m2, h0', bpe]
              exact ⟨⟨a + 1, by omega, by simp⟩, by simp [intOf]; omega⟩
          · have hpa' : ¬ ((a : Int) < (plainN p : Nat)) := by omega
            simp (config := {implicitDefEqProofs := false, maxDischargeDepth := 20}) (disch := first | omega | (simp only [lenE]; done) | (simp only [lenE]; omega) | rfl | (simp only [lenE, markR_len]; done) | (simp only [lenE, markR_len]; omega)) only [runE, mapE, listE, initT_5, initT_6, initT_7, initT_8, resV, oneV, binA, unA, reduceCtorEq, Nat.reduceEqDiff, Nat.reduceAdd, Nat.reduceLT, Nat.reduceLeDiff, Nat.reduceMul, Nat.reduceSub, ↓reduceIte, decide_true, decide_false, Bool.true_eq_false, Bool.false_eq_true, Bool.not_true, Bool.not_false, if_true, if_false, and_true, true_and, memE, celE, w64, Nat.zero_add, Nat.add_zero, Nat.mul_one, putL, and_self, ldn, Bool.and_self, Bool.and_true, Bool.true_and, Bool.and_false, Bool.false_and, Bool.or_false, Bool.false_or, ext_2_0, ext_2_1, ext_3_0, ext_3_1, ext_3_2, bne_self_eq_false, beq_self_eq_true, goG_undef, Bool.not_true, Bool.not_false, stP_aggL, tm, t3, t26, t34, t38, t43, hpa']
      | false =>
        try simp (config := {implicitDefEqProofs := false, maxDischargeDepth := 20}) (disch := first | omega | (simp only [lenE]; done) | (simp only [lenE]; omega) | rfl | (simp only [lenE, markR_len]; done) | (simp only [lenE, markR_len]; omega)) only [runE, mapE, listE, initT_5, initT_6, initT_7, initT_8, resV, oneV, binA, unA, reduceCtorEq, Nat.reduceEqDiff, Nat.reduceAdd, Nat.reduceLT, Nat.reduceLeDiff, Nat.reduceMul, Nat.reduceSub, ↓reduceIte, decide_true, decide_false, Bool.true_eq_false, Bool.false_eq_true, Bool.not_true, Bool.not_false, if_true, if_false, and_true, true_and, memE, celE, w64, Nat.zero_add, Nat.add_zero, Nat.mul_one, putL, and_self, ldn, Bool.and_self, Bool.and_true, Bool.true_and, Bool.and_false, Bool.false_and, Bool.or_false, Bool.false_or, ext_2_0, ext_2_1, ext_3_0, ext_3_1, ext_3_2, bne_self_eq_false, beq_self_eq_true, goG_undef, Bool.not_true, Bool.not_false, stP_aggL, b3.mk4, b4.mk3]
        have iL := L.ints (by rw [Ab.fL_len]; omega) fL
        rw [fL_len] at iL ⊢
        rw [plainsL_len]
        refine loop_inv mixed (fun s => ∃ a : Nat, a ≤ 9 ∧ s.m = N21 ∧ s.t 3 = .pointer (some ⟨bm, 0, none⟩) ∧ s.t 22 = .slice (some ⟨dL, 0, none⟩) 9 fL ∧ s.t 26 = .int .i64 (joiO p : Nat) ∧ s.t 34 = .slice (some ⟨dP, 0, none⟩) (plainN p) fP ∧ s.t 38 = .int .i64 (bestPl p) ∧ s.t 42 = .int .i64 (a : Int)) (fun s => 15 - (intOf (s.t 42)).toNat) ⟨0, by omega, rfl, rfl, rfl, rfl, rfl, rfl, rfl⟩ ?_
        rintro s ⟨a, ha, tm, t3, t22, t26, t34, t38, t42⟩
        have iB := iL.at_ (joiO p) (by rw [Ab.fL_len]; omega)
        have lB := iL.ld (joiO p) (by rw [Ab.fL_len]; omega)
        rw [fL_at (by omega)] at lB
        have jb := joi_bd hG jl
        by_cases hlt : a < 9
        · have hlt' : (a : Int) < ((9 : Nat) : Int) := by omega
          have iA := iL.at_ a (by rw [Ab.fL_len]; omega)
          have lA := iL.ld a (by rw [Ab.fL_len]; omega)
          rw [fL_at hlt] at lA
          have m1 : ¬ (joiP p (joiO p) < joiP p a) := by have := joi_most p (q := a) (by omega); omega
          by_cases h1 : 1 < a
          · have h1' : (1 : Int) < (a : Int) := by omega
            have am : (a : Int) - 1 = ((a - 1 : Nat) : Int) := by omega
            have am2 : (a : Int) - 2 = ((a - 2 : Nat) : Int) := by omega
            have i1 := iL.at_ (a - 1) (by rw [Ab.fL_len]; omega)
            have l1 := iL.ld (a - 1) (by rw [Ab.fL_len]; omega)
            have i2 := iL.at_ (a - 2) (by rw [Ab.fL_len]; omega)
            have l2 := iL.ld (a - 2) (by rw [Ab.fL_len]; omega)
            rw [fL_at (by omega)] at l1 l2
            have b0 := joi_bd hG (q := a) (by omega)
            have b1 := joi_bd hG (q := a - 1) (by omega)
            have b2 := joi_bd hG (q := a - 2) (by omega)
            have cv := joi_conc hG (a - 2)
            rw [show a - 2 + 2 = a by omega, show a - 2 + 1 = a - 1 by omega] at cv
            have c1 : ¬ (joiP p (a - 1) - joiP p (a - 2) < joiP p a - joiP p (a - 1)) := by omega
            simp (config := {implicitDefEqProofs := false, maxDischargeDepth := 20}) (disch := first | omega | (simp only [lenE]; done) | (simp only [lenE]; omega) | rfl | (simp only [lenE, markR_len]; done) | (simp only [lenE, markR_len]; omega)) only [runE, mapE, listE, initT_5, initT_6, initT_7, initT_8, resV, oneV, binA, unA, reduceCtorEq, Nat.reduceEqDiff, Nat.reduceAdd, Nat.reduceLT, Nat.reduceLeDiff, Nat.reduceMul, Nat.reduceSub, ↓reduceIte, decide_true, decide_false, Bool.true_eq_false, Bool.false_eq_true, Bool.not_true, Bool.not_false, if_true, if_false, and_true, true_and, memE, celE, w64, Nat.zero_add, Nat.add_zero, Nat.mul_one, putL, and_self, ldn, Bool.and_self, Bool.and_true, Bool.true_and, Bool.and_false, Bool.false_and, Bool.or_false, Bool.false_or, ext_2_0, ext_2_1, ext_3_0, ext_3_1, ext_3_2, bne_self_eq_false, beq_self_eq_true, goG_undef, Bool.not_true, Bool.not_false, stP_aggL, b3.mk4, tm, t3, t22, t26, t34, t38, t42, hlt', iA, lA, iB, lB, gt_iff_lt, m1, h1', am, am2, i1, l1, i2, l2, c1]
            exact ⟨⟨a + 1, by omega, by simp⟩, by simp [intOf]; omega⟩
          · have h1' : ¬ ((1 : Int) < (a : Int)) := by omega
            simp (config := {implicitDefEqProofs := false, maxDischargeDepth := 20}) (disch := first | omega | (simp only [lenE]; done) | (simp only [lenE]; omega) | rfl | (simp only [lenE, markR_len]; done) | (simp only [lenE, markR_len]; omega)) only [runE, mapE, listE, initT_5, initT_6, initT_7, initT_8, resV, oneV, binA, unA, reduceCtorEq, Nat.reduceEqDiff, Nat.reduceAdd, Nat.reduceLT, Nat.reduceLeDiff, Nat.reduceMul, Nat.reduceSub, ↓reduceIte, decide_true, decide_false, Bool.true_eq_false, Bool.false_eq_true, Bool.not_true, Bool.not_false, if_true, if_false, and_true, true_and, memE, celE, w64, Nat.zero_add, Nat.add_zero, Nat.mul_one, putL, and_self, ldn, Bool.and_self, Bool.and_true, Bool.true_and, Bool.and_false, Bool.false_and, Bool.or_false, Bool.false_or, ext_2_0, ext_2_1, ext_3_0, ext_3_1, ext_3_2, bne_self_eq_false, beq_self_eq_true, goG_undef, Bool.not_true, Bool.not_false, stP_aggL, b3.mk4, tm, t3, t22, t26, t34, t38, t42, hlt', iA, lA, iB, lB, gt_iff_lt, m1, h1']
            exact ⟨⟨a + 1, by omega, by simp⟩, by simp [intOf]; omega⟩
        · have hlt' : ¬ ((a : Int) < ((9 : Nat) : Int)) := by omega
          simp (config := {implicitDefEqProofs := false, maxDischargeDepth := 20}) (disch := first | omega | (simp only [lenE]; done) | (simp only [lenE]; omega) | rfl | (simp only [lenE, markR_len]; done) | (simp only [lenE, markR_len]; omega)) only [runE, mapE, listE, initT_5, initT_6, initT_7, initT_8, resV, oneV, binA, unA, reduceCtorEq, Nat.reduceEqDiff, Nat.reduceAdd, Nat.reduceLT, Nat.reduceLeDiff, Nat.reduceMul, Nat.reduceSub, ↓reduceIte, decide_true, decide_false, Bool.true_eq_false, Bool.false_eq_true, Bool.not_true, Bool.not_false, if_true, if_false, and_true, true_and, memE, celE, w64, Nat.zero_add, Nat.add_zero, Nat.mul_one, putL, and_self, ldn, Bool.and_self, Bool.and_true, Bool.true_and, Bool.and_false, Bool.false_and, Bool.or_false, Bool.false_or, ext_2_0, ext_2_1, ext_3_0, ext_3_1, ext_3_2, bne_self_eq_false, beq_self_eq_true, goG_undef, Bool.not_true, Bool.not_false, stP_aggL, tm, t3, t22, t26, t34, t38, t42, hlt']
          have rdp : ∀ j, j < plainN p → rdc N21 dP (j * 2) = some (.int .i64 (plainP p j).1) ∧ rdc N21 dP (j * 2 + 1) = some (.int .i64 (plainP p j).2) := fun j hj => by
            have := pairsC_at (plainsL p (plainN p)) j (by rw [plainsL_len]; exact hj)
            rw [plainsL_at hj] at this
            rw [P.rd, P.rd]; exact this
          obtain ⟨ib, hib⟩ : ∃ ib, ib = argG (fun i => (plainP p i).2) (plainN p - 1) := ⟨_, rfl⟩
          have ibl : ib < plainN p := by have := argG_le (fun i => (plainP p i).2) (plainN p - 1); omega
          have bpe : bestPl p - p.make = (ib : Int) := by rw [hib]; unfold bestPl; omega
          have bpb : -1000 ≤ bestPl p ∧ bestPl p ≤ 1000 := by omega
          refine loop_inv mixed (fun s => ∃ a : Nat, a ≤ plainN p ∧ s.m = N21 ∧ s.t 3 = .pointer (some ⟨bm, 0, none⟩) ∧ s.t 26 = .int .i64 (joiO p : Nat) ∧ s.t 34 = .slice (some ⟨dP, 0, none⟩) (plainN p) fP ∧ s.t 38 = .int .i64 (bestPl p) ∧ s.t 43 = .int .i64 (a : Int)) (fun s => 105 - (intOf (s.t 43)).toNat) ⟨0, by omega, by simp only [put_t, put_t', put_m, putT_t, putT_t', putT_m, init_t, init_m, initT_0, initT_1, initT_2, initT_3, initT_4, initT_5, initT_6, initT_7, initT_8, Nat.reduceEqDiff, ↓reduceIte, tm], by simp only [put_t, put_t', put_m, putT_t, putT_t', putT_m, init_t, init_m, initT_0, initT_1, initT_2, initT_3, initT_4, initT_5, initT_6, initT_7, initT_8, Nat.reduceEqDiff, ↓reduceIte, t3], by simp only [put_t, put_t', put_m, putT_t, putT_t', putT_m, init_t, init_m, initT_0, initT_1, initT_2, initT_3, initT_4, initT_5, initT_6, initT_7, initT_8, Nat.reduceEqDiff, ↓reduceIte, t26], by simp only [put_t, put_t', put_m, putT_t, putT_t', putT_m, init_t, init_m, initT_0, initT_1, initT_2, initT_3, initT_4, initT_5, initT_6, initT_7, initT_8, Nat.reduceEqDiff, ↓reduceIte, t34], by simp only [put_t, put_t', put_m, putT_t, putT_t', putT_m, init_t, init_m, initT_0, initT_1, initT_2, initT_3, initT_4, initT_5, initT_6, initT_7, initT_8, Nat.reduceEqDiff, ↓reduceIte, t38], rfl⟩ ?_
          rintro s ⟨a, ha, tm, t3, t26, t34, t38, t43⟩
          by_cases hpa : a < plainN p
          · have hpa' : (a : Int) < (plainN p : Nat) := by omega
            obtain ⟨r1, r2⟩ := rdp a hpa
            obtain ⟨-, r3⟩ := rdp ib ibl
            have m1 : ¬ ((joiO p : Int) < (plainP p a).1) := by
              have := plain_best hG (r := p.make + a) (by omega)
              simp only [plainP]; omega
            have m2 : ¬ ((plainP p ib).2 < (plainP p a).2) := by
              have := argG_max (fun i => (plainP p i).2) (plainN p - 1) a (by omega)
              rw [← hib] at this; omega
            have zi := iadA_in (id := dP) (off := 0) (n := plainN p) (fl := fP) (sz := 2) (k := .i64) (j := a) hpa
            have zb := iadA_in (id := dP) (off := 0) (n := plainN p) (fl := fP) (sz := 2) (k := .i64) (j := ib) ibl
            by_cases h0 : 0 < a
            · have h0' : (0 : Int) < (a : Int) := by omega
              have am : (a : Int) - 1 = ((a - 1 : Nat) : Int) := by omega
              obtain ⟨r5, -⟩ := rdp (a - 1) (by omega)
              have za := iadA_in (id := dP) (off := 0) (n := plainN p) (fl := fP) (sz := 2) (k := .i64) (j := a - 1) (by omega)
              have m3 : ¬ ((plainP p (a - 1)).1 < (plainP p a).1) := by
                have := plain_less hG (p := p.make + ((a - 1 : Nat) : Int)) (r := p.make + a) (by omega)
                simp only [plainP]; omega
              simp (config := {implicitDefEqProofs := false, maxDischargeDepth := 20}) (disch := first | omega | (simp only [lenE]; done) | (simp only [lenE]; omega) | rfl | (simp only [lenE, markR_len]; done) | (simp only [lenE, markR_len]; omega)) only [runE, mapE, listE, initT_5, initT_6, initT_7, initT_8, resV, oneV, binA, unA, reduceCtorEq, Nat.reduceEqDiff, Nat.reduceAdd, Nat.reduceLT, Nat.reduceLeDiff, Nat.reduceMul, Nat.reduceSub, ↓reduceIte, decide_true, decide_false, Bool.true_eq_false, Bool.false_eq_true, Bool.not_true, Bool.not_false, if_true, if_false, and_true, true_and, memE, celE, w64, Nat.zero_add, Nat.add_zero, Nat.mul_one, putL, and_self, ldn, Bool.and_self, Bool.and_true, Bool.true_and, Bool.and_false, Bool.false_and, Bool.or_false, Bool.false_or, ext_2_0, ext_2_1, ext_3_0, ext_3_1, ext_3_2, bne_self_eq_false, beq_self_eq_true, goG_undef, Bool.not_true, Bool.not_false, stP_aggL, b3.mk4, tm, t3, t26, t34, t38, t43, hpa', zi, zb, za, iada_0, iada_1, r1, r2, r3, r5, gt_iff_lt, m1, m2, m3, h0', am, bpe]
              exact ⟨⟨a + 1, by omega, by simp⟩, by simp [intOf]; omega⟩
            · have h0' : ¬ ((0 : Int) < (a : Int)) := by omega
              simp (config := {implicitDefEqProofs := false, maxDischargeDepth := 20}) (disch := first | omega | (simp only [lenE]; done) | (simp only [lenE]; omega) | rfl | (simp only [lenE, markR_len]; done) | (simp only [lenE, markR_len]; omega)) only [runE, mapE, listE, initT_5, initT_6, initT_7, initT_8, resV, oneV, binA, unA, reduceCtorEq, Nat.reduceEqDiff, Nat.reduceAdd, Nat.reduceLT, Nat.reduceLeDiff, Nat.reduceMul, Nat.reduceSub, ↓reduceIte, decide_true, decide_false, Bool.true_eq_false, Bool.false_eq_true, Bool.not_true, Bool.not_false, if_true, if_false, and_true, true_and, memE, celE, w64, Nat.zero_add, Nat.add_zero, Nat.mul_one, putL, and_self, ldn, Bool.and_self, Bool.and_true, Bool.true_and, Bool.and_false, Bool.false_and, Bool.or_false, Bool.false_or, ext_2_0, ext_2_1, ext_3_0, ext_3_1, ext_3_2, bne_self_eq_false, beq_self_eq_true, goG_undef, Bool.not_true, Bool.not_false, stP_aggL, b3.mk4, tm, t3, t26, t34, t38, t43, hpa', zi, zb, iada_0, iada_1, r1, r2, r3, gt_iff_lt, m1, m2, h0', bpe]
              exact ⟨⟨a + 1, by omega, by simp⟩, by simp [intOf]; omega⟩
          · have hpa' : ¬ ((a : Int) < (plainN p : Nat)) := by omega
            simp (config := {implicitDefEqProofs := false, maxDischargeDepth := 20}) (disch := first | omega | (simp only [lenE]; done) | (simp only [lenE]; omega) | rfl | (simp only [lenE, markR_len]; done) | (simp only [lenE, markR_len]; omega)) only [runE, mapE, listE, initT_5, initT_6, initT_7, initT_8, resV, oneV, binA, unA, reduceCtorEq, Nat.reduceEqDiff, Nat.reduceAdd, Nat.reduceLT, Nat.reduceLeDiff, Nat.reduceMul, Nat.reduceSub, ↓reduceIte, decide_true, decide_false, Bool.true_eq_false, Bool.false_eq_true, Bool.not_true, Bool.not_false, if_true, if_false, and_true, true_and, memE, celE, w64, Nat.zero_add, Nat.add_zero, Nat.mul_one, putL, and_self, ldn, Bool.and_self, Bool.and_true, Bool.true_and, Bool.and_false, Bool.false_and, Bool.or_false, Bool.false_or, ext_2_0, ext_2_1, ext_3_0, ext_3_1, ext_3_2, bne_self_eq_false, beq_self_eq_true, goG_undef, Bool.not_true, Bool.not_false, stP_aggL, tm, t3, t26, t34, t38, t43, hpa']
end Go.Proofs.Ytpedjcagaeedjaa.Ab
end
section
namespace Go.Proofs.Ytpedjcagaeedjaa.Ab
open Go Go.RowKit
set_option linter.unusedVariables false
theorem ws_word : ∀ (p r : List Char), p.all (fun c => c != ' ') = true → wordsSigns (p ++ ' ' :: r) = p :: wordsSigns r
  | [], r, _ => by rw [List.nil_append, wordsSigns]
  | c :: p, r, h => by
    rw [List.all_cons, Bool.and_eq_true] at h
    have hc : c ≠ ' ' := by simpa using h.1
    rw [List.cons_append, wordsSigns, ws_word p r h.2]
    intro e; exact hc e
def sumW : List Char := ['6', '4', '0', 'e', '9', '1', '1', 'e', 'e', 'f', '6', '9', '0', 'f', 'f', '3', 'e', 'd', '4', '9', '4', '2', '3', 'e', 'c', 'e', 'd', '7', 'b', 'a', '0', 'c', '8', '6', '5', 'd', '8', 'd', '2', 'a', '9', '5', '8', 'e', '7', '7', 'f', '1', 'e', '7', 'd', '7', '6', '5', 'a', '3', '8', '8', '8', '3', '0', '4', '2', 'b']
def restW : List Char := ['a', 't', ' ', 'l', 'o', 'o', 'p', '.', 'e', 'x', 'a', 'm', 'p', 'l', 'e', '/', 'g', '0', '1', '1', '1', '1', '/', 'l', 'a', 'w', 's', '.', 'F', 'n', 'P', 'r', 'o', 'f', 'i', 't', 's', ' ', 'l', 'o', 'o', 'p', '.', 'e', 'x', 'a', 'm', 'p', 'l', 'e', '/', 'g', '0', '1', '1', '1', '1', '/', 'l', 'a', 'w', 's', '.', 'F', 'n', 'C', 'o', 'n', 't', 'r', 'a', 'c', 't', 's']
set_option maxRecDepth 100000 in
theorem head_is : Try.prog.initOrder = String.ofList (['h', 'a', 'r', 'n', 'e', 's', 's'] ++ ' ' :: (sumW ++ ' ' :: (['c', 'u', 't'] ++ ' ' :: restW))) := by kernel_rfl
set_option maxRecDepth 100000 in
theorem sum_ok : isSumSigns sumW = true := by kernel_rfl
theorem head_words : behindMainWord (wordsSigns Try.prog.initOrder.toList) = ['c', 'u', 't'] :: wordsSigns restW := by
  rw [head_is, String.toList_ofList, ws_word _ _ (by decide), ws_word _ _ (by decide), ws_word _ _ (by decide)]
  simp only [behindMainWord, sum_ok, Bool.and_true]
  rfl
set_option maxRecDepth 100000 in
theorem strip_cut (X : List (List Char)) : stripLifts liftWords (['c', 'u', 't'] :: X) = ([], ['c', 'u', 't'] :: X) := by kernel_rfl
theorem lifts_gen (P : Program) (X : List (List Char)) (h : behindMainWord (wordsSigns P.initOrder.toList) = ['c', 'u', 't'] :: X) : P.headLifts = [] := by
  unfold Program.headLifts
  rw [h, strip_cut]
  rfl
theorem enters_gen (P : Program) (X : List (List Char)) (h : behindMainWord (wordsSigns P.initOrder.toList) = ['c', 'u', 't'] :: X) (h1 : P.laysLater = false) (h2 : P.bearsReflect = false) (h3 : P.doorFits [] = true) : P.mayEnter = true := by
  unfold Program.mayEnter
  rw [h]
  simp only [strip_cut, h1, h2, h3]
  rfl
theorem finals_gen (P : Program) (X : List (List Char)) (h : behindMainWord (wordsSigns P.initOrder.toList) = ['c', 'u', 't'] :: X) : P.liftsFinal = false := by
  unfold Program.liftsFinal
  rw [lifts_gen P X h, h]
  rfl
theorem make_gen (P : Program) (X : List (List Char)) (h : behindMainWord (wordsSigns P.initOrder.toList) = ['c', 'u', 't'] :: X) : P.make = some .cut := by
  unfold Program.make
  rw [h]
  rfl
set_option maxRecDepth 100000 in
theorem enters : Try.prog.mayEnter = true := enters_gen _ _ head_words (by kernel_rfl) (by kernel_rfl) (by kernel_rfl)
theorem no_finals : Try.prog.liftsFinal = false := finals_gen _ _ head_words
theorem makes : Try.prog.make = some .cut := make_gen _ _ head_words
end Go.Proofs.Ytpedjcagaeedjaa.Ab
end
