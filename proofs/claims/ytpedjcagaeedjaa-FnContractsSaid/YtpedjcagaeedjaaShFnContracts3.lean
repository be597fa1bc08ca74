/- What the law needs of the texts that it rests on. -/
import Derived.Test.YtpedjcagaeedjaaShFnContracts2
section
namespace Go.Proofs.Ytpedjcagaeedjaa.Ab
open Go Go.RowKit
set_option linter.unusedVariables false
set_option linter.unusedSimpArgs false
set_option maxRecDepth 100000
set_option maxHeartbeats 16000000 in
theorem law_FnContracts (l : List Int) (hb : ∀ x ∈ l, 0 ≤ x ∧ x ≤ 255) :
    AC Try.prog 4 [.slice (some ⟨0, 0, none⟩) l.length 0] [⟨.ro, 5, l.map (Value.int .u8)⟩] fun r _ => r = .bool true := by
  refine ac_of_run mixed ok_laws_FnContracts (by simp) (go_start _ _ _ ?_)
  simp (config := {implicitDefEqProofs := false, maxDischargeDepth := 20}) (disch := first | omega | (simp only [lenE]; done) | (simp only [lenE]; omega) | rfl | (simp only [lenE, markR_len]; done) | (simp only [lenE, markR_len]; omega)) only [runE, mapE, listE, initT_5, initT_6, initT_7, initT_8, resV, oneV, binA, unA, reduceCtorEq, Nat.reduceEqDiff, Nat.reduceAdd, Nat.reduceLT, Nat.reduceLeDiff, Nat.reduceMul, Nat.reduceSub, ↓reduceIte, decide_true, decide_false, Bool.true_eq_false, Bool.false_eq_true, Bool.not_true, Bool.not_false, if_true, if_false, and_true, true_and, memE, celE, w64, Nat.zero_add, Nat.add_zero, Nat.mul_one, putL, and_self, ldn, c_laws_FnContracts, r_laws_FnContracts]
  refine callH_rc (rBigM_rc _ 0 0 l.length) ?_
  rintro r new ⟨rfl, rfl⟩
  by_cases hbig : 65536 < l.length
  · simp (config := {implicitDefEqProofs := false, maxDischargeDepth := 20}) (disch := first | omega | (simp only [lenE]; done) | (simp only [lenE]; omega) | rfl | (simp only [lenE, markR_len]; done) | (simp only [lenE, markR_len]; omega)) only [runE, mapE, listE, initT_5, initT_6, initT_7, initT_8, resV, oneV, binA, unA, reduceCtorEq, Nat.reduceEqDiff, Nat.reduceAdd, Nat.reduceLT, Nat.reduceLeDiff, Nat.reduceMul, Nat.reduceSub, ↓reduceIte, decide_true, decide_false, Bool.true_eq_false, Bool.false_eq_true, Bool.not_true, Bool.not_false, if_true, if_false, and_true, true_and, memE, celE, w64, Nat.zero_add, Nat.add_zero, Nat.mul_one, putL, and_self, ldn, decide_eq_true hbig]
  have B : BytesA [⟨.ro, 5, l.map (Value.int .u8)⟩] 0 l := ⟨⟨.ro, by simp, rfl⟩, hb, by omega⟩
  obtain ⟨M, hM0⟩ : ∃ M : Mem, M = [⟨.ro, 5, l.map (Value.int .u8)⟩] := ⟨_, rfl⟩
  rw [← hM0] at B
  rw [List.append_nil, ← hM0]
  clear hM0
  simp (config := {implicitDefEqProofs := false, maxDischargeDepth := 20}) (disch := first | omega | (simp only [lenE]; done) | (simp only [lenE]; omega) | rfl | (simp only [lenE, markR_len]; done) | (simp only [lenE, markR_len]; omega)) only [runE, mapE, listE, initT_5, initT_6, initT_7, initT_8, resV, oneV, binA, unA, reduceCtorEq, Nat.reduceEqDiff, Nat.reduceAdd, Nat.reduceLT, Nat.reduceLeDiff, Nat.reduceMul, Nat.reduceSub, ↓reduceIte, decide_true, decide_false, Bool.true_eq_false, Bool.false_eq_true, Bool.not_true, Bool.not_false, if_true, if_false, and_true, true_and, memE, celE, w64, Nat.zero_add, Nat.add_zero, Nat.mul_one, putL, and_self, ldn, decide_eq_false hbig]
  refine callH_rc (DrawInProportion_rc _ 0 0 l B) ?_
  rintro r new ⟨nr, p, u, ⟨c, rfl⟩, hm⟩
  have iu : IntsA (M ++ new) u p.w := by
    obtain ⟨u2, e2, h2⟩ := hm.here
    have : u = u2 := by simpa [mkV] using e2
    rw [this]; exact h2
  have B := B.ext new
  obtain ⟨N0, hN⟩ : ∃ N, N = M ++ new := ⟨_, rfl⟩
  rw [← hN] at iu B ⊢
  clear hN hm nr
  have oc := ones_mk (p := p) (u := u) iu
  have s1 : stA (N0 ++ [⟨.own, 26, [.slice none 0 0, .int .i64 0, .int .i64 0, .int .i64 0]⟩] ++ [⟨.own, 28, [.int .i64 0, .int .i64 0, .int .i64 0]⟩]) N0.length 0 [u, .int .i64 p.price, .int .i64 p.make, .int .i64 p.left] = some (N0 ++ [⟨.own, 26, mkC p u⟩] ++ [⟨.own, 28, [.int .i64 0, .int .i64 0, .int .i64 0]⟩]) := by
    have h0 : OwnB (N0 ++ [(⟨.own, 26, [.slice none 0 0, .int .i64 0, .int .i64 0, .int .i64 0]⟩ : Blk)] ++ [⟨.own, 28, [.int .i64 0, .int .i64 0, .int .i64 0]⟩]) N0.length 26 [.slice none 0 0, .int .i64 0, .int .i64 0, .int .i64 0] := (OwnB.here rfl).ext _
    rw [h0.st (by simp) oc]
    simp [putL]
  have s2 : stA (N0 ++ [⟨.own, 26, mkC p u⟩] ++ [⟨.own, 28, [.int .i64 0, .int .i64 0, .int .i64 0]⟩]) (N0.length + 1) 0 [.int .i64 c.pay, .int .i64 c.back, .int .i64 c.share] = some (N0 ++ [⟨.own, 26, mkC p u⟩] ++ [⟨.own, 28, ctL c⟩]) := by
    have h0 : OwnB (N0 ++ [(⟨.own, 26, mkC p u⟩ : Blk)] ++ [⟨.own, 28, [.int .i64 0, .int .i64 0, .int .i64 0]⟩]) (N0.length + 1) 28 [.int .i64 0, .int .i64 0, .int .i64 0] := OwnB.here (by simp)
    rw [h0.st (by simp) rfl]
    simp [putL]
  have b3 : OwnB (N0 ++ [⟨.own, 26, mkC p u⟩] ++ [⟨.own, 28, ctL c⟩]) N0.length 26 (mkC p u) := (OwnB.here rfl).ext _
  have b4 : OwnB (N0 ++ [⟨.own, 26, mkC p u⟩] ++ [⟨.own, 28, ctL c⟩]) (N0.length + 1) 28 (ctL c) := OwnB.here (by simp)
  have iu : IntsA (N0 ++ [⟨.own, 26, mkC p u⟩] ++ [⟨.own, 28, ctL c⟩]) u p.w := (iu.ext _).ext _
  have B : BytesA (N0 ++ [⟨.own, 26, mkC p u⟩] ++ [⟨.own, 28, ctL c⟩]) 0 l := (B.ext _).ext _
  simp (config := {implicitDefEqProofs := false, maxDischargeDepth := 20}) (disch := first | omega | (simp only [lenE]; done) | (simp only [lenE]; omega) | rfl | (simp only [lenE, markR_len]; done) | (simp only [lenE, markR_len]; omega)) only [runE, mapE, listE, initT_5, initT_6, initT_7, initT_8, resV, oneV, binA, unA, reduceCtorEq, Nat.reduceEqDiff, Nat.reduceAdd, Nat.reduceLT, Nat.reduceLeDiff, Nat.reduceMul, Nat.reduceSub, ↓reduceIte, decide_true, decide_false, Bool.true_eq_false, Bool.false_eq_true, Bool.not_true, Bool.not_false, if_true, if_false, and_true, true_and, memE, celE, w64, Nat.zero_add, Nat.add_zero, Nat.mul_one, putL, and_self, ldn, Bool.and_self, Bool.and_true, Bool.true_and, Bool.and_false, Bool.false_and, Bool.or_false, Bool.false_or, ext_2_0, ext_2_1, ext_3_0, ext_3_1, ext_3_2, bne_self_eq_false, beq_self_eq_true, goG_undef, Bool.not_true, Bool.not_false, stP_aggL, bld_ct3, s1, s2, b3.mk4, b4.mk3]
  clear s1 s2
  generalize N0 ++ [(⟨.own, 26, mkC p u⟩ : Blk)] ++ [(⟨.own, 28, ctL c⟩ : Blk)] = N1 at *
  generalize N0.length = bm at *
  clear oc
  obtain ⟨ok, hok⟩ : ∃ t, t = bothM p c := ⟨_, rfl⟩
  obtain ⟨pt, hpt⟩ : ∃ t, t = (bothM p c && propB p c) := ⟨_, rfl⟩
  obtain ⟨so, hso⟩ : ∃ t, t = (if bothM p c then (selO p c : Int) else 0) := ⟨_, rfl⟩
  obtain ⟨ls, hls⟩ : ∃ t, t = (if bothM p c then lossP p c else 0) := ⟨_, rfl⟩
  obtain ⟨co, hco⟩ : ∃ t, t = (bothM p c && (lossP p c == 0)) := ⟨_, rfl⟩
  obtain ⟨gc, hgc⟩ : ∃ t, t = c.good := ⟨_, rfl⟩
  obtain ⟨gd, hgd⟩ : ∃ t, t = p.good := ⟨_, rfl⟩
  obtain ⟨bo, hbo⟩ : ∃ t, t = (if p.good then (joiO p : Int) else 0) := ⟨_, rfl⟩
  obtain ⟨L, hL⟩ : ∃ t, t = backsA p := ⟨_, rfl⟩
  have q1 : ¬ (ls < 0) := by
    by_cases h : bothM p c = true
    · have := loss_bd c (bothM_iff.1 h).1
      rw [hls, if_pos h]; omega
    · rw [hls, if_neg h]; omega
  have q2 : ok = true → co = (ls == 0) := fun h => by
    rw [hok] at h
    rw [hco, hls, if_pos h, h, Bool.true_and]
  have q3 : ok = false → pt = false := fun h => by
    rw [hok] at h
    rw [hpt, h, Bool.false_and]
  have q4 : pt = true → GoodM p ∧ GoodC c ∧ propB p c = true ∧ ok = true ∧ gd = true ∧ so = bo ∧ ls = 0 := fun h => by
    rw [hpt, Bool.and_eq_true] at h
    obtain ⟨h1, h2⟩ := h
    obtain ⟨g1, g2⟩ := bothM_iff.1 h1
    have pl := prop_loss g1 g2 h2
    have gg := goodM_iff.2 g1
    refine ⟨g1, g2, h2, by rw [hok, h1], by rw [hgd, gg], ?_, ?_⟩
    · rw [hso, hbo, if_pos h1, if_pos gg, pl.1]
    · rw [hls, if_pos h1, pl.2]
  have q5 : L.length ≤ 100 := by
    rw [hL, backsA]
    by_cases h : p.good = true
    · rw [if_pos h]; exact backsL_len (goodM_iff.1 h) 100 (by omega)
    · rw [if_neg h]; simp
  have HL : ∀ i, i < L.length → ∀ M, IntsA M u p.w → RC Try.prog 35 [mkV p u, ctV (L.getD i Ct0)] M (AnsV (.tuple #[.int .i64 0, .bool true])) := fun i hi M h => by
    have hg : p.good = true := by
      cases hgg : p.good with
      | true => rfl
      | false => rw [hL, backsA, hgg] at hi; simp at hi
    have hmem : L.getD i Ct0 ∈ backsL p 100 := by
      rw [hL, backsA, if_pos hg] at hi ⊢
      rw [List.getD_eq_getElem?_getD, List.getElem?_eq_getElem hi, Option.getD_some]
      exact List.getElem_mem hi
    obtain ⟨gC, gP⟩ := backs_in hmem (by omega)
    have hb2 : bothM p (L.getD i Ct0) = true := bothM_iff.2 ⟨goodM_iff.1 hg, gC⟩
    have := implProfitLoss_rc M _ p (L.getD i Ct0) (MkA.mk h)
    rw [if_pos hb2, hb2, (prop_loss (goodM_iff.1 hg) gC gP).2] at this
    exact this
  have C1a : ∀ M, IntsA M u p.w → RC Try.prog 29 [mkV p u, ctV c] M (AnsV (.tuple #[.bool pt, .bool ok])) := fun M h => by rw [hpt, hok]; exact implInProportion_rc _ _ p c (MkA.mk h)
  have C1c : ∀ M, IntsA M u p.w → RC Try.prog 33 [mkV p u, ctV c] M (AnsV (.tuple #[.int .i64 so, .bool ok])) := fun M h => by rw [hso, hok]; exact implSellerOrder_rc _ _ p c (MkA.mk h)
  have C1d : ∀ M, IntsA M u p.w → RC Try.prog 35 [mkV p u, ctV c] M (AnsV (.tuple #[.int .i64 ls, .bool ok])) := fun M h => by rw [hls, hok]; exact implProfitLoss_rc _ _ p c (MkA.mk h)
  have C1e : ∀ M, IntsA M u p.w → RC Try.prog 37 [mkV p u, ctV c] M (AnsV (.tuple #[.bool co, .bool ok])) := fun M h => by rw [hco, hok]; exact implIsCoordinated_rc _ _ p c (MkA.mk h)
  have C1h : ∀ M, IntsA M u p.w → RC Try.prog 42 [mkV p u] M (AnsO M (CtsO 28 L) fun v => .tuple #[v, .bool gd]) := fun M h => by rw [hL, hgd]; exact implBackContracts_rc _ _ p (MkA.mk h)
  have C2a : ∀ M, IntsA M u p.w → RC Try.prog 30 [mkV p u, ctV c] M (AnsV (.tuple #[.bool pt, .bool ok])) := fun M h => by rw [hpt, hok]; exact specInProportion_rc _ _ p c (MkA.mk h)
  have C2c : ∀ M, IntsA M u p.w → RC Try.prog 34 [mkV p u, ctV c] M (AnsV (.tuple #[.int .i64 so, .bool ok])) := fun M h => by rw [hso, hok]; exact specSellerOrder_rc _ _ p c (MkA.mk h)
  have C2d : ∀ M, IntsA M u p.w → RC Try.prog 36 [mkV p u, ctV c] M (AnsV (.tuple #[.int .i64 ls, .bool ok])) := fun M h => by rw [hls, hok]; exact specProfitLoss_rc _ _ p c (MkA.mk h)
  have C2e : ∀ M, IntsA M u p.w → RC Try.prog 38 [mkV p u, ctV c] M (AnsV (.tuple #[.bool co, .bool ok])) := fun M h => by rw [hco, hok]; exact specIsCoordinated_rc _ _ p c (MkA.mk h)
  have C2h : ∀ M, IntsA M u p.w → RC Try.prog 43 [mkV p u] M (AnsO M (CtsO 28 L) fun v => .tuple #[v, .bool gd]) := fun M h => by rw [hL, hgd]; exact specBackContracts_rc _ _ p (MkA.mk h)
  have C1b : ∀ M, RC Try.prog 31 [ctV c] M (AnsV (.bool gc)) := fun M => by rw [hgc]; exact implIsContract_rc M c
  have C2b : ∀ M, RC Try.prog 32 [ctV c] M (AnsV (.bool gc)) := fun M => by rw [hgc]; exact specIsContract_rc M c
  have C1f : ∀ M, IntsA M u p.w → RC Try.prog 19 [mkV p u] M (AnsV (.tuple #[.int .i64 bo, .bool gd])) := fun M h => by rw [hbo, hgd]; exact implJointOrder_rc _ _ p (MkA.mk h)
  have C1m : ∀ M, IntsA M u p.w → RC Try.prog 17 [mkV p u] M (AnsV (.bool gd)) := fun M h => by rw [hgd]; exact implIsMarket_rc _ _ p (MkA.mk h)
  clear hok hpt hso hls hco hgc hgd hbo hL
  try simp (config := {implicitDefEqProofs := false, maxDischargeDepth := 20}) (disch := first | omega | (simp only [lenE]; done) | (simp only [lenE]; omega) | rfl | (simp only [lenE, markR_len]; done) | (simp only [lenE, markR_len]; omega)) only [runE, mapE, listE, initT_5, initT_6, initT_7, initT_8, resV, oneV, binA, unA, reduceCtorEq, Nat.reduceEqDiff, Nat.reduceAdd, Nat.reduceLT, Nat.reduceLeDiff, Nat.reduceMul, Nat.reduceSub, ↓reduceIte, decide_true, decide_false, Bool.true_eq_false, Bool.false_eq_true, Bool.not_true, Bool.not_false, if_true, if_false, and_true, true_and, memE, celE, w64, Nat.zero_add, Nat.add_zero, Nat.mul_one, putL, and_self, ldn, Bool.and_self, Bool.and_true, Bool.true_and, Bool.and_false, Bool.false_and, Bool.or_false, Bool.false_or, ext_2_0, ext_2_1, ext_3_0, ext_3_1, ext_3_2, bne_self_eq_false, beq_self_eq_true, goG_undef, Bool.not_true, Bool.not_false, stP_aggL, bld_ct3, b3.mk4, b4.mk3]
  first | refine callH_rc (C1a _ iu) ?_ | refine rcallH_rc (C1a _ iu) ?_
  rintro r new ⟨rfl, nr⟩
  have iu := iu.ext new
  have b3 := b3.ext new
  have b4 := b4.ext new
  have B := B.ext new
  obtain ⟨N2, hN⟩ : ∃ N, N = N1 ++ new := ⟨_, rfl⟩
  rw [← hN] at iu b3 b4 B ⊢
  clear hN
  clear nr
  try simp (config := {implicitDefEqProofs := false, maxDischargeDepth := 20}) (disch := first | omega | (simp only [lenE]; done) | (simp only [lenE]; omega) | rfl | (simp only [lenE, markR_len]; done) | (simp only [lenE, markR_len]; omega)) only [runE, mapE, listE, initT_5, initT_6, initT_7, initT_8, resV, oneV, binA, unA, reduceCtorEq, Nat.reduceEqDiff, Nat.reduceAdd, Nat.reduceLT, Nat.reduceLeDiff, Nat.reduceMul, Nat.reduceSub, ↓reduceIte, decide_true, decide_false, Bool.true_eq_false, Bool.false_eq_true, Bool.not_true, Bool.not_false, if_true, if_false, and_true, true_and, memE, celE, w64, Nat.zero_add, Nat.add_zero, Nat.mul_one, putL, and_self, ldn, Bool.and_self, Bool.and_true, Bool.true_and, Bool.and_false, Bool.false_and, Bool.or_false, Bool.false_or, ext_2_0, ext_2_1, ext_3_0, ext_3_1, ext_3_2, bne_self_eq_false, beq_self_eq_true, goG_undef, Bool.not_true, Bool.not_false, stP_aggL, bld_ct3, b3.mk4, b4.mk3]
  first | refine callH_rc (C2a _ iu) ?_ | refine rcallH_rc (C2a _ iu) ?_
  rintro r new ⟨rfl, nr⟩
  have iu := iu.ext new
  have b3 := b3.ext new
  have b4 := b4.ext new
  have B := B.ext new
  obtain ⟨N3, hN⟩ : ∃ N, N = N2 ++ new := ⟨_, rfl⟩
  rw [← hN] at iu b3 b4 B ⊢
  clear hN
  clear nr
  try simp (config := {implicitDefEqProofs := false, maxDischargeDepth := 20}) (disch := first | omega | (simp only [lenE]; done) | (simp only [lenE]; omega) | rfl | (simp only [lenE, markR_len]; done) | (simp only [lenE, markR_len]; omega)) only [runE, mapE, listE, initT_5, initT_6, initT_7, initT_8, resV, oneV, binA, unA, reduceCtorEq, Nat.reduceEqDiff, Nat.reduceAdd, Nat.reduceLT, Nat.reduceLeDiff, Nat.reduceMul, Nat.reduceSub, ↓reduceIte, decide_true, decide_false, Bool.true_eq_false, Bool.false_eq_true, Bool.not_true, Bool.not_false, if_true, if_false, and_true, true_and, memE, celE, w64, Nat.zero_add, Nat.add_zero, Nat.mul_one, putL, and_self, ldn, Bool.and_self, Bool.and_true, Bool.true_and, Bool.and_false, Bool.false_and, Bool.or_false, Bool.false_or, ext_2_0, ext_2_1, ext_3_0, ext_3_1, ext_3_2, bne_self_eq_false, beq_self_eq_true, goG_undef, Bool.not_true, Bool.not_false, stP_aggL, bld_ct3, b3.mk4, b4.mk3]
  first | refine callH_rc (C1b _) ?_ | refine rcallH_rc (C1b _) ?_
  rintro r new ⟨rfl, nr⟩
  have iu := iu.ext new
  have b3 := b3.ext new
  have b4 := b4.ext new
  have B := B.ext new
  obtain ⟨N4, hN⟩ : ∃ N, N = N3 ++ new := ⟨_, rfl⟩
  rw [← hN] at iu b3 b4 B ⊢
  clear hN
  clear nr
  try simp (config := {implicitDefEqProofs := false, maxDischargeDepth := 20}) (disch := first | omega | (simp only [lenE]; done) | (simp only [lenE]; omega) | rfl | (simp only [lenE, markR_len]; done) | (simp only [lenE, markR_len]; omega)) only [runE, mapE, listE, initT_5, initT_6, initT_7, initT_8, resV, oneV, binA, unA, reduceCtorEq, Nat.reduceEqDiff, Nat.reduceAdd, Nat.reduceLT, Nat.reduceLeDiff, Nat.reduceMul, Nat.reduceSub, ↓reduceIte, decide_true, decide_false, Bool.true_eq_false, Bool.false_eq_true, Bool.not_true, Bool.not_false, if_true, if_false, and_true, true_and, memE, celE, w64, Nat.zero_add, Nat.add_zero, Nat.mul_one, putL, and_self, ldn, Bool.and_self, Bool.and_true, Bool.true_and, Bool.and_false, Bool.false_and, Bool.or_false, Bool.false_or, ext_2_0, ext_2_1, ext_3_0, ext_3_1, ext_3_2, bne_self_eq_false, beq_self_eq_true, goG_undef, Bool.not_true, Bool.not_false, stP_aggL, bld_ct3, b3.mk4, b4.mk3]
  first | refine callH_rc (C2b _) ?_ | refine rcallH_rc (C2b _) ?_
  rintro r new ⟨rfl, nr⟩
  have iu := iu.ext new
  have b3 := b3.ext new
  have b4 := b4.ext new
  have B := B.ext new
  obtain ⟨N5, hN⟩ : ∃ N, N = N4 ++ new := ⟨_, rfl⟩
  rw [← hN] at iu b3 b4 B ⊢
  clear hN
  clear nr
  try simp (config := {implicitDefEqProofs := false, maxDischargeDepth := 20}) (disch := first | omega | (simp only [lenE]; done) | (simp only [lenE]; omega) | rfl | (simp only [lenE, markR_len]; done) | (simp only [lenE, markR_len]; omega)) only [runE, mapE, listE, initT_5, initT_6, initT_7, initT_8, resV, oneV, binA, unA, reduceCtorEq, Nat.reduceEqDiff, Nat.reduceAdd, Nat.reduceLT, Nat.reduceLeDiff, Nat.reduceMul, Nat.reduceSub, ↓reduceIte, decide_true, decide_false, Bool.true_eq_false, Bool.false_eq_true, Bool.not_true, Bool.not_false, if_true, if_false, and_true, true_and, memE, celE, w64, Nat.zero_add, Nat.add_zero, Nat.mul_one, putL, and_self, ldn, Bool.and_self, Bool.and_true, Bool.true_and, Bool.and_false, Bool.false_and, Bool.or_false, Bool.false_or, ext_2_0, ext_2_1, ext_3_0, ext_3_1, ext_3_2, bne_self_eq_false, beq_self_eq_true, goG_undef, Bool.not_true, Bool.not_false, stP_aggL, bld_ct3, b3.mk4, b4.mk3]
  first | refine callH_rc (C1c _ iu) ?_ | refine rcallH_rc (C1c _ iu) ?_
  rintro r new ⟨rfl, nr⟩
  have iu := iu.ext new
  have b3 := b3.ext new
  have b4 := b4.ext new
  have B := B.ext new
  obtain ⟨N6, hN⟩ : ∃ N, N = N5 ++ new := ⟨_, rfl⟩
  rw [← hN] at iu b3 b4 B ⊢
  clear hN
  clear nr
  try simp (config := {implicitDefEqProofs := false, maxDischargeDepth := 20}) (disch := first | omega | (simp only [lenE]; done) | (simp only [lenE]; omega) | rfl | (simp only [lenE, markR_len]; done) | (simp only [lenE, markR_len]; omega)) only [runE, mapE, listE, initT_5, initT_6, initT_7, initT_8, resV, oneV, binA, unA, reduceCtorEq, Nat.reduceEqDiff, Nat.reduceAdd, Nat.reduceLT, Nat.reduceLeDiff, Nat.reduceMul, Nat.reduceSub, ↓reduceIte, decide_true, decide_false, Bool.true_eq_false, Bool.false_eq_true, Bool.not_true, Bool.not_false, if_true, if_false, and_true, true_and, memE, celE, w64, Nat.zero_add, Nat.add_zero, Nat.mul_one, putL, and_self, ldn, Bool.and_self, Bool.and_true, Bool.true_and, Bool.and_false, Bool.false_and, Bool.or_false, Bool.false_or, ext_2_0, ext_2_1, ext_3_0, ext_3_1, ext_3_2, bne_self_eq_false, beq_self_eq_true, goG_undef, Bool.not_true, Bool.not_false, stP_aggL, bld_ct3, b3.mk4, b4.mk3, q1]
  first | refine callH_rc (C2c _ iu) ?_ | refine rcallH_rc (C2c _ iu) ?_
  rintro r new ⟨rfl, nr⟩
  have iu := iu.ext new
  have b3 := b3.ext new
  have b4 := b4.ext new
  have B := B.ext new
  obtain ⟨N7, hN⟩ : ∃ N, N = N6 ++ new := ⟨_, rfl⟩
  rw [← hN] at iu b3 b4 B ⊢
  clear hN
  clear nr
  try simp (config := {implicitDefEqProofs := false, maxDischargeDepth := 20}) (disch := first | omega | (simp only [lenE]; done) | (simp only [lenE]; omega) | rfl | (simp only [lenE, markR_len]; done) | (simp only [lenE, markR_len]; omega)) only [runE, mapE, listE, initT_5, initT_6, initT_7, initT_8, resV, oneV, binA, unA, reduceCtorEq, Nat.reduceEqDiff, Nat.reduceAdd, Nat.reduceLT, Nat.reduceLeDiff, Nat.reduceMul, Nat.reduceSub, ↓reduceIte, decide_true, decide_false, Bool.true_eq_false, Bool.false_eq_true, Bool.not_true, Bool.not_false, if_true, if_false, and_true, true_and, memE, celE, w64, Nat.zero_add, Nat.add_zero, Nat.mul_one, putL, and_self, ldn, Bool.and_self, Bool.and_true, Bool.true_and, Bool.and_false, Bool.false_and, Bool.or_false, Bool.false_or, ext_2_0, ext_2_1, ext_3_0, ext_3_1, ext_3_2, bne_self_eq_false, beq_self_eq_true, goG_undef, Bool.not_true, Bool.not_false, stP_aggL, bld_ct3, b3.mk4, b4.mk3, q1]
  first | refine callH_rc (C1d _ iu) ?_ | refine rcallH_rc (C1d _ iu) ?_
  rintro r new ⟨rfl, nr⟩
  have iu := iu.ext new
  have b3 := b3.ext new
  have b4 := b4.ext new
  have B := B.ext new
  obtain ⟨N8, hN⟩ : ∃ N, N = N7 ++ new := ⟨_, rfl⟩
  rw [← hN] at iu b3 b4 B ⊢
  clear hN
  clear nr
  try simp (config := {implicitDefEqProofs := false, maxDischargeDepth := 20}) (disch := first | omega | (simp only [lenE]; done) | (simp only [lenE]; omega) | rfl | (simp only [lenE, markR_len]; done) | (simp only [lenE, markR_len]; omega)) only [runE, mapE, listE, initT_5, initT_6, initT_7, initT_8, resV, oneV, binA, unA, reduceCtorEq, Nat.reduceEqDiff, Nat.reduceAdd, Nat.reduceLT, Nat.reduceLeDiff, Nat.reduceMul, Nat.reduceSub, ↓reduceIte, decide_true, decide_false, Bool.true_eq_false, Bool.false_eq_true, Bool.not_true, Bool.not_false, if_true, if_false, and_true, true_and, memE, celE, w64, Nat.zero_add, Nat.add_zero, Nat.mul_one, putL, and_self, ldn, Bool.and_self, Bool.and_true, Bool.true_and, Bool.and_false, Bool.false_and, Bool.or_false, Bool.false_or, ext_2_0, ext_2_1, ext_3_0, ext_3_1, ext_3_2, bne_self_eq_false, beq_self_eq_true, goG_undef, Bool.not_true, Bool.not_false, stP_aggL, bld_ct3, b3.mk4, b4.mk3, q1]
  first | refine callH_rc (C2d _ iu) ?_ | refine rcallH_rc (C2d _ iu) ?_
  rintro r new ⟨rfl, nr⟩
  have iu := iu.ext new
  have b3 := b3.ext new
  have b4 := b4.ext new
  have B := B.ext new
  obtain ⟨N9, hN⟩ : ∃ N, N = N8 ++ new := ⟨_, rfl⟩
  rw [← hN] at iu b3 b4 B ⊢
  clear hN
  clear nr
  try simp (config := {implicitDefEqProofs := false, maxDischargeDepth := 20}) (disch := first | omega | (simp only [lenE]; done) | (simp only [lenE]; omega) | rfl | (simp only [lenE, markR_len]; done) | (simp only [lenE, markR_len]; omega)) only [runE, mapE, listE, initT_5, initT_6, initT_7, initT_8, resV, oneV, binA, unA, reduceCtorEq, Nat.reduceEqDiff, Nat.reduceAdd, Nat.reduceLT, Nat.reduceLeDiff, Nat.reduceMul, Nat.reduceSub, ↓reduceIte, decide_true, decide_false, Bool.true_eq_false, Bool.false_eq_true, Bool.not_true, Bool.not_false, if_true, if_false, and_true, true_and, memE, celE, w64, Nat.zero_add, Nat.add_zero, Nat.mul_one, putL, and_self, ldn, Bool.and_self, Bool.and_true, Bool.true_and, Bool.and_false, Bool.false_and, Bool.or_false, Bool.false_or, ext_2_0, ext_2_1, ext_3_0, ext_3_1, ext_3_2, bne_self_eq_false, beq_self_eq_true, goG_undef, Bool.not_true, Bool.not_false, stP_aggL, bld_ct3, b3.mk4, b4.mk3, q1]
  cases pt with
  | true =>
    as_aux_lemma =>
    obtain ⟨hG, hC, hP, e1, e2, e3, e4⟩ := q4 rfl
    have e5 := q2 e1
    subst e1
    subst e2
    subst e3
    subst e5
    have hlp := prop_price hG hC hP
    have hpr := hG.price
    have hmk := hG.make
    have hlf := hG.left
    have hpb := part_bd hG hC
    have hcb := hC.back
    have hz : (ls == 0) = true := by rw [e4]; rfl
    have hz2 : (ls != 0) = false := by rw [e4]; rfl
    try simp (config := {implicitDefEqProofs := false, maxDischargeDepth := 20}) (disch := first | omega | (simp only [lenE]; done) | (simp only [lenE]; omega) | rfl | (simp only [lenE, markR_len]; done) | (simp only [lenE, markR_len]; omega)) only [runE, mapE, listE, initT_5, initT_6, initT_7, initT_8, resV, oneV, binA, unA, reduceCtorEq, Nat.reduceEqDiff, Nat.reduceAdd, Nat.reduceLT, Nat.reduceLeDiff, Nat.reduceMul, Nat.reduceSub, ↓reduceIte, decide_true, decide_false, Bool.true_eq_false, Bool.false_eq_true, Bool.not_true, Bool.not_false, if_true, if_false, and_true, true_and, memE, celE, w64, Nat.zero_add, Nat.add_zero, Nat.mul_one, putL, and_self, ldn, Bool.and_self, Bool.and_true, Bool.true_and, Bool.and_false, Bool.false_and, Bool.or_false, Bool.false_or, ext_2_0, ext_2_1, ext_3_0, ext_3_1, ext_3_2, bne_self_eq_false, beq_self_eq_true, goG_undef, Bool.not_true, Bool.not_false, stP_aggL, bld_ct3, hz, hz2, b3.mk4, b4.mk3, q1]
    first | refine callH_rc (C1e _ iu) ?_ | refine rcallH_rc (C1e _ iu) ?_
    rintro r new ⟨rfl, nr⟩
    have iu := iu.ext new
    have b3 := b3.ext new
    have b4 := b4.ext new
    have B := B.ext new
    obtain ⟨N10, hN⟩ : ∃ N, N = N9 ++ new := ⟨_, rfl⟩
    rw [← hN] at iu b3 b4 B ⊢
    clear hN
    clear nr
    try simp (config := {implicitDefEqProofs := false, maxDischargeDepth := 20}) (disch := first | omega | (simp only [lenE]; done) | (simp only [lenE]; omega) | rfl | (simp only [lenE, markR_len]; done) | (simp only [lenE, markR_len]; omega)) only [runE, mapE, listE, initT_5, initT_6, initT_7, initT_8, resV, oneV, binA, unA, reduceCtorEq, Nat.reduceEqDiff, Nat.reduceAdd, Nat.reduceLT, Nat.reduceLeDiff, Nat.reduceMul, Nat.reduceSub, ↓reduceIte, decide_true, decide_false, Bool.true_eq_false, Bool.false_eq_true, Bool.not_true, Bool.not_false, if_true, if_false, and_true, true_and, memE, celE, w64, Nat.zero_add, Nat.add_zero, Nat.mul_one, putL, and_self, ldn, Bool.and_self, Bool.and_true, Bool.true_and, Bool.and_false, Bool.false_and, Bool.or_false, Bool.false_or, ext_2_0, ext_2_1, ext_3_0, ext_3_1, ext_3_2, bne_self_eq_false, beq_self_eq_true, goG_undef, Bool.not_true, Bool.not_false, stP_aggL, bld_ct3, hz, hz2, b3.mk4, b4.mk3]
    first | refine callH_rc (C2e _ iu) ?_ | refine rcallH_rc (C2e _ iu) ?_
    rintro r new ⟨rfl, nr⟩
    have iu := iu.ext new
    have b3 := b3.ext new
    have b4 := b4.ext new
    have B := B.ext new
    obtain ⟨N11, hN⟩ : ∃ N, N = N10 ++ new := ⟨_, rfl⟩
    rw [← hN] at iu b3 b4 B ⊢
    clear hN
    clear nr
    try simp (config := {implicitDefEqProofs := false, maxDischargeDepth := 20}) (disch := first | omega | (simp only [lenE]; done) | (simp only [lenE]; omega) | rfl | (simp only [lenE, markR_len]; done) | (simp only [lenE, markR_len]; omega)) only [runE, mapE, listE, initT_5, initT_6, initT_7, initT_8, resV, oneV, binA, unA, reduceCtorEq, Nat.reduceEqDiff, Nat.reduceAdd, Nat.reduceLT, Nat.reduceLeDiff, Nat.reduceMul, Nat.reduceSub, ↓reduceIte, decide_true, decide_false, Bool.true_eq_false, Bool.false_eq_true, Bool.not_true, Bool.not_false, if_true, if_false, and_true, true_and, memE, celE, w64, Nat.zero_add, Nat.add_zero, Nat.mul_one, putL, and_self, ldn, Bool.and_self, Bool.and_true, Bool.true_and, Bool.and_false, Bool.false_and, Bool.or_false, Bool.false_or, ext_2_0, ext_2_1, ext_3_0, ext_3_1, ext_3_2, bne_self_eq_false, beq_self_eq_true, goG_undef, Bool.not_true, Bool.not_false, stP_aggL, bld_ct3, hz, hz2, b3.mk4, b4.mk3]
    first | refine callH_rc (DrawPayFor_rc _ 0 0 l B) ?_ | refine rcallH_rc (DrawPayFor_rc _ 0 0 l B) ?_
    rintro r new ⟨nr, p2, u2, ⟨xb, xs, rfl⟩, hm⟩
    clear B
    have iv : IntsA (N11 ++ new) u2 p2.w := by
      obtain ⟨u3, e2, h2⟩ := hm.here
      have : u2 = u3 := by simpa [mkV] using e2
      rw [this]; exact h2
    have iu := iu.ext new
    have b3 := b3.ext new
    have b4 := b4.ext new
    obtain ⟨N12, hN⟩ : ∃ N, N = N11 ++ new := ⟨_, rfl⟩
    rw [← hN] at iu b3 b4 iv ⊢
    clear hN hm nr
    have oc := ones_mk (p := p2) (u := u2) iv
    have s3 : stA (N12 ++ [⟨.own, 26, [.slice none 0 0, .int .i64 0, .int .i64 0, .int .i64 0]⟩]) N12.length 0 [u2, .int .i64 p2.price, .int .i64 p2.make, .int .i64 p2.left] = some (N12 ++ [⟨.own, 26, mkC p2 u2⟩]) := by
      rw [(OwnB.here rfl).st (by simp) oc]
      simp [putL]
    have b21 : OwnB (N12 ++ [⟨.own, 26, mkC p2 u2⟩]) N12.length 26 (mkC p2 u2) := OwnB.here rfl
    obtain ⟨yp, hyp⟩ : ∃ t, t = payV (payO p2 xb xs) := ⟨_, rfl⟩
    obtain ⟨yo, hyo⟩ : ∃ t, t = (payO p2 xb xs).isSome := ⟨_, rfl⟩
    have D1 : ∀ M, IntsA M u2 p2.w → RC Try.prog 40 [mkV p2 u2, .int .i64 xb, .int .i64 xs] M (AnsV (.tuple #[.int .i64 yp, .bool yo])) := fun M h => by rw [hyp, hyo]; exact implPayFor_rc _ _ p2 xb xs (MkA.mk h)
    have D2 : ∀ M, IntsA M u2 p2.w → RC Try.prog 41 [mkV p2 u2, .int .i64 xb, .int .i64 xs] M (AnsV (.tuple #[.int .i64 yp, .bool yo])) := fun M h => by rw [hyp, hyo]; exact specPayFor_rc _ _ p2 xb xs (MkA.mk h)
    have D3 : yo = true → ∀ M, IntsA M u2 p2.w → RC Try.prog 29 [mkV p2 u2, ctV ⟨yp, xb, xs⟩] M (AnsV (.tuple #[.bool true, .bool true])) := fun ho M h => by
      have := implInProportion_rc M _ p2 ⟨yp, xb, xs⟩ (MkA.mk h)
      obtain ⟨n, hn⟩ : ∃ n, payO p2 xb xs = some n := by
        rw [hyo] at ho
        exact Option.isSome_iff_exists.1 ho
      have hv : yp = (n : Int) := by rw [hyp, hn]; rfl
      unfold payO at hn
      have hk : payOk p2 xb xs = true := by
        cases hkk : payOk p2 xb xs with
        | true => rfl
        | false => rw [hkk] at hn; cases hn
      rw [if_pos hk] at hn
      have hs := payN_some hn
      simp only [payOk, Bool.and_eq_true, goodM_iff, inM_iff] at hk
      have hb2 : bothM p2 ⟨yp, xb, xs⟩ = true := bothM_iff.2 ⟨hk.1, ⟨by simp only; omega, hk.2.1, hk.2.2⟩⟩
      have hp2 : propB p2 ⟨yp, xb, xs⟩ = true := by rw [hv]; exact hs.2
      rw [hb2, hp2] at this
      exact this
    clear hyp hyo
    try simp (config := {implicitDefEqProofs := false, maxDischargeDepth := 20}) (disch := first | omega | (simp only [lenE]; done) | (simp only [lenE]; omega) | rfl | (simp only [lenE, markR_len]; done) | (simp only [lenE, markR_len]; omega)) only [runE, mapE, listE, initT_5, initT_6, initT_7, initT_8, resV, oneV, binA, unA, reduceCtorEq, Nat.reduceEqDiff, Nat.reduceAdd, Nat.reduceLT, Nat.reduceLeDiff, Nat.reduceMul, Nat.reduceSub, ↓reduceIte, decide_true, decide_false, Bool.true_eq_false, Bool.false_eq_true, Bool.not_true, Bool.not_false, if_true, if_false, and_true, true_and, memE, celE, w64, Nat.zero_add, Nat.add_zero, Nat.mul_one, putL, and_self, ldn, Bool.and_self, Bool.and_true, Bool.true_and, Bool.and_false, Bool.false_and, Bool.or_false, Bool.false_or, ext_2_0, ext_2_1, ext_3_0, ext_3_1, ext_3_2, bne_self_eq_false, beq_self_eq_true, goG_undef, Bool.not_true, Bool.not_false, stP_aggL, bld_ct3, hz, hz2, b3.mk4, b4.mk3, s3]
    clear s3 oc
    have iu := iu.ext [⟨.own, 26, mkC p2 u2⟩]
    have b3 := b3.ext [⟨.own, 26, mkC p2 u2⟩]
    have b4 := b4.ext [⟨.own, 26, mkC p2 u2⟩]
    have iv := iv.ext [⟨.own, 26, mkC p2 u2⟩]
    obtain ⟨N13, hN⟩ : ∃ N, N = N12 ++ [⟨.own, 26, mkC p2 u2⟩] := ⟨_, rfl⟩
    rw [← hN] at iu b3 b4 iv b21 ⊢
    clear hN
    try simp (config := {implicitDefEqProofs := false, maxDischargeDepth := 20}) (disch := first | omega | (simp only [lenE]; done) | (simp only [lenE]; omega) | rfl | (simp only [lenE, markR_len]; done) | (simp only [lenE, markR_len]; omega)) only [runE, mapE, listE, initT_5, initT_6, initT_7, initT_8, resV, oneV, binA, unA, reduceCtorEq, Nat.reduceEqDiff, Nat.reduceAdd, Nat.reduceLT, Nat.reduceLeDiff, Nat.reduceMul, Nat.reduceSub, ↓reduceIte, decide_true, decide_false, Bool.true_eq_false, Bool.false_eq_true, Bool.not_true, Bool.not_false, if_true, if_false, and_true, true_and, memE, celE, w64, Nat.zero_add, Nat.add_zero, Nat.mul_one, putL, and_self, ldn, Bool.and_self, Bool.and_true, Bool.true_and, Bool.and_false, Bool.false_and, Bool.or_false, Bool.false_or, ext_2_0, ext_2_1, ext_3_0, ext_3_1, ext_3_2, bne_self_eq_false, beq_self_eq_true, goG_undef, Bool.not_true, Bool.not_false, stP_aggL, bld_ct3, hz, hz2, b3.mk4, b4.mk3, b21.mk4]
    first | refine callH_rc (D1 _ iv) ?_ | refine rcallH_rc (D1 _ iv) ?_
    rintro r new ⟨rfl, nr⟩
    have iu := iu.ext new
    have b3 := b3.ext new
    have b4 := b4.ext new
    have iv := iv.ext new
    have b21 := b21.ext new
    obtain ⟨N14, hN⟩ : ∃ N, N = N13 ++ new := ⟨_, rfl⟩
    rw [← hN] at iu b3 b4 iv b21 ⊢
    clear hN
    clear nr
    try simp (config := {implicitDefEqProofs := false, maxDischargeDepth := 20}) (disch := first | omega | (simp only [lenE]; done) | (simp only [lenE]; omega) | rfl | (simp only [lenE, markR_len]; done) | (simp only [lenE, markR_len]; omega)) only [runE, mapE, listE, initT_5, initT_6, initT_7, initT_8, resV, oneV, binA, unA, reduceCtorEq, Nat.reduceEqDiff, Nat.reduceAdd, Nat.reduceLT, Nat.reduceLeDiff, Nat.reduceMul, Nat.reduceSub, ↓reduceIte, decide_true, decide_false, Bool.true_eq_false, Bool.false_eq_true, Bool.not_true, Bool.not_false, if_true, if_false, and_true, true_and, memE, celE, w64, Nat.zero_add, Nat.add_zero, Nat.mul_one, putL, and_self, ldn, Bool.and_self, Bool.and_true, Bool.true_and, Bool.and_false, Bool.false_and, Bool.or_false, Bool.false_or, ext_2_0, ext_2_1, ext_3_0, ext_3_1, ext_3_2, bne_self_eq_false, beq_self_eq_true, goG_undef, Bool.not_true, Bool.not_false, stP_aggL, bld_ct3, hz, hz2, b3.mk4, b4.mk3, b21.mk4]
    first | refine callH_rc (D2 _ iv) ?_ | refine rcallH_rc (D2 _ iv) ?_
    rintro r new ⟨rfl, nr⟩
    have iu := iu.ext new
    have b3 := b3.ext new
    have b4 := b4.ext new
    have iv := iv.ext new
    have b21 := b21.ext new
    obtain ⟨N15, hN⟩ : ∃ N, N = N14 ++ new := ⟨_, rfl⟩
    rw [← hN] at iu b3 b4 iv b21 ⊢
    clear hN
    clear nr
    try simp (config := {implicitDefEqProofs := false, maxDischargeDepth := 20}) (disch := first | omega | (simp only [lenE]; done) | (simp only [lenE]; omega) | rfl | (simp only [lenE, markR_len]; done) | (simp only [lenE, markR_len]; omega)) only [runE, mapE, listE, initT_5, initT_6, initT_7, initT_8, resV, oneV, binA, unA, reduceCtorEq, Nat.reduceEqDiff, Nat.reduceAdd, Nat.reduceLT, Nat.reduceLeDiff, Nat.reduceMul, Nat.reduceSub, ↓reduceIte, decide_true, decide_false, Bool.true_eq_false, Bool.false_eq_true, Bool.not_true, Bool.not_false, if_true, if_false, and_true, true_and, memE, celE, w64, Nat.zero_add, Nat.add_zero, Nat.mul_one, putL, and_self, ldn, Bool.and_self, Bool.and_true, Bool.true_and, Bool.and_false, Bool.false_and, Bool.or_false, Bool.false_or, ext_2_0, ext_2_1, ext_3_0, ext_3_1, ext_3_2, bne_self_eq_false, beq_self_eq_true, goG_undef, Bool.not_true, Bool.not_false, stP_aggL, bld_ct3, hz, hz2, b3.mk4, b4.mk3, b21.mk4]
    cases yo with
    | true =>
      as_aux_lemma =>
      try simp (config := {implicitDefEqProofs := false, maxDischargeDepth := 20}) (disch := first | omega | (simp only [lenE]; done) | (simp only [lenE]; omega) | rfl | (simp only [lenE, markR_len]; done) | (simp only [lenE, markR_len]; omega)) only [runE, mapE, listE, initT_5, initT_6, initT_7, initT_8, resV, oneV, binA, unA, reduceCtorEq, Nat.reduceEqDiff, Nat.reduceAdd, Nat.reduceLT, Nat.reduceLeDiff, Nat.reduceMul, Nat.reduceSub, ↓reduceIte, decide_true, decide_false, Bool.true_eq_false, Bool.false_eq_true, Bool.not_true, Bool.not_false, if_true, if_false, and_true, true_and, memE, celE, w64, Nat.zero_add, Nat.add_zero, Nat.mul_one, putL, and_self, ldn, Bool.and_self, Bool.and_true, Bool.true_and, Bool.and_false, Bool.false_and, Bool.or_false, Bool.false_or, ext_2_0, ext_2_1, ext_3_0, ext_3_1, ext_3_2, bne_self_eq_false, beq_self_eq_true, goG_undef, Bool.not_true, Bool.not_false, stP_aggL, bld_ct3, hz, hz2, b3.mk4, b4.mk3, b21.mk4]
      first | refine callH_rc (D3 rfl _ iv) ?_ | refine rcallH_rc (D3 rfl _ iv) ?_
      rintro r new ⟨rfl, nr⟩
      have iu := iu.ext new
      have b3 := b3.ext new
      have b4 := b4.ext new
      have iv := iv.ext new
      have b21 := b21.ext new
      obtain ⟨N16, hN⟩ : ∃ N, N = N15 ++ new := ⟨_, rfl⟩
      rw [← hN] at iu b3 b4 iv b21 ⊢
      clear hN
      clear nr
      try simp (config := {implicitDefEqProofs := false, maxDischargeDepth := 20}) (disch := first | omega | (simp only [lenE]; done) | (simp only [lenE]; omega) | rfl | (simp only [lenE, markR_len]; done) | (simp only [lenE, markR_len]; omega)) only [runE, mapE, listE, initT_5, initT_6, initT_7, initT_8, resV, oneV, binA, unA, reduceCtorEq, Nat.reduceEqDiff, Nat.reduceAdd, Nat.reduceLT, Nat.reduceLeDiff, Nat.reduceMul, Nat.reduceSub, ↓reduceIte, decide_true, decide_false, Bool.true_eq_false, Bool.false_eq_true, Bool.not_true, Bool.not_false, if_true, if_false, and_true, true_and, memE, celE, w64, Nat.zero_add, Nat.add_zero, Nat.mul_one, putL, and_self, ldn, Bool.and_self, Bool.and_true, Bool.true_and, Bool.and_false, Bool.false_and, Bool.or_false, Bool.false_or, ext_2_0, ext_2_1, ext_3_0, ext_3_1, ext_3_2, bne_self_eq_false, beq_self_eq_true, goG_undef, Bool.not_true, Bool.not_false, stP_aggL, bld_ct3, hz, hz2, b3.mk4, b4.mk3, b21.mk4]
      first | refine callH_rc (C1h _ iu) ?_ | refine rcallH_rc (C1h _ iu) ?_
      intro r new hA
      obtain ⟨nr, w9, rfl, hw⟩ := hA
      obtain ⟨-, dP, fP, rfl, -, -, own9⟩ := hw.now
      have iu := iu.ext new
      have b3 := b3.ext new
      have b4 := b4.ext new
      have iv := iv.ext new
      have b21 := b21.ext new
      have P := (own9 : OwnB (N16 ++ new) dP 28 (ctsC L))
      obtain ⟨N17, hN⟩ : ∃ N, N = N16 ++ new := ⟨_, rfl⟩
      rw [← hN] at iu b3 b4 iv b21 P ⊢
      clear hN
      clear nr hw own9
      try simp (config := {implicitDefEqProofs := false, maxDischargeDepth := 20}) (disch := first | omega | (simp only [lenE]; done) | (simp only [lenE]; omega) | rfl | (simp only [lenE, markR_len]; done) | (simp only [lenE, markR_len]; omega)) only [runE, mapE, listE, initT_5, initT_6, initT_7, initT_8, resV, oneV, binA, unA, reduceCtorEq, Nat.reduceEqDiff, Nat.reduceAdd, Nat.reduceLT, Nat.reduceLeDiff, Nat.reduceMul, Nat.reduceSub, ↓reduceIte, decide_true, decide_false, Bool.true_eq_false, Bool.false_eq_true, Bool.not_true, Bool.not_false, if_true, if_false, and_true, true_and, memE, celE, w64, Nat.zero_add, Nat.add_zero, Nat.mul_one, putL, and_self, ldn, Bool.and_self, Bool.and_true, Bool.true_and, Bool.and_false, Bool.false_and, Bool.or_false, Bool.false_or, ext_2_0, ext_2_1, ext_3_0, ext_3_1, ext_3_2, bne_self_eq_false, beq_self_eq_true, goG_undef, Bool.not_true, Bool.not_false, stP_aggL, bld_ct3, hz, hz2, b3.mk4, b4.mk3, b21.mk4]
      first | refine callH_rc (C2h _ iu) ?_ | refine rcallH_rc (C2h _ iu) ?_
      intro r new hA
      obtain ⟨nr, w9, rfl, hw⟩ := hA
      obtain ⟨-, dQ, fQ, rfl, -, -, own9⟩ := hw.now
      have iu := iu.ext new
      have b3 := b3.ext new
      have b4 := b4.ext new
      have iv := iv.ext new
      have b21 := b21.ext new
      have P := P.ext new
      have Q := (own9 : OwnB (N17 ++ new) dQ 28 (ctsC L))
      obtain ⟨N18, hN⟩ : ∃ N, N = N17 ++ new := ⟨_, rfl⟩
      rw [← hN] at iu b3 b4 iv b21 P Q ⊢
      clear hN
      clear nr hw own9
      try simp (config := {implicitDefEqProofs := false, maxDischargeDepth := 20}) (disch := first | omega | (simp only [lenE]; done) | (simp only [lenE]; omega) | rfl | (simp only [lenE, markR_len]; done) | (simp only [lenE, markR_len]; omega)) only [runE, mapE, listE, initT_5, initT_6, initT_7, initT_8, resV, oneV, binA, unA, reduceCtorEq, Nat.reduceEqDiff, Nat.reduceAdd, Nat.reduceLT, Nat.reduceLeDiff, Nat.reduceMul, Nat.reduceSub, ↓reduceIte, decide_true, decide_false, Bool.true_eq_false, Bool.false_eq_true, Bool.not_true, Bool.not_false, if_true, if_false, and_true, true_and, memE, celE, w64, Nat.zero_add, Nat.add_zero, Nat.mul_one, putL, and_self, ldn, Bool.and_self, Bool.and_true, Bool.true_and, Bool.and_false, Bool.false_and, Bool.or_false, Bool.false_or, ext_2_0, ext_2_1, ext_3_0, ext_3_1, ext_3_2, bne_self_eq_false, beq_self_eq_true, goG_undef, Bool.not_true, Bool.not_false, stP_aggL, bld_ct3, hz, hz2, b3.mk4, b4.mk3, b21.mk4]
      first | refine callH_rc (C1m _ iu) ?_ | refine rcallH_rc (C1m _ iu) ?_
      rintro r new ⟨rfl, nr⟩
      have iu := iu.ext new
      have b3 := b3.ext new
      have b4 := b4.ext new
      have iv := iv.ext new
      have b21 := b21.ext new
      have P := P.ext new
      have Q := Q.ext new
      obtain ⟨N19, hN⟩ : ∃ N, N = N18 ++ new := ⟨_, rfl⟩
      rw [← hN] at iu b3 b4 iv b21 P Q ⊢
      clear hN
      clear nr
      try simp (config := {implicitDefEqProofs := false, maxDischargeDepth := 20}) (disch := first | omega | (simp only [lenE]; done) | (simp only [lenE]; omega) | rfl | (simp only [lenE, markR_len]; done) | (simp only [lenE, markR_len]; omega)) only [runE, mapE, listE, initT_5, initT_6, initT_7, initT_8, resV, oneV, binA, unA, reduceCtorEq, Nat.reduceEqDiff, Nat.reduceAdd, Nat.reduceLT, Nat.reduceLeDiff, Nat.reduceMul, Nat.reduceSub, ↓reduceIte, decide_true, decide_false, Bool.true_eq_false, Bool.false_eq_true, Bool.not_true, Bool.not_false, if_true, if_false, and_true, true_and, memE, celE, w64, Nat.zero_add, Nat.add_zero, Nat.mul_one, putL, and_self, ldn, Bool.and_self, Bool.and_true, Bool.true_and, Bool.and_false, Bool.false_and, Bool.or_false, Bool.false_or, ext_2_0, ext_2_1, ext_3_0, ext_3_1, ext_3_2, bne_self_eq_false, beq_self_eq_true, goG_undef, Bool.not_true, Bool.not_false, stP_aggL, bld_ct3, hz, hz2, b3.mk4, b4.mk3, b21.mk4]
      have pA : CtsA N19 (.slice (some ⟨dP, 0, none⟩) L.length fP) L := CtsO.in (e := 28) (lo := 0) (hi := dP + 1) ⟨by omega, dP, fP, rfl, by omega, by omega, P⟩
      have qA : CtsA N19 (.slice (some ⟨dQ, 0, none⟩) L.length fQ) L := CtsO.in (e := 28) (lo := 0) (hi := dQ + 1) ⟨by omega, dQ, fQ, rfl, by omega, by omega, Q⟩
      clear P Q
      refine loop_inv mixed (fun s => ∃ (i : Nat) (M : Mem), i ≤ L.length ∧ s.m = M ∧ IntsA M u p.w ∧ OwnB M bm 26 (mkC p u) ∧ OwnB M (bm + 1) 28 (ctL c) ∧ CtsA M (.slice (some ⟨dP, 0, none⟩) L.length fP) L ∧ CtsA M (.slice (some ⟨dQ, 0, none⟩) L.length fQ) L ∧ s.t 3 = .pointer (some ⟨bm, 0, none⟩) ∧ s.t 4 = .pointer (some ⟨bm + 1, 0, none⟩) ∧ s.t 5 = .bool true ∧ s.t 9 = .int .i64 so ∧ s.t 13 = .int .i64 ls ∧ s.t 30 = .slice (some ⟨dP, 0, none⟩) L.length fP ∧ s.t 32 = .slice (some ⟨dQ, 0, none⟩) L.length fQ ∧ s.t 34 = .int .i64 (i : Int)) (fun s => 105 - (intOf (s.t 34)).toNat)
        ⟨0, N19, by omega, rfl, iu, b3, b4, pA, qA, rfl, rfl, rfl, rfl, rfl, rfl, rfl, rfl⟩ ?_
      clear pA qA iu b3 b4
      rintro s ⟨i, M, hi, tm, iu, b3, b4, pA, qA, t3, t4, t5, t9, t13, t30, t32, t34⟩
      by_cases hlt : i < L.length
      · have hlt' : (i : Int) < L.length := by omega
        have a1 := pA.at_ hlt
        have a2 := pA.ld hlt
        have a3 := qA.at_ hlt
        have a4 := qA.ld hlt
        try simp (config := {implicitDefEqProofs := false, maxDischargeDepth := 20}) (disch := first | omega | (simp only [lenE]; done) | (simp only [lenE]; omega) | rfl | (simp only [lenE, markR_len]; done) | (simp only [lenE, markR_len]; omega)) only [runE, mapE, listE, initT_5, initT_6, initT_7, initT_8, resV, oneV, binA, unA, reduceCtorEq, Nat.reduceEqDiff, Nat.reduceAdd, Nat.reduceLT, Nat.reduceLeDiff, Nat.reduceMul, Nat.reduceSub, ↓reduceIte, decide_true, decide_false, Bool.true_eq_false, Bool.false_eq_true, Bool.not_true, Bool.not_false, if_true, if_false, and_true, true_and, memE, celE, w64, Nat.zero_add, Nat.add_zero, Nat.mul_one, putL, and_self, ldn, Bool.and_self, Bool.and_true, Bool.true_and, Bool.and_false, Bool.false_and, Bool.or_false, Bool.false_or, ext_2_0, ext_2_1, ext_3_0, ext_3_1, ext_3_2, bne_self_eq_false, beq_self_eq_true, goG_undef, Bool.not_true, Bool.not_false, stP_aggL, bld_ct3, hz, hz2, b3.mk4, b4.mk3, tm, t3, t4, t5, t9, t13, t30, t32, t34, hlt', a1, a2, a3, a4, ae3M]
        first | refine callH_rc (HL i hlt M iu) ?_ | refine rcallH_rc (HL i hlt M iu) ?_
        rintro r new ⟨rfl, nr⟩
        have b3 := b3.ext new
        have b4 := b4.ext new
        have iu := iu.ext new
        have pA := pA.ext new
        have qA := qA.ext new
        by_cases hpl : p.left < p.price
        · simp (config := {implicitDefEqProofs := false, maxDischargeDepth := 20}) (disch := first | omega | (simp only [lenE]; done) | (simp only [lenE]; omega) | rfl | (simp only [lenE, markR_len]; done) | (simp only [lenE, markR_len]; omega)) only [runE, mapE, listE, initT_5, initT_6, initT_7, initT_8, resV, oneV, binA, unA, reduceCtorEq, Nat.reduceEqDiff, Nat.reduceAdd, Nat.reduceLT, Nat.reduceLeDiff, Nat.reduceMul, Nat.reduceSub, ↓reduceIte, decide_true, decide_false, Bool.true_eq_false, Bool.false_eq_true, Bool.not_true, Bool.not_false, if_true, if_false, and_true, true_and, memE, celE, w64, Nat.zero_add, Nat.add_zero, Nat.mul_one, putL, and_self, ldn, Bool.and_self, Bool.and_true, Bool.true_and, Bool.and_false, Bool.false_and, Bool.or_false, Bool.false_or, ext_2_0, ext_2_1, ext_3_0, ext_3_1, ext_3_2, bne_self_eq_false, beq_self_eq_true, goG_undef, Bool.not_true, Bool.not_false, stP_aggL, bld_ct3, hz, hz2, b3.mk4, b4.mk3, tm, t3, t4, t5, t9, t13, t30, t32, t34, gt_iff_lt, hpl]
          exact ⟨⟨i + 1, _, by omega, rfl, iu, b3, b4, pA, qA, by simp⟩, by simp [intOf]; omega⟩
        · simp (config := {implicitDefEqProofs := false, maxDischargeDepth := 20}) (disch := first | omega | (simp only [lenE]; done) | (simp only [lenE]; omega) | rfl | (simp only [lenE, markR_len]; done) | (simp only [lenE, markR_len]; omega)) only [runE, mapE, listE, initT_5, initT_6, initT_7, initT_8, resV, oneV, binA, unA, reduceCtorEq, Nat.reduceEqDiff, Nat.reduceAdd, Nat.reduceLT, Nat.reduceLeDiff, Nat.reduceMul, Nat.reduceSub, ↓reduceIte, decide_true, decide_false, Bool.true_eq_false, Bool.false_eq_true, Bool.not_true, Bool.not_false, if_true, if_false, and_true, true_and, memE, celE, w64, Nat.zero_add, Nat.add_zero, Nat.mul_one, putL, and_self, ldn, Bool.and_self, Bool.and_true, Bool.true_and, Bool.and_false, Bool.false_and, Bool.or_false, Bool.false_or, ext_2_0, ext_2_1, ext_3_0, ext_3_1, ext_3_2, bne_self_eq_false, beq_self_eq_true, goG_undef, Bool.not_true, Bool.not_false, stP_aggL, bld_ct3, hz, hz2, b3.mk4, b4.mk3, tm, t3, t4, t5, t9, t13, t30, t32, t34, gt_iff_lt, hpl]
          exact ⟨⟨i + 1, _, by omega, rfl, iu, b3, b4, pA, qA, by simp⟩, by simp [intOf]; omega⟩
      · have hlt' : ¬ ((i : Int) < L.length) := by omega
        clear pA qA
        have hpe : (p.price == p.left) = false := by rw [beq_eq_false_iff_ne]; omega
        simp (config := {implicitDefEqProofs := false, maxDischargeDepth := 20}) (disch := first | omega | (simp only [lenE]; done) | (simp only [lenE]; omega) | rfl | (simp only [lenE, markR_len]; done) | (simp only [lenE, markR_len]; omega)) only [runE, mapE, listE, initT_5, initT_6, initT_7, initT_8, resV, oneV, binA, unA, reduceCtorEq, Nat.reduceEqDiff, Nat.reduceAdd, Nat.reduceLT, Nat.reduceLeDiff, Nat.reduceMul, Nat.reduceSub, ↓reduceIte, decide_true, decide_false, Bool.true_eq_false, Bool.false_eq_true, Bool.not_true, Bool.not_false, if_true, if_false, and_true, true_and, memE, celE, w64, Nat.zero_add, Nat.add_zero, Nat.mul_one, putL, and_self, ldn, Bool.and_self, Bool.and_true, Bool.true_and, Bool.and_false, Bool.false_and, Bool.or_false, Bool.false_or, ext_2_0, ext_2_1, ext_3_0, ext_3_1, ext_3_2, bne_self_eq_false, beq_self_eq_true, goG_undef, Bool.not_true, Bool.not_false, stP_aggL, bld_ct3, hz, hz2, b3.mk4, b4.mk3, tm, t3, t4, t5, t9, t13, t30, t32, t34, hlt', hpe]
        first | refine callH_rc (C1f M iu) ?_ | refine rcallH_rc (C1f M iu) ?_
        rintro r new ⟨rfl, nr⟩
        have b3 := b3.ext new
        have b4 := b4.ext new
        have iu := iu.ext new
        obtain ⟨K0, hK⟩ : ∃ K, K = M ++ new := ⟨_, rfl⟩
        rw [← hK] at b3 b4 iu ⊢
        clear hK nr
        simp (config := {implicitDefEqProofs := false, maxDischargeDepth := 20}) (disch := first | omega | (simp only [lenE]; done) | (simp only [lenE]; omega) | rfl | (simp only [lenE, markR_len]; done) | (simp only [lenE, markR_len]; omega)) only [runE, mapE, listE, initT_5, initT_6, initT_7, initT_8, resV, oneV, binA, unA, reduceCtorEq, Nat.reduceEqDiff, Nat.reduceAdd, Nat.reduceLT, Nat.reduceLeDiff, Nat.reduceMul, Nat.reduceSub, ↓reduceIte, decide_true, decide_false, Bool.true_eq_false, Bool.false_eq_true, Bool.not_true, Bool.not_false, if_true, if_false, and_true, true_and, memE, celE, w64, Nat.zero_add, Nat.add_zero, Nat.mul_one, putL, and_self, ldn, Bool.and_self, Bool.and_true, Bool.true_and, Bool.and_false, Bool.false_and, Bool.or_false, Bool.false_or, ext_2_0, ext_2_1, ext_3_0, ext_3_1, ext_3_2, bne_self_eq_false, beq_self_eq_true, goG_undef, Bool.not_true, Bool.not_false, stP_aggL, bld_ct3, hz, hz2, b3.mk4, b4.mk3, tm, t3, t4, t5, t9, t13, t30, t32, t34, hlt']
        refine loop_inv mixed (fun s => ∃ (j : Nat) (M : Mem), j ≤ 9 ∧ s.m = M ∧ IntsA M u p.w ∧ OwnB M bm 26 (mkC p u) ∧ OwnB M (bm + 1) 28 (ctL c) ∧ s.t 3 = .pointer (some ⟨bm, 0, none⟩) ∧ s.t 4 = .pointer (some ⟨bm + 1, 0, none⟩) ∧ s.t 39 = .int .i64 (c.share * p.price - 100 * (p.left + c.back)) ∧ s.t 40 = .int .i64 (j : Int)) (fun s => 15 - (intOf (s.t 40)).toNat)
          ⟨0, K0, by omega, by simp only [put_t, put_t', put_m, putT_t, putT_t', putT_m, init_t, init_m, initT_0, initT_1, initT_2, initT_3, initT_4, initT_5, initT_6, initT_7, initT_8, Nat.reduceEqDiff, ↓reduceIte, tm], iu, b3, b4, by simp only [put_t, put_t', put_m, putT_t, putT_t', putT_m, init_t, init_m, initT_0, initT_1, initT_2, initT_3, initT_4, initT_5, initT_6, initT_7, initT_8, Nat.reduceEqDiff, ↓reduceIte, t3], by simp only [put_t, put_t', put_m, putT_t, putT_t', putT_m, init_t, init_m, initT_0, initT_1, initT_2, initT_3, initT_4, initT_5, initT_6, initT_7, initT_8, Nat.reduceEqDiff, ↓reduceIte, t4], by simp only [put_t, put_t', put_m, putT_t, putT_t', putT_m, init_t, init_m, initT_0, initT_1, initT_2, initT_3, initT_4, initT_5, initT_6, initT_7, initT_8, Nat.reduceEqDiff, ↓reduceIte], by simp only [put_t, put_t', put_m, putT_t, putT_t', putT_m, init_t, init_m, initT_0, initT_1, initT_2, initT_3, initT_4, initT_5, initT_6, initT_7, initT_8, Nat.reduceEqDiff, ↓reduceIte]; simp⟩ ?_
        clear iu b3 b4 t3 t4 t5 t9 t13 t30 t32 t34 tm
        rintro s ⟨j, M, hj, tm, iu, b3, b4, t3, t4, t39, t40⟩
        by_cases hlj : j < 9
        · have hlj' : (j : Int) ≤ 8 := by omega
          simp (config := {implicitDefEqProofs := false, maxDischargeDepth := 20}) (disch := first | omega | (simp only [lenE]; done) | (simp only [lenE]; omega) | rfl | (simp only [lenE, markR_len]; done) | (simp only [lenE, markR_len]; omega)) only [runE, mapE, listE, initT_5, initT_6, initT_7, initT_8, resV, oneV, binA, unA, reduceCtorEq, Nat.reduceEqDiff, Nat.reduceAdd, Nat.reduceLT, Nat.reduceLeDiff, Nat.reduceMul, Nat.reduceSub, ↓reduceIte, decide_true, decide_false, Bool.true_eq_false, Bool.false_eq_true, Bool.not_true, Bool.not_false, if_true, if_false, and_true, true_and, memE, celE, w64, Nat.zero_add, Nat.add_zero, Nat.mul_one, putL, and_self, ldn, Bool.and_self, Bool.and_true, Bool.true_and, Bool.and_false, Bool.false_and, Bool.or_false, Bool.false_or, ext_2_0, ext_2_1, ext_3_0, ext_3_1, ext_3_2, bne_self_eq_false, beq_self_eq_true, goG_undef, Bool.not_true, Bool.not_false, stP_aggL, bld_ct3, hz, hz2, b3.mk4, b4.mk3, tm, t3, t4, t39, t40, hlj']
          have E1 : RC Try.prog 7 [mkV p u, ctV c, .int .i64 (j : Int)] M (AnsV (.tuple #[.int .i64 (selP p c j), .bool true])) := by
            have := implSellerProfit_rc M _ p c (j : Int) (MkA.mk iu)
            have ho : ordC p c (j : Int) = true := by rw [ordC, Bool.and_eq_true, bothM_iff, inM_iff]; exact ⟨⟨hG, hC⟩, by omega, by omega⟩
            rw [if_pos ho, ho, Int.toNat_natCast] at this
            exact this
          first | refine callH_rc E1 ?_ | refine rcallH_rc E1 ?_
          rintro r new ⟨rfl, nr⟩
          have b3 := b3.ext new
          have b4 := b4.ext new
          have iu := iu.ext new
          obtain ⟨K1, hK⟩ : ∃ K, K = M ++ new := ⟨_, rfl⟩
          rw [← hK] at b3 b4 iu ⊢
          clear hK nr E1
          simp (config := {implicitDefEqProofs := false, maxDischargeDepth := 20}) (disch := first | omega | (simp only [lenE]; done) | (simp only [lenE]; omega) | rfl | (simp only [lenE, markR_len]; done) | (simp only [lenE, markR_len]; omega)) only [runE, mapE, listE, initT_5, initT_6, initT_7, initT_8, resV, oneV, binA, unA, reduceCtorEq, Nat.reduceEqDiff, Nat.reduceAdd, Nat.reduceLT, Nat.reduceLeDiff, Nat.reduceMul, Nat.reduceSub, ↓reduceIte, decide_true, decide_false, Bool.true_eq_false, Bool.false_eq_true, Bool.not_true, Bool.not_false, if_true, if_false, and_true, true_and, memE, celE, w64, Nat.zero_add, Nat.add_zero, Nat.mul_one, putL, and_self, ldn, Bool.and_self, Bool.and_true, Bool.true_and, Bool.and_false, Bool.false_and, Bool.or_false, Bool.false_or, ext_2_0, ext_2_1, ext_3_0, ext_3_1, ext_3_2, bne_self_eq_false, beq_self_eq_true, goG_undef, Bool.not_true, Bool.not_false, stP_aggL, bld_ct3, hz, hz2, b3.mk4, b4.mk3, tm, t3, t4, t39, t40, hlj']
          have E2 : RC Try.prog 11 [mkV p u, .int .i64 (j : Int)] K1 (AnsV (.tuple #[.int .i64 (joiP p j), .bool true])) := by
            have := implJointProfit_rc K1 _ p (j : Int) (MkA.mk iu)
            have ho : ordM p (j : Int) = true := by rw [ordM, Bool.and_eq_true, goodM_iff, inM_iff]; exact ⟨hG, by omega, by omega⟩
            rw [if_pos ho, ho, Int.toNat_natCast] at this
            exact this
          first | refine callH_rc E2 ?_ | refine rcallH_rc E2 ?_
          rintro r new ⟨rfl, nr⟩
          have b3 := b3.ext new
          have b4 := b4.ext new
          have iu := iu.ext new
          obtain ⟨K2, hK⟩ : ∃ K, K = K1 ++ new := ⟨_, rfl⟩
          rw [← hK] at b3 b4 iu ⊢
          clear hK nr E2
          have sb := sel_bd hG hC (q := j) (by omega)
          have pj := part_joi hP j
          have pb := pj_bd hG hC hP (q := j) (by omega)
          rw [← pj] at pb
          have pb2 := pb
          rw [pj] at pb2
          unfold partP at pj pb2
          have en : (selP p c j * 100 * (p.price - p.left) != joiP p j * (c.share * p.price - 100 * (p.left + c.back))) = false := by rw [pj]; exact bne_self_eq_false _
          simp (config := {implicitDefEqProofs := false, maxDischargeDepth := 20}) (disch := first | omega | (simp only [lenE]; done) | (simp only [lenE]; omega) | rfl | (simp only [lenE, markR_len]; done) | (simp only [lenE, markR_len]; omega)) only [runE, mapE, listE, initT_5, initT_6, initT_7, initT_8, resV, oneV, binA, unA, reduceCtorEq, Nat.reduceEqDiff, Nat.reduceAdd, Nat.reduceLT, Nat.reduceLeDiff, Nat.reduceMul, Nat.reduceSub, ↓reduceIte, decide_true, decide_false, Bool.true_eq_false, Bool.false_eq_true, Bool.not_true, Bool.not_false, if_true, if_false, and_true, true_and, memE, celE, w64, Nat.zero_add, Nat.add_zero, Nat.mul_one, putL, and_self, ldn, Bool.and_self, Bool.and_true, Bool.true_and, Bool.and_false, Bool.false_and, Bool.or_false, Bool.false_or, ext_2_0, ext_2_1, ext_3_0, ext_3_1, ext_3_2, bne_self_eq_false, beq_self_eq_true, goG_undef, Bool.not_true, Bool.not_false, stP_aggL, bld_ct3, hz, hz2, b3.mk4, b4.mk3, tm, t3, t4, t39, t40, en]
          exact ⟨⟨j + 1, _, by omega, rfl, iu, b3, b4, by simp⟩, by simp [intOf]; omega⟩
        · have hlj' : ¬ ((j : Int) ≤ 8) := by omega
          simp (config := {implicitDefEqProofs := false, maxDischargeDepth := 20}) (disch := first | omega | (simp only [lenE]; done) | (simp only [lenE]; omega) | rfl | (simp only [lenE, markR_len]; done) | (simp only [lenE, markR_len]; omega)) only [runE, mapE, listE, initT_5, initT_6, initT_7, initT_8, resV, oneV, binA, unA, reduceCtorEq, Nat.reduceEqDiff, Nat.reduceAdd, Nat.reduceLT, Nat.reduceLeDiff, Nat.reduceMul, Nat.reduceSub, ↓reduceIte, decide_true, decide_false, Bool.true_eq_false, Bool.false_eq_true, Bool.not_true, Bool.not_false, if_true, if_false, and_true, true_and, memE, celE, w64, Nat.zero_add, Nat.add_zero, Nat.mul_one, putL, and_self, ldn, Bool.and_self, Bool.and_true, Bool.true_and, Bool.and_false, Bool.false_and, Bool.or_false, Bool.false_or, ext_2_0, ext_2_1, ext_3_0, ext_3_1, ext_3_2, bne_self_eq_false, beq_self_eq_true, goG_undef, Bool.not_true, Bool.not_false, stP_aggL, bld_ct3, hz, hz2, tm, t3, t4, t39, t40, hlj']
    | false =>
      as_aux_lemma =>
      try simp (config := {implicitDefEqProofs := false, maxDischargeDepth := 20}) (disch := first | omega | (simp only [lenE]; done) | (simp only [lenE]; omega) | rfl | (simp only [lenE, markR_len]; done) | (simp only [lenE, markR_len]; omega)) only [runE, mapE, listE, initT_5, initT_6, initT_7, initT_8, resV, oneV, binA, unA, reduceCtorEq, Nat.reduceEqDiff, Nat.reduceAdd, Nat.reduceLT, Nat.reduceLeDiff, Nat.reduceMul, Nat.reduceSub, ↓reduceIte, decide_true, decide_false, Bool.true_eq_false, Bool.false_eq_true, Bool.not_true, Bool.not_false, if_true, if_false, and_true, true_and, memE, celE, w64, Nat.zero_add, Nat.add_zero, Nat.mul_one, putL, and_self, ldn, Bool.and_self, Bool.and_true, Bool.true_and, Bool.and_false, Bool.false_and, Bool.or_false, Bool.false_or, ext_2_0, ext_2_1, ext_3_0, ext_3_1, ext_3_2, bne_self_eq_false, beq_self_eq_true, goG_undef, Bool.not_true, Bool.not_false, stP_aggL, bld_ct3, hz, hz2, b3.mk4, b4.mk3, b21.mk4]
      first | refine callH_rc (C1h _ iu) ?_ | refine rcallH_rc (C1h _ iu) ?_
      intro r new hA
      obtain ⟨nr, w9, rfl, hw⟩ := hA
      obtain ⟨-, dP, fP, rfl, -, -, own9⟩ := hw.now
      have iu := iu.ext new
      have b3 := b3.ext new
      have b4 := b4.ext new
      have iv := iv.ext new
      have b21 := b21.ext new
      have P := (own9 : OwnB (N15 ++ new) dP 28 (ctsC L))
      obtain ⟨N16, hN⟩ : ∃ N, N = N15 ++ new := ⟨_, rfl⟩
      rw [← hN] at iu b3 b4 iv b21 P ⊢
      clear hN
      clear nr hw own9
      try simp (config := {implicitDefEqProofs := false, maxDischargeDepth := 20}) (disch := first | omega | (simp only [lenE]; done) | (simp only [lenE]; omega) | rfl | (simp only [lenE, markR_len]; done) | (simp only [lenE, markR_len]; omega)) only [runE, mapE, listE, initT_5, initT_6, initT_7, initT_8, resV, oneV, binA, unA, reduceCtorEq, Nat.reduceEqDiff, Nat.reduceAdd, Nat.reduceLT, Nat.reduceLeDiff, Nat.reduceMul, Nat.reduceSub, ↓reduceIte, decide_true, decide_false, Bool.true_eq_false, Bool.false_eq_true, Bool.not_true, Bool.not_false, if_true, if_false, and_true, true_and, memE, celE, w64, Nat.zero_add, Nat.add_zero, Nat.mul_one, putL, and_self, ldn, Bool.and_self, Bool.and_true, Bool.true_and, Bool.and_false, Bool.false_and, Bool.or_false, Bool.false_or, ext_2_0, ext_2_1, ext_3_0, ext_3_1, ext_3_2, bne_self_eq_false, beq_self_eq_true, goG_undef, Bool.not_true, Bool.not_false, stP_aggL, bld_ct3, hz, hz2, b3.mk4, b4.mk3, b21.mk4]
      first | refine callH_rc (C2h _ iu) ?_ | refine rcallH_rc (C2h _ iu) ?_
      intro r new hA
      obtain ⟨nr, w9, rfl, hw⟩ := hA
      obtain ⟨-, dQ, fQ, rfl, -, -, own9⟩ := hw.now
      have iu := iu.ext new
      have b3 := b3.ext new
      have b4 := b4.ext new
      have iv := iv.ext new
      have b21 := b21.ext new
      have P := P.ext new
      have Q := (own9 : OwnB (N16 ++ new) dQ 28 (ctsC L))
      obtain ⟨N17, hN⟩ : ∃ N, N = N16 ++ new := ⟨_, rfl⟩
      rw [← hN] at iu b3 b4 iv b21 P Q ⊢
      clear hN
      clear nr hw own9
      try simp (config := {implicitDefEqProofs := false, maxDischargeDepth := 20}) (disch := first | omega | (simp only [lenE]; done) | (simp only [lenE]; omega) | rfl | (simp only [lenE, markR_len]; done) | (simp only [lenE, markR_len]; omega)) only [runE, mapE, listE, initT_5, initT_6, initT_7, initT_8, resV, oneV, binA, unA, reduceCtorEq, Nat.reduceEqDiff, Nat.reduceAdd, Nat.reduceLT, Nat.reduceLeDiff, Nat.reduceMul, Nat.reduceSub, ↓reduceIte, decide_true, decide_false, Bool.true_eq_false, Bool.false_eq_true, Bool.not_true, Bool.not_false, if_true, if_false, and_true, true_and, memE, celE, w64, Nat.zero_add, Nat.add_zero, Nat.mul_one, putL, and_self, ldn, Bool.and_self, Bool.and_true, Bool.true_and, Bool.and_false, Bool.false_and, Bool.or_false, Bool.false_or, ext_2_0, ext_2_1, ext_3_0, ext_3_1, ext_3_2, bne_self_eq_false, beq_self_eq_true, goG_undef, Bool.not_true, Bool.not_false, stP_aggL, bld_ct3, hz, hz2, b3.mk4, b4.mk3, b21.mk4]
      first | refine callH_rc (C1m _ iu) ?_ | refine rcallH_rc (C1m _ iu) ?_
      rintro r new ⟨rfl, nr⟩
      have iu := iu.ext new
      have b3 := b3.ext new
      have b4 := b4.ext new
      have iv := iv.ext new
      have b21 := b21.ext new
      have P := P.ext new
      have Q := Q.ext new
      obtain ⟨N18, hN⟩ : ∃ N, N = N17 ++ new := ⟨_, rfl⟩
      rw [← hN] at iu b3 b4 iv b21 P Q ⊢
      clear hN
      clear nr
      try simp (config := {implicitDefEqProofs := false, maxDischargeDepth := 20}) (disch := first | omega | (simp only [lenE]; done) | (simp only [lenE]; omega) | rfl | (simp only [lenE, markR_len]; done) | (simp only [lenE, markR_len]; omega)) only [runE, mapE, listE, initT_5, initT_6, initT_7, initT_8, resV, oneV, binA, unA, reduceCtorEq, Nat.reduceEqDiff, Nat.reduceAdd, Nat.reduceLT, Nat.reduceLeDiff, Nat.reduceMul, Nat.reduceSub, ↓reduceIte, decide_true, decide_false, Bool.true_eq_false, Bool.false_eq_true, Bool.not_true, Bool.not_false, if_true, if_false, and_true, true_and, memE, celE, w64, Nat.zero_add, Nat.add_zero, Nat.mul_one, putL, and_self, ldn, Bool.and_self, Bool.and_true, Bool.true_and, Bool.and_false, Bool.false_and, Bool.or_false, Bool.false_or, ext_2_0, ext_2_1, ext_3_0, ext_3_1, ext_3_2, bne_self_eq_false, beq_self_eq_true, goG_undef, Bool.not_true, Bool.not_false, stP_aggL, bld_ct3, hz, hz2, b3.mk4, b4.mk3, b21.mk4]
      have pA : CtsA N18 (.slice (some ⟨dP, 0, none⟩) L.length fP) L := CtsO.in (e := 28) (lo := 0) (hi := dP + 1) ⟨by omega, dP, fP, rfl, by omega, by omega, P⟩
      have qA : CtsA N18 (.slice (some ⟨dQ, 0, none⟩) L.length fQ) L := CtsO.in (e := 28) (lo := 0) (hi := dQ + 1) ⟨by omega, dQ, fQ, rfl, by omega, by omega, Q⟩
      clear P Q
      refine loop_inv mixed (fun s => ∃ (i : Nat) (M : Mem), i ≤ L.length ∧ s.m = M ∧ IntsA M u p.w ∧ OwnB M bm 26 (mkC p u) ∧ OwnB M (bm + 1) 28 (ctL c) ∧ CtsA M (.slice (some ⟨dP, 0, none⟩) L.length fP) L ∧ CtsA M (.slice (some ⟨dQ, 0, none⟩) L.length fQ) L ∧ s.t 3 = .pointer (some ⟨bm, 0, none⟩) ∧ s.t 4 = .pointer (some ⟨bm + 1, 0, none⟩) ∧ s.t 5 = .bool true ∧ s.t 9 = .int .i64 so ∧ s.t 13 = .int .i64 ls ∧ s.t 30 = .slice (some ⟨dP, 0, none⟩) L.length fP ∧ s.t 32 = .slice (some ⟨dQ, 0, none⟩) L.length fQ ∧ s.t 34 = .int .i64 (i : Int)) (fun s => 105 - (intOf (s.t 34)).toNat)
        ⟨0, N18, by omega, rfl, iu, b3, b4, pA, qA, rfl, rfl, rfl, rfl, rfl, rfl, rfl, rfl⟩ ?_
      clear pA qA iu b3 b4
      rintro s ⟨i, M, hi, tm, iu, b3, b4, pA, qA, t3, t4, t5, t9, t13, t30, t32, t34⟩
      by_cases hlt : i < L.length
      · have hlt' : (i : Int) < L.length := by omega
        have a1 := pA.at_ hlt
        have a2 := pA.ld hlt
        have a3 := qA.at_ hlt
        have a4 := qA.ld hlt
        try simp (config := {implicitDefEqProofs := false, maxDischargeDepth := 20}) (disch := first | omega | (simp only [lenE]; done) | (simp only [lenE]; omega) | rfl | (simp only [lenE, markR_len]; done) | (simp only [lenE, markR_len]; omega)) only [runE, mapE, listE, initT_5, initT_6, initT_7, initT_8, resV, oneV, binA, unA, reduceCtorEq, Nat.reduceEqDiff, Nat.reduceAdd, Nat.reduceLT, Nat.reduceLeDiff, Nat.reduceMul, Nat.reduceSub, ↓reduceIte, decide_true, decide_false, Bool.true_eq_false, Bool.false_eq_true, Bool.not_true, Bool.not_false, if_true, if_false, and_true, true_and, memE, celE, w64, Nat.zero_add, Nat.add_zero, Nat.mul_one, putL, and_self, ldn, Bool.and_self, Bool.and_true, Bool.true_and, Bool.and_false, Bool.false_and, Bool.or_false, Bool.false_or, ext_2_0, ext_2_1, ext_3_0, ext_3_1, ext_3_2, bne_self_eq_false, beq_self_eq_true, goG_undef, Bool.not_true, Bool.not_false, stP_aggL, bld_ct3, hz, hz2, b3.mk4, b4.mk3, tm, t3, t4, t5, t9, t13, t30, t32, t34, hlt', a1, a2, a3, a4, ae3M]
        first | refine callH_rc (HL i hlt M iu) ?_ | refine rcallH_rc (HL i hlt M iu) ?_
        rintro r new ⟨rfl, nr⟩
        have b3 := b3.ext new
        have b4 := b4.ext new
        have iu := iu.ext new
        have pA := pA.ext new
        have qA := qA.ext new
        by_cases hpl : p.left < p.price
        · simp (config := {implicitDefEqProofs := false, maxDischargeDepth := 20}) (disch := first | omega | (simp only [lenE]; done) | (simp only [lenE]; omega) | rfl | (simp only [lenE, markR_len]; done) | (simp only [lenE, markR_len]; omega)) only [runE, mapE, listE, initT_5, initT_6, initT_7, initT_8, resV, oneV, binA, unA, reduceCtorEq, Nat.reduceEqDiff, Nat.reduceAdd, Nat.reduceLT, Nat.reduceLeDiff, Nat.reduceMul, Nat.reduceSub, ↓reduceIte, decide_true, decide_false, Bool.true_eq_false, Bool.false_eq_true, Bool.not_true, Bool.not_false, if_true, if_false, and_true, true_and, memE, celE, w64, Nat.zero_add, Nat.add_zero, Nat.mul_one, putL, and_self, ldn, Bool.and_self, Bool.and_true, Bool.true_and, Bool.and_false, Bool.false_and, Bool.or_false, Bool.false_or, ext_2_0, ext_2_1, ext_3_0, ext_3_1, ext_3_2, bne_self_eq_false, beq_self_eq_true, goG_undef, Bool.not_true, Bool.not_false, stP_aggL, bld_ct3, hz, hz2, b3.mk4, b4.mk3, tm, t3, t4, t5, t9, t13, t30, t32, t34, gt_iff_lt, hpl]
          exact ⟨⟨i + 1, _, by omega, rfl, iu, b3, b4, pA, qA, by simp⟩, by simp [intOf]; omega⟩
        · simp (config := {implicitDefEqProofs := false, maxDischargeDepth := 20}) (disch := first | omega | (simp only [lenE]; done) | (simp only [lenE]; omega) | rfl | (simp only [lenE, markR_len]; done) | (simp only [lenE, markR_len]; omega)) only [runE, mapE, listE, initT_5, initT_6, initT_7, initT_8, resV, oneV, binA, unA, reduceCtorEq, Nat.reduceEqDiff, Nat.reduceAdd, Nat.reduceLT, Nat.reduceLeDiff, Nat.reduceMul, Nat.reduceSub, ↓reduceIte, decide_true, decide_false, Bool.true_eq_false, Bool.false_eq_true, Bool.not_true, Bool.not_false, if_true, if_false, and_true, true_and, memE, celE, w64, Nat.zero_add, Nat.add_zero, Nat.mul_one, putL, and_self, ldn, Bool.and_self, Bool.and_true, Bool.true_and, Bool.and_false, Bool.false_and, Bool.or_false, Bool.false_or, ext_2_0, ext_2_1, ext_3_0, ext_3_1, ext_3_2, bne_self_eq_false, beq_self_eq_true, goG_undef, Bool.not_true, Bool.not_false, stP_aggL, bld_ct3, hz, hz2, b3.mk4, b4.mk3, tm, t3, t4, t5, t9, t13, t30, t32, t34, gt_iff_lt, hpl]
          exact ⟨⟨i + 1, _, by omega, rfl, iu, b3, b4, pA, qA, by simp⟩, by simp [intOf]; omega⟩
      · have hlt' : ¬ ((i : Int) < L.length) := by omega
        clear pA qA
        have hpe : (p.price == p.left) = false := by rw [beq_eq_false_iff_ne]; omega
        simp (config := {implicitDefEqProofs := false, maxDischargeDepth := 20}) (disch := first | omega | (simp only [lenE]; done) | (simp only [lenE]; omega) | rfl | (simp only [lenE, markR_len]; done) | (simp only [lenE, markR_len]; omega)) only [runE, mapE, listE, initT_5, initT_6, initT_7, initT_8, resV, oneV, binA, unA, reduceCtorEq, Nat.reduceEqDiff, Nat.reduceAdd, Nat.reduceLT, Nat.reduceLeDiff, Nat.reduceMul, Nat.reduceSub, ↓reduceIte, decide_true, decide_false, Bool.true_eq_false, Bool.false_eq_true, Bool.not_true, Bool.not_false, if_true, if_false, and_true, true_and, memE, celE, w64, Nat.zero_add, Nat.add_zero, Nat.mul_one, putL, and_self, ldn, Bool.and_self, Bool.and_true, Bool.true_and, Bool.and_false, Bool.false_and, Bool.or_false, Bool.false_or, ext_2_0, ext_2_1, ext_3_0, ext_3_1, ext_3_2, bne_self_eq_false, beq_self_eq_true, goG_undef, Bool.not_true, Bool.not_false, stP_aggL, bld_ct3, hz, hz2, b3.mk4, b4.mk3, tm, t3, t4, t5, t9, t13, t30, t32, t34, hlt', hpe]
        first | refine callH_rc (C1f M iu) ?_ | refine rcallH_rc (C1f M iu) ?_
        rintro r new ⟨rfl, nr⟩
        have b3 := b3.ext new
        have b4 := b4.ext new
        have iu := iu.ext new
        obtain ⟨K0, hK⟩ : ∃ K, K = M ++ new := ⟨_, rfl⟩
        rw [← hK] at b3 b4 iu ⊢
        clear hK nr
        simp (config := {implicitDefEqProofs := false, maxDischargeDepth := 20}) (disch := first | omega | (simp only [lenE]; done) | (simp only [lenE]; omega) | rfl | (simp only [lenE, markR_len]; done) | (simp only [lenE, markR_len]; omega)) only [runE, mapE, listE, initT_5, initT_6, initT_7, initT_8, resV, oneV, binA, unA, reduceCtorEq, Nat.reduceEqDiff, Nat.reduceAdd, Nat.reduceLT, Nat.reduceLeDiff, Nat.reduceMul, Nat.reduceSub, ↓reduceIte, decide_true, decide_false, Bool.true_eq_false, Bool.false_eq_true, Bool.not_true, Bool.not_false, if_true, if_false, and_true, true_and, memE, celE, w64, Nat.zero_add, Nat.add_zero, Nat.mul_one, putL, and_self, ldn, Bool.and_self, Bool.and_true, Bool.true_and, Bool.and_false, Bool.false_and, Bool.or_false, Bool.false_or, ext_2_0, ext_2_1, ext_3_0, ext_3_1, ext_3_2, bne_self_eq_false, beq_self_eq_true, goG_undef, Bool.not_true, Bool.not_false, stP_aggL, bld_ct3, hz, hz2, b3.mk4, b4.mk3, tm, t3, t4, t5, t9, t13, t30, t32, t34, hlt']
        refine loop_inv mixed (fun s => ∃ (j : Nat) (M : Mem), j ≤ 9 ∧ s.m = M ∧ IntsA M u p.w ∧ OwnB M bm 26 (mkC p u) ∧ OwnB M (bm + 1) 28 (ctL c) ∧ s.t 3 = .pointer (some ⟨bm, 0, none⟩) ∧ s.t 4 = .pointer (some ⟨bm + 1, 0, none⟩) ∧ s.t 39 = .int .i64 (c.share * p.price - 100 * (p.left + c.back)) ∧ s.t 40 = .int .i64 (j : Int)) (fun s => 15 - (intOf (s.t 40)).toNat)
          ⟨0, K0, by omega, by simp only [put_t, put_t', put_m, putT_t, putT_t', putT_m, init_t, init_m, initT_0, initT_1, initT_2, initT_3, initT_4, initT_5, initT_6, initT_7, initT_8, Nat.reduceEqDiff, ↓reduceIte, tm], iu, b3, b4, by simp only [put_t, put_t', put_m, putT_t, putT_t', putT_m, init_t, init_m, initT_0, initT_1, initT_2, initT_3, initT_4, initT_5, initT_6, initT_7, initT_8, Nat.reduceEqDiff, ↓reduceIte, t3], by simp only [put_t, put_t', put_m, putT_t, putT_t', putT_m, init_t, init_m, initT_0, initT_1, initT_2, initT_3, initT_4, initT_5, initT_6, initT_7, initT_8, Nat.reduceEqDiff, ↓reduceIte, t4], by simp only [put_t, put_t', put_m, putT_t, putT_t', putT_m, init_t, init_m, initT_0, initT_1, initT_2, initT_3, initT_4, initT_5, initT_6, initT_7, initT_8, Nat.reduceEqDiff, ↓reduceIte], by simp only [put_t, put_t', put_m, putT_t, putT_t', putT_m, init_t, init_m, initT_0, initT_1, initT_2, initT_3, initT_4, initT_5, initT_6, initT_7, initT_8, Nat.reduceEqDiff, ↓reduceIte]; simp⟩ ?_
        clear iu b3 b4 t3 t4 t5 t9 t13 t30 t32 t34 tm
        rintro s ⟨j, M, hj, tm, iu, b3, b4, t3, t4, t39, t40⟩
        by_cases hlj : j < 9
        · have hlj' : (j : Int) ≤ 8 := by omega
          simp (config := {implicitDefEqProofs := false, maxDischargeDepth := 20}) (disch := first | omega | (simp only [lenE]; done) | (simp only [lenE]; omega) | rfl | (simp only [lenE, markR_len]; done) | (simp only [lenE, markR_len]; omega)) only [runE, mapE, listE, initT_5, initT_6, initT_7, initT_8, resV, oneV, binA, unA, reduceCtorEq, Nat.reduceEqDiff, Nat.reduceAdd, Nat.reduceLT, Nat.reduceLeDiff, Nat.reduceMul, Nat.reduceSub, ↓reduceIte, decide_true, decide_false, Bool.true_eq_false, Bool.false_eq_true, Bool.not_true, Bool.not_false, if_true, if_false, and_true, true_and, memE, celE, w64, Nat.zero_add, Nat.add_zero, Nat.mul_one, putL, and_self, ldn, Bool.and_self, Bool.and_true, Bool.true_and, Bool.and_false, Bool.false_and, Bool.or_false, Bool.false_or, ext_2_0, ext_2_1, ext_3_0, ext_3_1, ext_3_2, bne_self_eq_false, beq_self_eq_true, goG_undef, Bool.not_true, Bool.not_false, stP_aggL, bld_ct3, hz, hz2, b3.mk4, b4.mk3, tm, t3, t4, t39, t40, hlj']
          have E1 : RC Try.prog 7 [mkV p u, ctV c, .int .i64 (j : Int)] M (AnsV (.tuple #[.int .i64 (selP p c j), .bool true])) := by
            have := implSellerProfit_rc M _ p c (j : Int) (MkA.mk iu)
            have ho : ordC p c (j : Int) = true := by rw [ordC, Bool.and_eq_true, bothM_iff, inM_iff]; exact ⟨⟨hG, hC⟩, by omega, by omega⟩
            rw [if_pos ho, ho, Int.toNat_natCast] at this
            exact this
          first | refine callH_rc E1 ?_ | refine rcallH_rc E1 ?_
          rintro r new ⟨rfl, nr⟩
          have b3 := b3.ext new
          have b4 := b4.ext new
          have iu := iu.ext new
          obtain ⟨K1, hK⟩ : ∃ K, K = M ++ new := ⟨_, rfl⟩
          rw [← hK] at b3 b4 iu ⊢
          clear hK nr E1
          simp (config := {implicitDefEqProofs := false, maxDischargeDepth := 20}) (disch := first | omega | (simp only [lenE]; done) | (simp only [lenE]; omega) | rfl | (simp only [lenE, markR_len]; done) | (simp only [lenE, markR_len]; omega)) only [runE, mapE, listE, initT_5, initT_6, initT_7, initT_8, resV, oneV, binA, unA, reduceCtorEq, Nat.reduceEqDiff, Nat.reduceAdd, Nat.reduceLT, Nat.reduceLeDiff, Nat.reduceMul, Nat.reduceSub, ↓reduceIte, decide_true, decide_false, Bool.true_eq_false, Bool.false_eq_true, Bool.not_true, Bool.not_false, if_true, if_false, and_true, true_and, memE, celE, w64, Nat.zero_add, Nat.add_zero, Nat.mul_one, putL, and_self, ldn, Bool.and_self, Bool.and_true, Bool.true_and, Bool.and_false, Bool.false_and, Bool.or_false, Bool.false_or, ext_2_0, ext_2_1, ext_3_0, ext_3_1, ext_3_2, bne_self_eq_false, beq_self_eq_true, goG_undef, Bool.not_true, Bool.not_false, stP_aggL, bld_ct3, hz, hz2, b3.mk4, b4.mk3, tm, t3, t4, t39, t40, hlj']
          have E2 : RC Try.prog 11 [mkV p u, .int .i64 (j : Int)] K1 (AnsV (.tuple #[.int .i64 (joiP p j), .bool true])) := by
            have := implJointProfit_rc K1 _ p (j : Int) (MkA.mk iu)
            have ho : ordM p (j : Int) = true := by rw [ordM, Bool.and_eq_true, goodM_iff, inM_iff]; exact ⟨hG, by omega, by omega⟩
            rw [if_pos ho, ho, Int.toNat_natCast] at this
            exact this
          first | refine callH_rc E2 ?_ | refine rcallH_rc E2 ?_
          rintro r new ⟨rfl, nr⟩
          have b3 := b3.ext new
          have b4 := b4.ext new
          have iu := iu.ext new
          obtain ⟨K2, hK⟩ : ∃ K, K = K1 ++ new := ⟨_, rfl⟩
          rw [← hK] at b3 b4 iu ⊢
          clear hK nr E2
          have sb := sel_bd hG hC (q := j) (by omega)
          have pj := part_joi hP j
          have pb := pj_bd hG hC hP (q := j) (by omega)
          rw [← pj] at pb
          have pb2 := pb
          rw [pj] at pb2
          unfold partP at pj pb2
          have en : (selP p c j * 100 * (p.price - p.left) != joiP p j * (c.share * p.price - 100 * (p.left + c.back))) = false := by rw [pj]; exact bne_self_eq_false _
          simp (config := {implicitDefEqProofs := false, maxDischargeDepth := 20}) (disch := first | omega | (simp only [lenE]; done) | (simp only [lenE]; omega) | rfl | (simp only [lenE, markR_len]; done) | (simp only [lenE, markR_len]; omega)) only [runE, mapE, listE, initT_5, initT_6, initT_7, initT_8, resV, oneV, binA, unA, reduceCtorEq, Nat.reduceEqDiff, Nat.reduceAdd, Nat.reduceLT, Nat.reduceLeDiff, Nat.reduceMul, Nat.reduceSub, ↓reduceIte, decide_true, decide_false, Bool.true_eq_false, Bool.false_eq_true, Bool.not_true, Bool.not_false, if_true, if_false, and_true, true_and, memE, celE, w64, Nat.zero_add, Nat.add_zero, Nat.mul_one, putL, and_self, ldn, Bool.and_self, Bool.and_true, Bool.true_and, Bool.and_false, Bool.false_and, Bool.or_false, Bool.false_or, ext_2_0, ext_2_1, ext_3_0, ext_3_1, ext_3_2, bne_self_eq_false, beq_self_eq_true, goG_undef, Bool.not_true, Bool.not_false, stP_aggL, bld_ct3, hz, hz2, b3.mk4, b4.mk3, tm, t3, t4, t39, t40, en]
          exact ⟨⟨j + 1, _, by omega, rfl, iu, b3, b4, by simp⟩, by simp [intOf]; omega⟩
        · have hlj' : ¬ ((j : Int) ≤ 8) := by omega
          simp (config := {implicitDefEqProofs := false, maxDischargeDepth := 20}) (disch := first | omega | (simp only [lenE]; done) | (simp only [lenE]; omega) | rfl | (simp only [lenE, markR_len]; done) | (simp only [lenE, markR_len]; omega)) only [runE, mapE, listE, initT_5, initT_6, initT_7, initT_8, resV, oneV, binA, unA, reduceCtorEq, Nat.reduceEqDiff, Nat.reduceAdd, Nat.reduceLT, Nat.reduceLeDiff, Nat.reduceMul, Nat.reduceSub, ↓reduceIte, decide_true, decide_false, Bool.true_eq_false, Bool.false_eq_true, Bool.not_true, Bool.not_false, if_true, if_false, and_true, true_and, memE, celE, w64, Nat.zero_add, Nat.add_zero, Nat.mul_one, putL, and_self, ldn, Bool.and_self, Bool.and_true, Bool.true_and, Bool.and_false, Bool.false_and, Bool.or_false, Bool.false_or, ext_2_0, ext_2_1, ext_3_0, ext_3_1, ext_3_2, bne_self_eq_false, beq_self_eq_true, goG_undef, Bool.not_true, Bool.not_false, stP_aggL, bld_ct3, hz, hz2, tm, t3, t4, t39, t40, hlj']
  | false =>
    cases ok with
    | true =>
      as_aux_lemma =>
      have e5 := q2 rfl
      subst e5
      try simp (config := {implicitDefEqProofs := false, maxDischargeDepth := 20}) (disch := first | omega | (simp only [lenE]; done) | (simp only [lenE]; omega) | rfl | (simp only [lenE, markR_len]; done) | (simp only [lenE, markR_len]; omega)) only [runE, mapE, listE, initT_5, initT_6, initT_7, initT_8, resV, oneV, binA, unA, reduceCtorEq, Nat.reduceEqDiff, Nat.reduceAdd, Nat.reduceLT, Nat.reduceLeDiff, Nat.reduceMul, Nat.reduceSub, ↓reduceIte, decide_true, decide_false, Bool.true_eq_false, Bool.false_eq_true, Bool.not_true, Bool.not_false, if_true, if_false, and_true, true_and, memE, celE, w64, Nat.zero_add, Nat.add_zero, Nat.mul_one, putL, and_self, ldn, Bool.and_self, Bool.and_true, Bool.true_and, Bool.and_false, Bool.false_and, Bool.or_false, Bool.false_or, ext_2_0, ext_2_1, ext_3_0, ext_3_1, ext_3_2, bne_self_eq_false, beq_self_eq_true, goG_undef, Bool.not_true, Bool.not_false, stP_aggL, bld_ct3, b3.mk4, b4.mk3, q1]
      first | refine callH_rc (C1e _ iu) ?_ | refine rcallH_rc (C1e _ iu) ?_
      rintro r new ⟨rfl, nr⟩
      have iu := iu.ext new
      have b3 := b3.ext new
      have b4 := b4.ext new
      have B := B.ext new
      obtain ⟨N10, hN⟩ : ∃ N, N = N9 ++ new := ⟨_, rfl⟩
      rw [← hN] at iu b3 b4 B ⊢
      clear hN
      clear nr
      try simp (config := {implicitDefEqProofs := false, maxDischargeDepth := 20}) (disch := first | omega | (simp only [lenE]; done) | (simp only [lenE]; omega) | rfl | (simp only [lenE, markR_len]; done) | (simp only [lenE, markR_len]; omega)) only [runE, mapE, listE, initT_5, initT_6, initT_7, initT_8, resV, oneV, binA, unA, reduceCtorEq, Nat.reduceEqDiff, Nat.reduceAdd, Nat.reduceLT, Nat.reduceLeDiff, Nat.reduceMul, Nat.reduceSub, ↓reduceIte, decide_true, decide_false, Bool.true_eq_false, Bool.false_eq_true, Bool.not_true, Bool.not_false, if_true, if_false, and_true, true_and, memE, celE, w64, Nat.zero_add, Nat.add_zero, Nat.mul_one, putL, and_self, ldn, Bool.and_self, Bool.and_true, Bool.true_and, Bool.and_false, Bool.false_and, Bool.or_false, Bool.false_or, ext_2_0, ext_2_1, ext_3_0, ext_3_1, ext_3_2, bne_self_eq_false, beq_self_eq_true, goG_undef, Bool.not_true, Bool.not_false, stP_aggL, bld_ct3, b3.mk4, b4.mk3]
      first | refine callH_rc (C2e _ iu) ?_ | refine rcallH_rc (C2e _ iu) ?_
      rintro r new ⟨rfl, nr⟩
      have iu := iu.ext new
      have b3 := b3.ext new
      have b4 := b4.ext new
      have B := B.ext new
      obtain ⟨N11, hN⟩ : ∃ N, N = N10 ++ new := ⟨_, rfl⟩
      rw [← hN] at iu b3 b4 B ⊢
      clear hN
      clear nr
      try simp (config := {implicitDefEqProofs := false, maxDischargeDepth := 20}) (disch := first | omega | (simp only [lenE]; done) | (simp only [lenE]; omega) | rfl | (simp only [lenE, markR_len]; done) | (simp only [lenE, markR_len]; omega)) only [runE, mapE, listE, initT_5, initT_6, initT_7, initT_8, resV, oneV, binA, unA, reduceCtorEq, Nat.reduceEqDiff, Nat.reduceAdd, Nat.reduceLT, Nat.reduceLeDiff, Nat.reduceMul, Nat.reduceSub, ↓reduceIte, decide_true, decide_false, Bool.true_eq_false, Bool.false_eq_true, Bool.not_true, Bool.not_false, if_true, if_false, and_true, true_and, memE, celE, w64, Nat.zero_add, Nat.add_zero, Nat.mul_one, putL, and_self, ldn, Bool.and_self, Bool.and_true, Bool.true_and, Bool.and_false, Bool.false_and, Bool.or_false, Bool.false_or, ext_2_0, ext_2_1, ext_3_0, ext_3_1, ext_3_2, bne_self_eq_false, beq_self_eq_true, goG_undef, Bool.not_true, Bool.not_false, stP_aggL, bld_ct3, b3.mk4, b4.mk3]
      first | refine callH_rc (DrawPayFor_rc _ 0 0 l B) ?_ | refine rcallH_rc (DrawPayFor_rc _ 0 0 l B) ?_
      rintro r new ⟨nr, p2, u2, ⟨xb, xs, rfl⟩, hm⟩
      clear B
      have iv : IntsA (N11 ++ new) u2 p2.w := by
        obtain ⟨u3, e2, h2⟩ := hm.here
        have : u2 = u3 := by simpa [mkV] using e2
        rw [this]; exact h2
      have iu := iu.ext new
      have b3 := b3.ext new
      have b4 := b4.ext new
      obtain ⟨N12, hN⟩ : ∃ N, N = N11 ++ new := ⟨_, rfl⟩
      rw [← hN] at iu b3 b4 iv ⊢
      clear hN hm nr
      have oc := ones_mk (p := p2) (u := u2) iv
      have s3 : stA (N12 ++ [⟨.own, 26, [.slice none 0 0, .int .i64 0, .int .i64 0, .int .i64 0]⟩]) N12.length 0 [u2, .int .i64 p2.price, .int .i64 p2.make, .int .i64 p2.left] = some (N12 ++ [⟨.own, 26, mkC p2 u2⟩]) := by
        rw [(OwnB.here rfl).st (by simp) oc]
        simp [putL]
      have b21 : OwnB (N12 ++ [⟨.own, 26, mkC p2 u2⟩]) N12.length 26 (mkC p2 u2) := OwnB.here rfl
      obtain ⟨yp, hyp⟩ : ∃ t, t = payV (payO p2 xb xs) := ⟨_, rfl⟩
      obtain ⟨yo, hyo⟩ : ∃ t, t = (payO p2 xb xs).isSome := ⟨_, rfl⟩
      have D1 : ∀ M, IntsA M u2 p2.w → RC Try.prog 40 [mkV p2 u2, .int .i64 xb, .int .i64 xs] M (AnsV (.tuple #[.int .i64 yp, .bool yo])) := fun M h => by rw [hyp, hyo]; exact implPayFor_rc _ _ p2 xb xs (MkA.mk h)
      have D2 : ∀ M, IntsA M u2 p2.w → RC Try.prog 41 [mkV p2 u2, .int .i64 xb, .int .i64 xs] M (AnsV (.tuple #[.int .i64 yp, .bool yo])) := fun M h => by rw [hyp, hyo]; exact specPayFor_rc _ _ p2 xb xs (MkA.mk h)
      have D3 : yo = true → ∀ M, IntsA M u2 p2.w → RC Try.prog 29 [mkV p2 u2, ctV ⟨yp, xb, xs⟩] M (AnsV (.tuple #[.bool true, .bool true])) := fun ho M h => by
        have := implInProportion_rc M _ p2 ⟨yp, xb, xs⟩ (MkA.mk h)
        obtain ⟨n, hn⟩ : ∃ n, payO p2 xb xs = some n := by
          rw [hyo] at ho
          exact Option.isSome_iff_exists.1 ho
        have hv : yp = (n : Int) := by rw [hyp, hn]; rfl
        unfold payO at hn
        have hk : payOk p2 xb xs = true := by
          cases hkk : payOk p2 xb xs with
          | true => rfl
          | false => rw [hkk] at hn; cases hn
        rw [if_pos hk] at hn
        have hs := payN_some hn
        simp only [payOk, Bool.and_eq_true, goodM_iff, inM_iff] at hk
        have hb2 : bothM p2 ⟨yp, xb, xs⟩ = true := bothM_iff.2 ⟨hk.1, ⟨by simp only; omega, hk.2.1, hk.2.2⟩⟩
        have hp2 : propB p2 ⟨yp, xb, xs⟩ = true := by rw [hv]; exact hs.2
        rw [hb2, hp2] at this
        exact this
      clear hyp hyo
      try simp (config := {implicitDefEqProofs := false, maxDischargeDepth := 20}) (disch := first | omega | (simp only [lenE]; done) | (simp only [lenE]; omega) | rfl | (simp only [lenE, markR_len]; done) | (simp only [lenE, markR_len]; omega)) only [runE, mapE, listE, initT_5, initT_6, initT_7, initT_8, resV, oneV, binA, unA, reduceCtorEq, Nat.reduceEqDiff, Nat.reduceAdd, Nat.reduceLT, Nat.reduceLeDiff, Nat.reduceMul, Nat.reduceSub, ↓reduceIte, decide_true, decide_false, Bool.true_eq_false, Bool.false_eq_true, Bool.not_true, Bool.not_false, if_true, if_false, and_true, true_and, memE, celE, w64, Nat.zero_add, Nat.add_zero, Nat.mul_one, putL, and_self, ldn, Bool.and_self, Bool.and_true, Bool.true_and, Bool.and_false, Bool.false_and, Bool.or_false, Bool.false_or, ext_2_0, ext_2_1, ext_3_0, ext_3_1, ext_3_2, bne_self_eq_false, beq_self_eq_true, goG_undef, Bool.not_true, Bool.not_false, stP_aggL, bld_ct3, b3.mk4, b4.mk3, s3]
      clear s3 oc
      have iu := iu.ext [⟨.own, 26, mkC p2 u2⟩]
      have b3 := b3.ext [⟨.own, 26, mkC p2 u2⟩]
      have b4 := b4.ext [⟨.own, 26, mkC p2 u2⟩]
      have iv := iv.ext [⟨.own, 26, mkC p2 u2⟩]
      obtain ⟨N13, hN⟩ : ∃ N, N = N12 ++ [⟨.own, 26, mkC p2 u2⟩] := ⟨_, rfl⟩
      rw [← hN] at iu b3 b4 iv b21 ⊢
      clear hN
      try simp (config := {implicitDefEqProofs := false, maxDischargeDepth := 20}) (disch := first | omega | (simp only [lenE]; done) | (simp only [lenE]; omega) | rfl | (simp only [lenE, markR_len]; done) | (simp only [lenE, markR_len]; omega)) only [runE, mapE, listE, initT_5, initT_6, initT_7, initT_8, resV, oneV, binA, unA, reduceCtorEq, Nat.reduceEqDiff, Nat.reduceAdd, Nat.reduceLT, Nat.reduceLeDiff, Nat.reduceMul, Nat.reduceSub, ↓reduceIte, decide_true, decide_false, Bool.true_eq_false, Bool.false_eq_true, Bool.not_true, Bool.not_false, if_true, if_false, and_true, true_and, memE, celE, w64, Nat.zero_add, Nat.add_zero, Nat.mul_one, putL, and_self, ldn, Bool.and_self, Bool.and_true, Bool.true_and, Bool.and_false, Bool.false_and, Bool.or_false, Bool.false_or, ext_2_0, ext_2_1, ext_3_0, ext_3_1, ext_3_2, bne_self_eq_false, beq_self_eq_true, goG_undef, Bool.not_true, Bool.not_false, stP_aggL, bld_ct3, b3.mk4, b4.mk3, b21.mk4]
      first | refine callH_rc (D1 _ iv) ?_ | refine rcallH_rc (D1 _ iv) ?_
      rintro r new ⟨rfl, nr⟩
      have iu := iu.ext new
      have b3 := b3.ext new
      have b4 := b4.ext new
      have iv := iv.ext new
      have b21 := b21.ext new
      obtain ⟨N14, hN⟩ : ∃ N, N = N13 ++ new := ⟨_, rfl⟩
      rw [← hN] at iu b3 b4 iv b21 ⊢
      clear hN
      clear nr
      try simp (config := {implicitDefEqProofs := false, maxDischargeDepth := 20}) (disch := first | omega | (simp only [lenE]; done) | (simp only [lenE]; omega) | rfl | (simp only [lenE, markR_len]; done) | (simp only [lenE, markR_len]; omega)) only [runE, mapE, listE, initT_5, initT_6, initT_7, initT_8, resV, oneV, binA, unA, reduceCtorEq, Nat.reduceEqDiff, Nat.reduceAdd, Nat.reduceLT, Nat.reduceLeDiff, Nat.reduceMul, Nat.reduceSub, ↓reduceIte, decide_true, decide_false, Bool.true_eq_false, Bool.false_eq_true, Bool.not_true, Bool.not_false, if_true, if_false, and_true, true_and, memE, celE, w64, Nat.zero_add, Nat.add_zero, Nat.mul_one, putL, and_self, ldn, Bool.and_self, Bool.and_true, Bool.true_and, Bool.and_false, Bool.false_and, Bool.or_false, Bool.false_or, ext_2_0, ext_2_1, ext_3_0, ext_3_1, ext_3_2, bne_self_eq_false, beq_self_eq_true, goG_undef, Bool.not_true, Bool.not_false, stP_aggL, bld_ct3, b3.mk4, b4.mk3, b21.mk4]
      first | refine callH_rc (D2 _ iv) ?_ | refine rcallH_rc (D2 _ iv) ?_
      rintro r new ⟨rfl, nr⟩
      have iu := iu.ext new
      have b3 := b3.ext new
      have b4 := b4.ext new
      have iv := iv.ext new
      have b21 := b21.ext new
      obtain ⟨N15, hN⟩ : ∃ N, N = N14 ++ new := ⟨_, rfl⟩
      rw [← hN] at iu b3 b4 iv b21 ⊢
      clear hN
      clear nr
      try simp (config := {implicitDefEqProofs := false, maxDischargeDepth := 20}) (disch := first | omega | (simp only [lenE]; done) | (simp only [lenE]; omega) | rfl | (simp only [lenE, markR_len]; done) | (simp only [lenE, markR_len]; omega)) only [runE, mapE, listE, initT_5, initT_6, initT_7, initT_8, resV, oneV, binA, unA, reduceCtorEq, Nat.reduceEqDiff, Nat.reduceAdd, Nat.reduceLT, Nat.reduceLeDiff, Nat.reduceMul, Nat.reduceSub, ↓reduceIte, decide_true, decide_false, Bool.true_eq_false, Bool.false_eq_true, Bool.not_true, Bool.not_false, if_true, if_false, and_true, true_and, memE, celE, w64, Nat.zero_add, Nat.add_zero, Nat.mul_one, putL, and_self, ldn, Bool.and_self, Bool.and_true, Bool.true_and, Bool.and_false, Bool.false_and, Bool.or_false, Bool.false_or, ext_2_0, ext_2_1, ext_3_0, ext_3_1, ext_3_2, bne_self_eq_false, beq_self_eq_true, goG_undef, Bool.not_true, Bool.not_false, stP_aggL, bld_ct3, b3.mk4, b4.mk3, b21.mk4]
      cases yo with
      | true =>
        as_aux_lemma =>
        try simp (config := {implicitDefEqProofs := false, maxDischargeDepth := 20}) (disch := first | omega | (simp only [lenE]; done) | (simp only [lenE]; omega) | rfl | (simp only [lenE, markR_len]; done) | (simp only [lenE, markR_len]; omega)) only [runE, mapE, listE, initT_5, initT_6, initT_7, initT_8, resV, oneV, binA, unA, reduceCtorEq, Nat.reduceEqDiff, Nat.reduceAdd, Nat.reduceLT, Nat.reduceLeDiff, Nat.reduceMul, Nat.reduceSub, ↓reduceIte, decide_true, decide_false, Bool.true_eq_false, Bool.false_eq_true, Bool.not_true, Bool.not_false, if_true, if_false, and_true, true_and, memE, celE, w64, Nat.zero_add, Nat.add_zero, Nat.mul_one, putL, and_self, ldn, Bool.and_self, Bool.and_true, Bool.true_and, Bool.and_false, Bool.false_and, Bool.or_false, Bool.false_or, ext_2_0, ext_2_1, ext_3_0, ext_3_1, ext_3_2, bne_self_eq_false, beq_self_eq_true, goG_undef, Bool.not_true, Bool.not_false, stP_aggL, bld_ct3, b3.mk4, b4.mk3, b21.mk4]
        first | refine callH_rc (D3 rfl _ iv) ?_ | refine rcallH_rc (D3 rfl _ iv) ?_
        rintro r new ⟨rfl, nr⟩
        have iu := iu.ext new
        have b3 := b3.ext new
        have b4 := b4.ext new
        have iv := iv.ext new
        have b21 := b21.ext new
        obtain ⟨N16, hN⟩ : ∃ N, N = N15 ++ new := ⟨_, rfl⟩
        rw [← hN] at iu b3 b4 iv b21 ⊢
        clear hN
        clear nr
        try simp (config := {implicitDefEqProofs := false, maxDischargeDepth := 20}) (disch := first | omega | (simp only [lenE]; done) | (simp only [lenE]; omega) | rfl | (simp only [lenE, markR_len]; done) | (simp only [lenE, markR_len]; omega)) only [runE, mapE, listE, initT_5, initT_6, initT_7, initT_8, resV, oneV, binA, unA, reduceCtorEq, Nat.reduceEqDiff, Nat.reduceAdd, Nat.reduceLT, Nat.reduceLeDiff, Nat.reduceMul, Nat.reduceSub, ↓reduceIte, decide_true, decide_false, Bool.true_eq_false, Bool.false_eq_true, Bool.not_true, Bool.not_false, if_true, if_false, and_true, true_and, memE, celE, w64, Nat.zero_add, Nat.add_zero, Nat.mul_one, putL, and_self, ldn, Bool.and_self, Bool.and_true, Bool.true_and, Bool.and_false, Bool.false_and, Bool.or_false, Bool.false_or, ext_2_0, ext_2_1, ext_3_0, ext_3_1, ext_3_2, bne_self_eq_false, beq_self_eq_true, goG_undef, Bool.not_true, Bool.not_false, stP_aggL, bld_ct3, b3.mk4, b4.mk3, b21.mk4]
        first | refine callH_rc (C1h _ iu) ?_ | refine rcallH_rc (C1h _ iu) ?_
        intro r new hA
        obtain ⟨nr, w9, rfl, hw⟩ := hA
        obtain ⟨-, dP, fP, rfl, -, -, own9⟩ := hw.now
        have iu := iu.ext new
        have b3 := b3.ext new
        have b4 := b4.ext new
        have iv := iv.ext new
        have b21 := b21.ext new
        have P := (own9 : OwnB (N16 ++ new) dP 28 (ctsC L))
        obtain ⟨N17, hN⟩ : ∃ N, N = N16 ++ new := ⟨_, rfl⟩
        rw [← hN] at iu b3 b4 iv b21 P ⊢
        clear hN
        clear nr hw own9
        try simp (config := {implicitDefEqProofs := false, maxDischargeDepth := 20}) (disch := first | omega | (simp only [lenE]; done) | (simp only [lenE]; omega) | rfl | (simp only [lenE, markR_len]; done) | (simp only [lenE, markR_len]; omega)) only [runE, mapE, listE, initT_5, initT_6, initT_7, initT_8, resV, oneV, binA, unA, reduceCtorEq, Nat.reduceEqDiff, Nat.reduceAdd, Nat.reduceLT, Nat.reduceLeDiff, Nat.reduceMul, Nat.reduceSub, ↓reduceIte, decide_true, decide_false, Bool.true_eq_false, Bool.false_eq_true, Bool.not_true, Bool.not_false, if_true, if_false, and_true, true_and, memE, celE, w64, Nat.zero_add, Nat.add_zero, Nat.mul_one, putL, and_self, ldn, Bool.and_self, Bool.and_true, Bool.true_and, Bool.and_false, Bool.false_and, Bool.or_false, Bool.false_or, ext_2_0, ext_2_1, ext_3_0, ext_3_1, ext_3_2, bne_self_eq_false, beq_self_eq_true, goG_undef, Bool.not_true, Bool.not_false, stP_aggL, bld_ct3, b3.mk4, b4.mk3, b21.mk4]
        first | refine callH_rc (C2h _ iu) ?_ | refine rcallH_rc (C2h _ iu) ?_
        intro r new hA
        obtain ⟨nr, w9, rfl, hw⟩ := hA
        obtain ⟨-, dQ, fQ, rfl, -, -, own9⟩ := hw.now
        have iu := iu.ext new
        have b3 := b3.ext new
        have b4 := b4.ext new
        have iv := iv.ext new
        have b21 := b21.ext new
        have P := P.ext new
        have Q := (own9 : OwnB (N17 ++ new) dQ 28 (ctsC L))
        obtain ⟨N18, hN⟩ : ∃ N, N = N17 ++ new := ⟨_, rfl⟩
        rw [← hN] at iu b3 b4 iv b21 P Q ⊢
        clear hN
        clear nr hw own9
        try simp (config := {implicitDefEqProofs := false, maxDischargeDepth := 20}) (disch := first | omega | (simp only [lenE]; done) | (simp only [lenE]; omega) | rfl | (simp only [lenE, markR_len]; done) | (simp only [lenE, markR_len]; omega)) only [runE, mapE, listE, initT_5, initT_6, initT_7, initT_8, resV, oneV, binA, unA, reduceCtorEq, Nat.reduceEqDiff, Nat.reduceAdd, Nat.reduceLT, Nat.reduceLeDiff, Nat.reduceMul, Nat.reduceSub, ↓reduceIte, decide_true, decide_false, Bool.true_eq_false, Bool.false_eq_true, Bool.not_true, Bool.not_false, if_true, if_false, and_true, true_and, memE, celE, w64, Nat.zero_add, Nat.add_zero, Nat.mul_one, putL, and_self, ldn, Bool.and_self, Bool.and_true, Bool.true_and, Bool.and_false, Bool.false_and, Bool.or_false, Bool.false_or, ext_2_0, ext_2_1, ext_3_0, ext_3_1, ext_3_2, bne_self_eq_false, beq_self_eq_true, goG_undef, Bool.not_true, Bool.not_false, stP_aggL, bld_ct3, b3.mk4, b4.mk3, b21.mk4]
        first | refine callH_rc (C1m _ iu) ?_ | refine rcallH_rc (C1m _ iu) ?_
        rintro r new ⟨rfl, nr⟩
        have iu := iu.ext new
        have b3 := b3.ext new
        have b4 := b4.ext new
        have iv := iv.ext new
        have b21 := b21.ext new
        have P := P.ext new
        have Q := Q.ext new
        obtain ⟨N19, hN⟩ : ∃ N, N = N18 ++ new := ⟨_, rfl⟩
        rw [← hN] at iu b3 b4 iv b21 P Q ⊢
        clear hN
        clear nr
        try simp (config := {implicitDefEqProofs := false, maxDischargeDepth := 20}) (disch := first | omega | (simp only [lenE]; done) | (simp only [lenE]; omega) | rfl | (simp only [lenE, markR_len]; done) | (simp only [lenE, markR_len]; omega)) only [runE, mapE, listE, initT_5, initT_6, initT_7, initT_8, resV, oneV, binA, unA, reduceCtorEq, Nat.reduceEqDiff, Nat.reduceAdd, Nat.reduceLT, Nat.reduceLeDiff, Nat.reduceMul, Nat.reduceSub, ↓reduceIte, decide_true, decide_false, Bool.true_eq_false, Bool.false_eq_true, Bool.not_true, Bool.not_false, if_true, if_false, and_true, true_and, memE, celE, w64, Nat.zero_add, Nat.add_zero, Nat.mul_one, putL, and_self, ldn, Bool.and_self, Bool.and_true, Bool.true_and, Bool.and_false, Bool.false_and, Bool.or_false, Bool.false_or, ext_2_0, ext_2_1, ext_3_0, ext_3_1, ext_3_2, bne_self_eq_false, beq_self_eq_true, goG_undef, Bool.not_true, Bool.not_false, stP_aggL, bld_ct3, b3.mk4, b4.mk3, b21.mk4]
        have pA : CtsA N19 (.slice (some ⟨dP, 0, none⟩) L.length fP) L := CtsO.in (e := 28) (lo := 0) (hi := dP + 1) ⟨by omega, dP, fP, rfl, by omega, by omega, P⟩
        have qA : CtsA N19 (.slice (some ⟨dQ, 0, none⟩) L.length fQ) L := CtsO.in (e := 28) (lo := 0) (hi := dQ + 1) ⟨by omega, dQ, fQ, rfl, by omega, by omega, Q⟩
        clear P Q
        refine loop_inv mixed (fun s => ∃ (i : Nat) (M : Mem), i ≤ L.length ∧ s.m = M ∧ IntsA M u p.w ∧ OwnB M bm 26 (mkC p u) ∧ OwnB M (bm + 1) 28 (ctL c) ∧ CtsA M (.slice (some ⟨dP, 0, none⟩) L.length fP) L ∧ CtsA M (.slice (some ⟨dQ, 0, none⟩) L.length fQ) L ∧ s.t 3 = .pointer (some ⟨bm, 0, none⟩) ∧ s.t 4 = .pointer (some ⟨bm + 1, 0, none⟩) ∧ s.t 5 = .bool false ∧ s.t 9 = .int .i64 so ∧ s.t 13 = .int .i64 ls ∧ s.t 30 = .slice (some ⟨dP, 0, none⟩) L.length fP ∧ s.t 32 = .slice (some ⟨dQ, 0, none⟩) L.length fQ ∧ s.t 34 = .int .i64 (i : Int)) (fun s => 105 - (intOf (s.t 34)).toNat)
          ⟨0, N19, by omega, rfl, iu, b3, b4, pA, qA, rfl, rfl, rfl, rfl, rfl, rfl, rfl, rfl⟩ ?_
        clear pA qA iu b3 b4
        rintro s ⟨i, M, hi, tm, iu, b3, b4, pA, qA, t3, t4, t5, t9, t13, t30, t32, t34⟩
        by_cases hlt : i < L.length
        · have hlt' : (i : Int) < L.length := by omega
          have a1 := pA.at_ hlt
          have a2 := pA.ld hlt
          have a3 := qA.at_ hlt
          have a4 := qA.ld hlt
          try simp (config := {implicitDefEqProofs := false, maxDischargeDepth := 20}) (disch := first | omega | (simp only [lenE]; done) | (simp only [lenE]; omega) | rfl | (simp only [lenE, markR_len]; done) | (simp only [lenE, markR_len]; omega)) only [runE, mapE, listE, initT_5, initT_6, initT_7, initT_8, resV, oneV, binA, unA, reduceCtorEq, Nat.reduceEqDiff, Nat.reduceAdd, Nat.reduceLT, Nat.reduceLeDiff, Nat.reduceMul, Nat.reduceSub, ↓reduceIte, decide_true, decide_false, Bool.true_eq_false, Bool.false_eq_true, Bool.not_true, Bool.not_false, if_true, if_false, and_true, true_and, memE, celE, w64, Nat.zero_add, Nat.add_zero, Nat.mul_one, putL, and_self, ldn, Bool.and_self, Bool.and_true, Bool.true_and, Bool.and_false, Bool.false_and, Bool.or_false, Bool.false_or, ext_2_0, ext_2_1, ext_3_0, ext_3_1, ext_3_2, bne_self_eq_false, beq_self_eq_true, goG_undef, Bool.not_true, Bool.not_false, stP_aggL, bld_ct3, b3.mk4, b4.mk3, tm, t3, t4, t5, t9, t13, t30, t32, t34, hlt', a1, a2, a3, a4, ae3M]
          first | refine callH_rc (HL i hlt M iu) ?_ | refine rcallH_rc (HL i hlt M iu) ?_
          rintro r new ⟨rfl, nr⟩
          have b3 := b3.ext new
          have b4 := b4.ext new
          have iu := iu.ext new
          have pA := pA.ext new
          have qA := qA.ext new
          by_cases hpl : p.left < p.price
          · simp (config := {implicitDefEqProofs := false, maxDischargeDepth := 20}) (disch := first | omega | (simp only [lenE]; done) | (simp only [lenE]; omega) | rfl | (simp only [lenE, markR_len]; done) | (simp only [lenE, markR_len]; omega)) only [runE, mapE, listE, initT_5, initT_6, initT_7, initT_8, resV, oneV, binA, unA, reduceCtorEq, Nat.reduceEqDiff, Nat.reduceAdd, Nat.reduceLT, Nat.reduceLeDiff, Nat.reduceMul, Nat.reduceSub, ↓reduceIte, decide_true, decide_false, Bool.true_eq_false, Bool.false_eq_true, Bool.not_true, Bool.not_false, if_true, if_false, and_true, true_and, memE, celE, w64, Nat.zero_add, Nat.add_zero, Nat.mul_one, putL, and_self, ldn, Bool.and_self, Bool.and_true, Bool.true_and, Bool.and_false, Bool.false_and, Bool.or_false, Bool.false_or, ext_2_0, ext_2_1, ext_3_0, ext_3_1, ext_3_2, bne_self_eq_false, beq_self_eq_true, goG_undef, Bool.not_true, Bool.not_false, stP_aggL, bld_ct3, b3.mk4, b4.mk3, tm, t3, t4, t5, t9, t13, t30, t32, t34, gt_iff_lt, hpl]
            exact ⟨⟨i + 1, _, by omega, rfl, iu, b3, b4, pA, qA, by simp⟩, by simp [intOf]; omega⟩
          · simp (config := {implicitDefEqProofs := false, maxDischargeDepth := 20}) (disch := first | omega | (simp only [lenE]; done) | (simp only [lenE]; omega) | rfl | (simp only [lenE, markR_len]; done) | (simp only [lenE, markR_len]; omega)) only [runE, mapE, listE, initT_5, initT_6, initT_7, initT_8, resV, oneV, binA, unA, reduceCtorEq, Nat.reduceEqDiff, Nat.reduceAdd, Nat.reduceLT, Nat.reduceLeDiff, Nat.reduceMul, Nat.reduceSub, ↓reduceIte, decide_true, decide_false, Bool.true_eq_false, Bool.false_eq_true, Bool.not_true, Bool.not_false, if_true, if_false, and_true, true_and, memE, celE, w64, Nat.zero_add, Nat.add_zero, Nat.mul_one, putL, and_self, ldn, Bool.and_self, Bool.and_true, Bool.true_and, Bool.and_false, Bool.false_and, Bool.or_false, Bool.false_or, ext_2_0, ext_2_1, ext_3_0, ext_3_1, ext_3_2, bne_self_eq_false, beq_self_eq_true, goG_undef, Bool.not_true, Bool.not_false, stP_aggL, bld_ct3, b3.mk4, b4.mk3, tm, t3, t4, t5, t9, t13, t30, t32, t34, gt_iff_lt, hpl]
            exact ⟨⟨i + 1, _, by omega, rfl, iu, b3, b4, pA, qA, by simp⟩, by simp [intOf]; omega⟩
        · have hlt' : ¬ ((i : Int) < L.length) := by omega
          clear pA qA
          simp (config := {implicitDefEqProofs := false, maxDischargeDepth := 20}) (disch := first | omega | (simp only [lenE]; done) | (simp only [lenE]; omega) | rfl | (simp only [lenE, markR_len]; done) | (simp only [lenE, markR_len]; omega)) only [runE, mapE, listE, initT_5, initT_6, initT_7, initT_8, resV, oneV, binA, unA, reduceCtorEq, Nat.reduceEqDiff, Nat.reduceAdd, Nat.reduceLT, Nat.reduceLeDiff, Nat.reduceMul, Nat.reduceSub, ↓reduceIte, decide_true, decide_false, Bool.true_eq_false, Bool.false_eq_true, Bool.not_true, Bool.not_false, if_true, if_false, and_true, true_and, memE, celE, w64, Nat.zero_add, Nat.add_zero, Nat.mul_one, putL, and_self, ldn, Bool.and_self, Bool.and_true, Bool.true_and, Bool.and_false, Bool.false_and, Bool.or_false, Bool.false_or, ext_2_0, ext_2_1, ext_3_0, ext_3_1, ext_3_2, bne_self_eq_false, beq_self_eq_true, goG_undef, Bool.not_true, Bool.not_false, stP_aggL, bld_ct3, tm, t3, t4, t5, t9, t13, t30, t32, t34, hlt']
      | false =>
        as_aux_lemma =>
        try simp (config := {implicitDefEqProofs := false, maxDischargeDepth := 20}) (disch := first | omega | (simp only [lenE]; done) | (simp only [lenE]; omega) | rfl | (simp only [lenE, markR_len]; done) | (simp only [lenE, markR_len]; omega)) only [runE, mapE, listE, initT_5, initT_6, initT_7, initT_8, resV, oneV, binA, unA, reduceCtorEq, Nat.reduceEqDiff, Nat.reduceAdd, Nat.reduceLT, Nat.reduceLeDiff, Nat.reduceMul, Nat.reduceSub, ↓reduceIte, decide_true, decide_false, Bool.true_eq_false, Bool.false_eq_true, Bool.not_true, Bool.not_false, if_true, if_false, and_true, true_and, memE, celE, w64, Nat.zero_add, Nat.add_zero, Nat.mul_one, putL, and_self, ldn, Bool.and_self, Bool.and_true, Bool.true_and, Bool.and_false, Bool.false_and, Bool.or_false, Bool.false_or, ext_2_0, ext_2_1, ext_3_0, ext_3_1, ext_3_2, bne_self_eq_false, beq_self_eq_true, goG_undef, Bool.not_true, Bool.not_false, stP_aggL, bld_ct3, b3.mk4, b4.mk3, b21.mk4]
        first | refine callH_rc (C1h _ iu) ?_ | refine rcallH_rc (C1h _ iu) ?_
        intro r new hA
        obtain ⟨nr, w9, rfl, hw⟩ := hA
        obtain ⟨-, dP, fP, rfl, -, -, own9⟩ := hw.now
        have iu := iu.ext new
        have b3 := b3.ext new
        have b4 := b4.ext new
        have iv := iv.ext new
        have b21 := b21.ext new
        have P := (own9 : OwnB (N15 ++ new) dP 28 (ctsC L))
        obtain ⟨N16, hN⟩ : ∃ N, N = N15 ++ new := ⟨_, rfl⟩
        rw [← hN] at iu b3 b4 iv b21 P ⊢
        clear hN
        clear nr hw own9
        try simp (config := {implicitDefEqProofs := false, maxDischargeDepth := 20}) (disch := first | omega | (simp only [lenE]; done) | (simp only [lenE]; omega) | rfl | (simp only [lenE, markR_len]; done) | (simp only [lenE, markR_len]; omega)) only [runE, mapE, listE, initT_5, initT_6, initT_7, initT_8, resV, oneV, binA, unA, reduceCtorEq, Nat.reduceEqDiff, Nat.reduceAdd, Nat.reduceLT, Nat.reduceLeDiff, Nat.reduceMul, Nat.reduceSub, ↓reduceIte, decide_true, decide_false, Bool.true_eq_false, Bool.false_eq_true, Bool.not_true, Bool.not_false, if_true, if_false, and_true, true_and, memE, celE, w64, Nat.zero_add, Nat.add_zero, Nat.mul_one, putL, and_self, ldn, Bool.and_self, Bool.and_true, Bool.true_and, Bool.and_false, Bool.false_and, Bool.or_false, Bool.false_or, ext_2_0, ext_2_1, ext_3_0, ext_3_1, ext_3_2, bne_self_eq_false, beq_self_eq_true, goG_undef, Bool.not_true, Bool.not_false, stP_aggL, bld_ct3, b3.mk4, b4.mk3, b21.mk4]
        first | refine callH_rc (C2h _ iu) ?_ | refine rcallH_rc (C2h _ iu) ?_
        intro r new hA
        obtain ⟨nr, w9, rfl, hw⟩ := hA
        obtain ⟨-, dQ, fQ, rfl, -, -, own9⟩ := hw.now
        have iu := iu.ext new
        have b3 := b3.ext new
        have b4 := b4.ext new
        have iv := iv.ext new
        have b21 := b21.ext new
        have P := P.ext new
        have Q := (own9 : OwnB (N16 ++ new) dQ 28 (ctsC L))
        obtain ⟨N17, hN⟩ : ∃ N, N = N16 ++ new := ⟨_, rfl⟩
        rw [← hN] at iu b3 b4 iv b21 P Q ⊢
        clear hN
        clear nr hw own9
        try simp (config := {implicitDefEqProofs := false, maxDischargeDepth := 20}) (disch := first | omega | (simp only [lenE]; done) | (simp only [lenE]; omega) | rfl | (simp only [lenE, markR_len]; done) | (simp only [lenE, markR_len]; omega)) only [runE, mapE, listE, initT_5, initT_6, initT_7, initT_8, resV, oneV, binA, unA, reduceCtorEq, Nat.reduceEqDiff, Nat.reduceAdd, Nat.reduceLT, Nat.reduceLeDiff, Nat.reduceMul, Nat.reduceSub, ↓reduceIte, decide_true, decide_false, Bool.true_eq_false, Bool.false_eq_true, Bool.not_true, Bool.not_false, if_true, if_false, and_true, true_and, memE, celE, w64, Nat.zero_add, Nat.add_zero, Nat.mul_one, putL, and_self, ldn, Bool.and_self, Bool.and_true, Bool.true_and, Bool.and_false, Bool.false_and, Bool.or_false, Bool.false_or, ext_2_0, ext_2_1, ext_3_0, ext_3_1, ext_3_2, bne_self_eq_false, beq_self_eq_true, goG_undef, Bool.not_true, Bool.not_false, stP_aggL, bld_ct3, b3.mk4, b4.mk3, b21.mk4]
        first | refine callH_rc (C1m _ iu) ?_ | refine rcallH_rc (C1m _ iu) ?_
        rintro r new ⟨rfl, nr⟩
        have iu := iu.ext new
        have b3 := b3.ext new
        have b4 := b4.ext new
        have iv := iv.ext new
        have b21 := b21.ext new
        have P := P.ext new
        have Q := Q.ext new
        obtain ⟨N18, hN⟩ : ∃ N, N = N17 ++ new := ⟨_, rfl⟩
        rw [← hN] at iu b3 b4 iv b21 P Q ⊢
        clear hN
        clear nr
        try simp (config := {implicitDefEqProofs := false, maxDischargeDepth := 20}) (disch := first | omega | (simp only [lenE]; done) | (simp only [lenE]; omega) | rfl | (simp only [lenE, markR_len]; done) | (simp only [lenE, markR_len]; omega)) only [runE, mapE, listE, initT_5, initT_6, initT_7, initT_8, resV, oneV, binA, unA, reduceCtorEq, Nat.reduceEqDiff, Nat.reduceAdd, Nat.reduceLT, Nat.reduceLeDiff, Nat.reduceMul, Nat.reduceSub, ↓reduceIte, decide_true, decide_false, Bool.true_eq_false, Bool.false_eq_true, Bool.not_true, Bool.not_false, if_true, if_false, and_true, true_and, memE, celE, w64, Nat.zero_add, Nat.add_zero, Nat.mul_one, putL, and_self, ldn, Bool.and_self, Bool.and_true, Bool.true_and, Bool.and_false, Bool.false_and, Bool.or_false, Bool.false_or, ext_2_0, ext_2_1, ext_3_0, ext_3_1, ext_3_2, bne_self_eq_false, beq_self_eq_true, goG_undef, Bool.not_true, Bool.not_false, stP_aggL, bld_ct3, b3.mk4, b4.mk3, b21.mk4]
        have pA : CtsA N18 (.slice (some ⟨dP, 0, none⟩) L.length fP) L := CtsO.in (e := 28) (lo := 0) (hi := dP + 1) ⟨by omega, dP, fP, rfl, by omega, by omega, P⟩
        have qA : CtsA N18 (.slice (some ⟨dQ, 0, none⟩) L.length fQ) L := CtsO.in (e := 28) (lo := 0) (hi := dQ + 1) ⟨by omega, dQ, fQ, rfl, by omega, by omega, Q⟩
        clear P Q
        refine loop_inv mixed (fun s => ∃ (i : Nat) (M : Mem), i ≤ L.length ∧ s.m = M ∧ IntsA M u p.w ∧ OwnB M bm 26 (mkC p u) ∧ OwnB M (bm + 1) 28 (ctL c) ∧ CtsA M (.slice (some ⟨dP, 0, none⟩) L.length fP) L ∧ CtsA M (.slice (some ⟨dQ, 0, none⟩) L.length fQ) L ∧ s.t 3 = .pointer (some ⟨bm, 0, none⟩) ∧ s.t 4 = .pointer (some ⟨bm + 1, 0, none⟩) ∧ s.t 5 = .bool false ∧ s.t 9 = .int .i64 so ∧ s.t 13 = .int .i64 ls ∧ s.t 30 = .slice (some ⟨dP, 0, none⟩) L.length fP ∧ s.t 32 = .slice (some ⟨dQ, 0, none⟩) L.length fQ ∧ s.t 34 = .int .i64 (i : Int)) (fun s => 105 - (intOf (s.t 34)).toNat)
          ⟨0, N18, by omega, rfl, iu, b3, b4, pA, qA, rfl, rfl, rfl, rfl, rfl, rfl, rfl, rfl⟩ ?_
        clear pA qA iu b3 b4
        rintro s ⟨i, M, hi, tm, iu, b3, b4, pA, qA, t3, t4, t5, t9, t13, t30, t32, t34⟩
        by_cases hlt : i < L.length
        · have hlt' : (i : Int) < L.length := by omega
          have a1 := pA.at_ hlt
          have a2 := pA.ld hlt
          have a3 := qA.at_ hlt
          have a4 := qA.ld hlt
          try simp (config := {implicitDefEqProofs := false, maxDischargeDepth := 20}) (disch := first | omega | (simp only [lenE]; done) | (simp only [lenE]; omega) | rfl | (simp only [lenE, markR_len]; done) | (simp only [lenE, markR_len]; omega)) only [runE, mapE, listE, initT_5, initT_6, initT_7, initT_8, resV, oneV, binA, unA, reduceCtorEq, Nat.reduceEqDiff, Nat.reduceAdd, Nat.reduceLT, Nat.reduceLeDiff, Nat.reduceMul, Nat.reduceSub, ↓reduceIte, decide_true, decide_false, Bool.true_eq_false, Bool.false_eq_true, Bool.not_true, Bool.not_false, if_true, if_false, and_true, true_and, memE, celE, w64, Nat.zero_add, Nat.add_zero, Nat.mul_one, putL, and_self, ldn, Bool.and_self, Bool.and_true, Bool.true_and, Bool.and_false, Bool.false_and, Bool.or_false, Bool.false_or, ext_2_0, ext_2_1, ext_3_0, ext_3_1, ext_3_2, bne_self_eq_false, beq_self_eq_true, goG_undef, Bool.not_true, Bool.not_false, stP_aggL, bld_ct3, b3.mk4, b4.mk3, tm, t3, t4, t5, t9, t13, t30, t32, t34, hlt', a1, a2, a3, a4, ae3M]
          first | refine callH_rc (HL i hlt M iu) ?_ | refine rcallH_rc (HL i hlt M iu) ?_
          rintro r new ⟨rfl, nr⟩
          have b3 := b3.ext new
          have b4 := b4.ext new
          have iu := iu.ext new
          have pA := pA.ext new
          have qA := qA.ext new
          by_cases hpl : p.left < p.price
          · simp (config := {implicitDefEqProofs := false, maxDischargeDepth := 20}) (disch := first | omega | (simp only [lenE]; done) | (simp only [lenE]; omega) | rfl | (simp only [lenE, markR_len]; done) | (simp only [lenE, markR_len]; omega)) only [runE, mapE, listE, initT_5, initT_6, initT_7, initT_8, resV, oneV, binA, unA, reduceCtorEq, Nat.reduceEqDiff, Nat.reduceAdd, Nat.reduceLT, Nat.reduceLeDiff, Nat.reduceMul, Nat.reduceSub, ↓reduceIte, decide_true, decide_false, Bool.true_eq_false, Bool.false_eq_true, Bool.not_true, Bool.not_false, if_true, if_false, and_true, true_and, memE, celE, w64, Nat.zero_add, Nat.add_zero, Nat.mul_one, putL, and_self, ldn, Bool.and_self, Bool.and_true, Bool.true_and, Bool.and_false, Bool.false_and, Bool.or_false, Bool.false_or, ext_2_0, ext_2_1, ext_3_0, ext_3_1, ext_3_2, bne_self_eq_false, beq_self_eq_true, goG_undef, Bool.not_true, Bool.not_false, stP_aggL, bld_ct3, b3.mk4, b4.mk3, tm, t3, t4, t5, t9, t13, t30, t32, t34, gt_iff_lt, hpl]
            exact ⟨⟨i + 1, _, by omega, rfl, iu, b3, b4, pA, qA, by simp⟩, by simp [intOf]; omega⟩
          · simp (config := {implicitDefEqProofs := false, maxDischargeDepth := 20}) (disch := first | omega | (simp only [lenE]; done) | (simp only [lenE]; omega) | rfl | (simp only [lenE, markR_len]; done) | (simp only [lenE, markR_len]; omega)) only [runE, mapE, listE, initT_5, initT_6, initT_7, initT_8, resV, oneV, binA, unA, reduceCtorEq, Nat.reduceEqDiff, Nat.reduceAdd, Nat.reduceLT, Nat.reduceLeDiff, Nat.reduceMul, Nat.reduceSub, ↓reduceIte, decide_true, decide_false, Bool.true_eq_false, Bool.false_eq_true, Bool.not_true, Bool.not_false, if_true, if_false, and_true, true_and, memE, celE, w64, Nat.zero_add, Nat.add_zero, Nat.mul_one, putL, and_self, ldn, Bool.and_self, Bool.and_true, Bool.true_and, Bool.and_false, Bool.false_and, Bool.or_false, Bool.false_or, ext_2_0, ext_2_1, ext_3_0, ext_3_1, ext_3_2, bne_self_eq_false, beq_self_eq_true, goG_undef, Bool.not_true, Bool.not_false, stP_aggL, bld_ct3, b3.mk4, b4.mk3, tm, t3, t4, t5, t9, t13, t30, t32, t34, gt_iff_lt, hpl]
            exact ⟨⟨i + 1, _, by omega, rfl, iu, b3, b4, pA, qA, by simp⟩, by simp [intOf]; omega⟩
        · have hlt' : ¬ ((i : Int) < L.length) := by omega
          clear pA qA
          simp (config := {implicitDefEqProofs := false, maxDischargeDepth := 20}) (disch := first | omega | (simp only [lenE]; done) | (simp only [lenE]; omega) | rfl | (simp only [lenE, markR_len]; done) | (simp only [lenE, markR_len]; omega)) only [runE, mapE, listE, initT_5, initT_6, initT_7, initT_8, resV, oneV, binA, unA, reduceCtorEq, Nat.reduceEqDiff, Nat.reduceAdd, Nat.reduceLT, Nat.reduceLeDiff, Nat.reduceMul, Nat.reduceSub, ↓reduceIte, decide_true, decide_false, Bool.true_eq_false, Bool.false_eq_true, Bool.not_true, Bool.not_false, if_true, if_false, and_true, true_and, memE, celE, w64, Nat.zero_add, Nat.add_zero, Nat.mul_one, putL, and_self, ldn, Bool.and_self, Bool.and_true, Bool.true_and, Bool.and_false, Bool.false_and, Bool.or_false, Bool.false_or, ext_2_0, ext_2_1, ext_3_0, ext_3_1, ext_3_2, bne_self_eq_false, beq_self_eq_true, goG_undef, Bool.not_true, Bool.not_false, stP_aggL, bld_ct3, tm, t3, t4, t5, t9, t13, t30, t32, t34, hlt']
    | false =>
      as_aux_lemma =>
      try simp (config := {implicitDefEqProofs := false, maxDischargeDepth := 20}) (disch := first | omega | (simp only [lenE]; done) | (simp only [lenE]; omega) | rfl | (simp only [lenE, markR_len]; done) | (simp only [lenE, markR_len]; omega)) only [runE, mapE, listE, initT_5, initT_6, initT_7, initT_8, resV, oneV, binA, unA, reduceCtorEq, Nat.reduceEqDiff, Nat.reduceAdd, Nat.reduceLT, Nat.reduceLeDiff, Nat.reduceMul, Nat.reduceSub, ↓reduceIte, decide_true, decide_false, Bool.true_eq_false, Bool.false_eq_true, Bool.not_true, Bool.not_false, if_true, if_false, and_true, true_and, memE, celE, w64, Nat.zero_add, Nat.add_zero, Nat.mul_one, putL, and_self, ldn, Bool.and_self, Bool.and_true, Bool.true_and, Bool.and_false, Bool.false_and, Bool.or_false, Bool.false_or, ext_2_0, ext_2_1, ext_3_0, ext_3_1, ext_3_2, bne_self_eq_false, beq_self_eq_true, goG_undef, Bool.not_true, Bool.not_false, stP_aggL, bld_ct3, b3.mk4, b4.mk3, q1]
      first | refine callH_rc (C1e _ iu) ?_ | refine rcallH_rc (C1e _ iu) ?_
      rintro r new ⟨rfl, nr⟩
      have iu := iu.ext new
      have b3 := b3.ext new
      have b4 := b4.ext new
      have B := B.ext new
      obtain ⟨N10, hN⟩ : ∃ N, N = N9 ++ new := ⟨_, rfl⟩
      rw [← hN] at iu b3 b4 B ⊢
      clear hN
      clear nr
      try simp (config := {implicitDefEqProofs := false, maxDischargeDepth := 20}) (disch := first | omega | (simp only [lenE]; done) | (simp only [lenE]; omega) | rfl | (simp only [lenE, markR_len]; done) | (simp only [lenE, markR_len]; omega)) only [runE, mapE, listE, initT_5, initT_6, initT_7, initT_8, resV, oneV, binA, unA, reduceCtorEq, Nat.reduceEqDiff, Nat.reduceAdd, Nat.reduceLT, Nat.reduceLeDiff, Nat.reduceMul, Nat.reduceSub, ↓reduceIte, decide_true, decide_false, Bool.true_eq_false, Bool.false_eq_true, Bool.not_true, Bool.not_false, if_true, if_false, and_true, true_and, memE, celE, w64, Nat.zero_add, Nat.add_zero, Nat.mul_one, putL, and_self, ldn, Bool.and_self, Bool.and_true, Bool.true_and, Bool.and_false, Bool.false_and, Bool.or_false, Bool.false_or, ext_2_0, ext_2_1, ext_3_0, ext_3_1, ext_3_2, bne_self_eq_false, beq_self_eq_true, goG_undef, Bool.not_true, Bool.not_false, stP_aggL, bld_ct3, b3.mk4, b4.mk3]
      first | refine callH_rc (C2e _ iu) ?_ | refine rcallH_rc (C2e _ iu) ?_
      rintro r new ⟨rfl, nr⟩
      have iu := iu.ext new
      have b3 := b3.ext new
      have b4 := b4.ext new
      have B := B.ext new
      obtain ⟨N11, hN⟩ : ∃ N, N = N10 ++ new := ⟨_, rfl⟩
      rw [← hN] at iu b3 b4 B ⊢
      clear hN
      clear nr
      try simp (config := {implicitDefEqProofs := false, maxDischargeDepth := 20}) (disch := first | omega | (simp only [lenE]; done) | (simp only [lenE]; omega) | rfl | (simp only [lenE, markR_len]; done) | (simp only [lenE, markR_len]; omega)) only [runE, mapE, listE, initT_5, initT_6, initT_7, initT_8, resV, oneV, binA, unA, reduceCtorEq, Nat.reduceEqDiff, Nat.reduceAdd, Nat.reduceLT, Nat.reduceLeDiff, Nat.reduceMul, Nat.reduceSub, ↓reduceIte, decide_true, decide_false, Bool.true_eq_false, Bool.false_eq_true, Bool.not_true, Bool.not_false, if_true, if_false, and_true, true_and, memE, celE, w64, Nat.zero_add, Nat.add_zero, Nat.mul_one, putL, and_self, ldn, Bool.and_self, Bool.and_true, Bool.true_and, Bool.and_false, Bool.false_and, Bool.or_false, Bool.false_or, ext_2_0, ext_2_1, ext_3_0, ext_3_1, ext_3_2, bne_self_eq_false, beq_self_eq_true, goG_undef, Bool.not_true, Bool.not_false, stP_aggL, bld_ct3, b3.mk4, b4.mk3]
      first | refine callH_rc (DrawPayFor_rc _ 0 0 l B) ?_ | refine rcallH_rc (DrawPayFor_rc _ 0 0 l B) ?_
      rintro r new ⟨nr, p2, u2, ⟨xb, xs, rfl⟩, hm⟩
      clear B
      have iv : IntsA (N11 ++ new) u2 p2.w := by
        obtain ⟨u3, e2, h2⟩ := hm.here
        have : u2 = u3 := by simpa [mkV] using e2
        rw [this]; exact h2
      have iu := iu.ext new
      have b3 := b3.ext new
      have b4 := b4.ext new
      obtain ⟨N12, hN⟩ : ∃ N, N = N11 ++ new := ⟨_, rfl⟩
      rw [← hN] at iu b3 b4 iv ⊢
      clear hN hm nr
      have oc := ones_mk (p := p2) (u := u2) iv
      have s3 : stA (N12 ++ [⟨.own, 26, [.slice none 0 0, .int .i64 0, .int .i64 0, .int .i64 0]⟩]) N12.length 0 [u2, .int .i64 p2.price, .int .i64 p2.make, .int .i64 p2.left] = some (N12 ++ [⟨.own, 26, mkC p2 u2⟩]) := by
        rw [(OwnB.here rfl).st (by simp) oc]
        simp [putL]
      have b21 : OwnB (N12 ++ [⟨.own, 26, mkC p2 u2⟩]) N12.length 26 (mkC p2 u2) := OwnB.here rfl
      obtain ⟨yp, hyp⟩ : ∃ t, t = payV (payO p2 xb xs) := ⟨_, rfl⟩
      obtain ⟨yo, hyo⟩ : ∃ t, t = (payO p2 xb xs).isSome := ⟨_, rfl⟩
      have D1 : ∀ M, IntsA M u2 p2.w → RC Try.prog 40 [mkV p2 u2, .int .i64 xb, .int .i64 xs] M (AnsV (.tuple #[.int .i64 yp, .bool yo])) := fun M h => by rw [hyp, hyo]; exact implPayFor_rc _ _ p2 xb xs (MkA.mk h)
      have D2 : ∀ M, IntsA M u2 p2.w → RC Try.prog 41 [mkV p2 u2, .int .i64 xb, .int .i64 xs] M (AnsV (.tuple #[.int .i64 yp, .bool yo])) := fun M h => by rw [hyp, hyo]; exact specPayFor_rc _ _ p2 xb xs (MkA.mk h)
      have D3 : yo = true → ∀ M, IntsA M u2 p2.w → RC Try.prog 29 [mkV p2 u2, ctV ⟨yp, xb, xs⟩] M (AnsV (.tuple #[.bool true, .bool true])) := fun ho M h => by
        have := implInProportion_rc M _ p2 ⟨yp, xb, xs⟩ (MkA.mk h)
        obtain ⟨n, hn⟩ : ∃ n, payO p2 xb xs = some n := by
          rw [hyo] at ho
          exact Option.isSome_iff_exists.1 ho
        have hv : yp = (n : Int) := by rw [hyp, hn]; rfl
        unfold payO at hn
        have hk : payOk p2 xb xs = true := by
          cases hkk : payOk p2 xb xs with
          | true => rfl
          | false => rw [hkk] at hn; cases hn
        rw [if_pos hk] at hn
        have hs := payN_some hn
        simp only [payOk, Bool.and_eq_true, goodM_iff, inM_iff] at hk
        have hb2 : bothM p2 ⟨yp, xb, xs⟩ = true := bothM_iff.2 ⟨hk.1, ⟨by simp only; omega, hk.2.1, hk.2.2⟩⟩
        have hp2 : propB p2 ⟨yp, xb, xs⟩ = true := by rw [hv]; exact hs.2
        rw [hb2, hp2] at this
        exact this
      clear hyp hyo
      try simp (config := {implicitDefEqProofs := false, maxDischargeDepth := 20}) (disch := first | omega | (simp only [lenE]; done) | (simp only [lenE]; omega) | rfl | (simp only [lenE, markR_len]; done) | (simp only [lenE, markR_len]; omega)) only [runE, mapE, listE, initT_5, initT_6, initT_7, initT_8, resV, oneV, binA, unA, reduceCtorEq, Nat.reduceEqDiff, Nat.reduceAdd, Nat.reduceLT, Nat.reduceLeDiff, Nat.reduceMul, Nat.reduceSub, ↓reduceIte, decide_true, decide_false, Bool.true_eq_false, Bool.false_eq_true, Bool.not_true, Bool.not_false, if_true, if_false, and_true, true_and, memE, celE, w64, Nat.zero_add, Nat.add_zero, Nat.mul_one, putL, and_self, ldn, Bool.and_self, Bool.and_true, Bool.true_and, Bool.and_false, Bool.false_and, Bool.or_false, Bool.false_or, ext_2_0, ext_2_1, ext_3_0, ext_3_1, ext_3_2, bne_self_eq_false, beq_self_eq_true, goG_undef, Bool.not_true, Bool.not_false, stP_aggL, bld_ct3, b3.mk4, b4.mk3, s3]
      clear s3 oc
      have iu := iu.ext [⟨.own, 26, mkC p2 u2⟩]
      have b3 := b3.ext [⟨.own, 26, mkC p2 u2⟩]
      have b4 := b4.ext [⟨.own, 26, mkC p2 u2⟩]
      have iv := iv.ext [⟨.own, 26, mkC p2 u2⟩]
      obtain ⟨N13, hN⟩ : ∃ N, N = N12 ++ [⟨.own, 26, mkC p2 u2⟩] := ⟨_, rfl⟩
      rw [← hN] at iu b3 b4 iv b21 ⊢
      clear hN
      try simp (config := {implicitDefEqProofs := false, maxDischargeDepth := 20}) (disch := first | omega | (simp only [lenE]; done) | (simp only [lenE]; omega) | rfl | (simp only [lenE, markR_len]; done) | (simp only [lenE, markR_len]; omega)) only [runE, mapE, listE, initT_5, initT_6, initT_7, initT_8, resV, oneV, binA, unA, reduceCtorEq, Nat.reduceEqDiff, Nat.reduceAdd, Nat.reduceLT, Nat.reduceLeDiff, Nat.reduceMul, Nat.reduceSub, ↓reduceIte, decide_true, decide_false, Bool.true_eq_false, Bool.false_eq_true, Bool.not_true, Bool.not_false, if_true, if_false, and_true, true_and, memE, celE, w64, Nat.zero_add, Nat.add_zero, Nat.mul_one, putL, and_self, ldn, Bool.and_self, Bool.and_true, Bool.true_and, Bool.and_false, Bool.false_and, Bool.or_false, Bool.false_or, ext_2_0, ext_2_1, ext_3_0, ext_3_1, ext_3_2, bne_self_eq_false, beq_self_eq_true, goG_undef, Bool.not_true, Bool.not_false, stP_aggL, bld_ct3, b3.mk4, b4.mk3, b21.mk4]
      first | refine callH_rc (D1 _ iv) ?_ | refine rcallH_rc (D1 _ iv) ?_
      rintro r new ⟨rfl, nr⟩
      have iu := iu.ext new
      have b3 := b3.ext new
      have b4 := b4.ext new
      have iv := iv.ext new
      have b21 := b21.ext new
      obtain ⟨N14, hN⟩ : ∃ N, N = N13 ++ new := ⟨_, rfl⟩
      rw [← hN] at iu b3 b4 iv b21 ⊢
      clear hN
      clear nr
      try simp (config := {implicitDefEqProofs := false, maxDischargeDepth := 20}) (disch := first | omega | (simp only [lenE]; done) | (simp only [lenE]; omega) | rfl | (simp only [lenE, markR_len]; done) | (simp only [lenE, markR_len]; omega)) only [runE, mapE, listE, initT_5, initT_6, initT_7, initT_8, resV, oneV, binA, unA, reduceCtorEq, Nat.reduceEqDiff, Nat.reduceAdd, Nat.reduceLT, Nat.reduceLeDiff, Nat.reduceMul, Nat.reduceSub, ↓reduceIte, decide_true, decide_false, Bool.true_eq_false, Bool.false_eq_true, Bool.not_true, Bool.not_false, if_true, if_false, and_true, true_and, memE, celE, w64, Nat.zero_add, Nat.add_zero, Nat.mul_one, putL, and_self, ldn, Bool.and_self, Bool.and_true, Bool.true_and, Bool.and_false, Bool.false_and, Bool.or_false, Bool.false_or, ext_2_0, ext_2_1, ext_3_0, ext_3_1, ext_3_2, bne_self_eq_false, beq_self_eq_true, goG_undef, Bool.not_true, Bool.not_false, stP_aggL, bld_ct3, b3.mk4, b4.mk3, b21.mk4]
      first | refine callH_rc (D2 _ iv) ?_ | refine rcallH_rc (D2 _ iv) ?_
      rintro r new ⟨rfl, nr⟩
      have iu := iu.ext new
      have b3 := b3.ext new
      have b4 := b4.ext new
      have iv := iv.ext new
      have b21 := b21.ext new
      obtain ⟨N15, hN⟩ : ∃ N, N = N14 ++ new := ⟨_, rfl⟩
      rw [← hN] at iu b3 b4 iv b21 ⊢
      clear hN
      clear nr
      try simp (config := {implicitDefEqProofs := false, maxDischargeDepth := 20}) (disch := first | omega | (simp only [lenE]; done) | (simp only [lenE]; omega) | rfl | (simp only [lenE, markR_len]; done) | (simp only [lenE, markR_len]; omega)) only [runE, mapE, listE, initT_5, initT_6, initT_7, initT_8, resV, oneV, binA, unA, reduceCtorEq, Nat.reduceEqDiff, Nat.reduceAdd, Nat.reduceLT, Nat.reduceLeDiff, Nat.reduceMul, Nat.reduceSub, ↓reduceIte, decide_true, decide_false, Bool.true_eq_false, Bool.false_eq_true, Bool.not_true, Bool.not_false, if_true, if_false, and_true, true_and, memE, celE, w64, Nat.zero_add, Nat.add_zero, Nat.mul_one, putL, and_self, ldn, Bool.and_self, Bool.and_true, Bool.true_and, Bool.and_false, Bool.false_and, Bool.or_false, Bool.false_or, ext_2_0, ext_2_1, ext_3_0, ext_3_1, ext_3_2, bne_self_eq_false, beq_self_eq_true, goG_undef, Bool.not_true, Bool.not_false, stP_aggL, bld_ct3, b3.mk4, b4.mk3, b21.mk4]
      cases yo with
      | true =>
        as_aux_lemma =>
        try simp (config := {implicitDefEqProofs := false, maxDischargeDepth := 20}) (disch := first | omega | (simp only [lenE]; done) | (simp only [lenE]; omega) | rfl | (simp only [lenE, markR_len]; done) | (simp only [lenE, markR_len]; omega)) only [runE, mapE, listE, initT_5, initT_6, initT_7, initT_8, resV, oneV, binA, unA, reduceCtorEq, Nat.reduceEqDiff, Nat.reduceAdd, Nat.reduceLT, Nat.reduceLeDiff, Nat.reduceMul, Nat.reduceSub, ↓reduceIte, decide_true, decide_false, Bool.true_eq_false, Bool.false_eq_true, Bool.not_true, Bool.not_false, if_true, if_false, and_true, true_and, memE, celE, w64, Nat.zero_add, Nat.add_zero, Nat.mul_one, putL, and_self, ldn, Bool.and_self, Bool.and_true, Bool.true_and, Bool.and_false, Bool.false_and, Bool.or_false, Bool.false_or, ext_2_0, ext_2_1, ext_3_0, ext_3_1, ext_3_2, bne_self_eq_false, beq_self_eq_true, goG_undef, Bool.not_true, Bool.not_false, stP_aggL, bld_ct3, b3.mk4, b4.mk3, b21.mk4]
        first | refine callH_rc (D3 rfl _ iv) ?_ | refine rcallH_rc (D3 rfl _ iv) ?_
        rintro r new ⟨rfl, nr⟩
        have iu := iu.ext new
        have b3 := b3.ext new
        have b4 := b4.ext new
        have iv := iv.ext new
        have b21 := b21.ext new
        obtain ⟨N16, hN⟩ : ∃ N, N = N15 ++ new := ⟨_, rfl⟩
        rw [← hN] at iu b3 b4 iv b21 ⊢
        clear hN
        clear nr
        try simp (config := {implicitDefEqProofs := false, maxDischargeDepth := 20}) (disch := first | omega | (simp only [lenE]; done) | (simp only [lenE]; omega) | rfl | (simp only [lenE, markR_len]; done) | (simp only [lenE, markR_len]; omega)) only [runE, mapE, listE, initT_5, initT_6, initT_7, initT_8, resV, oneV, binA, unA, reduceCtorEq, Nat.reduceEqDiff, Nat.reduceAdd, Nat.reduceLT, Nat.reduceLeDiff, Nat.reduceMul, Nat.reduceSub, ↓reduceIte, decide_true, decide_false, Bool.true_eq_false, Bool.false_eq_true, Bool.not_true, Bool.not_false, if_true, if_false, and_true, true_and, memE, celE, w64, Nat.zero_add, Nat.add_zero, Nat.mul_one, putL, and_self, ldn, Bool.and_self, Bool.and_true, Bool.true_and, Bool.and_false, Bool.false_and, Bool.or_false, Bool.false_or, ext_2_0, ext_2_1, ext_3_0, ext_3_1, ext_3_2, bne_self_eq_false, beq_self_eq_true, goG_undef, Bool.not_true, Bool.not_false, stP_aggL, bld_ct3, b3.mk4, b4.mk3, b21.mk4]
        first | refine callH_rc (C1h _ iu) ?_ | refine rcallH_rc (C1h _ iu) ?_
        intro r new hA
        obtain ⟨nr, w9, rfl, hw⟩ := hA
        obtain ⟨-, dP, fP, rfl, -, -, own9⟩ := hw.now
        have iu := iu.ext new
        have b3 := b3.ext new
        have b4 := b4.ext new
        have iv := iv.ext new
        have b21 := b21.ext new
        have P := (own9 : OwnB (N16 ++ new) dP 28 (ctsC L))
        obtain ⟨N17, hN⟩ : ∃ N, N = N16 ++ new := ⟨_, rfl⟩
        rw [← hN] at iu b3 b4 iv b21 P ⊢
        clear hN
        clear nr hw own9
        try simp (config := {implicitDefEqProofs := false, maxDischargeDepth := 20}) (disch := first | omega | (simp only [lenE]; done) | (simp only [lenE]; omega) | rfl | (simp only [lenE, markR_len]; done) | (simp only [lenE, markR_len]; omega)) only [runE, mapE, listE, initT_5, initT_6, initT_7, initT_8, resV, oneV, binA, unA, reduceCtorEq, Nat.reduceEqDiff, Nat.reduceAdd, Nat.reduceLT, Nat.reduceLeDiff, Nat.reduceMul, Nat.reduceSub, ↓reduceIte, decide_true, decide_false, Bool.true_eq_false, Bool.false_eq_true, Bool.not_true, Bool.not_false, if_true, if_false, and_true, true_and, memE, celE, w64, Nat.zero_add, Nat.add_zero, Nat.mul_one, putL, and_self, ldn, Bool.and_self, Bool.and_true, Bool.true_and, Bool.and_false, Bool.false_and, Bool.or_false, Bool.false_or, ext_2_0, ext_2_1, ext_3_0, ext_3_1, ext_3_2, bne_self_eq_false, beq_self_eq_true, goG_undef, Bool.not_true, Bool.not_false, stP_aggL, bld_ct3, b3.mk4, b4.mk3, b21.mk4]
        first | refine callH_rc (C2h _ iu) ?_ | refine rcallH_rc (C2h _ iu) ?_
        intro r new hA
        obtain ⟨nr, w9, rfl, hw⟩ := hA
        obtain ⟨-, dQ, fQ, rfl, -, -, own9⟩ := hw.now
        have iu := iu.ext new
        have b3 := b3.ext new
        have b4 := b4.ext new
        have iv := iv.ext new
        have b21 := b21.ext new
        have P := P.ext new
        have Q := (own9 : OwnB (N17 ++ new) dQ 28 (ctsC L))
        obtain ⟨N18, hN⟩ : ∃ N, N = N17 ++ new := ⟨_, rfl⟩
        rw [← hN] at iu b3 b4 iv b21 P Q ⊢
        clear hN
        clear nr hw own9
        try simp (config := {implicitDefEqProofs := false, maxDischargeDepth := 20}) (disch := first | omega | (simp only [lenE]; done) | (simp only [lenE]; omega) | rfl | (simp only [lenE, markR_len]; done) | (simp only [lenE, markR_len]; omega)) only [runE, mapE, listE, initT_5, initT_6, initT_7, initT_8, resV, oneV, binA, unA, reduceCtorEq, Nat.reduceEqDiff, Nat.reduceAdd, Nat.reduceLT, Nat.reduceLeDiff, Nat.reduceMul, Nat.reduceSub, ↓reduceIte, decide_true, decide_false, Bool.true_eq_false, Bool.false_eq_true, Bool.not_true, Bool.not_false, if_true, if_false, and_true, true_and, memE, celE, w64, Nat.zero_add, Nat.add_zero, Nat.mul_one, putL, and_self, ldn, Bool.and_self, Bool.and_true, Bool.true_and, Bool.and_false, Bool.false_and, Bool.or_false, Bool.false_or, ext_2_0, ext_2_1, ext_3_0, ext_3_1, ext_3_2, bne_self_eq_false, beq_self_eq_true, goG_undef, Bool.not_true, Bool.not_false, stP_aggL, bld_ct3, b3.mk4, b4.mk3, b21.mk4]
        first | refine callH_rc (C1m _ iu) ?_ | refine rcallH_rc (C1m _ iu) ?_
        rintro r new ⟨rfl, nr⟩
        have iu := iu.ext new
        have b3 := b3.ext new
        have b4 := b4.ext new
        have iv := iv.ext new
        have b21 := b21.ext new
        have P := P.ext new
        have Q := Q.ext new
        obtain ⟨N19, hN⟩ : ∃ N, N = N18 ++ new := ⟨_, rfl⟩
        rw [← hN] at iu b3 b4 iv b21 P Q ⊢
        clear hN
        clear nr
        try simp (config := {implicitDefEqProofs := false, maxDischargeDepth := 20}) (disch := first | omega | (simp only [lenE]; done) | (simp only [lenE]; omega) | rfl | (simp only [lenE, markR_len]; done) | (simp only [lenE, markR_len]; omega)) only [runE, mapE, listE, initT_5, initT_6, initT_7, initT_8, resV, oneV, binA, unA, reduceCtorEq, Nat.reduceEqDiff, Nat.reduceAdd, Nat.reduceLT, Nat.reduceLeDiff, Nat.reduceMul, Nat.reduceSub, ↓reduceIte, decide_true, decide_false, Bool.true_eq_false, Bool.false_eq_true, Bool.not_true, Bool.not_false, if_true, if_false, and_true, true_and, memE, celE, w64, Nat.zero_add, Nat.add_zero, Nat.mul_one, putL, and_self, ldn, Bool.and_self, Bool.and_true, Bool.true_and, Bool.and_false, Bool.false_and, Bool.or_false, Bool.false_or, ext_2_0, ext_2_1, ext_3_0, ext_3_1, ext_3_2, bne_self_eq_false, beq_self_eq_true, goG_undef, Bool.not_true, Bool.not_false, stP_aggL, bld_ct3, b3.mk4, b4.mk3, b21.mk4]
        have pA : CtsA N19 (.slice (some ⟨dP, 0, none⟩) L.length fP) L := CtsO.in (e := 28) (lo := 0) (hi := dP + 1) ⟨by omega, dP, fP, rfl, by omega, by omega, P⟩
        have qA : CtsA N19 (.slice (some ⟨dQ, 0, none⟩) L.length fQ) L := CtsO.in (e := 28) (lo := 0) (hi := dQ + 1) ⟨by omega, dQ, fQ, rfl, by omega, by omega, Q⟩
        clear P Q
        refine loop_inv mixed (fun s => ∃ (i : Nat) (M : Mem), i ≤ L.length ∧ s.m = M ∧ IntsA M u p.w ∧ OwnB M bm 26 (mkC p u) ∧ OwnB M (bm + 1) 28 (ctL c) ∧ CtsA M (.slice (some ⟨dP, 0, none⟩) L.length fP) L ∧ CtsA M (.slice (some ⟨dQ, 0, none⟩) L.length fQ) L ∧ s.t 3 = .pointer (some ⟨bm, 0, none⟩) ∧ s.t 4 = .pointer (some ⟨bm + 1, 0, none⟩) ∧ s.t 5 = .bool false ∧ s.t 9 = .int .i64 so ∧ s.t 13 = .int .i64 ls ∧ s.t 30 = .slice (some ⟨dP, 0, none⟩) L.length fP ∧ s.t 32 = .slice (some ⟨dQ, 0, none⟩) L.length fQ ∧ s.t 34 = .int .i64 (i : Int)) (fun s => 105 - (intOf (s.t 34)).toNat)
          ⟨0, N19, by omega, rfl, iu, b3, b4, pA, qA, rfl, rfl, rfl, rfl, rfl, rfl, rfl, rfl⟩ ?_
        clear pA qA iu b3 b4
        rintro s ⟨i, M, hi, tm, iu, b3, b4, pA, qA, t3, t4, t5, t9, t13, t30, t32, t34⟩
        by_cases hlt : i < L.length
        · have hlt' : (i : Int) < L.length := by omega
          have a1 := pA.at_ hlt
          have a2 := pA.ld hlt
          have a3 := qA.at_ hlt
          have a4 := qA.ld hlt
          try simp (config := {implicitDefEqProofs := false, maxDischargeDepth := 20}) (disch := first | omega | (simp only [lenE]; done) | (simp only [lenE]; omega) | rfl | (simp only [lenE, markR_len]; done) | (simp only [lenE, markR_len]; omega)) only [runE, mapE, listE, initT_5, initT_6, initT_7, initT_8, resV, oneV, binA, unA, reduceCtorEq, Nat.reduceEqDiff, Nat.reduceAdd, Nat.reduceLT, Nat.reduceLeDiff, Nat.reduceMul, Nat.reduceSub, ↓reduceIte, decide_true, decide_false, Bool.true_eq_false, Bool.false_eq_true, Bool.not_true, Bool.not_false, if_true, if_false, and_true, true_and, memE, celE, w64, Nat.zero_add, Nat.add_zero, Nat.mul_one, putL, and_self, ldn, Bool.and_self, Bool.and_true, Bool.true_and, Bool.and_false, Bool.false_and, Bool.or_false, Bool.false_or, ext_2_0, ext_2_1, ext_3_0, ext_3_1, ext_3_2, bne_self_eq_false, beq_self_eq_true, goG_undef, Bool.not_true, Bool.not_false, stP_aggL, bld_ct3, b3.mk4, b4.mk3, tm, t3, t4, t5, t9, t13, t30, t32, t34, hlt', a1, a2, a3, a4, ae3M]
          first | refine callH_rc (HL i hlt M iu) ?_ | refine rcallH_rc (HL i hlt M iu) ?_
          rintro r new ⟨rfl, nr⟩
          have b3 := b3.ext new
          have b4 := b4.ext new
          have iu := iu.ext new
          have pA := pA.ext new
          have qA := qA.ext new
          by_cases hpl : p.left < p.price
          · simp (config := {implicitDefEqProofs := false, maxDischargeDepth := 20}) (disch := first | omega | (simp only [lenE]; done) | (simp only [lenE]; omega) | rfl | (simp only [lenE, markR_len]; done) | (simp only [lenE, markR_len]; omega)) only [runE, mapE, listE, initT_5, initT_6, initT_7, initT_8, resV, oneV, binA, unA, reduceCtorEq, Nat.reduceEqDiff, Nat.reduceAdd, Nat.reduceLT, Nat.reduceLeDiff, Nat.reduceMul, Nat.reduceSub, ↓reduceIte, decide_true, decide_false, Bool.true_eq_false, Bool.false_eq_true, Bool.not_true, Bool.not_false, if_true, if_false, and_true, true_and, memE, celE, w64, Nat.zero_add, Nat.add_zero, Nat.mul_one, putL, and_self, ldn, Bool.and_self, Bool.and_true, Bool.true_and, Bool.and_false, Bool.false_and, Bool.or_false, Bool.false_or, ext_2_0, ext_2_1, ext_3_0, ext_3_1, ext_3_2, bne_self_eq_false, beq_self_eq_true, goG_undef, Bool.not_true, Bool.not_false, stP_aggL, bld_ct3, b3.mk4, b4.mk3, tm, t3, t4, t5, t9, t13, t30, t32, t34, gt_iff_lt, hpl]
            exact ⟨⟨i + 1, _, by omega, rfl, iu, b3, b4, pA, qA, by simp⟩, by simp [intOf]; omega⟩
          · simp (config := {implicitDefEqProofs := false, maxDischargeDepth := 20}) (disch := first | omega | (simp only [lenE]; done) | (simp only [lenE]; omega) | rfl | (simp only [lenE, markR_len]; done) | (simp only [lenE, markR_len]; omega)) only [runE, mapE, listE, initT_5, initT_6, initT_7, initT_8, resV, oneV, binA, unA, reduceCtorEq, Nat.reduceEqDiff, Nat.reduceAdd, Nat.reduceLT, Nat.reduceLeDiff, Nat.reduceMul, Nat.reduceSub, ↓reduceIte, decide_true, decide_false, Bool.true_eq_false, Bool.false_eq_true, Bool.not_true, Bool.not_false, if_true, if_false, and_true, true_and, memE, celE, w64, Nat.zero_add, Nat.add_zero, Nat.mul_one, putL, and_self, ldn, Bool.and_self, Bool.and_true, Bool.true_and, Bool.and_false, Bool.false_and, Bool.or_false, Bool.false_or, ext_2_0, ext_2_1, ext_3_0, ext_3_1, ext_3_2, bne_self_eq_false, beq_self_eq_true, goG_undef, Bool.not_true, Bool.not_false, stP_aggL, bld_ct3, b3.mk4, b4.mk3, tm, t3, t4, t5, t9, t13, t30, t32, t34, gt_iff_lt, hpl]
            exact ⟨⟨i + 1, _, by omega, rfl, iu, b3, b4, pA, qA, by simp⟩, by simp [intOf]; omega⟩
        · have hlt' : ¬ ((i : Int) < L.length) := by omega
          clear pA qA
          simp (config := {implicitDefEqProofs := false, maxDischargeDepth := 20}) (disch := first | omega | (simp only [lenE]; done) | (simp only [lenE]; omega) | rfl | (simp only [lenE, markR_len]; done) | (simp only [lenE, markR_len]; omega)) only [runE, mapE, listE, initT_5, initT_6, initT_7, initT_8, resV, oneV, binA, unA, reduceCtorEq, Nat.reduceEqDiff, Nat.reduceAdd, Nat.reduceLT, Nat.reduceLeDiff, Nat.reduceMul, Nat.reduceSub, ↓reduceIte, decide_true, decide_false, Bool.true_eq_false, Bool.false_eq_true, Bool.not_true, Bool.not_false, if_true, if_false, and_true, true_and, memE, celE, w64, Nat.zero_add, Nat.add_zero, Nat.mul_one, putL, and_self, ldn, Bool.and_self, Bool.and_true, Bool.true_and, Bool.and_false, Bool.false_and, Bool.or_false, Bool.false_or, ext_2_0, ext_2_1, ext_3_0, ext_3_1, ext_3_2, bne_self_eq_false, beq_self_eq_true, goG_undef, Bool.not_true, Bool.not_false, stP_aggL, bld_ct3, tm, t3, t4, t5, t9, t13, t30, t32, t34, hlt']
      | false =>
        as_aux_lemma =>
        try simp (config := {implicitDefEqProofs := false, maxDischargeDepth := 20}) (disch := first | omega | (simp only [lenE]; done) | (simp only [lenE]; omega) | rfl | (simp only [lenE, markR_len]; done) | (simp only [lenE, markR_len]; omega)) only [runE, mapE, listE, initT_5, initT_6, initT_7, initT_8, resV, oneV, binA, unA, reduceCtorEq, Nat.reduceEqDiff, Nat.reduceAdd, Nat.reduceLT, Nat.reduceLeDiff, Nat.reduceMul, Nat.reduceSub, ↓reduceIte, decide_true, decide_false, Bool.true_eq_false, Bool.false_eq_true, Bool.not_true, Bool.not_false, if_true, if_false, and_true, true_and, memE, celE, w64, Nat.zero_add, Nat.add_zero, Nat.mul_one, putL, and_self, ldn, Bool.and_self, Bool.and_true, Bool.true_and, Bool.and_false, Bool.false_and, Bool.or_false, Bool.false_or, ext_2_0, ext_2_1, ext_3_0, ext_3_1, ext_3_2, bne_self_eq_false, beq_self_eq_true, goG_undef, Bool.not_true, Bool.not_false, stP_aggL, bld_ct3, b3.mk4, b4.mk3, b21.mk4]
        first | refine callH_rc (C1h _ iu) ?_ | refine rcallH_rc (C1h _ iu) ?_
        intro r new hA
        obtain ⟨nr, w9, rfl, hw⟩ := hA
        obtain ⟨-, dP, fP, rfl, -, -, own9⟩ := hw.now
        have iu := iu.ext new
        have b3 := b3.ext new
        have b4 := b4.ext new
        have iv := iv.ext new
        have b21 := b21.ext new
        have P := (own9 : OwnB (N15 ++ new) dP 28 (ctsC L))
        obtain ⟨N16, hN⟩ : ∃ N, N = N15 ++ new := ⟨_, rfl⟩
        rw [← hN] at iu b3 b4 iv b21 P ⊢
        clear hN
        clear nr hw own9
        try simp (config := {implicitDefEqProofs := false, maxDischargeDepth := 20}) (disch := first | omega | (simp only [lenE]; done) | (simp only [lenE]; omega) | rfl | (simp only [lenE, markR_len]; done) | (simp only [lenE, markR_len]; omega)) only [runE, mapE, listE, initT_5, initT_6, initT_7, initT_8, resV, oneV, binA, unA, reduceCtorEq, Nat.reduceEqDiff, Nat.reduceAdd, Nat.reduceLT, Nat.reduceLeDiff, Nat.reduceMul, Nat.reduceSub, ↓reduceIte, decide_true, decide_false, Bool.true_eq_false, Bool.false_eq_true, Bool.not_true, Bool.not_false, if_true, if_false, and_true, true_and, memE, celE, w64, Nat.zero_add, Nat.add_zero, Nat.mul_one, putL, and_self, ldn, Bool.and_self, Bool.and_true, Bool.true_and, Bool.and_false, Bool.false_and, Bool.or_false, Bool.false_or, ext_2_0, ext_2_1, ext_3_0, ext_3_1, ext_3_2, bne_self_eq_false, beq_self_eq_true, goG_undef, Bool.not_true, Bool.not_false, stP_aggL, bld_ct3, b3.mk4, b4.mk3, b21.mk4]
        first | refine callH_rc (C2h _ iu) ?_ | refine rcallH_rc (C2h _ iu) ?_
        intro r new hA
        obtain ⟨nr, w9, rfl, hw⟩ := hA
        obtain ⟨-, dQ, fQ, rfl, -, -, own9⟩ := hw.now
        have iu := iu.ext new
        have b3 := b3.ext new
        have b4 := b4.ext new
        have iv := iv.ext new
        have b21 := b21.ext new
        have P := P.ext new
        have Q := (own9 : OwnB (N16 ++ new) dQ 28 (ctsC L))
        obtain ⟨N17, hN⟩ : ∃ N, N = N16 ++ new := ⟨_, rfl⟩
        rw [← hN] at iu b3 b4 iv b21 P Q ⊢
        clear hN
        clear nr hw own9
        try simp (config := {implicitDefEqProofs := false, maxDischargeDepth := 20}) (disch := first | omega | (simp only [lenE]; done) | (simp only [lenE]; omega) | rfl | (simp only [lenE, markR_len]; done) | (simp only [lenE, markR_len]; omega)) only [runE, mapE, listE, initT_5, initT_6, initT_7, initT_8, resV, oneV, binA, unA, reduceCtorEq, Nat.reduceEqDiff, Nat.reduceAdd, Nat.reduceLT, Nat.reduceLeDiff, Nat.reduceMul, Nat.reduceSub, ↓reduceIte, decide_true, decide_false, Bool.true_eq_false, Bool.false_eq_true, Bool.not_true, Bool.not_false, if_true, if_false, and_true, true_and, memE, celE, w64, Nat.zero_add, Nat.add_zero, Nat.mul_one, putL, and_self, ldn, Bool.and_self, Bool.and_true, Bool.true_and, Bool.and_false, Bool.false_and, Bool.or_false, Bool.false_or, ext_2_0, ext_2_1, ext_3_0, ext_3_1, ext_3_2, bne_self_eq_false, beq_self_eq_true, goG_undef, Bool.not_true, Bool.not_false, stP_aggL, bld_ct3, b3.mk4, b4.mk3, b21.mk4]
        first | refine callH_rc (C1m _ iu) ?_ | refine rcallH_rc (C1m _ iu) ?_
        rintro r new ⟨rfl, nr⟩
        have iu := iu.ext new
        have b3 := b3.ext new
        have b4 := b4.ext new
        have iv := iv.ext new
        have b21 := b21.ext new
        have P := P.ext new
        have Q := Q.ext new
        obtain ⟨N18, hN⟩ : ∃ N, N = N17 ++ new := ⟨_, rfl⟩
        rw [← hN] at iu b3 b4 iv b21 P Q ⊢
        clear hN
        clear nr
        try simp (config := {implicitDefEqProofs := false, maxDischargeDepth := 20}) (disch := first | omega | (simp only [lenE]; done) | (simp only [lenE]; omega) | rfl | (simp only [lenE, markR_len]; done) | (simp only [lenE, markR_len]; omega)) only [runE, mapE, listE, initT_5, initT_6, initT_7, initT_8, resV, oneV, binA, unA, reduceCtorEq, Nat.reduceEqDiff, Nat.reduceAdd, Nat.reduceLT, Nat.reduceLeDiff, Nat.reduceMul, Nat.reduceSub, ↓reduceIte, decide_true, decide_false, Bool.true_eq_false, Bool.false_eq_true, Bool.not_true, Bool.not_false, if_true, if_false, and_true, true_and, memE, celE, w64, Nat.zero_add, Nat.add_zero, Nat.mul_one, putL, and_self, ldn, Bool.and_self, Bool.and_true, Bool.true_and, Bool.and_false, Bool.false_and, Bool.or_false, Bool.false_or, ext_2_0, ext_2_1, ext_3_0, ext_3_1, ext_3_2, bne_self_eq_false, beq_self_eq_true, goG_undef, Bool.not_true, Bool.not_false, stP_aggL, bld_ct3, b3.mk4, b4.mk3, b21.mk4]
        have pA : CtsA N18 (.slice (some ⟨dP, 0, none⟩) L.length fP) L := CtsO.in (e := 28) (lo := 0) (hi := dP + 1) ⟨by omega, dP, fP, rfl, by omega, by omega, P⟩
        have qA : CtsA N18 (.slice (some ⟨dQ, 0, none⟩) L.length fQ) L := CtsO.in (e := 28) (lo := 0) (hi := dQ + 1) ⟨by omega, dQ, fQ, rfl, by omega, by omega, Q⟩
        clear P Q
        refine loop_inv mixed (fun s => ∃ (i : Nat) (M : Mem), i ≤ L.length ∧ s.m = M ∧ IntsA M u p.w ∧ OwnB M bm 26 (mkC p u) ∧ OwnB M (bm + 1) 28 (ctL c) ∧ CtsA M (.slice (some ⟨dP, 0, none⟩) L.length fP) L ∧ CtsA M (.slice (some ⟨dQ, 0, none⟩) L.length fQ) L ∧ s.t 3 = .pointer (some ⟨bm, 0, none⟩) ∧ s.t 4 = .pointer (some ⟨bm + 1, 0, none⟩) ∧ s.t 5 = .bool false ∧ s.t 9 = .int .i64 so ∧ s.t 13 = .int .i64 ls ∧ s.t 30 = .slice (some ⟨dP, 0, none⟩) L.length fP ∧ s.t 32 = .slice (some ⟨dQ, 0, none⟩) L.length fQ ∧ s.t 34 = .int .i64 (i : Int)) (fun s => 105 - (intOf (s.t 34)).toNat)
          ⟨0, N18, by omega, rfl, iu, b3, b4, pA, qA, rfl, rfl, rfl, rfl, rfl, rfl, rfl, rfl⟩ ?_
        clear pA qA iu b3 b4
        rintro s ⟨i, M, hi, tm, iu, b3, b4, pA, qA, t3, t4, t5, t9, t13, t30, t32, t34⟩
        by_cases hlt : i < L.length
        · have hlt' : (i : Int) < L.length := by omega
          have a1 := pA.at_ hlt
          have a2 := pA.ld hlt
          have a3 := qA.at_ hlt
          have a4 := qA.ld hlt
          try simp (config := {implicitDefEqProofs := false, maxDischargeDepth := 20}) (disch := first | omega | (simp only [lenE]; done) | (simp only [lenE]; omega) | rfl | (simp only [lenE, markR_len]; done) | (simp only [lenE, markR_len]; omega)) only [runE, mapE, listE, initT_5, initT_6, initT_7, initT_8, resV, oneV, binA, unA, reduceCtorEq, Nat.reduceEqDiff, Nat.reduceAdd, Nat.reduceLT, Nat.reduceLeDiff, Nat.reduceMul, Nat.reduceSub, ↓reduceIte, decide_true, decide_false, Bool.true_eq_false, Bool.false_eq_true, Bool.not_true, Bool.not_false, if_true, if_false, and_true, true_and, memE, celE, w64, Nat.zero_add, Nat.add_zero, Nat.mul_one, putL, and_self, ldn, Bool.and_self, Bool.and_true, Bool.true_and, Bool.and_false, Bool.false_and, Bool.or_false, Bool.false_or, ext_2_0, ext_2_1, ext_3_0, ext_3_1, ext_3_2, bne_self_eq_false, beq_self_eq_true, goG_undef, Bool.not_true, Bool.not_false, stP_aggL, bld_ct3, b3.mk4, b4.mk3, tm, t3, t4, t5, t9, t13, t30, t32, t34, hlt', a1, a2, a3, a4, ae3M]
          first | refine callH_rc (HL i hlt M iu) ?_ | refine rcallH_rc (HL i hlt M iu) ?_
          rintro r new ⟨rfl, nr⟩
          have b3 := b3.ext new
          have b4 := b4.ext new
          have iu := iu.ext new
          have pA := pA.ext new
          have qA := qA.ext new
          by_cases hpl : p.left < p.price
          · simp (config := {implicitDefEqProofs := false, maxDischargeDepth := 20}) (disch := first | omega | (simp only [lenE]; done) | (simp only [lenE]; omega) | rfl | (simp only [lenE, markR_len]; done) | (simp only [lenE, markR_len]; omega)) only [runE, mapE, listE, initT_5, initT_6, initT_7, initT_8, resV, oneV, binA, unA, reduceCtorEq, Nat.reduceEqDiff, Nat.reduceAdd, Nat.reduceLT, Nat.reduceLeDiff, Nat.reduceMul, Nat.reduceSub, ↓reduceIte, decide_true, decide_false, Bool.true_eq_false, Bool.false_eq_true, Bool.not_true, Bool.not_false, if_true, if_false, and_true, true_and, memE, celE, w64, Nat.zero_add, Nat.add_zero, Nat.mul_one, putL, and_self, ldn, Bool.and_self, Bool.and_true, Bool.true_and, Bool.and_false, Bool.false_and, Bool.or_false, Bool.false_or, ext_2_0, ext_2_1, ext_3_0, ext_3_1, ext_3_2, bne_self_eq_false, beq_self_eq_true, goG_undef, Bool.not_true, Bool.not_false, stP_aggL, bld_ct3, b3.mk4, b4.mk3, tm, t3, t4, t5, t9, t13, t30, t32, t34, gt_iff_lt, hpl]
            exact ⟨⟨i + 1, _, by omega, rfl, iu, b3, b4, pA, qA, by simp⟩, by simp [intOf]; omega⟩
          · simp (config := {implicitDefEqProofs := false, maxDischargeDepth := 20}) (disch := first | omega | (simp only [lenE]; done) | (simp only [lenE]; omega) | rfl | (simp only [lenE, markR_len]; done) | (simp only [lenE, markR_len]; omega)) only [runE, mapE, listE, initT_5, initT_6, initT_7, initT_8, resV, oneV, binA, unA, reduceCtorEq, Nat.reduceEqDiff, Nat.reduceAdd, Nat.reduceLT, Nat.reduceLeDiff, Nat.reduceMul, Nat.reduceSub, ↓reduceIte, decide_true, decide_false, Bool.true_eq_false, Bool.false_eq_true, Bool.not_true, Bool.not_false, if_true, if_false, and_true, true_and, memE, celE, w64, Nat.zero_add, Nat.add_zero, Nat.mul_one, putL, and_self, ldn, Bool.and_self, Bool.and_true, Bool.true_and, Bool.and_false, Bool.false_and, Bool.or_false, Bool.false_or, ext_2_0, ext_2_1, ext_3_0, ext_3_1, ext_3_2, bne_self_eq_false, beq_self_eq_true, goG_undef, Bool.not_true, Bool.not_false, stP_aggL, bld_ct3, b3.mk4, b4.mk3, tm, t3, t4, t5, t9, t13, t30, t32, t34, gt_iff_lt, hpl]
            exact ⟨⟨i + 1, _, by omega, rfl, iu, b3, b4, pA, qA, by simp⟩, by simp [intOf]; omega⟩
        · have hlt' : ¬ ((i : Int) < L.length) := by omega
          clear pA qA
          simp (config := {implicitDefEqProofs := false, maxDischargeDepth := 20}) (disch := first | omega | (simp only [lenE]; done) | (simp only [lenE]; omega) | rfl | (simp only [lenE, markR_len]; done) | (simp only [lenE, markR_len]; omega)) only [runE, mapE, listE, initT_5, initT_6, initT_7, initT_8, resV, oneV, binA, unA, reduceCtorEq, Nat.reduceEqDiff, Nat.reduceAdd, Nat.reduceLT, Nat.reduceLeDiff, Nat.reduceMul, Nat.reduceSub, ↓reduceIte, decide_true, decide_false, Bool.true_eq_false, Bool.false_eq_true, Bool.not_true, Bool.not_false, if_true, if_false, and_true, true_and, memE, celE, w64, Nat.zero_add, Nat.add_zero, Nat.mul_one, putL, and_self, ldn, Bool.and_self, Bool.and_true, Bool.true_and, Bool.and_false, Bool.false_and, Bool.or_false, Bool.false_or, ext_2_0, ext_2_1, ext_3_0, ext_3_1, ext_3_2, bne_self_eq_false, beq_self_eq_true, goG_undef, Bool.not_true, Bool.not_false, stP_aggL, bld_ct3, tm, t3, t4, t5, t9, t13, t30, t32, t34, hlt']
end Go.Proofs.Ytpedjcagaeedjaa.Ab
end
section
namespace Go.Proofs.Ytpedjcagaeedjaa.Ab
open Go Go.RowKit
set_option linter.unusedVariables false
theorem ws_word : ∀ (p r : List Char), p.all (fun c => c != ' ') = true → wordsSigns (p ++ ' ' :: r) = p :: wordsSigns r
  | [], r, _ => by rw [List.nil_append, wordsSigns]
  | c :: p, r, h => by
    rw [List.all_cons, Bool.and_eq_true] at h
    have hc : c ≠ ' ' := by simpa using h.1
    rw [List.cons_append, wordsSigns, ws_word p r h.2]
    intro e; exact hc e
def sumW : List Char := ['6', '4', '0', 'e', '9', '1', '1', 'e', 'e', 'f', '6', '9', '0', 'f', 'f', '3', 'e', 'd', '4', '9', '4', '2', '3', 'e', 'c', 'e', 'd', '7', 'b', 'a', '0', 'c', '8', '6', '5', 'd', '8', 'd', '2', 'a', '9', '5', '8', 'e', '7', '7', 'f', '1', 'e', '7', 'd', '7', '6', '5', 'a', '3', '8', '8', '8', '3', '0', '4', '2', 'b']
def restW : List Char := ['a', 't', ' ', 'l', 'o', 'o', 'p', '.', 'e', 'x', 'a', 'm', 'p', 'l', 'e', '/', 'g', '0', '1', '1', '1', '1', '/', 'l', 'a', 'w', 's', '.', 'F', 'n', 'P', 'r', 'o', 'f', 'i', 't', 's', ' ', 'l', 'o', 'o', 'p', '.', 'e', 'x', 'a', 'm', 'p', 'l', 'e', '/', 'g', '0', '1', '1', '1', '1', '/', 'l', 'a', 'w', 's', '.', 'F', 'n', 'C', 'o', 'n', 't', 'r', 'a', 'c', 't', 's']
set_option maxRecDepth 100000 in
theorem head_is : Try.prog.initOrder = String.ofList (['h', 'a', 'r', 'n', 'e', 's', 's'] ++ ' ' :: (sumW ++ ' ' :: (['c', 'u', 't'] ++ ' ' :: restW))) := by kernel_rfl
set_option maxRecDepth 100000 in
theorem sum_ok : isSumSigns sumW = true := by kernel_rfl
theorem head_words : behindMainWord (wordsSigns Try.prog.initOrder.toList) = ['c', 'u', 't'] :: wordsSigns restW := by
  rw [head_is, String.toList_ofList, ws_word _ _ (by decide), ws_word _ _ (by decide), ws_word _ _ (by decide)]
  simp only [behindMainWord, sum_ok, Bool.and_true]
  rfl
set_option maxRecDepth 100000 in
theorem strip_cut (X : List (List Char)) : stripLifts liftWords (['c', 'u', 't'] :: X) = ([], ['c', 'u', 't'] :: X) := by kernel_rfl
theorem lifts_gen (P : Program) (X : List (List Char)) (h : behindMainWord (wordsSigns P.initOrder.toList) = ['c', 'u', 't'] :: X) : P.headLifts = [] := by
  unfold Program.headLifts
  rw [h, strip_cut]
  rfl
theorem enters_gen (P : Program) (X : List (List Char)) (h : behindMainWord (wordsSigns P.initOrder.toList) = ['c', 'u', 't'] :: X) (h1 : P.laysLater = false) (h2 : P.bearsReflect = false) (h3 : P.doorFits [] = true) : P.mayEnter = true := by
  unfold Program.mayEnter
  rw [h]
  simp only [strip_cut, h1, h2, h3]
  rfl
theorem finals_gen (P : Program) (X : List (List Char)) (h : behindMainWord (wordsSigns P.initOrder.toList) = ['c', 'u', 't'] :: X) : P.liftsFinal = false := by
  unfold Program.liftsFinal
  rw [lifts_gen P X h, h]
  rfl
theorem make_gen (P : Program) (X : List (List Char)) (h : behindMainWord (wordsSigns P.initOrder.toList) = ['c', 'u', 't'] :: X) : P.make = some .cut := by
  unfold Program.make
  rw [h]
  rfl
set_option maxRecDepth 100000 in
theorem enters : Try.prog.mayEnter = true := enters_gen _ _ head_words (by kernel_rfl) (by kernel_rfl) (by kernel_rfl)
theorem no_finals : Try.prog.liftsFinal = false := finals_gen _ _ head_words
theorem makes : Try.prog.make = some .cut := make_gen _ _ head_words
end Go.Proofs.Ytpedjcagaeedjaa.Ab
end
