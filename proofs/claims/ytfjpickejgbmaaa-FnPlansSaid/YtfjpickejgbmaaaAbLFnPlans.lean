/- FnPlans: its running over abstract memory. -/
import Derived.Test.YtfjpickejgbmaaaAbPcost
import Derived.Test.YtfjpickejgbmaaaAbDraw2b
import Derived.Test.YtfjpickejgbmaaaCodLFnPlans
namespace Go.Proofs.Ytfjpickejgbmaaa.Ab
open Go Go.RowKit
set_option linter.unusedVariables false
set_option linter.unusedSimpArgs false
set_option maxRecDepth 100000

theorem picks_mem (f : Int → Bool) (l : List Int) (t : Nat) (n : Nat) : ((t : Int) ∈ picks f l n) ↔ (t < n ∧ f (l.getD t 0) = true) := by
  induction n with
  | zero => simp [picks]
  | succ n ih =>
    rw [picks]
    split
    · rename_i hf
      rw [List.mem_append, ih]
      constructor
      · rintro (⟨h1, h2⟩ | h)
        · exact ⟨by omega, h2⟩
        · have h0 : (t : Int) = n := by simpa using h
          have : t = n := by omega
          rw [this]; exact ⟨by omega, hf⟩
      · rintro ⟨h1, h2⟩
        by_cases e : t = n
        · right; rw [e]; simp
        · left; exact ⟨by omega, h2⟩
    · rename_i hf
      rw [ih]
      constructor
      · rintro ⟨h1, h2⟩; exact ⟨by omega, h2⟩
      · rintro ⟨h1, h2⟩
        refine ⟨?_, h2⟩
        rcases Nat.lt_or_ge t n with g | g
        · exact g
        · have : t = n := by omega
          rw [this] at h2; exact absurd h2 hf

set_option maxHeartbeats 16000000 in
theorem law_FnPlans (l : List Int) (hb : ∀ x ∈ l, 0 ≤ x ∧ x ≤ 255) :
    AC Try.prog 3 [.slice (some ⟨0, 0, none⟩) l.length 0] [⟨.ro, 5, l.map (Value.int .u8)⟩] fun r _ => r = .bool true := by
  refine ac_of_run mixed ok_laws_FnPlans (by simp) (go_start _ _ _ ?_)
  simp (config := {implicitDefEqProofs := false, maxDischargeDepth := 20}) (disch := first | omega | (simp only [lenE]; done) | (simp only [lenE]; omega) | rfl | (simp only [lenE, markR_len]; done) | (simp only [lenE, markR_len]; omega)) only [runE, mapE, listE, initT_5, initT_6, initT_7, initT_8, resV, oneV, binA, unA, reduceCtorEq, Nat.reduceEqDiff, Nat.reduceAdd, Nat.reduceLT, Nat.reduceLeDiff, Nat.reduceMul, Nat.reduceSub, ↓reduceIte, decide_true, decide_false, Bool.true_eq_false, Bool.false_eq_true, Bool.not_true, Bool.not_false, if_true, if_false, and_true, true_and, memE, celE, w64, Nat.zero_add, Nat.add_zero, Nat.mul_one, putL, and_self, ldn, c_laws_FnPlans, r_laws_FnPlans]
  refine callH_rc (rBig_rc _ 0 0 l.length) ?_
  rintro r new ⟨rfl, rfl⟩
  by_cases hbig : 65536 < l.length
  · simp (config := {implicitDefEqProofs := false, maxDischargeDepth := 20}) (disch := first | omega | (simp only [lenE]; done) | (simp only [lenE]; omega) | rfl | (simp only [lenE, markR_len]; done) | (simp only [lenE, markR_len]; omega)) only [runE, mapE, listE, initT_5, initT_6, initT_7, initT_8, resV, oneV, binA, unA, reduceCtorEq, Nat.reduceEqDiff, Nat.reduceAdd, Nat.reduceLT, Nat.reduceLeDiff, Nat.reduceMul, Nat.reduceSub, ↓reduceIte, decide_true, decide_false, Bool.true_eq_false, Bool.false_eq_true, Bool.not_true, Bool.not_false, if_true, if_false, and_true, true_and, memE, celE, w64, Nat.zero_add, Nat.add_zero, Nat.mul_one, putL, and_self, ldn, decide_eq_true hbig]
  have hB : BytesA [⟨.ro, 5, l.map (Value.int .u8)⟩] 0 l := ⟨⟨.ro, by simp, rfl⟩, hb, by omega⟩
  obtain ⟨M0, hM0⟩ : ∃ M : Mem, M = [⟨.ro, 5, l.map (Value.int .u8)⟩] := ⟨_, rfl⟩
  rw [← hM0] at hB
  rw [List.append_nil, ← hM0]
  clear hM0
  simp (config := {implicitDefEqProofs := false, maxDischargeDepth := 20}) (disch := first | omega | (simp only [lenE]; done) | (simp only [lenE]; omega) | rfl | (simp only [lenE, markR_len]; done) | (simp only [lenE, markR_len]; omega)) only [runE, mapE, listE, initT_5, initT_6, initT_7, initT_8, resV, oneV, binA, unA, reduceCtorEq, Nat.reduceEqDiff, Nat.reduceAdd, Nat.reduceLT, Nat.reduceLeDiff, Nat.reduceMul, Nat.reduceSub, ↓reduceIte, decide_true, decide_false, Bool.true_eq_false, Bool.false_eq_true, Bool.not_true, Bool.not_false, if_true, if_false, and_true, true_and, memE, celE, w64, Nat.zero_add, Nat.add_zero, Nat.mul_one, putL, and_self, ldn, decide_eq_false hbig]
  refine callH_rc (DrawPlanCost_rc _ 0 0 l hB) ?_
  rintro r new ⟨nr, v1, v2, v3, v4, k, i, p, rfl, hrow, hL, lv⟩
  have hc0 := lv.here
  have P0 : OwnR (M0 ++ new) (M0.length + i) p := OwnR.new hrow rfl
  obtain ⟨M1, hM1⟩ : ∃ M, M = M0 ++ new := ⟨_, rfl⟩
  rw [← hM1] at hc0 P0 ⊢
  generalize M0.length + i = pd at *
  have hx : (M1 ++ [(⟨.own, 26, [.slice none 0 0, .slice none 0 0, .slice none 0 0, .slice none 0 0]⟩ : Blk)])[M1.length]? = some ⟨.own, 26, [.slice none 0 0, .slice none 0 0, .slice none 0 0, .slice none 0 0]⟩ := by simp
  obtain ⟨s1, r1⟩ := cell_st hx rfl hc0
  have e2 : (M1 ++ [(⟨.own, 26, [.slice none 0 0, .slice none 0 0, .slice none 0 0, .slice none 0 0]⟩ : Blk)]).set M1.length ⟨.own, 26, [v1, v2, v3, v4]⟩ = M1 ++ [⟨.own, 26, [v1, v2, v3, v4]⟩] := by simp
  rw [e2] at s1 r1
  simp (config := {implicitDefEqProofs := false, maxDischargeDepth := 20}) (disch := first | omega | (simp only [lenE]; done) | (simp only [lenE]; omega) | rfl | (simp only [lenE, markR_len]; done) | (simp only [lenE, markR_len]; omega)) only [runE, mapE, listE, initT_5, initT_6, initT_7, initT_8, resV, oneV, binA, unA, reduceCtorEq, Nat.reduceEqDiff, Nat.reduceAdd, Nat.reduceLT, Nat.reduceLeDiff, Nat.reduceMul, Nat.reduceSub, ↓reduceIte, decide_true, decide_false, Bool.true_eq_false, Bool.false_eq_true, Bool.not_true, Bool.not_false, if_true, if_false, and_true, true_and, memE, celE, w64, Nat.zero_add, Nat.add_zero, Nat.mul_one, putL, and_self, ldn, ext_2_0, ext_2_1, stP_aggL, s1]
  have c1 := hc0.ext [(⟨.own, 26, [v1, v2, v3, v4]⟩ : Blk)]
  have p1 := P0.ext [(⟨.own, 26, [v1, v2, v3, v4]⟩ : Blk)]
  have z0 : rdc (M1 ++ [(⟨.own, 26, [v1, v2, v3, v4]⟩ : Blk)]) M1.length 0 = some v1 := r1 0
  have z1 : rdc (M1 ++ [(⟨.own, 26, [v1, v2, v3, v4]⟩ : Blk)]) M1.length 1 = some v2 := r1 1
  have z2 : rdc (M1 ++ [(⟨.own, 26, [v1, v2, v3, v4]⟩ : Blk)]) M1.length 2 = some v3 := r1 2
  have z3 : rdc (M1 ++ [(⟨.own, 26, [v1, v2, v3, v4]⟩ : Blk)]) M1.length 3 = some v4 := r1 3
  generalize M1 ++ [(⟨.own, 26, [v1, v2, v3, v4]⟩ : Blk)] = M at *
  generalize M1.length = bd at *
  clear s1 r1 e2 hx hc0 P0 lv hM1 hrow nr
  obtain ⟨K, hK⟩ : ∃ K : Mem → Prop, K = fun M => CaseA M (.agg #[v1, v2, v3, v4]) k ∧ OwnR M pd p ∧ rdc M bd 0 = some v1 ∧ rdc M bd 1 = some v2 ∧ rdc M bd 2 = some v3 ∧ rdc M bd 3 = some v4 := ⟨_, rfl⟩
  have K0 : K M := by rw [hK]; exact ⟨c1, p1, z0, z1, z2, z3⟩
  have Kx : ∀ {M : Mem} (new : Mem), K M → K (M ++ new) := fun {M} new h => by
    rw [hK] at h ⊢
    obtain ⟨h1, h2, h3, h4, h5, h6⟩ := h
    exact ⟨h1.ext _, h2.ext _, rdc_ext h3, rdc_ext h4, rdc_ext h5, rdc_ext h6⟩
  have kC : ∀ {M}, K M → CaseA M (.agg #[v1, v2, v3, v4]) k := fun h => by rw [hK] at h; exact h.1
  have kP : ∀ {M}, K M → IntsA M (.slice (some ⟨pd, 0, none⟩) p.length 1) p := fun h => by rw [hK] at h; exact h.2.1.ints (by omega) 1
  have kL : ∀ {M}, K M → ldA M (some 4) (.pointer (some ⟨bd, 0, none⟩)) = some (.agg #[v1, v2, v3, v4]) := fun h => by
    rw [hK] at h
    obtain ⟨h1, h2, h3, h4, h5, h6⟩ := h
    simp [ldA, rdn, h3, h4, h5, h6]
  have k0 : ∀ {M}, K M → rdc M bd 0 = some v1 := fun h => by rw [hK] at h; exact h.2.2.1
  have kN : ∀ {M}, K M → IntsA M v1 k.need := fun h => by
    obtain ⟨w1, w2, w3, w4, ee, i1, -, -, -⟩ := (kC h).ok
    cases ee
    exact i1
  clear hK c1 p1 z0 z1 z2 z3
  obtain ⟨ok, hok⟩ : ∃ t, t = two k p := ⟨_, rfl⟩
  obtain ⟨one, hone⟩ : ∃ t, t = k.good := ⟨_, rfl⟩
  obtain ⟨co, hco⟩ : ∃ t, t = costA k p := ⟨_, rfl⟩
  obtain ⟨st, hst⟩ : ∃ t, t = stocksA k p := ⟨_, rfl⟩
  obtain ⟨em, hem⟩ : ∃ t, t = emptyA k p := ⟨_, rfl⟩
  obtain ⟨od, hod⟩ : ∃ t, t = orderA k p := ⟨_, rfl⟩
  obtain ⟨qa, hqa⟩ : ∃ t, t = partA cSet k p := ⟨_, rfl⟩
  obtain ⟨qb, hqb⟩ : ∃ t, t = partA cUnit k p := ⟨_, rfl⟩
  obtain ⟨qh, hqh⟩ : ∃ t, t = partA cHold k p := ⟨_, rfl⟩
  have C1 : ∀ M, K M → RC Try.prog 6 [.agg #[v1, v2, v3, v4], .slice (some ⟨pd, 0, none⟩) p.length 1] M (AnsV (.tuple #[.int .i64 co, .bool ok])) := fun M h => by rw [hco, hok]; exact implPlanCost_rc _ _ _ k p (kC h) (kP h)
  have C2 : ∀ M, K M → RC Try.prog 7 [.agg #[v1, v2, v3, v4], .slice (some ⟨pd, 0, none⟩) p.length 1] M (AnsV (.tuple #[.int .i64 co, .bool ok])) := fun M h => by rw [hco, hok]; exact specPlanCost_rc _ _ _ k p (kC h) (kP h)
  have C3 : ∀ M, K M → RC Try.prog 8 [.agg #[v1, v2, v3, v4], .slice (some ⟨pd, 0, none⟩) p.length 1] M (AnsV (.tuple #[.bool ok, .bool one])) := fun M h => by rw [hok, hone]; exact implIsPlan_rc _ _ _ k p (kC h) (kP h)
  have C4 : ∀ M, K M → RC Try.prog 9 [.agg #[v1, v2, v3, v4], .slice (some ⟨pd, 0, none⟩) p.length 1] M (AnsV (.tuple #[.bool ok, .bool one])) := fun M h => by rw [hok, hone]; exact specIsPlan_rc _ _ _ k p (kC h) (kP h)
  have C5 : ∀ M, K M → RC Try.prog 10 [.agg #[v1, v2, v3, v4]] M (AnsV (.bool one)) := fun M h => by rw [hone]; exact implIsCase_rc _ _ k (kC h)
  have C6 : ∀ M, K M → RC Try.prog 11 [.agg #[v1, v2, v3, v4], .slice (some ⟨pd, 0, none⟩) p.length 1] M (AnsL M st ok) := fun M h => by rw [hst, hok]; exact implStocksOf_rc _ _ _ k p (kC h) (kP h)
  have C7 : ∀ M, K M → RC Try.prog 12 [.agg #[v1, v2, v3, v4], .slice (some ⟨pd, 0, none⟩) p.length 1] M (AnsL M st ok) := fun M h => by rw [hst, hok]; exact specStocksOf_rc _ _ _ k p (kC h) (kP h)
  have C8 : ∀ M, K M → RC Try.prog 14 [.agg #[v1, v2, v3, v4], .slice (some ⟨pd, 0, none⟩) p.length 1] M (AnsV (.tuple #[.int .i64 qa, .int .i64 qb, .int .i64 qh, .bool ok])) := fun M h => by rw [hqa, hqb, hqh, hok]; exact implCostParts_rc _ _ _ k p (kC h) (kP h)
  have C9 : ∀ M, K M → RC Try.prog 15 [.agg #[v1, v2, v3, v4], .slice (some ⟨pd, 0, none⟩) p.length 1] M (AnsV (.tuple #[.int .i64 qa, .int .i64 qb, .int .i64 qh, .bool ok])) := fun M h => by rw [hqa, hqb, hqh, hok]; exact specCostParts_rc _ _ _ k p (kC h) (kP h)
  have D1 : ∀ M, K M → RC Try.prog 16 [.agg #[v1, v2, v3, v4], .slice (some ⟨pd, 0, none⟩) p.length 1] M (AnsL M em ok) := fun M h => by rw [hem, hok]; exact implEmpty_rc _ _ _ k p (kC h) (kP h)
  have D2 : ∀ M, K M → RC Try.prog 17 [.agg #[v1, v2, v3, v4], .slice (some ⟨pd, 0, none⟩) p.length 1] M (AnsL M em ok) := fun M h => by rw [hem, hok]; exact specEmpty_rc _ _ _ k p (kC h) (kP h)
  have D3 : ∀ M, K M → RC Try.prog 18 [.agg #[v1, v2, v3, v4], .slice (some ⟨pd, 0, none⟩) p.length 1] M (AnsL M od ok) := fun M h => by rw [hod, hok]; exact implOrder_rc _ _ _ k p (kC h) (kP h)
  have D4 : ∀ M, K M → RC Try.prog 19 [.agg #[v1, v2, v3, v4], .slice (some ⟨pd, 0, none⟩) p.length 1] M (AnsL M od ok) := fun M h => by rw [hod, hok]; exact specOrder_rc _ _ _ k p (kC h) (kP h)
  have hsum : qa + qb + qh = co := by
    rw [hqa, hqb, hqh, hco]
    unfold partA costA costOf
    split <;> simp
  have hbd : (0 ≤ qa ∧ qa ≤ 1000) ∧ (0 ≤ qb ∧ qb ≤ 20000) ∧ (-20000 ≤ qh ∧ qh ≤ 200000) := by
    rw [hqa, hqb, hqh]; exact parts_bound k p
  have three : (one = false ∧ ok = false) ∨ (one = true ∧ ok = false) ∨ (one = true ∧ ok = true) := by
    rw [hone, hok]
    unfold two
    cases k.good <;> cases planB k p <;> simp
  rcases three with ⟨h1, h2⟩ | ⟨h1, h2⟩ | ⟨h1, h2⟩
  · rw [h1] at C3 C4 C5
    rw [h2] at C1 C2 C3 C4 C6 C7 C8 C9 D1 D2 D3 D4
    as_aux_lemma =>
      refine callH_rc (C1 _ K0) ?_
      rintro r new ⟨rfl, nr⟩
      have K1 := Kx new K0
      obtain ⟨N1, hN1⟩ : ∃ N, N = M ++ new := ⟨_, rfl⟩
      rw [← hN1] at K1 ⊢
      clear hN1 nr
      simp (config := {implicitDefEqProofs := false, maxDischargeDepth := 20}) (disch := first | omega | (simp only [lenE]; done) | (simp only [lenE]; omega) | rfl | (simp only [lenE, markR_len]; done) | (simp only [lenE, markR_len]; omega)) only [runE, mapE, listE, initT_5, initT_6, initT_7, initT_8, resV, oneV, binA, unA, reduceCtorEq, Nat.reduceEqDiff, Nat.reduceAdd, Nat.reduceLT, Nat.reduceLeDiff, Nat.reduceMul, Nat.reduceSub, ↓reduceIte, decide_true, decide_false, Bool.true_eq_false, Bool.false_eq_true, Bool.not_true, Bool.not_false, if_true, if_false, and_true, true_and, memE, celE, w64, Nat.zero_add, Nat.add_zero, Nat.mul_one, putL, and_self, ldn, kL K1, ext_2_0, ext_2_1, ext_4_0, ext_4_1, ext_4_2, ext_4_3, bne_self_eq_false, beq_self_eq_true, goG_undef, hsum]
      refine callH_rc (C2 _ K1) ?_
      rintro r new ⟨rfl, nr⟩
      have K2 := Kx new K1
      obtain ⟨N2, hN2⟩ : ∃ N, N = N1 ++ new := ⟨_, rfl⟩
      rw [← hN2] at K2 ⊢
      clear hN2 nr K1
      simp (config := {implicitDefEqProofs := false, maxDischargeDepth := 20}) (disch := first | omega | (simp only [lenE]; done) | (simp only [lenE]; omega) | rfl | (simp only [lenE, markR_len]; done) | (simp only [lenE, markR_len]; omega)) only [runE, mapE, listE, initT_5, initT_6, initT_7, initT_8, resV, oneV, binA, unA, reduceCtorEq, Nat.reduceEqDiff, Nat.reduceAdd, Nat.reduceLT, Nat.reduceLeDiff, Nat.reduceMul, Nat.reduceSub, ↓reduceIte, decide_true, decide_false, Bool.true_eq_false, Bool.false_eq_true, Bool.not_true, Bool.not_false, if_true, if_false, and_true, true_and, memE, celE, w64, Nat.zero_add, Nat.add_zero, Nat.mul_one, putL, and_self, ldn, kL K2, ext_2_0, ext_2_1, ext_4_0, ext_4_1, ext_4_2, ext_4_3, bne_self_eq_false, beq_self_eq_true, goG_undef, hsum]
      refine callH_rc (C3 _ K2) ?_
      rintro r new ⟨rfl, nr⟩
      have K3 := Kx new K2
      obtain ⟨N3, hN3⟩ : ∃ N, N = N2 ++ new := ⟨_, rfl⟩
      rw [← hN3] at K3 ⊢
      clear hN3 nr K2
      simp (config := {implicitDefEqProofs := false, maxDischargeDepth := 20}) (disch := first | omega | (simp only [lenE]; done) | (simp only [lenE]; omega) | rfl | (simp only [lenE, markR_len]; done) | (simp only [lenE, markR_len]; omega)) only [runE, mapE, listE, initT_5, initT_6, initT_7, initT_8, resV, oneV, binA, unA, reduceCtorEq, Nat.reduceEqDiff, Nat.reduceAdd, Nat.reduceLT, Nat.reduceLeDiff, Nat.reduceMul, Nat.reduceSub, ↓reduceIte, decide_true, decide_false, Bool.true_eq_false, Bool.false_eq_true, Bool.not_true, Bool.not_false, if_true, if_false, and_true, true_and, memE, celE, w64, Nat.zero_add, Nat.add_zero, Nat.mul_one, putL, and_self, ldn, kL K3, ext_2_0, ext_2_1, ext_4_0, ext_4_1, ext_4_2, ext_4_3, bne_self_eq_false, beq_self_eq_true, goG_undef, hsum]
      refine callH_rc (C4 _ K3) ?_
      rintro r new ⟨rfl, nr⟩
      have K4 := Kx new K3
      obtain ⟨N4, hN4⟩ : ∃ N, N = N3 ++ new := ⟨_, rfl⟩
      rw [← hN4] at K4 ⊢
      clear hN4 nr K3
      simp (config := {implicitDefEqProofs := false, maxDischargeDepth := 20}) (disch := first | omega | (simp only [lenE]; done) | (simp only [lenE]; omega) | rfl | (simp only [lenE, markR_len]; done) | (simp only [lenE, markR_len]; omega)) only [runE, mapE, listE, initT_5, initT_6, initT_7, initT_8, resV, oneV, binA, unA, reduceCtorEq, Nat.reduceEqDiff, Nat.reduceAdd, Nat.reduceLT, Nat.reduceLeDiff, Nat.reduceMul, Nat.reduceSub, ↓reduceIte, decide_true, decide_false, Bool.true_eq_false, Bool.false_eq_true, Bool.not_true, Bool.not_false, if_true, if_false, and_true, true_and, memE, celE, w64, Nat.zero_add, Nat.add_zero, Nat.mul_one, putL, and_self, ldn, kL K4, ext_2_0, ext_2_1, ext_4_0, ext_4_1, ext_4_2, ext_4_3, bne_self_eq_false, beq_self_eq_true, goG_undef, hsum]
      refine callH_rc (C5 _ K4) ?_
      rintro r new ⟨rfl, nr⟩
      have K5 := Kx new K4
      obtain ⟨N5, hN5⟩ : ∃ N, N = N4 ++ new := ⟨_, rfl⟩
      rw [← hN5] at K5 ⊢
      clear hN5 nr K4
      simp (config := {implicitDefEqProofs := false, maxDischargeDepth := 20}) (disch := first | omega | (simp only [lenE]; done) | (simp only [lenE]; omega) | rfl | (simp only [lenE, markR_len]; done) | (simp only [lenE, markR_len]; omega)) only [runE, mapE, listE, initT_5, initT_6, initT_7, initT_8, resV, oneV, binA, unA, reduceCtorEq, Nat.reduceEqDiff, Nat.reduceAdd, Nat.reduceLT, Nat.reduceLeDiff, Nat.reduceMul, Nat.reduceSub, ↓reduceIte, decide_true, decide_false, Bool.true_eq_false, Bool.false_eq_true, Bool.not_true, Bool.not_false, if_true, if_false, and_true, true_and, memE, celE, w64, Nat.zero_add, Nat.add_zero, Nat.mul_one, putL, and_self, ldn, kL K5, ext_2_0, ext_2_1, ext_4_0, ext_4_1, ext_4_2, ext_4_3, bne_self_eq_false, beq_self_eq_true, goG_undef, hsum]
      refine callH_rc (C6 _ K5) ?_
      intro r new hA
      obtain ⟨Ri, Rf, rfl, -, R0, Rle, nr⟩ := hA.row
      clear hA
      have K6 := Kx new K5
      obtain ⟨N6, hN6⟩ : ∃ N, N = N5 ++ new := ⟨_, rfl⟩
      have R6 := R0
      rw [← hN6] at R6 K6 ⊢
      clear hN6 nr K5
      clear R0
      simp (config := {implicitDefEqProofs := false, maxDischargeDepth := 20}) (disch := first | omega | (simp only [lenE]; done) | (simp only [lenE]; omega) | rfl | (simp only [lenE, markR_len]; done) | (simp only [lenE, markR_len]; omega)) only [runE, mapE, listE, initT_5, initT_6, initT_7, initT_8, resV, oneV, binA, unA, reduceCtorEq, Nat.reduceEqDiff, Nat.reduceAdd, Nat.reduceLT, Nat.reduceLeDiff, Nat.reduceMul, Nat.reduceSub, ↓reduceIte, decide_true, decide_false, Bool.true_eq_false, Bool.false_eq_true, Bool.not_true, Bool.not_false, if_true, if_false, and_true, true_and, memE, celE, w64, Nat.zero_add, Nat.add_zero, Nat.mul_one, putL, and_self, ldn, kL K6, ext_2_0, ext_2_1, ext_4_0, ext_4_1, ext_4_2, ext_4_3, bne_self_eq_false, beq_self_eq_true, goG_undef, hsum]
      refine callH_rc (C7 _ K6) ?_
      intro r new hA
      obtain ⟨Si, Sf, rfl, -, S0, Sle, nr⟩ := hA.row
      clear hA
      have K7 := Kx new K6
      have R7 := R6.ext new
      obtain ⟨N7, hN7⟩ : ∃ N, N = N6 ++ new := ⟨_, rfl⟩
      have S7 := S0
      rw [← hN7] at S7 K7 R7 ⊢
      clear hN7 nr R6 K6
      clear S0
      simp (config := {implicitDefEqProofs := false, maxDischargeDepth := 20}) (disch := first | omega | (simp only [lenE]; done) | (simp only [lenE]; omega) | rfl | (simp only [lenE, markR_len]; done) | (simp only [lenE, markR_len]; omega)) only [runE, mapE, listE, initT_5, initT_6, initT_7, initT_8, resV, oneV, binA, unA, reduceCtorEq, Nat.reduceEqDiff, Nat.reduceAdd, Nat.reduceLT, Nat.reduceLeDiff, Nat.reduceMul, Nat.reduceSub, ↓reduceIte, decide_true, decide_false, Bool.true_eq_false, Bool.false_eq_true, Bool.not_true, Bool.not_false, if_true, if_false, and_true, true_and, memE, celE, w64, Nat.zero_add, Nat.add_zero, Nat.mul_one, putL, and_self, ldn, kL K7, ext_2_0, ext_2_1, ext_4_0, ext_4_1, ext_4_2, ext_4_3, bne_self_eq_false, beq_self_eq_true, goG_undef, hsum]
      refine callH_rc (rInts_rc _ _ _ st (R7.ints (by omega) _) (S7.ints (by omega) _)) ?_
      rintro r new ⟨rfl, rfl⟩
      rw [List.append_nil]
      clear S7
      simp (config := {implicitDefEqProofs := false, maxDischargeDepth := 20}) (disch := first | omega | (simp only [lenE]; done) | (simp only [lenE]; omega) | rfl | (simp only [lenE, markR_len]; done) | (simp only [lenE, markR_len]; omega)) only [runE, mapE, listE, initT_5, initT_6, initT_7, initT_8, resV, oneV, binA, unA, reduceCtorEq, Nat.reduceEqDiff, Nat.reduceAdd, Nat.reduceLT, Nat.reduceLeDiff, Nat.reduceMul, Nat.reduceSub, ↓reduceIte, decide_true, decide_false, Bool.true_eq_false, Bool.false_eq_true, Bool.not_true, Bool.not_false, if_true, if_false, and_true, true_and, memE, celE, w64, Nat.zero_add, Nat.add_zero, Nat.mul_one, putL, and_self, ldn, kL K7, ext_2_0, ext_2_1, ext_4_0, ext_4_1, ext_4_2, ext_4_3, bne_self_eq_false, beq_self_eq_true, goG_undef, hsum]
      refine callH_rc (C8 _ K7) ?_
      rintro r new ⟨rfl, nr⟩
      have K8 := Kx new K7
      have R8 := R7.ext new
      obtain ⟨N8, hN8⟩ : ∃ N, N = N7 ++ new := ⟨_, rfl⟩
      rw [← hN8] at K8 R8 ⊢
      clear hN8 nr R7 K7
      simp (config := {implicitDefEqProofs := false, maxDischargeDepth := 20}) (disch := first | omega | (simp only [lenE]; done) | (simp only [lenE]; omega) | rfl | (simp only [lenE, markR_len]; done) | (simp only [lenE, markR_len]; omega)) only [runE, mapE, listE, initT_5, initT_6, initT_7, initT_8, resV, oneV, binA, unA, reduceCtorEq, Nat.reduceEqDiff, Nat.reduceAdd, Nat.reduceLT, Nat.reduceLeDiff, Nat.reduceMul, Nat.reduceSub, ↓reduceIte, decide_true, decide_false, Bool.true_eq_false, Bool.false_eq_true, Bool.not_true, Bool.not_false, if_true, if_false, and_true, true_and, memE, celE, w64, Nat.zero_add, Nat.add_zero, Nat.mul_one, putL, and_self, ldn, kL K8, ext_2_0, ext_2_1, ext_4_0, ext_4_1, ext_4_2, ext_4_3, bne_self_eq_false, beq_self_eq_true, goG_undef, hsum]
      refine callH_rc (C9 _ K8) ?_
      rintro r new ⟨rfl, nr⟩
      have K9 := Kx new K8
      have R9 := R8.ext new
      obtain ⟨N9, hN9⟩ : ∃ N, N = N8 ++ new := ⟨_, rfl⟩
      rw [← hN9] at K9 R9 ⊢
      clear hN9 nr R8 K8
      simp (config := {implicitDefEqProofs := false, maxDischargeDepth := 20}) (disch := first | omega | (simp only [lenE]; done) | (simp only [lenE]; omega) | rfl | (simp only [lenE, markR_len]; done) | (simp only [lenE, markR_len]; omega)) only [runE, mapE, listE, initT_5, initT_6, initT_7, initT_8, resV, oneV, binA, unA, reduceCtorEq, Nat.reduceEqDiff, Nat.reduceAdd, Nat.reduceLT, Nat.reduceLeDiff, Nat.reduceMul, Nat.reduceSub, ↓reduceIte, decide_true, decide_false, Bool.true_eq_false, Bool.false_eq_true, Bool.not_true, Bool.not_false, if_true, if_false, and_true, true_and, memE, celE, w64, Nat.zero_add, Nat.add_zero, Nat.mul_one, putL, and_self, ldn, kL K9, ext_2_0, ext_2_1, ext_4_0, ext_4_1, ext_4_2, ext_4_3, bne_self_eq_false, beq_self_eq_true, goG_undef, hsum]
      refine callH_rc (D1 _ K9) ?_
      intro r new hA
      obtain ⟨Ti, Tf, rfl, -, T0, Tle, nr⟩ := hA.row
      clear hA
      have K10 := Kx new K9
      have R10 := R9.ext new
      obtain ⟨N10, hN10⟩ : ∃ N, N = N9 ++ new := ⟨_, rfl⟩
      have T10 := T0
      rw [← hN10] at T10 K10 R10 ⊢
      clear hN10 nr R9 K9
      clear T0
      simp (config := {implicitDefEqProofs := false, maxDischargeDepth := 20}) (disch := first | omega | (simp only [lenE]; done) | (simp only [lenE]; omega) | rfl | (simp only [lenE, markR_len]; done) | (simp only [lenE, markR_len]; omega)) only [runE, mapE, listE, initT_5, initT_6, initT_7, initT_8, resV, oneV, binA, unA, reduceCtorEq, Nat.reduceEqDiff, Nat.reduceAdd, Nat.reduceLT, Nat.reduceLeDiff, Nat.reduceMul, Nat.reduceSub, ↓reduceIte, decide_true, decide_false, Bool.true_eq_false, Bool.false_eq_true, Bool.not_true, Bool.not_false, if_true, if_false, and_true, true_and, memE, celE, w64, Nat.zero_add, Nat.add_zero, Nat.mul_one, putL, and_self, ldn, kL K10, ext_2_0, ext_2_1, ext_4_0, ext_4_1, ext_4_2, ext_4_3, bne_self_eq_false, beq_self_eq_true, goG_undef, hsum]
      refine callH_rc (D2 _ K10) ?_
      intro r new hA
      obtain ⟨Ui, Uf, rfl, -, U0, Ule, nr⟩ := hA.row
      clear hA
      have K11 := Kx new K10
      have R11 := R10.ext new
      have T11 := T10.ext new
      obtain ⟨N11, hN11⟩ : ∃ N, N = N10 ++ new := ⟨_, rfl⟩
      have U11 := U0
      rw [← hN11] at U11 K11 R11 T11 ⊢
      clear hN11 nr R10 T10 K10
      clear U0
      simp (config := {implicitDefEqProofs := false, maxDischargeDepth := 20}) (disch := first | omega | (simp only [lenE]; done) | (simp only [lenE]; omega) | rfl | (simp only [lenE, markR_len]; done) | (simp only [lenE, markR_len]; omega)) only [runE, mapE, listE, initT_5, initT_6, initT_7, initT_8, resV, oneV, binA, unA, reduceCtorEq, Nat.reduceEqDiff, Nat.reduceAdd, Nat.reduceLT, Nat.reduceLeDiff, Nat.reduceMul, Nat.reduceSub, ↓reduceIte, decide_true, decide_false, Bool.true_eq_false, Bool.false_eq_true, Bool.not_true, Bool.not_false, if_true, if_false, and_true, true_and, memE, celE, w64, Nat.zero_add, Nat.add_zero, Nat.mul_one, putL, and_self, ldn, kL K11, ext_2_0, ext_2_1, ext_4_0, ext_4_1, ext_4_2, ext_4_3, bne_self_eq_false, beq_self_eq_true, goG_undef, hsum]
      refine callH_rc (rInts_rc _ _ _ em (T11.ints (by omega) _) (U11.ints (by omega) _)) ?_
      rintro r new ⟨rfl, rfl⟩
      rw [List.append_nil]
      clear U11
      simp (config := {implicitDefEqProofs := false, maxDischargeDepth := 20}) (disch := first | omega | (simp only [lenE]; done) | (simp only [lenE]; omega) | rfl | (simp only [lenE, markR_len]; done) | (simp only [lenE, markR_len]; omega)) only [runE, mapE, listE, initT_5, initT_6, initT_7, initT_8, resV, oneV, binA, unA, reduceCtorEq, Nat.reduceEqDiff, Nat.reduceAdd, Nat.reduceLT, Nat.reduceLeDiff, Nat.reduceMul, Nat.reduceSub, ↓reduceIte, decide_true, decide_false, Bool.true_eq_false, Bool.false_eq_true, Bool.not_true, Bool.not_false, if_true, if_false, and_true, true_and, memE, celE, w64, Nat.zero_add, Nat.add_zero, Nat.mul_one, putL, and_self, ldn, kL K11, ext_2_0, ext_2_1, ext_4_0, ext_4_1, ext_4_2, ext_4_3, bne_self_eq_false, beq_self_eq_true, goG_undef, hsum]
      refine callH_rc (D3 _ K11) ?_
      intro r new hA
      obtain ⟨Vi, Vf, rfl, -, V0, Vle, nr⟩ := hA.row
      clear hA
      have K12 := Kx new K11
      have R12 := R11.ext new
      have T12 := T11.ext new
      obtain ⟨N12, hN12⟩ : ∃ N, N = N11 ++ new := ⟨_, rfl⟩
      have V12 := V0
      rw [← hN12] at V12 K12 R12 T12 ⊢
      clear hN12 nr R11 T11 K11
      clear V0
      simp (config := {implicitDefEqProofs := false, maxDischargeDepth := 20}) (disch := first | omega | (simp only [lenE]; done) | (simp only [lenE]; omega) | rfl | (simp only [lenE, markR_len]; done) | (simp only [lenE, markR_len]; omega)) only [runE, mapE, listE, initT_5, initT_6, initT_7, initT_8, resV, oneV, binA, unA, reduceCtorEq, Nat.reduceEqDiff, Nat.reduceAdd, Nat.reduceLT, Nat.reduceLeDiff, Nat.reduceMul, Nat.reduceSub, ↓reduceIte, decide_true, decide_false, Bool.true_eq_false, Bool.false_eq_true, Bool.not_true, Bool.not_false, if_true, if_false, and_true, true_and, memE, celE, w64, Nat.zero_add, Nat.add_zero, Nat.mul_one, putL, and_self, ldn, kL K12, ext_2_0, ext_2_1, ext_4_0, ext_4_1, ext_4_2, ext_4_3, bne_self_eq_false, beq_self_eq_true, goG_undef, hsum]
      refine callH_rc (D4 _ K12) ?_
      intro r new hA
      obtain ⟨Wi, Wf, rfl, -, W0, Wle, nr⟩ := hA.row
      clear hA
      have K13 := Kx new K12
      have R13 := R12.ext new
      have T13 := T12.ext new
      have V13 := V12.ext new
      obtain ⟨N13, hN13⟩ : ∃ N, N = N12 ++ new := ⟨_, rfl⟩
      have W13 := W0
      rw [← hN13] at W13 K13 R13 T13 V13 ⊢
      clear hN13 nr R12 T12 V12 K12
      clear W0
      simp (config := {implicitDefEqProofs := false, maxDischargeDepth := 20}) (disch := first | omega | (simp only [lenE]; done) | (simp only [lenE]; omega) | rfl | (simp only [lenE, markR_len]; done) | (simp only [lenE, markR_len]; omega)) only [runE, mapE, listE, initT_5, initT_6, initT_7, initT_8, resV, oneV, binA, unA, reduceCtorEq, Nat.reduceEqDiff, Nat.reduceAdd, Nat.reduceLT, Nat.reduceLeDiff, Nat.reduceMul, Nat.reduceSub, ↓reduceIte, decide_true, decide_false, Bool.true_eq_false, Bool.false_eq_true, Bool.not_true, Bool.not_false, if_true, if_false, and_true, true_and, memE, celE, w64, Nat.zero_add, Nat.add_zero, Nat.mul_one, putL, and_self, ldn, kL K13, ext_2_0, ext_2_1, ext_4_0, ext_4_1, ext_4_2, ext_4_3, bne_self_eq_false, beq_self_eq_true, goG_undef, hsum]
      refine callH_rc (rInts_rc _ _ _ od (V13.ints (by omega) _) (W13.ints (by omega) _)) ?_
      rintro r new ⟨rfl, rfl⟩
      rw [List.append_nil]
      clear W13
      simp (config := {implicitDefEqProofs := false, maxDischargeDepth := 20}) (disch := first | omega | (simp only [lenE]; done) | (simp only [lenE]; omega) | rfl | (simp only [lenE, markR_len]; done) | (simp only [lenE, markR_len]; omega)) only [runE, mapE, listE, initT_5, initT_6, initT_7, initT_8, resV, oneV, binA, unA, reduceCtorEq, Nat.reduceEqDiff, Nat.reduceAdd, Nat.reduceLT, Nat.reduceLeDiff, Nat.reduceMul, Nat.reduceSub, ↓reduceIte, decide_true, decide_false, Bool.true_eq_false, Bool.false_eq_true, Bool.not_true, Bool.not_false, if_true, if_false, and_true, true_and, memE, celE, w64, Nat.zero_add, Nat.add_zero, Nat.mul_one, putL, and_self, ldn, kL K13, ext_2_0, ext_2_1, ext_4_0, ext_4_1, ext_4_2, ext_4_3, bne_self_eq_false, beq_self_eq_true, goG_undef, hsum]
  · rw [h1] at C3 C4 C5
    rw [h2] at C1 C2 C3 C4 C6 C7 C8 C9 D1 D2 D3 D4
    as_aux_lemma =>
      refine callH_rc (C1 _ K0) ?_
      rintro r new ⟨rfl, nr⟩
      have K1 := Kx new K0
      obtain ⟨N1, hN1⟩ : ∃ N, N = M ++ new := ⟨_, rfl⟩
      rw [← hN1] at K1 ⊢
      clear hN1 nr
      simp (config := {implicitDefEqProofs := false, maxDischargeDepth := 20}) (disch := first | omega | (simp only [lenE]; done) | (simp only [lenE]; omega) | rfl | (simp only [lenE, markR_len]; done) | (simp only [lenE, markR_len]; omega)) only [runE, mapE, listE, initT_5, initT_6, initT_7, initT_8, resV, oneV, binA, unA, reduceCtorEq, Nat.reduceEqDiff, Nat.reduceAdd, Nat.reduceLT, Nat.reduceLeDiff, Nat.reduceMul, Nat.reduceSub, ↓reduceIte, decide_true, decide_false, Bool.true_eq_false, Bool.false_eq_true, Bool.not_true, Bool.not_false, if_true, if_false, and_true, true_and, memE, celE, w64, Nat.zero_add, Nat.add_zero, Nat.mul_one, putL, and_self, ldn, kL K1, ext_2_0, ext_2_1, ext_4_0, ext_4_1, ext_4_2, ext_4_3, bne_self_eq_false, beq_self_eq_true, goG_undef, hsum]
      refine callH_rc (C2 _ K1) ?_
      rintro r new ⟨rfl, nr⟩
      have K2 := Kx new K1
      obtain ⟨N2, hN2⟩ : ∃ N, N = N1 ++ new := ⟨_, rfl⟩
      rw [← hN2] at K2 ⊢
      clear hN2 nr K1
      simp (config := {implicitDefEqProofs := false, maxDischargeDepth := 20}) (disch := first | omega | (simp only [lenE]; done) | (simp only [lenE]; omega) | rfl | (simp only [lenE, markR_len]; done) | (simp only [lenE, markR_len]; omega)) only [runE, mapE, listE, initT_5, initT_6, initT_7, initT_8, resV, oneV, binA, unA, reduceCtorEq, Nat.reduceEqDiff, Nat.reduceAdd, Nat.reduceLT, Nat.reduceLeDiff, Nat.reduceMul, Nat.reduceSub, ↓reduceIte, decide_true, decide_false, Bool.true_eq_false, Bool.false_eq_true, Bool.not_true, Bool.not_false, if_true, if_false, and_true, true_and, memE, celE, w64, Nat.zero_add, Nat.add_zero, Nat.mul_one, putL, and_self, ldn, kL K2, ext_2_0, ext_2_1, ext_4_0, ext_4_1, ext_4_2, ext_4_3, bne_self_eq_false, beq_self_eq_true, goG_undef, hsum]
      refine callH_rc (C3 _ K2) ?_
      rintro r new ⟨rfl, nr⟩
      have K3 := Kx new K2
      obtain ⟨N3, hN3⟩ : ∃ N, N = N2 ++ new := ⟨_, rfl⟩
      rw [← hN3] at K3 ⊢
      clear hN3 nr K2
      simp (config := {implicitDefEqProofs := false, maxDischargeDepth := 20}) (disch := first | omega | (simp only [lenE]; done) | (simp only [lenE]; omega) | rfl | (simp only [lenE, markR_len]; done) | (simp only [lenE, markR_len]; omega)) only [runE, mapE, listE, initT_5, initT_6, initT_7, initT_8, resV, oneV, binA, unA, reduceCtorEq, Nat.reduceEqDiff, Nat.reduceAdd, Nat.reduceLT, Nat.reduceLeDiff, Nat.reduceMul, Nat.reduceSub, ↓reduceIte, decide_true, decide_false, Bool.true_eq_false, Bool.false_eq_true, Bool.not_true, Bool.not_false, if_true, if_false, and_true, true_and, memE, celE, w64, Nat.zero_add, Nat.add_zero, Nat.mul_one, putL, and_self, ldn, kL K3, ext_2_0, ext_2_1, ext_4_0, ext_4_1, ext_4_2, ext_4_3, bne_self_eq_false, beq_self_eq_true, goG_undef, hsum]
      refine callH_rc (C4 _ K3) ?_
      rintro r new ⟨rfl, nr⟩
      have K4 := Kx new K3
      obtain ⟨N4, hN4⟩ : ∃ N, N = N3 ++ new := ⟨_, rfl⟩
      rw [← hN4] at K4 ⊢
      clear hN4 nr K3
      simp (config := {implicitDefEqProofs := false, maxDischargeDepth := 20}) (disch := first | omega | (simp only [lenE]; done) | (simp only [lenE]; omega) | rfl | (simp only [lenE, markR_len]; done) | (simp only [lenE, markR_len]; omega)) only [runE, mapE, listE, initT_5, initT_6, initT_7, initT_8, resV, oneV, binA, unA, reduceCtorEq, Nat.reduceEqDiff, Nat.reduceAdd, Nat.reduceLT, Nat.reduceLeDiff, Nat.reduceMul, Nat.reduceSub, ↓reduceIte, decide_true, decide_false, Bool.true_eq_false, Bool.false_eq_true, Bool.not_true, Bool.not_false, if_true, if_false, and_true, true_and, memE, celE, w64, Nat.zero_add, Nat.add_zero, Nat.mul_one, putL, and_self, ldn, kL K4, ext_2_0, ext_2_1, ext_4_0, ext_4_1, ext_4_2, ext_4_3, bne_self_eq_false, beq_self_eq_true, goG_undef, hsum]
      refine callH_rc (C5 _ K4) ?_
      rintro r new ⟨rfl, nr⟩
      have K5 := Kx new K4
      obtain ⟨N5, hN5⟩ : ∃ N, N = N4 ++ new := ⟨_, rfl⟩
      rw [← hN5] at K5 ⊢
      clear hN5 nr K4
      simp (config := {implicitDefEqProofs := false, maxDischargeDepth := 20}) (disch := first | omega | (simp only [lenE]; done) | (simp only [lenE]; omega) | rfl | (simp only [lenE, markR_len]; done) | (simp only [lenE, markR_len]; omega)) only [runE, mapE, listE, initT_5, initT_6, initT_7, initT_8, resV, oneV, binA, unA, reduceCtorEq, Nat.reduceEqDiff, Nat.reduceAdd, Nat.reduceLT, Nat.reduceLeDiff, Nat.reduceMul, Nat.reduceSub, ↓reduceIte, decide_true, decide_false, Bool.true_eq_false, Bool.false_eq_true, Bool.not_true, Bool.not_false, if_true, if_false, and_true, true_and, memE, celE, w64, Nat.zero_add, Nat.add_zero, Nat.mul_one, putL, and_self, ldn, kL K5, ext_2_0, ext_2_1, ext_4_0, ext_4_1, ext_4_2, ext_4_3, bne_self_eq_false, beq_self_eq_true, goG_undef, hsum]
      refine callH_rc (C6 _ K5) ?_
      intro r new hA
      obtain ⟨Ri, Rf, rfl, -, R0, Rle, nr⟩ := hA.row
      clear hA
      have K6 := Kx new K5
      obtain ⟨N6, hN6⟩ : ∃ N, N = N5 ++ new := ⟨_, rfl⟩
      have R6 := R0
      rw [← hN6] at R6 K6 ⊢
      clear hN6 nr K5
      clear R0
      simp (config := {implicitDefEqProofs := false, maxDischargeDepth := 20}) (disch := first | omega | (simp only [lenE]; done) | (simp only [lenE]; omega) | rfl | (simp only [lenE, markR_len]; done) | (simp only [lenE, markR_len]; omega)) only [runE, mapE, listE, initT_5, initT_6, initT_7, initT_8, resV, oneV, binA, unA, reduceCtorEq, Nat.reduceEqDiff, Nat.reduceAdd, Nat.reduceLT, Nat.reduceLeDiff, Nat.reduceMul, Nat.reduceSub, ↓reduceIte, decide_true, decide_false, Bool.true_eq_false, Bool.false_eq_true, Bool.not_true, Bool.not_false, if_true, if_false, and_true, true_and, memE, celE, w64, Nat.zero_add, Nat.add_zero, Nat.mul_one, putL, and_self, ldn, kL K6, ext_2_0, ext_2_1, ext_4_0, ext_4_1, ext_4_2, ext_4_3, bne_self_eq_false, beq_self_eq_true, goG_undef, hsum]
      refine callH_rc (C7 _ K6) ?_
      intro r new hA
      obtain ⟨Si, Sf, rfl, -, S0, Sle, nr⟩ := hA.row
      clear hA
      have K7 := Kx new K6
      have R7 := R6.ext new
      obtain ⟨N7, hN7⟩ : ∃ N, N = N6 ++ new := ⟨_, rfl⟩
      have S7 := S0
      rw [← hN7] at S7 K7 R7 ⊢
      clear hN7 nr R6 K6
      clear S0
      simp (config := {implicitDefEqProofs := false, maxDischargeDepth := 20}) (disch := first | omega | (simp only [lenE]; done) | (simp only [lenE]; omega) | rfl | (simp only [lenE, markR_len]; done) | (simp only [lenE, markR_len]; omega)) only [runE, mapE, listE, initT_5, initT_6, initT_7, initT_8, resV, oneV, binA, unA, reduceCtorEq, Nat.reduceEqDiff, Nat.reduceAdd, Nat.reduceLT, Nat.reduceLeDiff, Nat.reduceMul, Nat.reduceSub, ↓reduceIte, decide_true, decide_false, Bool.true_eq_false, Bool.false_eq_true, Bool.not_true, Bool.not_false, if_true, if_false, and_true, true_and, memE, celE, w64, Nat.zero_add, Nat.add_zero, Nat.mul_one, putL, and_self, ldn, kL K7, ext_2_0, ext_2_1, ext_4_0, ext_4_1, ext_4_2, ext_4_3, bne_self_eq_false, beq_self_eq_true, goG_undef, hsum]
      refine callH_rc (rInts_rc _ _ _ st (R7.ints (by omega) _) (S7.ints (by omega) _)) ?_
      rintro r new ⟨rfl, rfl⟩
      rw [List.append_nil]
      clear S7
      simp (config := {implicitDefEqProofs := false, maxDischargeDepth := 20}) (disch := first | omega | (simp only [lenE]; done) | (simp only [lenE]; omega) | rfl | (simp only [lenE, markR_len]; done) | (simp only [lenE, markR_len]; omega)) only [runE, mapE, listE, initT_5, initT_6, initT_7, initT_8, resV, oneV, binA, unA, reduceCtorEq, Nat.reduceEqDiff, Nat.reduceAdd, Nat.reduceLT, Nat.reduceLeDiff, Nat.reduceMul, Nat.reduceSub, ↓reduceIte, decide_true, decide_false, Bool.true_eq_false, Bool.false_eq_true, Bool.not_true, Bool.not_false, if_true, if_false, and_true, true_and, memE, celE, w64, Nat.zero_add, Nat.add_zero, Nat.mul_one, putL, and_self, ldn, kL K7, ext_2_0, ext_2_1, ext_4_0, ext_4_1, ext_4_2, ext_4_3, bne_self_eq_false, beq_self_eq_true, goG_undef, hsum]
      refine callH_rc (C8 _ K7) ?_
      rintro r new ⟨rfl, nr⟩
      have K8 := Kx new K7
      have R8 := R7.ext new
      obtain ⟨N8, hN8⟩ : ∃ N, N = N7 ++ new := ⟨_, rfl⟩
      rw [← hN8] at K8 R8 ⊢
      clear hN8 nr R7 K7
      simp (config := {implicitDefEqProofs := false, maxDischargeDepth := 20}) (disch := first | omega | (simp only [lenE]; done) | (simp only [lenE]; omega) | rfl | (simp only [lenE, markR_len]; done) | (simp only [lenE, markR_len]; omega)) only [runE, mapE, listE, initT_5, initT_6, initT_7, initT_8, resV, oneV, binA, unA, reduceCtorEq, Nat.reduceEqDiff, Nat.reduceAdd, Nat.reduceLT, Nat.reduceLeDiff, Nat.reduceMul, Nat.reduceSub, ↓reduceIte, decide_true, decide_false, Bool.true_eq_false, Bool.false_eq_true, Bool.not_true, Bool.not_false, if_true, if_false, and_true, true_and, memE, celE, w64, Nat.zero_add, Nat.add_zero, Nat.mul_one, putL, and_self, ldn, kL K8, ext_2_0, ext_2_1, ext_4_0, ext_4_1, ext_4_2, ext_4_3, bne_self_eq_false, beq_self_eq_true, goG_undef, hsum]
      refine callH_rc (C9 _ K8) ?_
      rintro r new ⟨rfl, nr⟩
      have K9 := Kx new K8
      have R9 := R8.ext new
      obtain ⟨N9, hN9⟩ : ∃ N, N = N8 ++ new := ⟨_, rfl⟩
      rw [← hN9] at K9 R9 ⊢
      clear hN9 nr R8 K8
      simp (config := {implicitDefEqProofs := false, maxDischargeDepth := 20}) (disch := first | omega | (simp only [lenE]; done) | (simp only [lenE]; omega) | rfl | (simp only [lenE, markR_len]; done) | (simp only [lenE, markR_len]; omega)) only [runE, mapE, listE, initT_5, initT_6, initT_7, initT_8, resV, oneV, binA, unA, reduceCtorEq, Nat.reduceEqDiff, Nat.reduceAdd, Nat.reduceLT, Nat.reduceLeDiff, Nat.reduceMul, Nat.reduceSub, ↓reduceIte, decide_true, decide_false, Bool.true_eq_false, Bool.false_eq_true, Bool.not_true, Bool.not_false, if_true, if_false, and_true, true_and, memE, celE, w64, Nat.zero_add, Nat.add_zero, Nat.mul_one, putL, and_self, ldn, kL K9, ext_2_0, ext_2_1, ext_4_0, ext_4_1, ext_4_2, ext_4_3, bne_self_eq_false, beq_self_eq_true, goG_undef, hsum]
      refine callH_rc (D1 _ K9) ?_
      intro r new hA
      obtain ⟨Ti, Tf, rfl, -, T0, Tle, nr⟩ := hA.row
      clear hA
      have K10 := Kx new K9
      have R10 := R9.ext new
      obtain ⟨N10, hN10⟩ : ∃ N, N = N9 ++ new := ⟨_, rfl⟩
      have T10 := T0
      rw [← hN10] at T10 K10 R10 ⊢
      clear hN10 nr R9 K9
      clear T0
      simp (config := {implicitDefEqProofs := false, maxDischargeDepth := 20}) (disch := first | omega | (simp only [lenE]; done) | (simp only [lenE]; omega) | rfl | (simp only [lenE, markR_len]; done) | (simp only [lenE, markR_len]; omega)) only [runE, mapE, listE, initT_5, initT_6, initT_7, initT_8, resV, oneV, binA, unA, reduceCtorEq, Nat.reduceEqDiff, Nat.reduceAdd, Nat.reduceLT, Nat.reduceLeDiff, Nat.reduceMul, Nat.reduceSub, ↓reduceIte, decide_true, decide_false, Bool.true_eq_false, Bool.false_eq_true, Bool.not_true, Bool.not_false, if_true, if_false, and_true, true_and, memE, celE, w64, Nat.zero_add, Nat.add_zero, Nat.mul_one, putL, and_self, ldn, kL K10, ext_2_0, ext_2_1, ext_4_0, ext_4_1, ext_4_2, ext_4_3, bne_self_eq_false, beq_self_eq_true, goG_undef, hsum]
      refine callH_rc (D2 _ K10) ?_
      intro r new hA
      obtain ⟨Ui, Uf, rfl, -, U0, Ule, nr⟩ := hA.row
      clear hA
      have K11 := Kx new K10
      have R11 := R10.ext new
      have T11 := T10.ext new
      obtain ⟨N11, hN11⟩ : ∃ N, N = N10 ++ new := ⟨_, rfl⟩
      have U11 := U0
      rw [← hN11] at U11 K11 R11 T11 ⊢
      clear hN11 nr R10 T10 K10
      clear U0
      simp (config := {implicitDefEqProofs := false, maxDischargeDepth := 20}) (disch := first | omega | (simp only [lenE]; done) | (simp only [lenE]; omega) | rfl | (simp only [lenE, markR_len]; done) | (simp only [lenE, markR_len]; omega)) only [runE, mapE, listE, initT_5, initT_6, initT_7, initT_8, resV, oneV, binA, unA, reduceCtorEq, Nat.reduceEqDiff, Nat.reduceAdd, Nat.reduceLT, Nat.reduceLeDiff, Nat.reduceMul, Nat.reduceSub, ↓reduceIte, decide_true, decide_false, Bool.true_eq_false, Bool.false_eq_true, Bool.not_true, Bool.not_false, if_true, if_false, and_true, true_and, memE, celE, w64, Nat.zero_add, Nat.add_zero, Nat.mul_one, putL, and_self, ldn, kL K11, ext_2_0, ext_2_1, ext_4_0, ext_4_1, ext_4_2, ext_4_3, bne_self_eq_false, beq_self_eq_true, goG_undef, hsum]
      refine callH_rc (rInts_rc _ _ _ em (T11.ints (by omega) _) (U11.ints (by omega) _)) ?_
      rintro r new ⟨rfl, rfl⟩
      rw [List.append_nil]
      clear U11
      simp (config := {implicitDefEqProofs := false, maxDischargeDepth := 20}) (disch := first | omega | (simp only [lenE]; done) | (simp only [lenE]; omega) | rfl | (simp only [lenE, markR_len]; done) | (simp only [lenE, markR_len]; omega)) only [runE, mapE, listE, initT_5, initT_6, initT_7, initT_8, resV, oneV, binA, unA, reduceCtorEq, Nat.reduceEqDiff, Nat.reduceAdd, Nat.reduceLT, Nat.reduceLeDiff, Nat.reduceMul, Nat.reduceSub, ↓reduceIte, decide_true, decide_false, Bool.true_eq_false, Bool.false_eq_true, Bool.not_true, Bool.not_false, if_true, if_false, and_true, true_and, memE, celE, w64, Nat.zero_add, Nat.add_zero, Nat.mul_one, putL, and_self, ldn, kL K11, ext_2_0, ext_2_1, ext_4_0, ext_4_1, ext_4_2, ext_4_3, bne_self_eq_false, beq_self_eq_true, goG_undef, hsum]
      refine callH_rc (D3 _ K11) ?_
      intro r new hA
      obtain ⟨Vi, Vf, rfl, -, V0, Vle, nr⟩ := hA.row
      clear hA
      have K12 := Kx new K11
      have R12 := R11.ext new
      have T12 := T11.ext new
      obtain ⟨N12, hN12⟩ : ∃ N, N = N11 ++ new := ⟨_, rfl⟩
      have V12 := V0
      rw [← hN12] at V12 K12 R12 T12 ⊢
      clear hN12 nr R11 T11 K11
      clear V0
      simp (config := {implicitDefEqProofs := false, maxDischargeDepth := 20}) (disch := first | omega | (simp only [lenE]; done) | (simp only [lenE]; omega) | rfl | (simp only [lenE, markR_len]; done) | (simp only [lenE, markR_len]; omega)) only [runE, mapE, listE, initT_5, initT_6, initT_7, initT_8, resV, oneV, binA, unA, reduceCtorEq, Nat.reduceEqDiff, Nat.reduceAdd, Nat.reduceLT, Nat.reduceLeDiff, Nat.reduceMul, Nat.reduceSub, ↓reduceIte, decide_true, decide_false, Bool.true_eq_false, Bool.false_eq_true, Bool.not_true, Bool.not_false, if_true, if_false, and_true, true_and, memE, celE, w64, Nat.zero_add, Nat.add_zero, Nat.mul_one, putL, and_self, ldn, kL K12, ext_2_0, ext_2_1, ext_4_0, ext_4_1, ext_4_2, ext_4_3, bne_self_eq_false, beq_self_eq_true, goG_undef, hsum]
      refine callH_rc (D4 _ K12) ?_
      intro r new hA
      obtain ⟨Wi, Wf, rfl, -, W0, Wle, nr⟩ := hA.row
      clear hA
      have K13 := Kx new K12
      have R13 := R12.ext new
      have T13 := T12.ext new
      have V13 := V12.ext new
      obtain ⟨N13, hN13⟩ : ∃ N, N = N12 ++ new := ⟨_, rfl⟩
      have W13 := W0
      rw [← hN13] at W13 K13 R13 T13 V13 ⊢
      clear hN13 nr R12 T12 V12 K12
      clear W0
      simp (config := {implicitDefEqProofs := false, maxDischargeDepth := 20}) (disch := first | omega | (simp only [lenE]; done) | (simp only [lenE]; omega) | rfl | (simp only [lenE, markR_len]; done) | (simp only [lenE, markR_len]; omega)) only [runE, mapE, listE, initT_5, initT_6, initT_7, initT_8, resV, oneV, binA, unA, reduceCtorEq, Nat.reduceEqDiff, Nat.reduceAdd, Nat.reduceLT, Nat.reduceLeDiff, Nat.reduceMul, Nat.reduceSub, ↓reduceIte, decide_true, decide_false, Bool.true_eq_false, Bool.false_eq_true, Bool.not_true, Bool.not_false, if_true, if_false, and_true, true_and, memE, celE, w64, Nat.zero_add, Nat.add_zero, Nat.mul_one, putL, and_self, ldn, kL K13, ext_2_0, ext_2_1, ext_4_0, ext_4_1, ext_4_2, ext_4_3, bne_self_eq_false, beq_self_eq_true, goG_undef, hsum]
      refine callH_rc (rInts_rc _ _ _ od (V13.ints (by omega) _) (W13.ints (by omega) _)) ?_
      rintro r new ⟨rfl, rfl⟩
      rw [List.append_nil]
      clear W13
      simp (config := {implicitDefEqProofs := false, maxDischargeDepth := 20}) (disch := first | omega | (simp only [lenE]; done) | (simp only [lenE]; omega) | rfl | (simp only [lenE, markR_len]; done) | (simp only [lenE, markR_len]; omega)) only [runE, mapE, listE, initT_5, initT_6, initT_7, initT_8, resV, oneV, binA, unA, reduceCtorEq, Nat.reduceEqDiff, Nat.reduceAdd, Nat.reduceLT, Nat.reduceLeDiff, Nat.reduceMul, Nat.reduceSub, ↓reduceIte, decide_true, decide_false, Bool.true_eq_false, Bool.false_eq_true, Bool.not_true, Bool.not_false, if_true, if_false, and_true, true_and, memE, celE, w64, Nat.zero_add, Nat.add_zero, Nat.mul_one, putL, and_self, ldn, kL K13, ext_2_0, ext_2_1, ext_4_0, ext_4_1, ext_4_2, ext_4_3, bne_self_eq_false, beq_self_eq_true, goG_undef, hsum]
  · rw [h1] at C3 C4 C5
    rw [h2] at C1 C2 C3 C4 C6 C7 C8 C9 D1 D2 D3 D4
    as_aux_lemma =>
      rw [h2] at hok
      obtain ⟨gd, hpl, hpb, hps, hpe⟩ := two_iff.1 hok.symm
      have h8 := gd.n8
      have est : st = stocksL p k.need := by rw [hst]; unfold stocksA; rw [if_pos hok.symm]
      have eem : em = picks (fun x => x == 0) (stocksL p k.need) (stocksL p k.need).length := by rw [hem]; unfold emptyA; rw [if_pos hok.symm]
      have eod : od = picks (fun x => decide (0 < x)) p p.length := by rw [hod]; unfold orderA; rw [if_pos hok.symm]
      have hsl := stocksL_len p k.need
      have hst2 : st.length = p.length := by rw [est, hsl]
      refine callH_rc (C1 _ K0) ?_
      rintro r new ⟨rfl, nr⟩
      have K1 := Kx new K0
      obtain ⟨N1, hN1⟩ : ∃ N, N = M ++ new := ⟨_, rfl⟩
      rw [← hN1] at K1 ⊢
      clear hN1 nr
      simp (config := {implicitDefEqProofs := false, maxDischargeDepth := 20}) (disch := first | omega | (simp only [lenE]; done) | (simp only [lenE]; omega) | rfl | (simp only [lenE, markR_len]; done) | (simp only [lenE, markR_len]; omega)) only [runE, mapE, listE, initT_5, initT_6, initT_7, initT_8, resV, oneV, binA, unA, reduceCtorEq, Nat.reduceEqDiff, Nat.reduceAdd, Nat.reduceLT, Nat.reduceLeDiff, Nat.reduceMul, Nat.reduceSub, ↓reduceIte, decide_true, decide_false, Bool.true_eq_false, Bool.false_eq_true, Bool.not_true, Bool.not_false, if_true, if_false, and_true, true_and, memE, celE, w64, Nat.zero_add, Nat.add_zero, Nat.mul_one, putL, and_self, ldn, kL K1, ext_2_0, ext_2_1, ext_4_0, ext_4_1, ext_4_2, ext_4_3, bne_self_eq_false, beq_self_eq_true, goG_undef, hsum]
      refine callH_rc (C2 _ K1) ?_
      rintro r new ⟨rfl, nr⟩
      have K2 := Kx new K1
      obtain ⟨N2, hN2⟩ : ∃ N, N = N1 ++ new := ⟨_, rfl⟩
      rw [← hN2] at K2 ⊢
      clear hN2 nr K1
      simp (config := {implicitDefEqProofs := false, maxDischargeDepth := 20}) (disch := first | omega | (simp only [lenE]; done) | (simp only [lenE]; omega) | rfl | (simp only [lenE, markR_len]; done) | (simp only [lenE, markR_len]; omega)) only [runE, mapE, listE, initT_5, initT_6, initT_7, initT_8, resV, oneV, binA, unA, reduceCtorEq, Nat.reduceEqDiff, Nat.reduceAdd, Nat.reduceLT, Nat.reduceLeDiff, Nat.reduceMul, Nat.reduceSub, ↓reduceIte, decide_true, decide_false, Bool.true_eq_false, Bool.false_eq_true, Bool.not_true, Bool.not_false, if_true, if_false, and_true, true_and, memE, celE, w64, Nat.zero_add, Nat.add_zero, Nat.mul_one, putL, and_self, ldn, kL K2, ext_2_0, ext_2_1, ext_4_0, ext_4_1, ext_4_2, ext_4_3, bne_self_eq_false, beq_self_eq_true, goG_undef, hsum]
      refine callH_rc (C3 _ K2) ?_
      rintro r new ⟨rfl, nr⟩
      have K3 := Kx new K2
      obtain ⟨N3, hN3⟩ : ∃ N, N = N2 ++ new := ⟨_, rfl⟩
      rw [← hN3] at K3 ⊢
      clear hN3 nr K2
      simp (config := {implicitDefEqProofs := false, maxDischargeDepth := 20}) (disch := first | omega | (simp only [lenE]; done) | (simp only [lenE]; omega) | rfl | (simp only [lenE, markR_len]; done) | (simp only [lenE, markR_len]; omega)) only [runE, mapE, listE, initT_5, initT_6, initT_7, initT_8, resV, oneV, binA, unA, reduceCtorEq, Nat.reduceEqDiff, Nat.reduceAdd, Nat.reduceLT, Nat.reduceLeDiff, Nat.reduceMul, Nat.reduceSub, ↓reduceIte, decide_true, decide_false, Bool.true_eq_false, Bool.false_eq_true, Bool.not_true, Bool.not_false, if_true, if_false, and_true, true_and, memE, celE, w64, Nat.zero_add, Nat.add_zero, Nat.mul_one, putL, and_self, ldn, kL K3, ext_2_0, ext_2_1, ext_4_0, ext_4_1, ext_4_2, ext_4_3, bne_self_eq_false, beq_self_eq_true, goG_undef, hsum]
      refine callH_rc (C4 _ K3) ?_
      rintro r new ⟨rfl, nr⟩
      have K4 := Kx new K3
      obtain ⟨N4, hN4⟩ : ∃ N, N = N3 ++ new := ⟨_, rfl⟩
      rw [← hN4] at K4 ⊢
      clear hN4 nr K3
      simp (config := {implicitDefEqProofs := false, maxDischargeDepth := 20}) (disch := first | omega | (simp only [lenE]; done) | (simp only [lenE]; omega) | rfl | (simp only [lenE, markR_len]; done) | (simp only [lenE, markR_len]; omega)) only [runE, mapE, listE, initT_5, initT_6, initT_7, initT_8, resV, oneV, binA, unA, reduceCtorEq, Nat.reduceEqDiff, Nat.reduceAdd, Nat.reduceLT, Nat.reduceLeDiff, Nat.reduceMul, Nat.reduceSub, ↓reduceIte, decide_true, decide_false, Bool.true_eq_false, Bool.false_eq_true, Bool.not_true, Bool.not_false, if_true, if_false, and_true, true_and, memE, celE, w64, Nat.zero_add, Nat.add_zero, Nat.mul_one, putL, and_self, ldn, kL K4, ext_2_0, ext_2_1, ext_4_0, ext_4_1, ext_4_2, ext_4_3, bne_self_eq_false, beq_self_eq_true, goG_undef, hsum]
      refine callH_rc (C5 _ K4) ?_
      rintro r new ⟨rfl, nr⟩
      have K5 := Kx new K4
      obtain ⟨N5, hN5⟩ : ∃ N, N = N4 ++ new := ⟨_, rfl⟩
      rw [← hN5] at K5 ⊢
      clear hN5 nr K4
      simp (config := {implicitDefEqProofs := false, maxDischargeDepth := 20}) (disch := first | omega | (simp only [lenE]; done) | (simp only [lenE]; omega) | rfl | (simp only [lenE, markR_len]; done) | (simp only [lenE, markR_len]; omega)) only [runE, mapE, listE, initT_5, initT_6, initT_7, initT_8, resV, oneV, binA, unA, reduceCtorEq, Nat.reduceEqDiff, Nat.reduceAdd, Nat.reduceLT, Nat.reduceLeDiff, Nat.reduceMul, Nat.reduceSub, ↓reduceIte, decide_true, decide_false, Bool.true_eq_false, Bool.false_eq_true, Bool.not_true, Bool.not_false, if_true, if_false, and_true, true_and, memE, celE, w64, Nat.zero_add, Nat.add_zero, Nat.mul_one, putL, and_self, ldn, kL K5, ext_2_0, ext_2_1, ext_4_0, ext_4_1, ext_4_2, ext_4_3, bne_self_eq_false, beq_self_eq_true, goG_undef, hsum]
      refine callH_rc (C6 _ K5) ?_
      intro r new hA
      obtain ⟨Ri, Rf, rfl, -, R0, Rle, nr⟩ := hA.row
      clear hA
      have K6 := Kx new K5
      obtain ⟨N6, hN6⟩ : ∃ N, N = N5 ++ new := ⟨_, rfl⟩
      have R6 := R0
      rw [← hN6] at R6 K6 ⊢
      clear hN6 nr K5
      clear R0
      simp (config := {implicitDefEqProofs := false, maxDischargeDepth := 20}) (disch := first | omega | (simp only [lenE]; done) | (simp only [lenE]; omega) | rfl | (simp only [lenE, markR_len]; done) | (simp only [lenE, markR_len]; omega)) only [runE, mapE, listE, initT_5, initT_6, initT_7, initT_8, resV, oneV, binA, unA, reduceCtorEq, Nat.reduceEqDiff, Nat.reduceAdd, Nat.reduceLT, Nat.reduceLeDiff, Nat.reduceMul, Nat.reduceSub, ↓reduceIte, decide_true, decide_false, Bool.true_eq_false, Bool.false_eq_true, Bool.not_true, Bool.not_false, if_true, if_false, and_true, true_and, memE, celE, w64, Nat.zero_add, Nat.add_zero, Nat.mul_one, putL, and_self, ldn, kL K6, ext_2_0, ext_2_1, ext_4_0, ext_4_1, ext_4_2, ext_4_3, bne_self_eq_false, beq_self_eq_true, goG_undef, hsum]
      refine callH_rc (C7 _ K6) ?_
      intro r new hA
      obtain ⟨Si, Sf, rfl, -, S0, Sle, nr⟩ := hA.row
      clear hA
      have K7 := Kx new K6
      have R7 := R6.ext new
      obtain ⟨N7, hN7⟩ : ∃ N, N = N6 ++ new := ⟨_, rfl⟩
      have S7 := S0
      rw [← hN7] at S7 K7 R7 ⊢
      clear hN7 nr R6 K6
      clear S0
      simp (config := {implicitDefEqProofs := false, maxDischargeDepth := 20}) (disch := first | omega | (simp only [lenE]; done) | (simp only [lenE]; omega) | rfl | (simp only [lenE, markR_len]; done) | (simp only [lenE, markR_len]; omega)) only [runE, mapE, listE, initT_5, initT_6, initT_7, initT_8, resV, oneV, binA, unA, reduceCtorEq, Nat.reduceEqDiff, Nat.reduceAdd, Nat.reduceLT, Nat.reduceLeDiff, Nat.reduceMul, Nat.reduceSub, ↓reduceIte, decide_true, decide_false, Bool.true_eq_false, Bool.false_eq_true, Bool.not_true, Bool.not_false, if_true, if_false, and_true, true_and, memE, celE, w64, Nat.zero_add, Nat.add_zero, Nat.mul_one, putL, and_self, ldn, kL K7, ext_2_0, ext_2_1, ext_4_0, ext_4_1, ext_4_2, ext_4_3, bne_self_eq_false, beq_self_eq_true, goG_undef, hsum]
      refine callH_rc (rInts_rc _ _ _ st (R7.ints (by omega) _) (S7.ints (by omega) _)) ?_
      rintro r new ⟨rfl, rfl⟩
      rw [List.append_nil]
      clear S7
      simp (config := {implicitDefEqProofs := false, maxDischargeDepth := 20}) (disch := first | omega | (simp only [lenE]; done) | (simp only [lenE]; omega) | rfl | (simp only [lenE, markR_len]; done) | (simp only [lenE, markR_len]; omega)) only [runE, mapE, listE, initT_5, initT_6, initT_7, initT_8, resV, oneV, binA, unA, reduceCtorEq, Nat.reduceEqDiff, Nat.reduceAdd, Nat.reduceLT, Nat.reduceLeDiff, Nat.reduceMul, Nat.reduceSub, ↓reduceIte, decide_true, decide_false, Bool.true_eq_false, Bool.false_eq_true, Bool.not_true, Bool.not_false, if_true, if_false, and_true, true_and, memE, celE, w64, Nat.zero_add, Nat.add_zero, Nat.mul_one, putL, and_self, ldn, kL K7, ext_2_0, ext_2_1, ext_4_0, ext_4_1, ext_4_2, ext_4_3, bne_self_eq_false, beq_self_eq_true, goG_undef, hsum]
      refine callH_rc (C8 _ K7) ?_
      rintro r new ⟨rfl, nr⟩
      have K8 := Kx new K7
      have R8 := R7.ext new
      obtain ⟨N8, hN8⟩ : ∃ N, N = N7 ++ new := ⟨_, rfl⟩
      rw [← hN8] at K8 R8 ⊢
      clear hN8 nr R7 K7
      simp (config := {implicitDefEqProofs := false, maxDischargeDepth := 20}) (disch := first | omega | (simp only [lenE]; done) | (simp only [lenE]; omega) | rfl | (simp only [lenE, markR_len]; done) | (simp only [lenE, markR_len]; omega)) only [runE, mapE, listE, initT_5, initT_6, initT_7, initT_8, resV, oneV, binA, unA, reduceCtorEq, Nat.reduceEqDiff, Nat.reduceAdd, Nat.reduceLT, Nat.reduceLeDiff, Nat.reduceMul, Nat.reduceSub, ↓reduceIte, decide_true, decide_false, Bool.true_eq_false, Bool.false_eq_true, Bool.not_true, Bool.not_false, if_true, if_false, and_true, true_and, memE, celE, w64, Nat.zero_add, Nat.add_zero, Nat.mul_one, putL, and_self, ldn, kL K8, ext_2_0, ext_2_1, ext_4_0, ext_4_1, ext_4_2, ext_4_3, bne_self_eq_false, beq_self_eq_true, goG_undef, hsum]
      refine callH_rc (C9 _ K8) ?_
      rintro r new ⟨rfl, nr⟩
      have K9 := Kx new K8
      have R9 := R8.ext new
      obtain ⟨N9, hN9⟩ : ∃ N, N = N8 ++ new := ⟨_, rfl⟩
      rw [← hN9] at K9 R9 ⊢
      clear hN9 nr R8 K8
      simp (config := {implicitDefEqProofs := false, maxDischargeDepth := 20}) (disch := first | omega | (simp only [lenE]; done) | (simp only [lenE]; omega) | rfl | (simp only [lenE, markR_len]; done) | (simp only [lenE, markR_len]; omega)) only [runE, mapE, listE, initT_5, initT_6, initT_7, initT_8, resV, oneV, binA, unA, reduceCtorEq, Nat.reduceEqDiff, Nat.reduceAdd, Nat.reduceLT, Nat.reduceLeDiff, Nat.reduceMul, Nat.reduceSub, ↓reduceIte, decide_true, decide_false, Bool.true_eq_false, Bool.false_eq_true, Bool.not_true, Bool.not_false, if_true, if_false, and_true, true_and, memE, celE, w64, Nat.zero_add, Nat.add_zero, Nat.mul_one, putL, and_self, ldn, kL K9, ext_2_0, ext_2_1, ext_4_0, ext_4_1, ext_4_2, ext_4_3, bne_self_eq_false, beq_self_eq_true, goG_undef, hsum]
      refine callH_rc (D1 _ K9) ?_
      intro r new hA
      obtain ⟨Ti, Tf, rfl, -, T0, Tle, nr⟩ := hA.row
      clear hA
      have K10 := Kx new K9
      have R10 := R9.ext new
      obtain ⟨N10, hN10⟩ : ∃ N, N = N9 ++ new := ⟨_, rfl⟩
      have T10 := T0
      rw [← hN10] at T10 K10 R10 ⊢
      clear hN10 nr R9 K9
      clear T0
      simp (config := {implicitDefEqProofs := false, maxDischargeDepth := 20}) (disch := first | omega | (simp only [lenE]; done) | (simp only [lenE]; omega) | rfl | (simp only [lenE, markR_len]; done) | (simp only [lenE, markR_len]; omega)) only [runE, mapE, listE, initT_5, initT_6, initT_7, initT_8, resV, oneV, binA, unA, reduceCtorEq, Nat.reduceEqDiff, Nat.reduceAdd, Nat.reduceLT, Nat.reduceLeDiff, Nat.reduceMul, Nat.reduceSub, ↓reduceIte, decide_true, decide_false, Bool.true_eq_false, Bool.false_eq_true, Bool.not_true, Bool.not_false, if_true, if_false, and_true, true_and, memE, celE, w64, Nat.zero_add, Nat.add_zero, Nat.mul_one, putL, and_self, ldn, kL K10, ext_2_0, ext_2_1, ext_4_0, ext_4_1, ext_4_2, ext_4_3, bne_self_eq_false, beq_self_eq_true, goG_undef, hsum]
      refine callH_rc (D2 _ K10) ?_
      intro r new hA
      obtain ⟨Ui, Uf, rfl, -, U0, Ule, nr⟩ := hA.row
      clear hA
      have K11 := Kx new K10
      have R11 := R10.ext new
      have T11 := T10.ext new
      obtain ⟨N11, hN11⟩ : ∃ N, N = N10 ++ new := ⟨_, rfl⟩
      have U11 := U0
      rw [← hN11] at U11 K11 R11 T11 ⊢
      clear hN11 nr R10 T10 K10
      clear U0
      simp (config := {implicitDefEqProofs := false, maxDischargeDepth := 20}) (disch := first | omega | (simp only [lenE]; done) | (simp only [lenE]; omega) | rfl | (simp only [lenE, markR_len]; done) | (simp only [lenE, markR_len]; omega)) only [runE, mapE, listE, initT_5, initT_6, initT_7, initT_8, resV, oneV, binA, unA, reduceCtorEq, Nat.reduceEqDiff, Nat.reduceAdd, Nat.reduceLT, Nat.reduceLeDiff, Nat.reduceMul, Nat.reduceSub, ↓reduceIte, decide_true, decide_false, Bool.true_eq_false, Bool.false_eq_true, Bool.not_true, Bool.not_false, if_true, if_false, and_true, true_and, memE, celE, w64, Nat.zero_add, Nat.add_zero, Nat.mul_one, putL, and_self, ldn, kL K11, ext_2_0, ext_2_1, ext_4_0, ext_4_1, ext_4_2, ext_4_3, bne_self_eq_false, beq_self_eq_true, goG_undef, hsum]
      refine callH_rc (rInts_rc _ _ _ em (T11.ints (by omega) _) (U11.ints (by omega) _)) ?_
      rintro r new ⟨rfl, rfl⟩
      rw [List.append_nil]
      clear U11
      simp (config := {implicitDefEqProofs := false, maxDischargeDepth := 20}) (disch := first | omega | (simp only [lenE]; done) | (simp only [lenE]; omega) | rfl | (simp only [lenE, markR_len]; done) | (simp only [lenE, markR_len]; omega)) only [runE, mapE, listE, initT_5, initT_6, initT_7, initT_8, resV, oneV, binA, unA, reduceCtorEq, Nat.reduceEqDiff, Nat.reduceAdd, Nat.reduceLT, Nat.reduceLeDiff, Nat.reduceMul, Nat.reduceSub, ↓reduceIte, decide_true, decide_false, Bool.true_eq_false, Bool.false_eq_true, Bool.not_true, Bool.not_false, if_true, if_false, and_true, true_and, memE, celE, w64, Nat.zero_add, Nat.add_zero, Nat.mul_one, putL, and_self, ldn, kL K11, ext_2_0, ext_2_1, ext_4_0, ext_4_1, ext_4_2, ext_4_3, bne_self_eq_false, beq_self_eq_true, goG_undef, hsum]
      refine callH_rc (D3 _ K11) ?_
      intro r new hA
      obtain ⟨Vi, Vf, rfl, -, V0, Vle, nr⟩ := hA.row
      clear hA
      have K12 := Kx new K11
      have R12 := R11.ext new
      have T12 := T11.ext new
      obtain ⟨N12, hN12⟩ : ∃ N, N = N11 ++ new := ⟨_, rfl⟩
      have V12 := V0
      rw [← hN12] at V12 K12 R12 T12 ⊢
      clear hN12 nr R11 T11 K11
      clear V0
      simp (config := {implicitDefEqProofs := false, maxDischargeDepth := 20}) (disch := first | omega | (simp only [lenE]; done) | (simp only [lenE]; omega) | rfl | (simp only [lenE, markR_len]; done) | (simp only [lenE, markR_len]; omega)) only [runE, mapE, listE, initT_5, initT_6, initT_7, initT_8, resV, oneV, binA, unA, reduceCtorEq, Nat.reduceEqDiff, Nat.reduceAdd, Nat.reduceLT, Nat.reduceLeDiff, Nat.reduceMul, Nat.reduceSub, ↓reduceIte, decide_true, decide_false, Bool.true_eq_false, Bool.false_eq_true, Bool.not_true, Bool.not_false, if_true, if_false, and_true, true_and, memE, celE, w64, Nat.zero_add, Nat.add_zero, Nat.mul_one, putL, and_self, ldn, kL K12, ext_2_0, ext_2_1, ext_4_0, ext_4_1, ext_4_2, ext_4_3, bne_self_eq_false, beq_self_eq_true, goG_undef, hsum]
      refine callH_rc (D4 _ K12) ?_
      intro r new hA
      obtain ⟨Wi, Wf, rfl, -, W0, Wle, nr⟩ := hA.row
      clear hA
      have K13 := Kx new K12
      have R13 := R12.ext new
      have T13 := T12.ext new
      have V13 := V12.ext new
      obtain ⟨N13, hN13⟩ : ∃ N, N = N12 ++ new := ⟨_, rfl⟩
      have W13 := W0
      rw [← hN13] at W13 K13 R13 T13 V13 ⊢
      clear hN13 nr R12 T12 V12 K12
      clear W0
      simp (config := {implicitDefEqProofs := false, maxDischargeDepth := 20}) (disch := first | omega | (simp only [lenE]; done) | (simp only [lenE]; omega) | rfl | (simp only [lenE, markR_len]; done) | (simp only [lenE, markR_len]; omega)) only [runE, mapE, listE, initT_5, initT_6, initT_7, initT_8, resV, oneV, binA, unA, reduceCtorEq, Nat.reduceEqDiff, Nat.reduceAdd, Nat.reduceLT, Nat.reduceLeDiff, Nat.reduceMul, Nat.reduceSub, ↓reduceIte, decide_true, decide_false, Bool.true_eq_false, Bool.false_eq_true, Bool.not_true, Bool.not_false, if_true, if_false, and_true, true_and, memE, celE, w64, Nat.zero_add, Nat.add_zero, Nat.mul_one, putL, and_self, ldn, kL K13, ext_2_0, ext_2_1, ext_4_0, ext_4_1, ext_4_2, ext_4_3, bne_self_eq_false, beq_self_eq_true, goG_undef, hsum]
      refine callH_rc (rInts_rc _ _ _ od (V13.ints (by omega) _) (W13.ints (by omega) _)) ?_
      rintro r new ⟨rfl, rfl⟩
      rw [List.append_nil]
      clear W13
      simp (config := {implicitDefEqProofs := false, maxDischargeDepth := 20}) (disch := first | omega | (simp only [lenE]; done) | (simp only [lenE]; omega) | rfl | (simp only [lenE, markR_len]; done) | (simp only [lenE, markR_len]; omega)) only [runE, mapE, listE, initT_5, initT_6, initT_7, initT_8, resV, oneV, binA, unA, reduceCtorEq, Nat.reduceEqDiff, Nat.reduceAdd, Nat.reduceLT, Nat.reduceLeDiff, Nat.reduceMul, Nat.reduceSub, ↓reduceIte, decide_true, decide_false, Bool.true_eq_false, Bool.false_eq_true, Bool.not_true, Bool.not_false, if_true, if_false, and_true, true_and, memE, celE, w64, Nat.zero_add, Nat.add_zero, Nat.mul_one, putL, and_self, ldn, kL K13, ext_2_0, ext_2_1, ext_4_0, ext_4_1, ext_4_2, ext_4_3, bne_self_eq_false, beq_self_eq_true, goG_undef, hsum]
      refine loop_inv mixed (fun s => ∃ (j : Nat) (M : Mem), j ≤ p.length ∧ s.m = M ∧ K M ∧ OwnR M Ri st ∧ OwnR M Ti em ∧ OwnR M Vi od ∧ s.t 3 = .pointer (some ⟨bd, 0, none⟩) ∧ s.t 4 = .slice (some ⟨pd, 0, none⟩) p.length 1 ∧ s.t 13 = .slice (some ⟨Ri, 0, none⟩) st.length Rf ∧ s.t 25 = .slice (some ⟨Ti, 0, none⟩) em.length Tf ∧ s.t 29 = .slice (some ⟨Vi, 0, none⟩) od.length Vf ∧ s.t 33 = .int .i64 (nowK p k.need j) ∧ s.t 34 = .int .i64 j) (fun s => p.length - (intOf (s.t 34)).toNat)
        ⟨0, _, by omega, rfl, K13, R13, T13, V13, rfl, rfl, rfl, rfl, rfl, rfl, rfl⟩ ?_
      rintro s ⟨j, M', hj, tm, KM, RM, TM, VM, t3, t4, t13, t25, t29, t33, t34⟩
      by_cases hlt : j < p.length
      · have hlt' : (j : Int) < p.length := by omega
        have hp := kP KM
        have hn := kN KM
        have hr := RM.ints (by omega) Rf
        have b1 := nowK_in hpb gd.need h8 j (by omega) (by omega)
        have b2 := getD_in hpb hlt
        have b3 := getD_in gd.need (k := j) (by omega)
        have b4 := nowK_s (plan := p) (need := k.need) hlt (by omega)
        have b5 := hps j hlt
        rw [stk_now] at b5
        have ev : st.getD j 0 = nowK p k.need (j + 1) := by rw [est, stocksL_at hlt, stk_now]
        have hr4 := hr.ld j (by omega)
        rw [ev, b4] at hr4
        have hnn : ¬ (nowK p k.need j + p.getD j 0 - k.need.getD j 0 < 0) := by omega
        have me : decide ((j : Int) ∈ em) = (nowK p k.need j + p.getD j 0 - k.need.getD j 0 == 0) := by
          rw [eem, ← b4, ← stk_now, ← stocksL_at hlt]
          cases hz : ((stocksL p k.need).getD j 0 == 0) with
          | true => rw [decide_eq_true]; exact (picks_mem _ _ _ _).2 ⟨by omega, hz⟩
          | false =>
            rw [decide_eq_false]
            intro hm
            have := ((picks_mem _ _ _ _).1 hm).2
            rw [hz] at this
            cases this
        have mo : decide ((j : Int) ∈ od) = decide (0 < p.getD j 0) := by
          rw [eod]
          by_cases hz : 0 < p.getD j 0
          · rw [decide_eq_true, decide_eq_true hz]
            exact (picks_mem _ _ _ _).2 ⟨hlt, by simpa using hz⟩
          · rw [decide_eq_false, decide_eq_false hz]
            intro hm
            have := ((picks_mem _ _ _ _).1 hm).2
            simp only [decide_eq_true_eq] at this
            exact hz this
        simp (config := {implicitDefEqProofs := false, maxDischargeDepth := 20}) (disch := first | omega | (simp only [lenE]; done) | (simp only [lenE]; omega) | rfl | (simp only [lenE, markR_len]; done) | (simp only [lenE, markR_len]; omega)) only [runE, mapE, listE, initT_5, initT_6, initT_7, initT_8, resV, oneV, binA, unA, reduceCtorEq, Nat.reduceEqDiff, Nat.reduceAdd, Nat.reduceLT, Nat.reduceLeDiff, Nat.reduceMul, Nat.reduceSub, ↓reduceIte, decide_true, decide_false, Bool.true_eq_false, Bool.false_eq_true, Bool.not_true, Bool.not_false, if_true, if_false, and_true, true_and, memE, celE, w64, Nat.zero_add, Nat.add_zero, Nat.mul_one, putL, and_self, ldn, tm, t3, t4, t13, t25, t29, t33, t34, hp.len, hp.at_ j hlt, hp.ld j hlt, k0 KM, hn.at_ j (by omega), hn.ld j (by omega), hr.at_ j (by omega), hr4, bne_self_eq_false, hnn, hlt']
        refine rcallH_rc (rHas_rc _ _ em _ (TM.ints (by omega) Tf)) ?_
        rintro r new ⟨rfl, rfl⟩
        rw [List.append_nil, me]
        simp (config := {implicitDefEqProofs := false, maxDischargeDepth := 20}) (disch := first | omega | (simp only [lenE]; done) | (simp only [lenE]; omega) | rfl | (simp only [lenE, markR_len]; done) | (simp only [lenE, markR_len]; omega)) only [runE, mapE, listE, initT_5, initT_6, initT_7, initT_8, resV, oneV, binA, unA, reduceCtorEq, Nat.reduceEqDiff, Nat.reduceAdd, Nat.reduceLT, Nat.reduceLeDiff, Nat.reduceMul, Nat.reduceSub, ↓reduceIte, decide_true, decide_false, Bool.true_eq_false, Bool.false_eq_true, Bool.not_true, Bool.not_false, if_true, if_false, and_true, true_and, memE, celE, w64, Nat.zero_add, Nat.add_zero, Nat.mul_one, putL, and_self, ldn, tm, t3, t4, t13, t25, t29, t33, t34, hp.at_ j hlt, hp.ld j hlt, bne_self_eq_false, beq_self_eq_true, Bool.not_true, gt_iff_lt]
        refine rcallH_rc (rHas_rc _ _ od _ (VM.ints (by omega) Vf)) ?_
        rintro r new ⟨rfl, rfl⟩
        rw [List.append_nil, mo]
        simp (config := {implicitDefEqProofs := false, maxDischargeDepth := 20}) (disch := first | omega | (simp only [lenE]; done) | (simp only [lenE]; omega) | rfl | (simp only [lenE, markR_len]; done) | (simp only [lenE, markR_len]; omega)) only [runE, mapE, listE, initT_5, initT_6, initT_7, initT_8, resV, oneV, binA, unA, reduceCtorEq, Nat.reduceEqDiff, Nat.reduceAdd, Nat.reduceLT, Nat.reduceLeDiff, Nat.reduceMul, Nat.reduceSub, ↓reduceIte, decide_true, decide_false, Bool.true_eq_false, Bool.false_eq_true, Bool.not_true, Bool.not_false, if_true, if_false, and_true, true_and, memE, celE, w64, Nat.zero_add, Nat.add_zero, Nat.mul_one, putL, and_self, ldn, tm, t3, t4, t13, t25, t29, t33, t34, hp.at_ j hlt, hp.ld j hlt, bne_self_eq_false, beq_self_eq_true, Bool.not_true, gt_iff_lt]
        exact ⟨⟨j + 1, _, by omega, rfl, KM, RM, TM, VM, by rw [b4], by simp⟩, by simp [intOf]; omega⟩
      · have hlt' : ¬ ((j : Int) < p.length) := by omega
        have ej : j = p.length := by omega
        have hz : (nowK p k.need j == 0) = true := by
          rw [ej]; unfold nowK; rw [beq_iff_eq]; omega
        simp (config := {implicitDefEqProofs := false, maxDischargeDepth := 20}) (disch := first | omega | (simp only [lenE]; done) | (simp only [lenE]; omega) | rfl | (simp only [lenE, markR_len]; done) | (simp only [lenE, markR_len]; omega)) only [runE, mapE, listE, initT_5, initT_6, initT_7, initT_8, resV, oneV, binA, unA, reduceCtorEq, Nat.reduceEqDiff, Nat.reduceAdd, Nat.reduceLT, Nat.reduceLeDiff, Nat.reduceMul, Nat.reduceSub, ↓reduceIte, decide_true, decide_false, Bool.true_eq_false, Bool.false_eq_true, Bool.not_true, Bool.not_false, if_true, if_false, and_true, true_and, memE, celE, w64, Nat.zero_add, Nat.add_zero, Nat.mul_one, putL, and_self, ldn, tm, t3, t4, t13, t25, t29, t33, t34, hlt', hz]
end Go.Proofs.Ytfjpickejgbmaaa.Ab
