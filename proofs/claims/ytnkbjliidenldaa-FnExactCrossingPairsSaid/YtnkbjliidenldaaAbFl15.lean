/- Pairs of parcels that cross: the specification. -/
import Derived.Test.YtnkbjliidenldaaAbFl14
namespace Go.Proofs.Ytnkbjliidenldaa.Ab
open Go Go.RowKit
set_option linter.unusedVariables false
set_option linter.unusedSimpArgs false

theorem xAll_first {L : List Pc} (h : GoodL L) {i : Nat} (hi : i < L.length) : xAll L i (i + 1) = xTo L i := by
  unfold xAll; rw [xIn_first h hi, List.append_nil]
set_option maxHeartbeats 4000000 in
theorem specCrossing_rc (m : Mem) (v : Value) (L : List Pc) (h : PcsA m v L) : RC Try.prog 56 [v] m (AnsO m (PairsO 117 (crossA L)) fun v => .tuple #[v, .bool (parB L)]) := by
  refine rc_of_run mixed ok_spec_CrossingPairs (by simp) (go_start _ _ _ ?_)
  have hX0 : Ext m (roM m ++ [⟨.own, 117, []⟩]) := (Ext.refl m).one _ _
  simp (config := {implicitDefEqProofs := false, maxDischargeDepth := 20}) (disch := first | omega | (simp only [lenE]; done) | (simp only [lenE]; omega) | rfl | (simp only [lenE, markR_len]; done) | (simp only [lenE, markR_len]; omega)) only [runE, mapE, listE, initT_5, initT_6, initT_7, initT_8, resV, oneV, binA, unA, reduceCtorEq, Nat.reduceEqDiff, Nat.reduceAdd, Nat.reduceLT, Nat.reduceLeDiff, Nat.reduceMul, Nat.reduceSub, ↓reduceIte, decide_true, decide_false, Bool.true_eq_false, Bool.false_eq_true, Bool.not_true, Bool.not_false, if_true, if_false, and_true, true_and, memE, celE, w64, Nat.zero_add, Nat.add_zero, Nat.mul_one, putL, and_self, ldn, c_spec_CrossingPairs, r_spec_CrossingPairs, bsl_no]
  refine callH_rc (l11Parcels_rc _ v L (hX0.keeps.pcs h)) ?_
  rintro r n1 ⟨rfl, hn1⟩
  have o0 : OwnB (roM m ++ [⟨.own, 117, []⟩] ++ n1) m.length 117 (pairsC []) := (OwnB.here (roM_len m).symm).ext _
  have hX := hX0.app hn1
  obtain ⟨E0, hE0⟩ : ∃ E0, E0 = roM m ++ [⟨.own, 117, []⟩] ++ n1 := ⟨_, rfl⟩
  rw [← hE0] at hX o0 ⊢
  clear hE0 hX0
  unfold crossA
  cases hp : parB L with
  | false =>
    simp (config := {implicitDefEqProofs := false, maxDischargeDepth := 20}) (disch := first | omega | (simp only [lenE]; done) | (simp only [lenE]; omega) | rfl | (simp only [lenE, markR_len]; done) | (simp only [lenE, markR_len]; omega)) only [runE, mapE, listE, initT_5, initT_6, initT_7, initT_8, resV, oneV, binA, unA, reduceCtorEq, Nat.reduceEqDiff, Nat.reduceAdd, Nat.reduceLT, Nat.reduceLeDiff, Nat.reduceMul, Nat.reduceSub, ↓reduceIte, decide_true, decide_false, Bool.true_eq_false, Bool.false_eq_true, Bool.not_true, Bool.not_false, if_true, if_false, and_true, true_and, memE, celE, w64, Nat.zero_add, Nat.add_zero, Nat.mul_one, putL, and_self, ldn]
    exact ext_pairsX (f := fun v => .tuple #[v, .bool false]) hX o0 (Nat.le_refl _) rfl (by simp)
  | true =>
  have hG := parB_iff.1 hp
  have hlen := hG.len
  have hl := h.len
  simp (config := {implicitDefEqProofs := false, maxDischargeDepth := 20}) (disch := first | omega | (simp only [lenE]; done) | (simp only [lenE]; omega) | rfl | (simp only [lenE, markR_len]; done) | (simp only [lenE, markR_len]; omega)) only [runE, mapE, listE, initT_5, initT_6, initT_7, initT_8, resV, oneV, binA, unA, reduceCtorEq, Nat.reduceEqDiff, Nat.reduceAdd, Nat.reduceLT, Nat.reduceLeDiff, Nat.reduceMul, Nat.reduceSub, ↓reduceIte, decide_true, decide_false, Bool.true_eq_false, Bool.false_eq_true, Bool.not_true, Bool.not_false, if_true, if_false, and_true, true_and, memE, celE, w64, Nat.zero_add, Nat.add_zero, Nat.mul_one, putL, and_self, ldn, hl]
  refine loop_inv mixed (fun s => ∃ (i : Nat) (M : Mem) (id : Nat), i ≤ L.length ∧ s.m = M ∧ Ext m M ∧ m.length ≤ id ∧ OwnB M id 117 (pairsC (xTo L i)) ∧ s.t 0 = v ∧ s.t 4 = .slice (some ⟨id, 0, none⟩) (xTo L i).length 2 ∧ s.t 5 = .int .i64 i) (fun s => L.length - (intOf (s.t 5)).toNat)
    ⟨0, _, _, by omega, rfl, hX, Nat.le_refl _, o0, rfl, rfl, rfl⟩ ?_
  rintro s ⟨i, M, id, hi, tm, hx, hid, ho, t0, t4, t5⟩
  by_cases hlt : i < L.length
  · have hlt' : (i : Int) < L.length := by omega
    obtain ⟨p, hpp⟩ : ∃ p, p = L.getD i Pc0 := ⟨_, rfl⟩
    have hgp : GoodP11 p := hpp ▸ hG.all i hlt
    simp (config := {implicitDefEqProofs := false, maxDischargeDepth := 20}) (disch := first | omega | (simp only [lenE]; done) | (simp only [lenE]; omega) | rfl | (simp only [lenE, markR_len]; done) | (simp only [lenE, markR_len]; omega)) only [runE, mapE, listE, initT_5, initT_6, initT_7, initT_8, resV, oneV, binA, unA, reduceCtorEq, Nat.reduceEqDiff, Nat.reduceAdd, Nat.reduceLT, Nat.reduceLeDiff, Nat.reduceMul, Nat.reduceSub, ↓reduceIte, decide_true, decide_false, Bool.true_eq_false, Bool.false_eq_true, Bool.not_true, Bool.not_false, if_true, if_false, and_true, true_and, memE, celE, w64, Nat.zero_add, Nat.add_zero, Nat.mul_one, putL, and_self, ldn, tm, t0, t4, t5, hlt', hl]
    refine loop_inv mixed (fun s => ∃ (j : Nat) (M : Mem) (id : Nat), j ≤ L.length ∧ i + 1 ≤ j ∧ s.m = M ∧ Ext m M ∧ m.length ≤ id ∧ OwnB M id 117 (pairsC (xAll L i j)) ∧ s.t 0 = v ∧ s.t 4 = .slice (some ⟨id, 0, none⟩) (xAll L i j).length 2 ∧ s.t 5 = .int .i64 i ∧ s.t 6 = .int .i64 j) (fun s => L.length - (intOf (s.t 6)).toNat)
      ⟨i + 1, M, id, by omega, by omega, by simp only [put_t, put_t', put_m, putT_t, putT_t', putT_m, init_t, init_m, initT_0, initT_1, initT_2, initT_3, initT_4, initT_5, initT_6, initT_7, initT_8, Nat.reduceEqDiff, ↓reduceIte, tm], hx, hid, by rw [xAll_first hG hlt]; exact ho, by simp only [put_t, put_t', put_m, putT_t, putT_t', putT_m, init_t, init_m, initT_0, initT_1, initT_2, initT_3, initT_4, initT_5, initT_6, initT_7, initT_8, Nat.reduceEqDiff, ↓reduceIte, t0], by simp only [put_t, put_t', put_m, putT_t, putT_t', putT_m, init_t, init_m, initT_0, initT_1, initT_2, initT_3, initT_4, initT_5, initT_6, initT_7, initT_8, Nat.reduceEqDiff, ↓reduceIte, t4]; rw [xAll_first hG hlt], by simp only [put_t, put_t', put_m, putT_t, putT_t', putT_m, init_t, init_m, initT_0, initT_1, initT_2, initT_3, initT_4, initT_5, initT_6, initT_7, initT_8, Nat.reduceEqDiff, ↓reduceIte, t5], by simp only [put_t, put_t', put_m, putT_t, putT_t', putT_m, init_t, init_m, initT_0, initT_1, initT_2, initT_3, initT_4, initT_5, initT_6, initT_7, initT_8, Nat.reduceEqDiff, ↓reduceIte]; simp⟩ ?_
    clear tm t0 t4 t5 ho hx
    rintro s ⟨j, M, id, hj, hij, tm, hx, hid, ho, t0, t4, t5, t6⟩
    by_cases hlj : j < L.length
    · have hlj' : (j : Int) < L.length := by omega
      have hM := hx.keeps.pcs h
      obtain ⟨q, hqq⟩ : ∃ q, q = L.getD j Pc0 := ⟨_, rfl⟩
      have hgq : GoodP11 q := hqq ▸ hG.all j hlj
      have gd := hgp.day
      have gl := hgp.lead
      have gd2 := hgq.day
      have gl2 := hgq.lead
      have i1 := hM.at_ hlt
      have i2 := hM.ld hlt
      rw [← hpp] at i2
      have i3 := hM.at_ hlj
      have i4 := hM.ld hlj
      rw [← hqq] at i4
      have hbd := xAll_bd hG hi hj
      have estep : xAll L i (j + 1) = xAll L i j ++ (if crossB p q = true then [((i : Int), (j : Int))] else []) := by rw [hpp, hqq]; exact xAll_s L i j
      have x2 : ∀ new, ldA (M ++ new) (some 3) (pPc v i) = some (pcV p) := fun new => by rw [hpp]; exact (hM.ext new).ld hlt
      have x4 : ∀ new, ldA (M ++ new) (some 3) (pPc v j) = some (pcV q) := fun new => by rw [hqq]; exact (hM.ext new).ld hlj
      have y2 : ∀ a b, ldA (M ++ a ++ b) (some 3) (pPc v i) = some (pcV p) := fun a b => by rw [List.append_assoc]; exact x2 _
      have y4 : ∀ a b, ldA (M ++ a ++ b) (some 3) (pPc v j) = some (pcV q) := fun a b => by rw [List.append_assoc]; exact x4 _
      have mk : ∀ (a b : Pc), Ext m (M ++ [⟨.own, 113, [.int .i64 a.day, .int .i64 a.amount, .int .i64 a.lead]⟩] ++ [⟨.own, 113, [.int .i64 b.day, .int .i64 b.amount, .int .i64 b.lead]⟩]) := fun a b => (hx.one _ _).one _ _
      cases hc : crossB p q with
      | false =>
        rw [hc] at estep
        simp only [Bool.false_eq_true, if_false, List.append_nil] at estep
        by_cases c1 : p.day < q.day
        · have c2 : ¬ (q.day + q.lead < p.day + p.lead) := by
            intro c2; simp [crossB, c1, c2] at hc
          simp (config := {implicitDefEqProofs := false, maxDischargeDepth := 20}) (disch := first | omega | (simp only [lenE]; done) | (simp only [lenE]; omega) | rfl | (simp only [lenE, markR_len]; done) | (simp only [lenE, markR_len]; omega)) only [runE, mapE, listE, initT_5, initT_6, initT_7, initT_8, resV, oneV, binA, unA, reduceCtorEq, Nat.reduceEqDiff, Nat.reduceAdd, Nat.reduceLT, Nat.reduceLeDiff, Nat.reduceMul, Nat.reduceSub, ↓reduceIte, decide_true, decide_false, Bool.true_eq_false, Bool.false_eq_true, Bool.not_true, Bool.not_false, if_true, if_false, and_true, true_and, memE, celE, w64, Nat.zero_add, Nat.add_zero, Nat.mul_one, putL, and_self, ldn, tm, t0, t4, t5, t6, hlj', hl, i1, i2, i3, i4, x2, x4, y2, y4, pcV, stP_agg3p, c1, c2, gt_iff_lt]
          refine ⟨?_, ?_⟩
          all_goals
            refine ⟨⟨j + 1, _, id, by omega, by omega, rfl, (hx.one _ _).one _ _, hid, by rw [estep]; exact (ho.ext _).ext _, by rw [estep], by simp⟩, ?_⟩
            simp [intOf]; omega
        · simp (config := {implicitDefEqProofs := false, maxDischargeDepth := 20}) (disch := first | omega | (simp only [lenE]; done) | (simp only [lenE]; omega) | rfl | (simp only [lenE, markR_len]; done) | (simp only [lenE, markR_len]; omega)) only [runE, mapE, listE, initT_5, initT_6, initT_7, initT_8, resV, oneV, binA, unA, reduceCtorEq, Nat.reduceEqDiff, Nat.reduceAdd, Nat.reduceLT, Nat.reduceLeDiff, Nat.reduceMul, Nat.reduceSub, ↓reduceIte, decide_true, decide_false, Bool.true_eq_false, Bool.false_eq_true, Bool.not_true, Bool.not_false, if_true, if_false, and_true, true_and, memE, celE, w64, Nat.zero_add, Nat.add_zero, Nat.mul_one, putL, and_self, ldn, tm, t0, t4, t5, t6, hlj', hl, i1, i2, i3, i4, x2, x4, y2, y4, pcV, stP_agg3p, c1]
          refine ⟨?_, ?_⟩
          all_goals
            refine ⟨⟨j + 1, _, id, by omega, by omega, rfl, (hx.one _ _).one _ _, hid, by rw [estep]; exact (ho.ext _).ext _, by rw [estep], by simp⟩, ?_⟩
            simp [intOf]; omega
      | true =>
        rw [hc] at estep
        simp only [if_true] at estep
        have hcc : p.day < q.day ∧ q.day + q.lead < p.day + p.lead := by
          unfold crossB at hc; simpa using hc
        have happ : ∀ a b : Pc, _ := fun a b => app_back (M := M ++ [⟨.own, 113, [.int .i64 a.day, .int .i64 a.amount, .int .i64 a.lead]⟩] ++ [⟨.own, 113, [.int .i64 b.day, .int .i64 b.amount, .int .i64 b.lead]⟩]) (id2 := M.length + 1 + 1) (e := 117) (sz := 2) (byt := 16) (n := (xAll L i j).length) (ys := [.int .i64 (i : Int), .int .i64 (j : Int)]) ((ho.ext _).ext _) (by simp) (by rw [pairsC_len]) rfl rfl (by omega) (by omega)
        simp (config := {implicitDefEqProofs := false, maxDischargeDepth := 20}) (disch := first | omega | (simp only [lenE]; done) | (simp only [lenE]; omega) | rfl | (simp only [lenE, markR_len]; done) | (simp only [lenE, markR_len]; omega)) only [runE, mapE, listE, initT_5, initT_6, initT_7, initT_8, resV, oneV, binA, unA, reduceCtorEq, Nat.reduceEqDiff, Nat.reduceAdd, Nat.reduceLT, Nat.reduceLeDiff, Nat.reduceMul, Nat.reduceSub, ↓reduceIte, decide_true, decide_false, Bool.true_eq_false, Bool.false_eq_true, Bool.not_true, Bool.not_false, if_true, if_false, and_true, true_and, memE, celE, w64, Nat.zero_add, Nat.add_zero, Nat.mul_one, putL, and_self, ldn, tm, t0, t4, t5, t6, hlj', hl, i1, i2, i3, i4, x2, x4, y2, y4, pcV, stP_agg3p, hcc.1, hcc.2, gt_iff_lt, bld_pairX, bsl_pair, happ p q, happ q p]
        have hll := hx.len
        refine ⟨?_, ?_⟩
        all_goals
          refine ⟨⟨j + 1, _, M.length + 1 + 1 + 1, by omega, by omega, rfl, ((((hx.one _ _).one _ _).dead hid).one _ _).one _ _, by omega, ?_, ?_, by simp⟩, ?_⟩
          · rw [estep, pairsC_sX]
            exact OwnB.here (by simp)
          · rw [estep]; simp
          · simp [intOf]; omega
    · have hlj' : ¬ ((j : Int) < L.length) := by omega
      obtain rfl : j = L.length := by omega
      simp (config := {implicitDefEqProofs := false, maxDischargeDepth := 20}) (disch := first | omega | (simp only [lenE]; done) | (simp only [lenE]; omega) | rfl | (simp only [lenE, markR_len]; done) | (simp only [lenE, markR_len]; omega)) only [runE, mapE, listE, initT_5, initT_6, initT_7, initT_8, resV, oneV, binA, unA, reduceCtorEq, Nat.reduceEqDiff, Nat.reduceAdd, Nat.reduceLT, Nat.reduceLeDiff, Nat.reduceMul, Nat.reduceSub, ↓reduceIte, decide_true, decide_false, Bool.true_eq_false, Bool.false_eq_true, Bool.not_true, Bool.not_false, if_true, if_false, and_true, true_and, memE, celE, w64, Nat.zero_add, Nat.add_zero, Nat.mul_one, putL, and_self, ldn, tm, t0, t4, t5, t6, hlj', hl]
      rw [xAll_end] at ho
      refine ⟨⟨i + 1, _, id, by omega, rfl, hx, hid, ho, by rw [xAll_end], by simp⟩, ?_⟩
      simp [intOf]; omega
  · have hlt' : ¬ ((i : Int) < L.length) := by omega
    obtain rfl : i = L.length := by omega
    simp (config := {implicitDefEqProofs := false, maxDischargeDepth := 20}) (disch := first | omega | (simp only [lenE]; done) | (simp only [lenE]; omega) | rfl | (simp only [lenE, markR_len]; done) | (simp only [lenE, markR_len]; omega)) only [runE, mapE, listE, initT_5, initT_6, initT_7, initT_8, resV, oneV, binA, unA, reduceCtorEq, Nat.reduceEqDiff, Nat.reduceAdd, Nat.reduceLT, Nat.reduceLeDiff, Nat.reduceMul, Nat.reduceSub, ↓reduceIte, decide_true, decide_false, Bool.true_eq_false, Bool.false_eq_true, Bool.not_true, Bool.not_false, if_true, if_false, and_true, true_and, memE, celE, w64, Nat.zero_add, Nat.add_zero, Nat.mul_one, putL, and_self, ldn, tm, t0, t4, t5, hlt', hl]
    exact ext_pairsX (f := fun v => .tuple #[v, .bool true]) hx ho hid rfl (by have := xTo_bd hG (Nat.le_refl L.length); omega)
end Go.Proofs.Ytnkbjliidenldaa.Ab
