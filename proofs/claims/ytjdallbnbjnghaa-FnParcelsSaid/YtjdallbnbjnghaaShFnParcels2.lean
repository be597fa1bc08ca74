/- What the law needs of the texts that it rests on. -/
import Derived.Test.YtjdallbnbjnghaaShFnParcels1
section
namespace Go.Proofs.Ytjdallbnbjnghaa.Ab
open Go Go.RowKit
set_option linter.unusedVariables false
set_option linter.unusedSimpArgs false
theorem xAll_first {L : List Pc} (h : GoodL L) {i : Nat} (hi : i < L.length) : xAll L i (i + 1) = xTo L i := by
  unfold xAll; rw [xIn_first h hi, List.append_nil]
set_option maxHeartbeats 4000000 in
theorem specCrossing_rc (m : Mem) (v : Value) (L : List Pc) (h : PcsA m v L) : RC Try.prog 42 [v] m (AnsO m (PairsO 124 (crossA L)) fun v => .tuple #[v, .bool (parB L)]) := by
  refine rc_of_run mixed ok_spec_CrossingPairs (by simp) (go_start _ _ _ ?_)
  have hX0 : Ext m (roM m ++ [⟨.own, 124, []⟩]) := (Ext.refl m).one _ _
  simp (config := {implicitDefEqProofs := false, maxDischargeDepth := 20}) (disch := first | omega | (simp only [lenE]; done) | (simp only [lenE]; omega) | rfl | (simp only [lenE, markR_len]; done) | (simp only [lenE, markR_len]; omega)) only [runE, mapE, listE, initT_5, initT_6, initT_7, initT_8, resV, oneV, binA, unA, reduceCtorEq, Nat.reduceEqDiff, Nat.reduceAdd, Nat.reduceLT, Nat.reduceLeDiff, Nat.reduceMul, Nat.reduceSub, ↓reduceIte, decide_true, decide_false, Bool.true_eq_false, Bool.false_eq_true, Bool.not_true, Bool.not_false, if_true, if_false, and_true, true_and, memE, celE, w64, Nat.zero_add, Nat.add_zero, Nat.mul_one, putL, and_self, ldn, c_spec_CrossingPairs, r_spec_CrossingPairs, bsl_no]
  refine callH_rc (l11Parcels_rc _ v L (hX0.keeps.pcs h)) ?_
  rintro r n1 ⟨rfl, hn1⟩
  have o0 : OwnB (roM m ++ [⟨.own, 124, []⟩] ++ n1) m.length 124 (pairsC []) := (OwnB.here (roM_len m).symm).ext _
  have hX := hX0.app hn1
  obtain ⟨E0, hE0⟩ : ∃ E0, E0 = roM m ++ [⟨.own, 124, []⟩] ++ n1 := ⟨_, rfl⟩
  rw [← hE0] at hX o0 ⊢
  clear hE0 hX0
  unfold crossA
  cases hp : parB L with
  | false =>
    simp (config := {implicitDefEqProofs := false, maxDischargeDepth := 20}) (disch := first | omega | (simp only [lenE]; done) | (simp only [lenE]; omega) | rfl | (simp only [lenE, markR_len]; done) | (simp only [lenE, markR_len]; omega)) only [runE, mapE, listE, initT_5, initT_6, initT_7, initT_8, resV, oneV, binA, unA, reduceCtorEq, Nat.reduceEqDiff, Nat.reduceAdd, Nat.reduceLT, Nat.reduceLeDiff, Nat.reduceMul, Nat.reduceSub, ↓reduceIte, decide_true, decide_false, Bool.true_eq_false, Bool.false_eq_true, Bool.not_true, Bool.not_false, if_true, if_false, and_true, true_and, memE, celE, w64, Nat.zero_add, Nat.add_zero, Nat.mul_one, putL, and_self, ldn]
    exact ext_pairsX (f := fun v => .tuple #[v, .bool false]) hX o0 (Nat.le_refl _) rfl (by simp)
  | true =>
  have hG := parB_iff.1 hp
  have hlen := hG.len
  have hl := h.len
  simp (config := {implicitDefEqProofs := false, maxDischargeDepth := 20}) (disch := first | omega | (simp only [lenE]; done) | (simp only [lenE]; omega) | rfl | (simp only [lenE, markR_len]; done) | (simp only [lenE, markR_len]; omega)) only [runE, mapE, listE, initT_5, initT_6, initT_7, initT_8, resV, oneV, binA, unA, reduceCtorEq, Nat.reduceEqDiff, Nat.reduceAdd, Nat.reduceLT, Nat.reduceLeDiff, Nat.reduceMul, Nat.reduceSub, ↓reduceIte, decide_true, decide_false, Bool.true_eq_false, Bool.false_eq_true, Bool.not_true, Bool.not_false, if_true, if_false, and_true, true_and, memE, celE, w64, Nat.zero_add, Nat.add_zero, Nat.mul_one, putL, and_self, ldn, hl]
  refine loop_inv mixed (fun s => ∃ (i : Nat) (M : Mem) (id : Nat), i ≤ L.length ∧ s.m = M ∧ Ext m M ∧ m.length ≤ id ∧ OwnB M id 124 (pairsC (xTo L i)) ∧ s.t 0 = v ∧ s.t 4 = .slice (some ⟨id, 0, none⟩) (xTo L i).length 2 ∧ s.t 5 = .int .i64 i) (fun s => L.length - (intOf (s.t 5)).toNat)
    ⟨0, _, _, by omega, rfl, hX, Nat.le_refl _, o0, rfl, rfl, rfl⟩ ?_
  rintro s ⟨i, M, id, hi, tm, hx, hid, ho, t0, t4, t5⟩
  by_cases hlt : i < L.length
  · have hlt' : (i : Int) < L.length := by omega
    obtain ⟨p, hpp⟩ : ∃ p, p = L.getD i Pc0 := ⟨_, rfl⟩
    have hgp : GoodP11 p := hpp ▸ hG.all i hlt
    simp (config := {implicitDefEqProofs := false, maxDischargeDepth := 20}) (disch := first | omega | (simp only [lenE]; done) | (simp only [lenE]; omega) | rfl | (simp only [lenE, markR_len]; done) | (simp only [lenE, markR_len]; omega)) only [runE, mapE, listE, initT_5, initT_6, initT_7, initT_8, resV, oneV, binA, unA, reduceCtorEq, Nat.reduceEqDiff, Nat.reduceAdd, Nat.reduceLT, Nat.reduceLeDiff, Nat.reduceMul, Nat.reduceSub, ↓reduceIte, decide_true, decide_false, Bool.true_eq_false, Bool.false_eq_true, Bool.not_true, Bool.not_false, if_true, if_false, and_true, true_and, memE, celE, w64, Nat.zero_add, Nat.add_zero, Nat.mul_one, putL, and_self, ldn, tm, t0, t4, t5, hlt', hl]
    refine loop_inv mixed (fun s => ∃ (j : Nat) (M : Mem) (id : Nat), j ≤ L.length ∧ i + 1 ≤ j ∧ s.m = M ∧ Ext m M ∧ m.length ≤ id ∧ OwnB M id 124 (pairsC (xAll L i j)) ∧ s.t 0 = v ∧ s.t 4 = .slice (some ⟨id, 0, none⟩) (xAll L i j).length 2 ∧ s.t 5 = .int .i64 i ∧ s.t 6 = .int .i64 j) (fun s => L.length - (intOf (s.t 6)).toNat)
      ⟨i + 1, M, id, by omega, by omega, by simp only [put_t, put_t', put_m, putT_t, putT_t', putT_m, init_t, init_m, initT_0, initT_1, initT_2, initT_3, initT_4, initT_5, initT_6, initT_7, initT_8, Nat.reduceEqDiff, ↓reduceIte, tm], hx, hid, by rw [xAll_first hG hlt]; exact ho, by simp only [put_t, put_t', put_m, putT_t, putT_t', putT_m, init_t, init_m, initT_0, initT_1, initT_2, initT_3, initT_4, initT_5, initT_6, initT_7, initT_8, Nat.reduceEqDiff, ↓reduceIte, t0], by simp only [put_t, put_t', put_m, putT_t, putT_t', putT_m, init_t, init_m, initT_0, initT_1, initT_2, initT_3, initT_4, initT_5, initT_6, initT_7, initT_8, Nat.reduceEqDiff, ↓reduceIte, t4]; rw [xAll_first hG hlt], by simp only [put_t, put_t', put_m, putT_t, putT_t', putT_m, init_t, init_m, initT_0, initT_1, initT_2, initT_3, initT_4, initT_5, initT_6, initT_7, initT_8, Nat.reduceEqDiff, ↓reduceIte, t5], by simp only [put_t, put_t', put_m, putT_t, putT_t', putT_m, init_t, init_m, initT_0, initT_1, initT_2, initT_3, initT_4, initT_5, initT_6, initT_7, initT_8, Nat.reduceEqDiff, ↓reduceIte]; simp⟩ ?_
    clear tm t0 t4 t5 ho hx
    rintro s ⟨j, M, id, hj, hij, tm, hx, hid, ho, t0, t4, t5, t6⟩
    by_cases hlj : j < L.length
    · have hlj' : (j : Int) < L.length := by omega
      have hM := hx.keeps.pcs h
      obtain ⟨q, hqq⟩ : ∃ q, q = L.getD j Pc0 := ⟨_, rfl⟩
      have hgq : GoodP11 q := hqq ▸ hG.all j hlj
      have gd := hgp.day
      have gl := hgp.lead
      have gd2 := hgq.day
      have gl2 := hgq.lead
      have i1 := hM.at_ hlt
      have i2 := hM.ld hlt
      rw [← hpp] at i2
      have i3 := hM.at_ hlj
      have i4 := hM.ld hlj
      rw [← hqq] at i4
      have hbd := xAll_bd hG hi hj
      have estep : xAll L i (j + 1) = xAll L i j ++ (if crossB p q = true then [((i : Int), (j : Int))] else []) := by rw [hpp, hqq]; exact xAll_s L i j
      have x2 : ∀ new, ldA (M ++ new) (some 3) (pPc v i) = some (pcV p) := fun new => by rw [hpp]; exact (hM.ext new).ld hlt
      have x4 : ∀ new, ldA (M ++ new) (some 3) (pPc v j) = some (pcV q) := fun new => by rw [hqq]; exact (hM.ext new).ld hlj
      have y2 : ∀ a b, ldA (M ++ a ++ b) (some 3) (pPc v i) = some (pcV p) := fun a b => by rw [List.append_assoc]; exact x2 _
      have y4 : ∀ a b, ldA (M ++ a ++ b) (some 3) (pPc v j) = some (pcV q) := fun a b => by rw [List.append_assoc]; exact x4 _
      have mk : ∀ (a b : Pc), Ext m (M ++ [⟨.own, 66, [.int .i64 a.day, .int .i64 a.amount, .int .i64 a.lead]⟩] ++ [⟨.own, 66, [.int .i64 b.day, .int .i64 b.amount, .int .i64 b.lead]⟩]) := fun a b => (hx.one _ _).one _ _
      cases hc : crossB p q with
      | false =>
        rw [hc] at estep
        simp only [Bool.false_eq_true, if_false, List.append_nil] at estep
        by_cases c1 : p.day < q.day
        · have c2 : ¬ (q.day + q.lead < p.day + p.lead) := by
            intro c2; simp [crossB, c1, c2] at hc
          simp (config := {implicitDefEqProofs := false, maxDischargeDepth := 20}) (disch := first | omega | (simp only [lenE]; done) | (simp only [lenE]; omega) | rfl | (simp only [lenE, markR_len]; done) | (simp only [lenE, markR_len]; omega)) only [runE, mapE, listE, initT_5, initT_6, initT_7, initT_8, resV, oneV, binA, unA, reduceCtorEq, Nat.reduceEqDiff, Nat.reduceAdd, Nat.reduceLT, Nat.reduceLeDiff, Nat.reduceMul, Nat.reduceSub, ↓reduceIte, decide_true, decide_false, Bool.true_eq_false, Bool.false_eq_true, Bool.not_true, Bool.not_false, if_true, if_false, and_true, true_and, memE, celE, w64, Nat.zero_add, Nat.add_zero, Nat.mul_one, putL, and_self, ldn, tm, t0, t4, t5, t6, hlj', hl, i1, i2, i3, i4, x2, x4, y2, y4, pcV, stP_agg3p, c1, c2, gt_iff_lt]
          refine ⟨?_, ?_⟩
          all_goals
            refine ⟨⟨j + 1, _, id, by omega, by omega, rfl, (hx.one _ _).one _ _, hid, by rw [estep]; exact (ho.ext _).ext _, by rw [estep], by simp⟩, ?_⟩
            simp [intOf]; omega
        · simp (config := {implicitDefEqProofs := false, maxDischargeDepth := 20}) (disch := first | omega | (simp only [lenE]; done) | (simp only [lenE]; omega) | rfl | (simp only [lenE, markR_len]; done) | (simp only [lenE, markR_len]; omega)) only [runE, mapE, listE, initT_5, initT_6, initT_7, initT_8, resV, oneV, binA, unA, reduceCtorEq, Nat.reduceEqDiff, Nat.reduceAdd, Nat.reduceLT, Nat.reduceLeDiff, Nat.reduceMul, Nat.reduceSub, ↓reduceIte, decide_true, decide_false, Bool.true_eq_false, Bool.false_eq_true, Bool.not_true, Bool.not_false, if_true, if_false, and_true, true_and, memE, celE, w64, Nat.zero_add, Nat.add_zero, Nat.mul_one, putL, and_self, ldn, tm, t0, t4, t5, t6, hlj', hl, i1, i2, i3, i4, x2, x4, y2, y4, pcV, stP_agg3p, c1]
          refine ⟨?_, ?_⟩
          all_goals
            refine ⟨⟨j + 1, _, id, by omega, by omega, rfl, (hx.one _ _).one _ _, hid, by rw [estep]; exact (ho.ext _).ext _, by rw [estep], by simp⟩, ?_⟩
            simp [intOf]; omega
      | true =>
        rw [hc] at estep
        simp only [if_true] at estep
        have hcc : p.day < q.day ∧ q.day + q.lead < p.day + p.lead := by
          unfold crossB at hc; simpa using hc
        have happ : ∀ a b : Pc, _ := fun a b => app_back (M := M ++ [⟨.own, 66, [.int .i64 a.day, .int .i64 a.amount, .int .i64 a.lead]⟩] ++ [⟨.own, 66, [.int .i64 b.day, .int .i64 b.amount, .int .i64 b.lead]⟩]) (id2 := M.length + 1 + 1) (e := 124) (sz := 2) (byt := 16) (n := (xAll L i j).length) (ys := [.int .i64 (i : Int), .int .i64 (j : Int)]) ((ho.ext _).ext _) (by simp) (by rw [pairsC_len]) rfl rfl (by omega) (by omega)
        simp (config := {implicitDefEqProofs := false, maxDischargeDepth := 20}) (disch := first | omega | (simp only [lenE]; done) | (simp only [lenE]; omega) | rfl | (simp only [lenE, markR_len]; done) | (simp only [lenE, markR_len]; omega)) only [runE, mapE, listE, initT_5, initT_6, initT_7, initT_8, resV, oneV, binA, unA, reduceCtorEq, Nat.reduceEqDiff, Nat.reduceAdd, Nat.reduceLT, Nat.reduceLeDiff, Nat.reduceMul, Nat.reduceSub, ↓reduceIte, decide_true, decide_false, Bool.true_eq_false, Bool.false_eq_true, Bool.not_true, Bool.not_false, if_true, if_false, and_true, true_and, memE, celE, w64, Nat.zero_add, Nat.add_zero, Nat.mul_one, putL, and_self, ldn, tm, t0, t4, t5, t6, hlj', hl, i1, i2, i3, i4, x2, x4, y2, y4, pcV, stP_agg3p, hcc.1, hcc.2, gt_iff_lt, bld_pairX, bsl_pair, happ p q, happ q p]
        have hll := hx.len
        refine ⟨?_, ?_⟩
        all_goals
          refine ⟨⟨j + 1, _, M.length + 1 + 1 + 1, by omega, by omega, rfl, ((((hx.one _ _).one _ _).dead hid).one _ _).one _ _, by omega, ?_, ?_, by simp⟩, ?_⟩
          · rw [estep, pairsC_sX]
            exact OwnB.here (by simp)
          · rw [estep]; simp
          · simp [intOf]; omega
    · have hlj' : ¬ ((j : Int) < L.length) := by omega
      obtain rfl : j = L.length := by omega
      simp (config := {implicitDefEqProofs := false, maxDischargeDepth := 20}) (disch := first | omega | (simp only [lenE]; done) | (simp only [lenE]; omega) | rfl | (simp only [lenE, markR_len]; done) | (simp only [lenE, markR_len]; omega)) only [runE, mapE, listE, initT_5, initT_6, initT_7, initT_8, resV, oneV, binA, unA, reduceCtorEq, Nat.reduceEqDiff, Nat.reduceAdd, Nat.reduceLT, Nat.reduceLeDiff, Nat.reduceMul, Nat.reduceSub, ↓reduceIte, decide_true, decide_false, Bool.true_eq_false, Bool.false_eq_true, Bool.not_true, Bool.not_false, if_true, if_false, and_true, true_and, memE, celE, w64, Nat.zero_add, Nat.add_zero, Nat.mul_one, putL, and_self, ldn, tm, t0, t4, t5, t6, hlj', hl]
      rw [xAll_end] at ho
      refine ⟨⟨i + 1, _, id, by omega, rfl, hx, hid, ho, by rw [xAll_end], by simp⟩, ?_⟩
      simp [intOf]; omega
  · have hlt' : ¬ ((i : Int) < L.length) := by omega
    obtain rfl : i = L.length := by omega
    simp (config := {implicitDefEqProofs := false, maxDischargeDepth := 20}) (disch := first | omega | (simp only [lenE]; done) | (simp only [lenE]; omega) | rfl | (simp only [lenE, markR_len]; done) | (simp only [lenE, markR_len]; omega)) only [runE, mapE, listE, initT_5, initT_6, initT_7, initT_8, resV, oneV, binA, unA, reduceCtorEq, Nat.reduceEqDiff, Nat.reduceAdd, Nat.reduceLT, Nat.reduceLeDiff, Nat.reduceMul, Nat.reduceSub, ↓reduceIte, decide_true, decide_false, Bool.true_eq_false, Bool.false_eq_true, Bool.not_true, Bool.not_false, if_true, if_false, and_true, true_and, memE, celE, w64, Nat.zero_add, Nat.add_zero, Nat.mul_one, putL, and_self, ldn, tm, t0, t4, t5, hlt', hl]
    exact ext_pairsX (f := fun v => .tuple #[v, .bool true]) hx ho hid rfl (by have := xTo_bd hG (Nat.le_refl L.length); omega)
end Go.Proofs.Ytjdallbnbjnghaa.Ab
end
section
namespace Go.Proofs.Ytjdallbnbjnghaa.Ab
open Go Go.RowKit
set_option linter.unusedVariables false
set_option linter.unusedSimpArgs false
theorem strTo_at {L : List Pc} {n k : Nat} (h : k < n) : (strTo L n).getD k Pc0 = strC L k := by
  simp [strTo, List.getD_eq_getElem?_getD, h]
theorem ins_days {L : List Pc} (hG : GoodL L) : ∀ i, i ≤ L.length → ∀ k, k < i → (L.getD k Pc0).day ≤ (insA (arrD L) i).getD k 0 ∧ (insA (arrD L) i).getD k 0 ≤ (L.getD k Pc0).day + 4
  | 0, _, k, hk => absurd hk (by omega)
  | i + 1, hi, k, hk => by
    have ih := ins_days hG i (by omega)
    have hl := insA_len (arrD L) i
    have hp := posP_le (insA (arrD L) i) ((arrD L).getD i 0)
    have hg := hG.all i (by omega)
    have hx : (arrD L).getD i 0 = (L.getD i Pc0).day + (L.getD i Pc0).lead := arrD_at (by omega)
    have hld := hg.lead
    have hgt := @posP_gt (insA (arrD L) i) ((arrD L).getD i 0)
    have asc : ∀ a b, a ≤ b → b < L.length → (L.getD a Pc0).day ≤ (L.getD b Pc0).day := fun a b h1 h2 => by
      have := asc_le hG (j := a) (b - a) (by omega)
      rwa [show a + (b - a) = b by omega] at this
    simp only [insA]
    rw [insP_at]
    by_cases c1 : k < posP (insA (arrD L) i) ((arrD L).getD i 0)
    · rw [if_pos c1]; exact ih k (by omega)
    · rw [if_neg c1]
      by_cases c2 : k = posP (insA (arrD L) i) ((arrD L).getD i 0)
      · rw [if_pos c2]
        refine ⟨?_, ?_⟩
        · have := asc k i (by omega) (by omega); omega
        · by_cases c3 : k < i
          · have h1 := hgt (by omega)
            rw [← c2] at h1
            have := (ih k c3).2
            omega
          · rw [show k = i by omega]; omega
      · rw [if_neg c2]
        have h1 := hgt (by omega)
        have h2 := ascL_le (insA_asc (arrD L) i) (j := posP (insA (arrD L) i) ((arrD L).getD i 0)) (k - 1 - posP (insA (arrD L) i) ((arrD L).getD i 0)) (by omega)
        rw [show posP (insA (arrD L) i) ((arrD L).getD i 0) + (k - 1 - posP (insA (arrD L) i) ((arrD L).getD i 0)) = k - 1 by omega] at h2
        have h3 := asc k i (by omega) (by omega)
        have h4 := (ih (k - 1) (by omega)).2
        have h5 := asc (k - 1) k (by omega) (by omega)
        omega
theorem str_good {L : List Pc} (hG : GoodL L) : GoodL (strTo L L.length) := by
  refine ⟨by rw [strTo_len]; exact hG.len, fun k hk => ?_, fun k hk => ?_⟩
  · rw [strTo_len] at hk
    rw [strTo_at hk]
    have hg := hG.all k hk
    have := ins_days hG L.length (Nat.le_refl _) k hk
    exact ⟨hg.day, hg.amount, by simp only [strC]; omega⟩
  · rw [strTo_len] at hk
    rw [strTo_at (by omega), strTo_at (by omega)]
    exact hG.asc k hk
theorem str_par {L : List Pc} (h : parB L = true) : parB (strTo L L.length) = true := parB_iff.2 (str_good (parB_iff.1 h))
theorem str_day (L : List Pc) {k : Nat} (hk : k < L.length) : ((strTo L L.length).getD k Pc0).day + ((strTo L L.length).getD k Pc0).lead = (insA (arrD L) L.length).getD k 0 := by
  rw [strTo_at hk]; simp only [strC]; omega
theorem str_cross {L : List Pc} (hG : GoodL L) : ∀ i, i ≤ L.length → xTo (strTo L L.length) i = []
  | 0, _ => rfl
  | i + 1, hi => by
    simp only [xTo]
    rw [str_cross hG i (by omega), xIn_nil, List.append_nil]
    intro k hk
    rw [strTo_len] at hk
    unfold crossB
    rw [str_day L hk, str_day L (k := i) (by omega), strTo_at (k := i) (by omega), strTo_at hk]
    simp only [strC]
    by_cases c : (L.getD i Pc0).day < (L.getD k Pc0).day
    · have hik : i < k := by
        by_cases h : i < k
        · exact h
        · have := asc_le hG (j := k) (i - k) (by omega)
          rw [show k + (i - k) = i by omega] at this
          omega
      have := ascL_le (insA_asc (arrD L) L.length) (j := i) (k - i) (by rw [insA_len]; omega)
      rw [show i + (k - i) = k by omega] at this
      rw [decide_eq_false (p := (insA (arrD L) L.length).getD k 0 < _) (by omega), Bool.and_false]
    · simp only [List.getD_eq_getElem?_getD] at c ⊢
      simp [c]
theorem str_noCross {L : List Pc} (h : parB L = true) : crossA (strTo L L.length) = [] := by
  unfold crossA
  rw [str_par h, strTo_len]
  exact str_cross (parB_iff.1 h) _ (Nat.le_refl _)
theorem arr_count {L : List Pc} (hG : GoodL L) {a : Int} (ha : ∀ k, k < L.length → (L.getD k Pc0).amount = a) : ∀ k, k ≤ L.length → ∀ d, d < 24 → (arrTo L k).getD d 0 = a * ((((arrD L).take k).countP (fun x => (x - 1).toNat == d) : Nat) : Int)
  | 0, _, d, hd => by
    simp only [arrTo, List.getD_eq_getElem?_getD, List.getElem?_replicate]
    rw [if_pos hd]; simp
  | k + 1, hk, d, hd => by
    have ih := arr_count hG ha k (by omega)
    have hg := hG.all k (by omega)
    have h1 := hg.day
    have h2 := hg.lead
    have hl := arrTo_len L k
    have ht : (arrD L).take (k + 1) = (arrD L).take k ++ [(L.getD k Pc0).day + (L.getD k Pc0).lead] := by
      have hkl : k < (arrD L).length := by rw [arrD_len]; omega
      rw [List.take_succ_eq_append_getElem hkl, ← arrD_at (by omega), List.getD_eq_getElem?_getD, List.getElem?_eq_getElem hkl]; rfl
    rw [ht, List.countP_append, List.countP_singleton]
    simp only [arrTo]
    rw [List.getD_eq_getElem?_getD, List.getElem?_set]
    by_cases c : ((L.getD k Pc0).day + (L.getD k Pc0).lead - 1).toNat = d
    · rw [if_pos c, if_pos (by omega), c, if_pos (by simp)]
      simp only [Option.getD_some]
      rw [ih d hd, ha k (by omega)]
      push_cast
      rw [Int.mul_add, Int.mul_one]
    · rw [if_neg c, ← List.getD_eq_getElem?_getD, ih d hd, if_neg (by simpa using c)]
      simp
theorem insP_perm (l : List Int) (x : Int) : (insP l x).Perm (x :: l) := by
  unfold insP
  refine List.perm_middle.trans ?_
  rw [List.take_append_drop]
theorem insA_perm (L : List Int) : ∀ i, i ≤ L.length → (insA L i).Perm (L.take i)
  | 0, _ => by simp [insA]
  | i + 1, hi => by
    have ih := insA_perm L i (by omega)
    simp only [insA]
    rw [List.take_succ_eq_append_getElem (by omega), List.getD_eq_getElem?_getD, List.getElem?_eq_getElem (by omega)]
    exact (insP_perm _ _).trans ((List.Perm.cons _ ih).trans (List.perm_append_singleton _ _).symm)
theorem str_arrD (L : List Pc) : arrD (strTo L L.length) = insA (arrD L) L.length := by
  refine List.ext_getElem? fun k => ?_
  by_cases hk : k < L.length
  · have h1 := arrD_at (L := strTo L L.length) (k := k) (by rw [strTo_len]; exact hk)
    rw [str_day L hk] at h1
    rw [List.getD_eq_getElem?_getD, List.getD_eq_getElem?_getD] at h1
    rw [List.getElem?_eq_getElem (by rw [arrD_len, strTo_len]; exact hk), List.getElem?_eq_getElem (by rw [insA_len]; exact hk)] at h1 ⊢
    simpa using h1
  · rw [List.getElem?_eq_none (by rw [arrD_len, strTo_len]; omega), List.getElem?_eq_none (by rw [insA_len]; omega)]
theorem str_arr {L : List Pc} (h : strOk L = true) : arrTo (strTo L L.length) (strTo L L.length).length = arrTo L L.length := by
  simp only [strOk, Bool.and_eq_true] at h
  have hG := parB_iff.1 h.1
  have hs := h.2
  unfold sameB at hs
  rw [List.all_eq_true] at hs
  have ha : ∀ k, k < L.length → (L.getD k Pc0).amount = (L.getD 0 Pc0).amount := fun k hk => by
    have := hs (L.getD k Pc0) (by rw [List.getD_eq_getElem?_getD, List.getElem?_eq_getElem hk]; exact List.getElem_mem hk)
    simpa using this
  refine List.ext_getElem? fun d => ?_
  by_cases hd : d < 24
  · have e1 := arr_count hG ha L.length (Nat.le_refl _) d hd
    have e2 := arr_count (str_good hG) (a := (L.getD 0 Pc0).amount) (fun k hk => by
      rw [strTo_len] at hk
      rw [strTo_at hk]
      exact ha k hk) (strTo L L.length).length (Nat.le_refl _) d hd
    rw [str_arrD, strTo_len, List.take_of_length_le (by rw [insA_len]; exact Nat.le_refl _), (insA_perm (arrD L) L.length (by rw [arrD_len]; exact Nat.le_refl _)).countP_eq, ← e1] at e2
    rw [strTo_len]
    rw [List.getD_eq_getElem?_getD, List.getD_eq_getElem?_getD, List.getElem?_eq_getElem (by rw [arrTo_len]; exact hd), List.getElem?_eq_getElem (by rw [arrTo_len]; exact hd)] at e2
    rw [List.getElem?_eq_getElem (by rw [arrTo_len]; exact hd), List.getElem?_eq_getElem (by rw [arrTo_len]; exact hd)]
    simpa using e2
  · rw [List.getElem?_eq_none (by rw [arrTo_len]; omega), List.getElem?_eq_none (by rw [arrTo_len]; omega)]
theorem str_arrA {L : List Pc} (h : strOk L = true) : arrA (strTo L L.length) = arrA L := by
  have hp : parB L = true := by simp only [strOk, Bool.and_eq_true] at h; exact h.1
  unfold arrA
  rw [str_par hp, hp, str_arr h]
theorem str_stocks {L : List Pc} (h : strOk L = true) (start : Int) (asked : List Int) : pstA start (strTo L L.length) asked = pstA start L asked ∧ pstOk start (strTo L L.length) asked = pstOk start L asked := by
  have hp : parB L = true := by simp only [strOk, Bool.and_eq_true] at h; exact h.1
  have e : pstOk start (strTo L L.length) asked = pstOk start L asked := by unfold pstOk; rw [str_par hp, hp]
  refine ⟨?_, e⟩
  unfold pstA
  rw [e, str_arr h]
theorem sum_setX : ∀ (l : List Int) (i : Nat) (x : Int), i < l.length → (l.set i x).sum = l.sum + x - l.getD i 0
  | y :: l, 0, x, _ => by simp; omega
  | y :: l, i + 1, x, h => by
    have := sum_setX l i x (by simpa using h)
    simp only [List.set_cons_succ, List.sum_cons, List.getD_cons_succ, this]; omega
theorem arr_sum {L : List Pc} (hG : GoodL L) : ∀ k, k ≤ L.length → (arrTo L k).sum = ((L.take k).map Pc.amount).sum
  | 0, _ => by simp [arrTo]
  | k + 1, hk => by
    have ih := arr_sum hG k (by omega)
    have hg := hG.all k (by omega)
    have h1 := hg.day
    have h2 := hg.lead
    have hl := arrTo_len L k
    simp only [arrTo]
    rw [sum_setX _ _ _ (by omega), ih, List.take_succ_eq_append_getElem (by omega), List.map_append, List.sum_append, List.getD_eq_getElem?_getD (l := L), List.getElem?_eq_getElem (by omega)]
    simp only [Option.getD_some, List.map_cons, List.map_nil, List.sum_cons, List.sum_nil]
    omega
end Go.Proofs.Ytjdallbnbjnghaa.Ab
end
section
namespace Go.Proofs.Ytjdallbnbjnghaa.Ab
open Go Go.RowKit Go.Proofs
set_option maxRecDepth 100000
def c_laws_FnParcels : ACode := .seq (.reg [⟨(some 2), .mv (.const (.bool false)), none⟩])
 (.seq (.seq (.reg [⟨(some 35), .mv (.tmp 0), none⟩,
  ⟨(some 36), .call (.func 6) [(.tmp 35)], none⟩])
 (.cond (.tmp 36) (.seq (.reg [⟨(some 2), .mv (.const (.bool true)), none⟩])
 (.ret)) (.skip)))
 (.seq (.reg [⟨(some 38), .mv (.tmp 0), none⟩,
  ⟨(some 39), .call (.func 35) [(.tmp 38)], none⟩,
  ⟨(some 37), .mv (.tmp 39), none⟩,
  ⟨(some 40), .ext 0 (.tmp 37), none⟩,
  ⟨(some 41), .ext 1 (.tmp 37), none⟩,
  ⟨(some 42), .ext 2 (.tmp 37), none⟩,
  ⟨(some 3), .mv (.tmp 40), none⟩,
  ⟨(some 4), .mv (.tmp 41), none⟩,
  ⟨(some 5), .mv (.tmp 42), none⟩])
 (.seq (.reg [⟨(some 44), .mv (.tmp 3), none⟩,
  ⟨(some 45), .mv (.tmp 4), none⟩,
  ⟨(some 46), .mv (.tmp 5), none⟩,
  ⟨(some 47), .call (.func 36) [(.tmp 44), (.tmp 45), (.tmp 46)], none⟩,
  ⟨(some 43), .mv (.tmp 47), none⟩,
  ⟨(some 48), .ext 0 (.tmp 43), none⟩,
  ⟨(some 49), .ext 1 (.tmp 43), none⟩,
  ⟨(some 6), .mv (.tmp 48), none⟩,
  ⟨(some 7), .mv (.tmp 49), none⟩])
 (.seq (.seq (.reg [⟨(some 51), .mv (.tmp 3), none⟩,
  ⟨(some 52), .mv (.tmp 4), none⟩,
  ⟨(some 53), .mv (.tmp 5), none⟩,
  ⟨(some 54), .call (.func 37) [(.tmp 51), (.tmp 52), (.tmp 53)], none⟩,
  ⟨(some 50), .mv (.tmp 54), none⟩,
  ⟨(some 55), .ext 0 (.tmp 50), none⟩,
  ⟨(some 56), .ext 1 (.tmp 50), none⟩,
  ⟨(some 8), .mv (.tmp 55), none⟩,
  ⟨(some 9), .mv (.tmp 56), none⟩])
 (.seq (.reg [⟨(some 57), .mv (.tmp 7), none⟩,
  ⟨(some 58), .mv (.tmp 9), none⟩,
  ⟨(some 59), .beq true (.tmp 57) (.tmp 58), none⟩,
  ⟨(some 60), .mv (.tmp 59), none⟩,
  ⟨(some 61), .mv (.tmp 6), (some (60, false))⟩,
  ⟨(some 62), .mv (.tmp 8), (some (60, false))⟩,
  ⟨(some 63), .call (.func 10) [(.tmp 61), (.tmp 62)], (some (60, false))⟩,
  ⟨(some 64), .un .not (.tmp 63), (some (60, false))⟩,
  ⟨(some 65), .pick (.tmp 60) (.const (.bool true)) (.tmp 64), none⟩])
 (.cond (.tmp 65) (.seq (.reg [⟨(some 2), .mv (.const (.bool false)), none⟩])
 (.ret)) (.skip))))
 (.seq (.reg [⟨(some 66), .mv (.tmp 0), none⟩,
  ⟨(some 67), .call (.func 38) [(.tmp 66)], none⟩,
  ⟨(some 10), .mv (.tmp 67), none⟩])
 (.seq (.reg [⟨(some 69), .mv (.tmp 10), none⟩,
  ⟨(some 70), .call (.func 39) [(.tmp 69)], none⟩,
  ⟨(some 68), .mv (.tmp 70), none⟩,
  ⟨(some 71), .ext 0 (.tmp 68), none⟩,
  ⟨(some 72), .ext 1 (.tmp 68), none⟩,
  ⟨(some 11), .mv (.tmp 71), none⟩,
  ⟨(some 12), .mv (.tmp 72), none⟩])
 (.seq (.reg [⟨(some 74), .mv (.tmp 10), none⟩,
  ⟨(some 75), .call (.func 40) [(.tmp 74)], none⟩,
  ⟨(some 73), .mv (.tmp 75), none⟩,
  ⟨(some 76), .ext 0 (.tmp 73), none⟩,
  ⟨(some 77), .ext 1 (.tmp 73), none⟩,
  ⟨(some 13), .mv (.tmp 76), none⟩,
  ⟨(some 14), .mv (.tmp 77), none⟩])
 (.seq (.seq (.reg [⟨(some 78), .mv (.tmp 12), none⟩,
  ⟨(some 79), .mv (.tmp 14), none⟩,
  ⟨(some 80), .beq true (.tmp 78) (.tmp 79), none⟩,
  ⟨(some 81), .mv (.tmp 80), none⟩,
  ⟨(some 82), .mv (.tmp 11), (some (81, false))⟩,
  ⟨(some 83), .len (.tmp 82), (some (81, false))⟩,
  ⟨(some 84), .mv (.tmp 13), (some (81, false))⟩,
  ⟨(some 85), .len (.tmp 84), (some (81, false))⟩,
  ⟨(some 86), .bin .neq (.tmp 83) (.tmp 85), (some (81, false))⟩,
  ⟨(some 87), .pick (.tmp 81) (.const (.bool true)) (.tmp 86), none⟩])
 (.cond (.tmp 87) (.seq (.reg [⟨(some 2), .mv (.const (.bool false)), none⟩])
 (.ret)) (.skip)))
 (.seq (.seq (.reg [⟨(some 15), .mv (.const (.int .i64 0)), none⟩])
 (.block 0 (.loop (.seq (.seq (.reg [⟨(some 88), .mv (.tmp 15), none⟩,
  ⟨(some 89), .mv (.tmp 11), none⟩,
  ⟨(some 90), .len (.tmp 89), none⟩,
  ⟨(some 91), .bin .lss (.tmp 88) (.tmp 90), none⟩])
 (.cond (.tmp 91) (.skip) (.exit 0)))
 (.seq (.block 1 (.seq (.reg [⟨(some 94), .mv (.tmp 11), none⟩,
  ⟨(some 95), .mv (.tmp 15), none⟩,
  ⟨(some 96), .iad 3 (.tmp 94) (.tmp 95), none⟩,
  ⟨(some 97), .ld (some 3) (.tmp 96), none⟩,
  ⟨(some 98), .mv (.tmp 13), none⟩,
  ⟨(some 99), .mv (.tmp 15), none⟩,
  ⟨(some 100), .iad 3 (.tmp 98) (.tmp 99), none⟩,
  ⟨(some 101), .ld (some 3) (.tmp 100), none⟩,
  ⟨(some 102), .aeq true 3 (.tmp 97) (.tmp 101), none⟩])
 (.cond (.tmp 102) (.seq (.reg [⟨(some 2), .mv (.const (.bool false)), none⟩])
 (.ret)) (.skip))))
 (.reg [⟨(some 92), .mv (.tmp 15), none⟩,
  ⟨(some 93), .bin .add (.tmp 92) (.const (.int .i64 1)), none⟩,
  ⟨(some 15), .mv (.tmp 93), none⟩]))))))
 (.seq (.reg [⟨(some 104), .mv (.tmp 10), none⟩,
  ⟨(some 105), .call (.func 41) [(.tmp 104)], none⟩,
  ⟨(some 103), .mv (.tmp 105), none⟩,
  ⟨(some 106), .ext 0 (.tmp 103), none⟩,
  ⟨(some 107), .ext 1 (.tmp 103), none⟩,
  ⟨(some 16), .mv (.tmp 106), none⟩,
  ⟨(some 17), .mv (.tmp 107), none⟩])
 (.seq (.seq (.reg [⟨(some 109), .mv (.tmp 10), none⟩,
  ⟨(some 110), .call (.func 42) [(.tmp 109)], none⟩,
  ⟨(some 108), .mv (.tmp 110), none⟩,
  ⟨(some 111), .ext 0 (.tmp 108), none⟩,
  ⟨(some 112), .ext 1 (.tmp 108), none⟩,
  ⟨(some 18), .mv (.tmp 111), none⟩,
  ⟨(some 19), .mv (.tmp 112), none⟩])
 (.seq (.reg [⟨(some 113), .mv (.tmp 17), none⟩,
  ⟨(some 114), .mv (.tmp 19), none⟩,
  ⟨(some 115), .beq true (.tmp 113) (.tmp 114), none⟩,
  ⟨(some 116), .mv (.tmp 115), none⟩,
  ⟨(some 117), .mv (.tmp 16), (some (116, false))⟩,
  ⟨(some 118), .mv (.tmp 18), (some (116, false))⟩,
  ⟨(some 119), .call (.func 43) [(.tmp 117), (.tmp 118)], (some (116, false))⟩,
  ⟨(some 120), .un .not (.tmp 119), (some (116, false))⟩,
  ⟨(some 121), .pick (.tmp 116) (.const (.bool true)) (.tmp 120), none⟩])
 (.cond (.tmp 121) (.seq (.reg [⟨(some 2), .mv (.const (.bool false)), none⟩])
 (.ret)) (.skip))))
 (.seq (.reg [⟨(some 123), .mv (.tmp 10), none⟩,
  ⟨(some 124), .call (.func 44) [(.tmp 123)], none⟩,
  ⟨(some 122), .mv (.tmp 124), none⟩,
  ⟨(some 125), .ext 0 (.tmp 122), none⟩,
  ⟨(some 126), .ext 1 (.tmp 122), none⟩,
  ⟨(some 20), .mv (.tmp 125), none⟩,
  ⟨(some 21), .mv (.tmp 126), none⟩])
 (.seq (.seq (.reg [⟨(some 128), .mv (.tmp 10), none⟩,
  ⟨(some 129), .call (.func 45) [(.tmp 128)], none⟩,
  ⟨(some 127), .mv (.tmp 129), none⟩,
  ⟨(some 130), .ext 0 (.tmp 127), none⟩,
  ⟨(some 131), .ext 1 (.tmp 127), none⟩,
  ⟨(some 22), .mv (.tmp 130), none⟩,
  ⟨(some 23), .mv (.tmp 131), none⟩])
 (.seq (.reg [⟨(some 132), .mv (.tmp 21), none⟩,
  ⟨(some 133), .mv (.tmp 23), none⟩,
  ⟨(some 134), .beq true (.tmp 132) (.tmp 133), none⟩,
  ⟨(some 135), .mv (.tmp 134), none⟩,
  ⟨(some 136), .mv (.tmp 21), (some (135, false))⟩,
  ⟨(some 137), .mv (.tmp 17), (some (135, false))⟩,
  ⟨(some 138), .beq true (.tmp 136) (.tmp 137), (some (135, false))⟩,
  ⟨(some 139), .pick (.tmp 135) (.const (.bool true)) (.tmp 138), none⟩,
  ⟨(some 140), .mv (.tmp 139), none⟩,
  ⟨(some 141), .mv (.tmp 20), (some (140, false))⟩,
  ⟨(some 142), .mv (.tmp 22), (some (140, false))⟩,
  ⟨(some 143), .call (.func 10) [(.tmp 141), (.tmp 142)], (some (140, false))⟩,
  ⟨(some 144), .un .not (.tmp 143), (some (140, false))⟩,
  ⟨(some 145), .pick (.tmp 140) (.const (.bool true)) (.tmp 144), none⟩])
 (.cond (.tmp 145) (.seq (.reg [⟨(some 2), .mv (.const (.bool false)), none⟩])
 (.ret)) (.skip))))
 (.seq (.seq (.reg [⟨(some 146), .mv (.tmp 21), none⟩])
 (.cond (.tmp 146) (.seq (.reg [⟨(some 24), .mv (.const (.int .i64 0)), none⟩])
 (.seq (.seq (.reg [⟨(some 25), .mv (.const (.int .i64 0)), none⟩])
 (.block 2 (.loop (.seq (.seq (.reg [⟨(some 147), .mv (.tmp 25), none⟩,
  ⟨(some 148), .mv (.tmp 10), none⟩,
  ⟨(some 149), .len (.tmp 148), none⟩,
  ⟨(some 150), .bin .lss (.tmp 147) (.tmp 149), none⟩])
 (.cond (.tmp 150) (.skip) (.exit 2)))
 (.seq (.block 3 (.reg [⟨(some 153), .mv (.tmp 24), none⟩,
  ⟨(some 154), .mv (.tmp 10), none⟩,
  ⟨(some 155), .mv (.tmp 25), none⟩,
  ⟨(some 156), .iad 3 (.tmp 154) (.tmp 155), none⟩,
  ⟨(some 157), .fad 1 (.tmp 156), none⟩,
  ⟨(some 158), .ld none (.tmp 157), none⟩,
  ⟨(some 159), .bin .add (.tmp 153) (.tmp 158), none⟩,
  ⟨(some 24), .mv (.tmp 159), none⟩]))
 (.reg [⟨(some 151), .mv (.tmp 25), none⟩,
  ⟨(some 152), .bin .add (.tmp 151) (.const (.int .i64 1)), none⟩,
  ⟨(some 25), .mv (.tmp 152), none⟩]))))))
 (.seq (.reg [⟨(some 160), .mv (.tmp 20), none⟩,
  ⟨(some 161), .call (.func 20) [(.tmp 160)], none⟩,
  ⟨(some 162), .mv (.tmp 24), none⟩,
  ⟨(some 163), .bin .neq (.tmp 161) (.tmp 162), none⟩])
 (.cond (.tmp 163) (.seq (.reg [⟨(some 2), .mv (.const (.bool false)), none⟩])
 (.ret)) (.skip))))) (.skip)))
 (.seq (.seq (.reg [⟨(some 164), .mv (.tmp 12), none⟩,
  ⟨(some 165), .un .not (.tmp 164), none⟩])
 (.cond (.tmp 165) (.seq (.reg [⟨(some 2), .mv (.const (.bool true)), none⟩])
 (.ret)) (.skip)))
 (.seq (.reg [⟨(some 167), .mv (.tmp 11), none⟩,
  ⟨(some 168), .call (.func 41) [(.tmp 167)], none⟩,
  ⟨(some 166), .mv (.tmp 168), none⟩,
  ⟨(some 169), .ext 0 (.tmp 166), none⟩,
  ⟨(some 170), .ext 1 (.tmp 166), none⟩,
  ⟨(some 26), .mv (.tmp 169), none⟩,
  ⟨(some 27), .mv (.tmp 170), none⟩])
 (.seq (.reg [⟨(some 172), .mv (.tmp 11), none⟩,
  ⟨(some 173), .call (.func 44) [(.tmp 172)], none⟩,
  ⟨(some 171), .mv (.tmp 173), none⟩,
  ⟨(some 174), .ext 0 (.tmp 171), none⟩,
  ⟨(some 175), .ext 1 (.tmp 171), none⟩,
  ⟨(some 28), .mv (.tmp 174), none⟩,
  ⟨(some 29), .mv (.tmp 175), none⟩])
 (.seq (.seq (.reg [⟨(some 176), .mv (.tmp 27), none⟩,
  ⟨(some 177), .un .not (.tmp 176), none⟩,
  ⟨(some 178), .mv (.tmp 177), none⟩,
  ⟨(some 179), .mv (.tmp 29), (some (178, false))⟩,
  ⟨(some 180), .un .not (.tmp 179), (some (178, false))⟩,
  ⟨(some 181), .pick (.tmp 178) (.const (.bool true)) (.tmp 180), none⟩,
  ⟨(some 182), .mv (.tmp 181), none⟩,
  ⟨(some 183), .mv (.tmp 26), (some (182, false))⟩,
  ⟨(some 184), .len (.tmp 183), (some (182, false))⟩,
  ⟨(some 185), .bin .neq (.tmp 184) (.const (.int .i64 0)), (some (182, false))⟩,
  ⟨(some 186), .pick (.tmp 182) (.const (.bool true)) (.tmp 185), none⟩,
  ⟨(some 187), .mv (.tmp 186), none⟩,
  ⟨(some 188), .mv (.tmp 28), (some (187, false))⟩,
  ⟨(some 189), .mv (.tmp 20), (some (187, false))⟩,
  ⟨(some 190), .call (.func 10) [(.tmp 188), (.tmp 189)], (some (187, false))⟩,
  ⟨(some 191), .un .not (.tmp 190), (some (187, false))⟩,
  ⟨(some 192), .pick (.tmp 187) (.const (.bool true)) (.tmp 191), none⟩])
 (.cond (.tmp 192) (.seq (.reg [⟨(some 2), .mv (.const (.bool false)), none⟩])
 (.ret)) (.skip)))
 (.seq (.reg [⟨(some 193), .bsl 3 1 10 [(.int .i64 0), (.int .i64 0), (.int .i64 0), (.int .i64 0), (.int .i64 0), (.int .i64 0), (.int .i64 0), (.int .i64 0), (.int .i64 0), (.int .i64 0)] [(0, 1, (.const (.int .i64 1))), (1, 1, (.const (.int .i64 2))), (2, 1, (.const (.int .i64 3))), (3, 1, (.const (.int .i64 4))), (4, 1, (.const (.int .i64 5))), (5, 1, (.const (.int .i64 6))), (6, 1, (.const (.int .i64 7))), (7, 1, (.const (.int .i64 8))), (8, 1, (.const (.int .i64 9))), (9, 1, (.const (.int .i64 10)))], none⟩,
  ⟨(some 30), .mv (.tmp 193), none⟩])
 (.seq (.reg [⟨(some 195), .mv (.tmp 10), none⟩,
  ⟨(some 196), .mv (.tmp 30), none⟩,
  ⟨(some 197), .call (.func 36) [(.const (.int .i64 10)), (.tmp 195), (.tmp 196)], none⟩,
  ⟨(some 194), .mv (.tmp 197), none⟩,
  ⟨(some 198), .ext 0 (.tmp 194), none⟩,
  ⟨(some 199), .ext 1 (.tmp 194), none⟩,
  ⟨(some 31), .mv (.tmp 198), none⟩,
  ⟨(some 32), .mv (.tmp 199), none⟩])
 (.seq (.reg [⟨(some 201), .mv (.tmp 11), none⟩,
  ⟨(some 202), .mv (.tmp 30), none⟩,
  ⟨(some 203), .call (.func 36) [(.const (.int .i64 10)), (.tmp 201), (.tmp 202)], none⟩,
  ⟨(some 200), .mv (.tmp 203), none⟩,
  ⟨(some 204), .ext 0 (.tmp 200), none⟩,
  ⟨(some 205), .ext 1 (.tmp 200), none⟩,
  ⟨(some 33), .mv (.tmp 204), none⟩,
  ⟨(some 34), .mv (.tmp 205), none⟩])
 (.seq (.reg [⟨(some 206), .mv (.tmp 32), none⟩,
  ⟨(some 207), .mv (.tmp 206), none⟩,
  ⟨(some 208), .mv (.tmp 34), (some (207, true))⟩,
  ⟨(some 209), .pick (.tmp 207) (.tmp 208) (.const (.bool false)), none⟩,
  ⟨(some 210), .mv (.tmp 209), none⟩,
  ⟨(some 211), .mv (.tmp 31), (some (210, true))⟩,
  ⟨(some 212), .mv (.tmp 33), (some (210, true))⟩,
  ⟨(some 213), .call (.func 10) [(.tmp 211), (.tmp 212)], (some (210, true))⟩,
  ⟨(some 214), .pick (.tmp 210) (.tmp 213) (.const (.bool false)), none⟩,
  ⟨(some 2), .mv (.tmp 214), none⟩])
 (.ret)))))))))))))))))))))))
def r_laws_FnParcels : List ARes := [.tmp 2]
theorem ok_laws_FnParcels : FnOk Try.prog 5 215 c_laws_FnParcels r_laws_FnParcels := ⟨⟨Try.f5, _, Try.func5, by kernel_rfl, rfl, rfl, by kernel_rfl, by kernel_rfl⟩⟩
end Go.Proofs.Ytjdallbnbjnghaa.Ab
end
section
namespace Go.Proofs.Ytjdallbnbjnghaa.Ab
open Go Go.RowKit
set_option linter.unusedVariables false
set_option linter.unusedSimpArgs false
set_option maxRecDepth 100000
theorem PairsA.lenF {m : Mem} {v : Value} {L : List (Int × Int)} (h : PairsA m v L) : lenA v = some (.int .i64 L.length) := by
  obtain ⟨_, _, _, rfl, _⟩ := h; rfl
theorem bl_ten (m : Mem) : bslA m 3 1 10 [.int .i64 0, .int .i64 0, .int .i64 0, .int .i64 0, .int .i64 0, .int .i64 0, .int .i64 0, .int .i64 0, .int .i64 0, .int .i64 0] [(0, 1, .int .i64 1), (1, 1, .int .i64 2), (2, 1, .int .i64 3), (3, 1, .int .i64 4), (4, 1, .int .i64 5), (5, 1, .int .i64 6), (6, 1, .int .i64 7), (7, 1, .int .i64 8), (8, 1, .int .i64 9), (9, 1, .int .i64 10)] = some (.slice (some ⟨m.length, 0, none⟩) 10 1, m ++ [rowB [1, 2, 3, 4, 5, 6, 7, 8, 9, 10]]) := rfl
def amtTo (L : List Pc) : Nat → Int
  | 0 => 0
  | k + 1 => amtTo L k + (L.getD k Pc0).amount
theorem amtTo_sum (L : List Pc) : ∀ k, k ≤ L.length → amtTo L k = ((L.take k).map Pc.amount).sum
  | 0, _ => rfl
  | k + 1, hk => by
    simp only [amtTo]
    rw [amtTo_sum L k (by omega), List.take_succ_eq_append_getElem (by omega), List.map_append, List.sum_append, List.getD_eq_getElem?_getD, List.getElem?_eq_getElem (by omega)]
    simp
theorem amtTo_bd {L : List Pc} (hG : GoodL L) : ∀ k, k ≤ L.length → 0 ≤ amtTo L k ∧ amtTo L k ≤ 40 * (k : Int)
  | 0, _ => by simp [amtTo]
  | k + 1, hk => by
    have := amtTo_bd hG k (by omega)
    have := (hG.all k (by omega)).amount
    simp only [amtTo]; omega
set_option maxHeartbeats 16000000 in
theorem law_FnParcels (l : List Int) (hb : ∀ x ∈ l, 0 ≤ x ∧ x ≤ 255) :
    AC Try.prog 5 [.slice (some ⟨0, 0, none⟩) l.length 0] [⟨.ro, 5, l.map (Value.int .u8)⟩] fun r _ => r = .bool true := by
  refine ac_of_run mixed ok_laws_FnParcels (by simp) (go_start _ _ _ ?_)
  simp (config := {implicitDefEqProofs := false, maxDischargeDepth := 20}) (disch := first | omega | (simp only [lenE]; done) | (simp only [lenE]; omega) | rfl | (simp only [lenE, markR_len]; done) | (simp only [lenE, markR_len]; omega)) only [runE, mapE, listE, initT_5, initT_6, initT_7, initT_8, resV, oneV, binA, unA, reduceCtorEq, Nat.reduceEqDiff, Nat.reduceAdd, Nat.reduceLT, Nat.reduceLeDiff, Nat.reduceMul, Nat.reduceSub, ↓reduceIte, decide_true, decide_false, Bool.true_eq_false, Bool.false_eq_true, Bool.not_true, Bool.not_false, if_true, if_false, and_true, true_and, memE, celE, w64, Nat.zero_add, Nat.add_zero, Nat.mul_one, putL, and_self, ldn, c_laws_FnParcels, r_laws_FnParcels]
  refine callH_rc (rBigF_rc _ 0 0 l.length) ?_
  rintro r new ⟨rfl, rfl⟩
  by_cases hbig : 65536 < l.length
  · simp (config := {implicitDefEqProofs := false, maxDischargeDepth := 20}) (disch := first | omega | (simp only [lenE]; done) | (simp only [lenE]; omega) | rfl | (simp only [lenE, markR_len]; done) | (simp only [lenE, markR_len]; omega)) only [runE, mapE, listE, initT_5, initT_6, initT_7, initT_8, resV, oneV, binA, unA, reduceCtorEq, Nat.reduceEqDiff, Nat.reduceAdd, Nat.reduceLT, Nat.reduceLeDiff, Nat.reduceMul, Nat.reduceSub, ↓reduceIte, decide_true, decide_false, Bool.true_eq_false, Bool.false_eq_true, Bool.not_true, Bool.not_false, if_true, if_false, and_true, true_and, memE, celE, w64, Nat.zero_add, Nat.add_zero, Nat.mul_one, putL, and_self, ldn, decide_eq_true hbig]
  have B : BytesA [⟨.ro, 5, l.map (Value.int .u8)⟩] 0 l := ⟨⟨.ro, by simp, rfl⟩, hb, by omega⟩
  obtain ⟨N0, hM0⟩ : ∃ M : Mem, M = [⟨.ro, 5, l.map (Value.int .u8)⟩] := ⟨_, rfl⟩
  rw [← hM0] at B
  rw [List.append_nil, ← hM0]
  clear hM0
  simp (config := {implicitDefEqProofs := false, maxDischargeDepth := 20}) (disch := first | omega | (simp only [lenE]; done) | (simp only [lenE]; omega) | rfl | (simp only [lenE, markR_len]; done) | (simp only [lenE, markR_len]; omega)) only [runE, mapE, listE, initT_5, initT_6, initT_7, initT_8, resV, oneV, binA, unA, reduceCtorEq, Nat.reduceEqDiff, Nat.reduceAdd, Nat.reduceLT, Nat.reduceLeDiff, Nat.reduceMul, Nat.reduceSub, ↓reduceIte, decide_true, decide_false, Bool.true_eq_false, Bool.false_eq_true, Bool.not_true, Bool.not_false, if_true, if_false, and_true, true_and, memE, celE, w64, Nat.zero_add, Nat.add_zero, Nat.mul_one, putL, and_self, ldn, decide_eq_false hbig]
  refine callH_rc (DrawParcelStocks_rc _ 0 0 l B) ?_
  rintro r new ⟨nr, x, L1, id1, A, rid, rfl, hid1, hrid, hl1, hA1, ho1, ro1⟩
  have P1 : PcsA (N0 ++ new) (.slice (some ⟨id1, 0, none⟩) L1.length 3) L1 := ⟨by omega, id1, 3, rfl, fun k i hk hi => by rw [ho1.rd]; exact pcsC_at L1 k i hk hi⟩
  have I1 : IntsA (N0 ++ new) (.slice (some ⟨rid, 0, none⟩) A.length 1) A := ro1.ints (by omega) 1
  clear ho1 ro1 hid1 hrid
  generalize (.slice (some ⟨id1, 0, none⟩) L1.length 3 : Value) = pv at *
  generalize (.slice (some ⟨rid, 0, none⟩) A.length 1 : Value) = av at *
  obtain ⟨N1, hN⟩ : ∃ X, X = N0 ++ new := ⟨_, rfl⟩
  replace B : BytesA N1 0 l := by rw [hN]; exact B.ext _
  rw [← hN] at P1
  rw [← hN] at I1
  rw [← hN]
  clear hN nr
  try simp (config := {implicitDefEqProofs := false, maxDischargeDepth := 20}) (disch := first | omega | (simp only [lenE]; done) | (simp only [lenE]; omega) | rfl | (simp only [lenE, markR_len]; done) | (simp only [lenE, markR_len]; omega)) only [runE, mapE, listE, initT_5, initT_6, initT_7, initT_8, resV, oneV, binA, unA, reduceCtorEq, Nat.reduceEqDiff, Nat.reduceAdd, Nat.reduceLT, Nat.reduceLeDiff, Nat.reduceMul, Nat.reduceSub, ↓reduceIte, decide_true, decide_false, Bool.true_eq_false, Bool.false_eq_true, Bool.not_true, Bool.not_false, if_true, if_false, and_true, true_and, memE, celE, w64, Nat.zero_add, Nat.add_zero, Nat.mul_one, putL, and_self, ldn, Bool.and_self, Bool.and_true, Bool.true_and, Bool.and_false, Bool.false_and, Bool.or_false, Bool.false_or, ext_2_0, ext_2_1, ext_3_0, ext_3_1, ext_3_2, bne_self_eq_false, beq_self_eq_true, Bool.not_true, Bool.not_false, goG_undef]
  refine callH_rc (implParcelStocks_rc N1 pv av x L1 A P1 I1) ?_
  rintro r new ⟨nr, v6, rfl, hv⟩
  have I6 := hv.now.in
  clear hv
  obtain ⟨N2, hN⟩ : ∃ X, X = N1 ++ new := ⟨_, rfl⟩
  replace B : BytesA N2 0 l := by rw [hN]; exact B.ext _
  replace P1 : PcsA N2 pv L1 := by rw [hN]; exact P1.ext _
  replace I1 : IntsA N2 av A := by rw [hN]; exact I1.ext _
  rw [← hN] at I6
  rw [← hN]
  clear hN nr
  try simp (config := {implicitDefEqProofs := false, maxDischargeDepth := 20}) (disch := first | omega | (simp only [lenE]; done) | (simp only [lenE]; omega) | rfl | (simp only [lenE, markR_len]; done) | (simp only [lenE, markR_len]; omega)) only [runE, mapE, listE, initT_5, initT_6, initT_7, initT_8, resV, oneV, binA, unA, reduceCtorEq, Nat.reduceEqDiff, Nat.reduceAdd, Nat.reduceLT, Nat.reduceLeDiff, Nat.reduceMul, Nat.reduceSub, ↓reduceIte, decide_true, decide_false, Bool.true_eq_false, Bool.false_eq_true, Bool.not_true, Bool.not_false, if_true, if_false, and_true, true_and, memE, celE, w64, Nat.zero_add, Nat.add_zero, Nat.mul_one, putL, and_self, ldn, Bool.and_self, Bool.and_true, Bool.true_and, Bool.and_false, Bool.false_and, Bool.or_false, Bool.false_or, ext_2_0, ext_2_1, ext_3_0, ext_3_1, ext_3_2, bne_self_eq_false, beq_self_eq_true, Bool.not_true, Bool.not_false, goG_undef]
  refine callH_rc (specParcelStocks_rc N2 pv av x L1 A P1 I1) ?_
  rintro r new ⟨nr, v8, rfl, hv⟩
  have I8 := hv.now.in
  clear hv
  obtain ⟨N3, hN⟩ : ∃ X, X = N2 ++ new := ⟨_, rfl⟩
  replace B : BytesA N3 0 l := by rw [hN]; exact B.ext _
  replace P1 : PcsA N3 pv L1 := by rw [hN]; exact P1.ext _
  replace I1 : IntsA N3 av A := by rw [hN]; exact I1.ext _
  replace I6 : IntsA N3 v6 (pstA x L1 A) := by rw [hN]; exact I6.ext _
  rw [← hN] at I8
  rw [← hN]
  clear hN nr
  try simp (config := {implicitDefEqProofs := false, maxDischargeDepth := 20}) (disch := first | omega | (simp only [lenE]; done) | (simp only [lenE]; omega) | rfl | (simp only [lenE, markR_len]; done) | (simp only [lenE, markR_len]; omega)) only [runE, mapE, listE, initT_5, initT_6, initT_7, initT_8, resV, oneV, binA, unA, reduceCtorEq, Nat.reduceEqDiff, Nat.reduceAdd, Nat.reduceLT, Nat.reduceLeDiff, Nat.reduceMul, Nat.reduceSub, ↓reduceIte, decide_true, decide_false, Bool.true_eq_false, Bool.false_eq_true, Bool.not_true, Bool.not_false, if_true, if_false, and_true, true_and, memE, celE, w64, Nat.zero_add, Nat.add_zero, Nat.mul_one, putL, and_self, ldn, Bool.and_self, Bool.and_true, Bool.true_and, Bool.and_false, Bool.false_and, Bool.or_false, Bool.false_or, ext_2_0, ext_2_1, ext_3_0, ext_3_1, ext_3_2, bne_self_eq_false, beq_self_eq_true, Bool.not_true, Bool.not_false, goG_undef]
  refine callH_rc (rIntsF_rc N3 v6 v8 _ I6 I8) ?_
  rintro r new ⟨rfl, rfl⟩
  rw [List.append_nil]
  clear I6 I8 P1 I1
  try simp (config := {implicitDefEqProofs := false, maxDischargeDepth := 20}) (disch := first | omega | (simp only [lenE]; done) | (simp only [lenE]; omega) | rfl | (simp only [lenE, markR_len]; done) | (simp only [lenE, markR_len]; omega)) only [runE, mapE, listE, initT_5, initT_6, initT_7, initT_8, resV, oneV, binA, unA, reduceCtorEq, Nat.reduceEqDiff, Nat.reduceAdd, Nat.reduceLT, Nat.reduceLeDiff, Nat.reduceMul, Nat.reduceSub, ↓reduceIte, decide_true, decide_false, Bool.true_eq_false, Bool.false_eq_true, Bool.not_true, Bool.not_false, if_true, if_false, and_true, true_and, memE, celE, w64, Nat.zero_add, Nat.add_zero, Nat.mul_one, putL, and_self, ldn, Bool.and_self, Bool.and_true, Bool.true_and, Bool.and_false, Bool.false_and, Bool.or_false, Bool.false_or, ext_2_0, ext_2_1, ext_3_0, ext_3_1, ext_3_2, bne_self_eq_false, beq_self_eq_true, Bool.not_true, Bool.not_false, goG_undef]
  refine callH_rc (DrawStraightLeads_rc _ 0 0 l B) ?_
  rintro r new ⟨nr, L, id2, rfl, hid2, hl2, ho2⟩
  have P : PcsA (N3 ++ new) (.slice (some ⟨id2, 0, none⟩) L.length 3) L := ⟨by omega, id2, 3, rfl, fun k i hk hi => by rw [ho2.rd]; exact pcsC_at L k i hk hi⟩
  clear ho2 hid2
  generalize (.slice (some ⟨id2, 0, none⟩) L.length 3 : Value) = pw at *
  obtain ⟨N4, hN⟩ : ∃ X, X = N3 ++ new := ⟨_, rfl⟩
  replace B : BytesA N4 0 l := by rw [hN]; exact B.ext _
  rw [← hN] at P
  rw [← hN]
  clear hN nr
  try simp (config := {implicitDefEqProofs := false, maxDischargeDepth := 20}) (disch := first | omega | (simp only [lenE]; done) | (simp only [lenE]; omega) | rfl | (simp only [lenE, markR_len]; done) | (simp only [lenE, markR_len]; omega)) only [runE, mapE, listE, initT_5, initT_6, initT_7, initT_8, resV, oneV, binA, unA, reduceCtorEq, Nat.reduceEqDiff, Nat.reduceAdd, Nat.reduceLT, Nat.reduceLeDiff, Nat.reduceMul, Nat.reduceSub, ↓reduceIte, decide_true, decide_false, Bool.true_eq_false, Bool.false_eq_true, Bool.not_true, Bool.not_false, if_true, if_false, and_true, true_and, memE, celE, w64, Nat.zero_add, Nat.add_zero, Nat.mul_one, putL, and_self, ldn, Bool.and_self, Bool.and_true, Bool.true_and, Bool.and_false, Bool.false_and, Bool.or_false, Bool.false_or, ext_2_0, ext_2_1, ext_3_0, ext_3_1, ext_3_2, bne_self_eq_false, beq_self_eq_true, Bool.not_true, Bool.not_false, goG_undef]
  refine callH_rc (implStraight_rc N4 pw L P) ?_
  rintro r new ⟨nr, v11, rfl, hv⟩
  have P11 := hv.now.in
  clear hv
  obtain ⟨N5, hN⟩ : ∃ X, X = N4 ++ new := ⟨_, rfl⟩
  replace B : BytesA N5 0 l := by rw [hN]; exact B.ext _
  replace P : PcsA N5 pw L := by rw [hN]; exact P.ext _
  rw [← hN] at P11
  rw [← hN]
  clear hN nr
  try simp (config := {implicitDefEqProofs := false, maxDischargeDepth := 20}) (disch := first | omega | (simp only [lenE]; done) | (simp only [lenE]; omega) | rfl | (simp only [lenE, markR_len]; done) | (simp only [lenE, markR_len]; omega)) only [runE, mapE, listE, initT_5, initT_6, initT_7, initT_8, resV, oneV, binA, unA, reduceCtorEq, Nat.reduceEqDiff, Nat.reduceAdd, Nat.reduceLT, Nat.reduceLeDiff, Nat.reduceMul, Nat.reduceSub, ↓reduceIte, decide_true, decide_false, Bool.true_eq_false, Bool.false_eq_true, Bool.not_true, Bool.not_false, if_true, if_false, and_true, true_and, memE, celE, w64, Nat.zero_add, Nat.add_zero, Nat.mul_one, putL, and_self, ldn, Bool.and_self, Bool.and_true, Bool.true_and, Bool.and_false, Bool.false_and, Bool.or_false, Bool.false_or, ext_2_0, ext_2_1, ext_3_0, ext_3_1, ext_3_2, bne_self_eq_false, beq_self_eq_true, Bool.not_true, Bool.not_false, goG_undef]
  refine callH_rc (specStraight_rc N5 pw L P) ?_
  rintro r new ⟨nr, v13, rfl, hv⟩
  have P13 := hv.now.in
  clear hv
  obtain ⟨N6, hN⟩ : ∃ X, X = N5 ++ new := ⟨_, rfl⟩
  replace B : BytesA N6 0 l := by rw [hN]; exact B.ext _
  replace P : PcsA N6 pw L := by rw [hN]; exact P.ext _
  replace P11 : PcsA N6 v11 (strA L) := by rw [hN]; exact P11.ext _
  rw [← hN] at P13
  rw [← hN]
  clear hN nr
  have n11 := P11.len
  have n13 := P13.len
  try simp (config := {implicitDefEqProofs := false, maxDischargeDepth := 20}) (disch := first | omega | (simp only [lenE]; done) | (simp only [lenE]; omega) | rfl | (simp only [lenE, markR_len]; done) | (simp only [lenE, markR_len]; omega)) only [runE, mapE, listE, initT_5, initT_6, initT_7, initT_8, resV, oneV, binA, unA, reduceCtorEq, Nat.reduceEqDiff, Nat.reduceAdd, Nat.reduceLT, Nat.reduceLeDiff, Nat.reduceMul, Nat.reduceSub, ↓reduceIte, decide_true, decide_false, Bool.true_eq_false, Bool.false_eq_true, Bool.not_true, Bool.not_false, if_true, if_false, and_true, true_and, memE, celE, w64, Nat.zero_add, Nat.add_zero, Nat.mul_one, putL, and_self, ldn, Bool.and_self, Bool.and_true, Bool.true_and, Bool.and_false, Bool.false_and, Bool.or_false, Bool.false_or, ext_2_0, ext_2_1, ext_3_0, ext_3_1, ext_3_2, bne_self_eq_false, beq_self_eq_true, Bool.not_true, Bool.not_false, goG_undef, n11, n13]
  have bd11 := P11.1
  refine loop_inv mixed (fun s => ∃ (k : Nat), k ≤ (strA L).length ∧ s.m = N6 ∧ s.t 10 = pw ∧ s.t 11 = v11 ∧ s.t 12 = .bool (strOk L) ∧ s.t 13 = v13 ∧ s.t 15 = .int .i64 k) (fun s => (strA L).length - (intOf (s.t 15)).toNat)
    ⟨0, by omega, rfl, rfl, rfl, rfl, rfl, rfl⟩ ?_
  rintro s ⟨k, hk, tm, t10, t11, t12, t13, t15⟩
  by_cases hlt : k < (strA L).length
  · have hlt' : (k : Int) < (strA L).length := by omega
    have i1 := P11.at_ hlt
    have i2 := P11.ld hlt
    have i3 := P13.at_ hlt
    have i4 := P13.ld hlt
    simp (config := {implicitDefEqProofs := false, maxDischargeDepth := 20}) (disch := first | omega | (simp only [lenE]; done) | (simp only [lenE]; omega) | rfl | (simp only [lenE, markR_len]; done) | (simp only [lenE, markR_len]; omega)) only [runE, mapE, listE, initT_5, initT_6, initT_7, initT_8, resV, oneV, binA, unA, reduceCtorEq, Nat.reduceEqDiff, Nat.reduceAdd, Nat.reduceLT, Nat.reduceLeDiff, Nat.reduceMul, Nat.reduceSub, ↓reduceIte, decide_true, decide_false, Bool.true_eq_false, Bool.false_eq_true, Bool.not_true, Bool.not_false, if_true, if_false, and_true, true_and, memE, celE, w64, Nat.zero_add, Nat.add_zero, Nat.mul_one, putL, and_self, ldn, tm, t10, t11, t12, t13, t15, n11, hlt', i1, i2, i3, i4, ae3F]
    refine ⟨⟨k + 1, by omega, by simp⟩, ?_⟩
    simp [intOf]; omega
  have hlt' : ¬ ((k : Int) < (strA L).length) := by omega
  clear P13 n13
  try simp (config := {implicitDefEqProofs := false, maxDischargeDepth := 20}) (disch := first | omega | (simp only [lenE]; done) | (simp only [lenE]; omega) | rfl | (simp only [lenE, markR_len]; done) | (simp only [lenE, markR_len]; omega)) only [runE, mapE, listE, initT_5, initT_6, initT_7, initT_8, resV, oneV, binA, unA, reduceCtorEq, Nat.reduceEqDiff, Nat.reduceAdd, Nat.reduceLT, Nat.reduceLeDiff, Nat.reduceMul, Nat.reduceSub, ↓reduceIte, decide_true, decide_false, Bool.true_eq_false, Bool.false_eq_true, Bool.not_true, Bool.not_false, if_true, if_false, and_true, true_and, memE, celE, w64, Nat.zero_add, Nat.add_zero, Nat.mul_one, putL, and_self, ldn, Bool.and_self, Bool.and_true, Bool.true_and, Bool.and_false, Bool.false_and, Bool.or_false, Bool.false_or, ext_2_0, ext_2_1, ext_3_0, ext_3_1, ext_3_2, bne_self_eq_false, beq_self_eq_true, Bool.not_true, Bool.not_false, goG_undef, tm, t10, t11, t12, t13, t15, n11, hlt']
  refine callH_rc (implCrossing_rc N6 pw L P) ?_
  rintro r new ⟨nr, v16, rfl, hv⟩
  have Q16 := hv.now.in
  clear hv
  obtain ⟨N7, hN⟩ : ∃ X, X = N6 ++ new := ⟨_, rfl⟩
  replace B : BytesA N7 0 l := by rw [hN]; exact B.ext _
  replace P : PcsA N7 pw L := by rw [hN]; exact P.ext _
  replace P11 : PcsA N7 v11 (strA L) := by rw [hN]; exact P11.ext _
  rw [← hN] at Q16
  rw [← hN]
  clear hN nr
  try simp (config := {implicitDefEqProofs := false, maxDischargeDepth := 20}) (disch := first | omega | (simp only [lenE]; done) | (simp only [lenE]; omega) | rfl | (simp only [lenE, markR_len]; done) | (simp only [lenE, markR_len]; omega)) only [runE, mapE, listE, initT_5, initT_6, initT_7, initT_8, resV, oneV, binA, unA, reduceCtorEq, Nat.reduceEqDiff, Nat.reduceAdd, Nat.reduceLT, Nat.reduceLeDiff, Nat.reduceMul, Nat.reduceSub, ↓reduceIte, decide_true, decide_false, Bool.true_eq_false, Bool.false_eq_true, Bool.not_true, Bool.not_false, if_true, if_false, and_true, true_and, memE, celE, w64, Nat.zero_add, Nat.add_zero, Nat.mul_one, putL, and_self, ldn, Bool.and_self, Bool.and_true, Bool.true_and, Bool.and_false, Bool.false_and, Bool.or_false, Bool.false_or, ext_2_0, ext_2_1, ext_3_0, ext_3_1, ext_3_2, bne_self_eq_false, beq_self_eq_true, Bool.not_true, Bool.not_false, goG_undef, tm, t10, t11, t12, t13, t15]
  refine callH_rc (specCrossing_rc N7 pw L P) ?_
  rintro r new ⟨nr, v18, rfl, hv⟩
  have Q18 := hv.now.in
  clear hv
  obtain ⟨N8, hN⟩ : ∃ X, X = N7 ++ new := ⟨_, rfl⟩
  replace B : BytesA N8 0 l := by rw [hN]; exact B.ext _
  replace P : PcsA N8 pw L := by rw [hN]; exact P.ext _
  replace P11 : PcsA N8 v11 (strA L) := by rw [hN]; exact P11.ext _
  replace Q16 : PairsA N8 v16 (crossA L) := by rw [hN]; exact Q16.ext _
  rw [← hN] at Q18
  rw [← hN]
  clear hN nr
  try simp (config := {implicitDefEqProofs := false, maxDischargeDepth := 20}) (disch := first | omega | (simp only [lenE]; done) | (simp only [lenE]; omega) | rfl | (simp only [lenE, markR_len]; done) | (simp only [lenE, markR_len]; omega)) only [runE, mapE, listE, initT_5, initT_6, initT_7, initT_8, resV, oneV, binA, unA, reduceCtorEq, Nat.reduceEqDiff, Nat.reduceAdd, Nat.reduceLT, Nat.reduceLeDiff, Nat.reduceMul, Nat.reduceSub, ↓reduceIte, decide_true, decide_false, Bool.true_eq_false, Bool.false_eq_true, Bool.not_true, Bool.not_false, if_true, if_false, and_true, true_and, memE, celE, w64, Nat.zero_add, Nat.add_zero, Nat.mul_one, putL, and_self, ldn, Bool.and_self, Bool.and_true, Bool.true_and, Bool.and_false, Bool.false_and, Bool.or_false, Bool.false_or, ext_2_0, ext_2_1, ext_3_0, ext_3_1, ext_3_2, bne_self_eq_false, beq_self_eq_true, Bool.not_true, Bool.not_false, goG_undef, tm, t10, t11, t12, t13, t15]
  refine callH_rc (rPairsF_rc N8 v16 v18 _ Q16 Q18) ?_
  rintro r new ⟨rfl, nr⟩
  obtain ⟨N9, hN⟩ : ∃ X, X = N8 ++ new := ⟨_, rfl⟩
  replace B : BytesA N9 0 l := by rw [hN]; exact B.ext _
  replace P : PcsA N9 pw L := by rw [hN]; exact P.ext _
  replace P11 : PcsA N9 v11 (strA L) := by rw [hN]; exact P11.ext _
  replace Q16 : PairsA N9 v16 (crossA L) := by rw [hN]; exact Q16.ext _
  replace Q18 : PairsA N9 v18 (crossA L) := by rw [hN]; exact Q18.ext _
  rw [← hN]
  clear hN nr
  try simp (config := {implicitDefEqProofs := false, maxDischargeDepth := 20}) (disch := first | omega | (simp only [lenE]; done) | (simp only [lenE]; omega) | rfl | (simp only [lenE, markR_len]; done) | (simp only [lenE, markR_len]; omega)) only [runE, mapE, listE, initT_5, initT_6, initT_7, initT_8, resV, oneV, binA, unA, reduceCtorEq, Nat.reduceEqDiff, Nat.reduceAdd, Nat.reduceLT, Nat.reduceLeDiff, Nat.reduceMul, Nat.reduceSub, ↓reduceIte, decide_true, decide_false, Bool.true_eq_false, Bool.false_eq_true, Bool.not_true, Bool.not_false, if_true, if_false, and_true, true_and, memE, celE, w64, Nat.zero_add, Nat.add_zero, Nat.mul_one, putL, and_self, ldn, Bool.and_self, Bool.and_true, Bool.true_and, Bool.and_false, Bool.false_and, Bool.or_false, Bool.false_or, ext_2_0, ext_2_1, ext_3_0, ext_3_1, ext_3_2, bne_self_eq_false, beq_self_eq_true, Bool.not_true, Bool.not_false, goG_undef, tm, t10, t11, t12, t13, t15]
  clear Q16 Q18
  refine callH_rc (implArrivalsOf_rc N9 pw L P) ?_
  rintro r new ⟨nr, v20, rfl, hv⟩
  have I20 := hv.now.in
  clear hv
  obtain ⟨N10, hN⟩ : ∃ X, X = N9 ++ new := ⟨_, rfl⟩
  replace B : BytesA N10 0 l := by rw [hN]; exact B.ext _
  replace P : PcsA N10 pw L := by rw [hN]; exact P.ext _
  replace P11 : PcsA N10 v11 (strA L) := by rw [hN]; exact P11.ext _
  rw [← hN] at I20
  rw [← hN]
  clear hN nr
  try simp (config := {implicitDefEqProofs := false, maxDischargeDepth := 20}) (disch := first | omega | (simp only [lenE]; done) | (simp only [lenE]; omega) | rfl | (simp only [lenE, markR_len]; done) | (simp only [lenE, markR_len]; omega)) only [runE, mapE, listE, initT_5, initT_6, initT_7, initT_8, resV, oneV, binA, unA, reduceCtorEq, Nat.reduceEqDiff, Nat.reduceAdd, Nat.reduceLT, Nat.reduceLeDiff, Nat.reduceMul, Nat.reduceSub, ↓reduceIte, decide_true, decide_false, Bool.true_eq_false, Bool.false_eq_true, Bool.not_true, Bool.not_false, if_true, if_false, and_true, true_and, memE, celE, w64, Nat.zero_add, Nat.add_zero, Nat.mul_one, putL, and_self, ldn, Bool.and_self, Bool.and_true, Bool.true_and, Bool.and_false, Bool.false_and, Bool.or_false, Bool.false_or, ext_2_0, ext_2_1, ext_3_0, ext_3_1, ext_3_2, bne_self_eq_false, beq_self_eq_true, Bool.not_true, Bool.not_false, goG_undef, tm, t10, t11, t12, t13, t15]
  refine callH_rc (specArrivalsOf_rc N10 pw L P) ?_
  rintro r new ⟨nr, v22, rfl, hv⟩
  have I22 := hv.now.in
  clear hv
  obtain ⟨N11, hN⟩ : ∃ X, X = N10 ++ new := ⟨_, rfl⟩
  replace B : BytesA N11 0 l := by rw [hN]; exact B.ext _
  replace P : PcsA N11 pw L := by rw [hN]; exact P.ext _
  replace P11 : PcsA N11 v11 (strA L) := by rw [hN]; exact P11.ext _
  replace I20 : IntsA N11 v20 (arrA L) := by rw [hN]; exact I20.ext _
  rw [← hN] at I22
  rw [← hN]
  clear hN nr
  try simp (config := {implicitDefEqProofs := false, maxDischargeDepth := 20}) (disch := first | omega | (simp only [lenE]; done) | (simp only [lenE]; omega) | rfl | (simp only [lenE, markR_len]; done) | (simp only [lenE, markR_len]; omega)) only [runE, mapE, listE, initT_5, initT_6, initT_7, initT_8, resV, oneV, binA, unA, reduceCtorEq, Nat.reduceEqDiff, Nat.reduceAdd, Nat.reduceLT, Nat.reduceLeDiff, Nat.reduceMul, Nat.reduceSub, ↓reduceIte, decide_true, decide_false, Bool.true_eq_false, Bool.false_eq_true, Bool.not_true, Bool.not_false, if_true, if_false, and_true, true_and, memE, celE, w64, Nat.zero_add, Nat.add_zero, Nat.mul_one, putL, and_self, ldn, Bool.and_self, Bool.and_true, Bool.true_and, Bool.and_false, Bool.false_and, Bool.or_false, Bool.false_or, ext_2_0, ext_2_1, ext_3_0, ext_3_1, ext_3_2, bne_self_eq_false, beq_self_eq_true, Bool.not_true, Bool.not_false, goG_undef, tm, t10, t11, t12, t13, t15]
  refine callH_rc (rIntsF_rc N11 v20 v22 _ I20 I22) ?_
  rintro r new ⟨rfl, rfl⟩
  rw [List.append_nil]
  clear I22
  cases hp : parB L with
  | false =>
    have hso : strOk L = false := by simp [strOk, hp]
    try simp (config := {implicitDefEqProofs := false, maxDischargeDepth := 20}) (disch := first | omega | (simp only [lenE]; done) | (simp only [lenE]; omega) | rfl | (simp only [lenE, markR_len]; done) | (simp only [lenE, markR_len]; omega)) only [runE, mapE, listE, initT_5, initT_6, initT_7, initT_8, resV, oneV, binA, unA, reduceCtorEq, Nat.reduceEqDiff, Nat.reduceAdd, Nat.reduceLT, Nat.reduceLeDiff, Nat.reduceMul, Nat.reduceSub, ↓reduceIte, decide_true, decide_false, Bool.true_eq_false, Bool.false_eq_true, Bool.not_true, Bool.not_false, if_true, if_false, and_true, true_and, memE, celE, w64, Nat.zero_add, Nat.add_zero, Nat.mul_one, putL, and_self, ldn, Bool.and_self, Bool.and_true, Bool.true_and, Bool.and_false, Bool.false_and, Bool.or_false, Bool.false_or, ext_2_0, ext_2_1, ext_3_0, ext_3_1, ext_3_2, bne_self_eq_false, beq_self_eq_true, Bool.not_true, Bool.not_false, goG_undef, tm, t10, t11, t12, t13, t15, hso]
  | true =>
  have hG := parB_iff.1 hp
  have hlen := hG.len
  have hLl := P.len
  try simp (config := {implicitDefEqProofs := false, maxDischargeDepth := 20}) (disch := first | omega | (simp only [lenE]; done) | (simp only [lenE]; omega) | rfl | (simp only [lenE, markR_len]; done) | (simp only [lenE, markR_len]; omega)) only [runE, mapE, listE, initT_5, initT_6, initT_7, initT_8, resV, oneV, binA, unA, reduceCtorEq, Nat.reduceEqDiff, Nat.reduceAdd, Nat.reduceLT, Nat.reduceLeDiff, Nat.reduceMul, Nat.reduceSub, ↓reduceIte, decide_true, decide_false, Bool.true_eq_false, Bool.false_eq_true, Bool.not_true, Bool.not_false, if_true, if_false, and_true, true_and, memE, celE, w64, Nat.zero_add, Nat.add_zero, Nat.mul_one, putL, and_self, ldn, Bool.and_self, Bool.and_true, Bool.true_and, Bool.and_false, Bool.false_and, Bool.or_false, Bool.false_or, ext_2_0, ext_2_1, ext_3_0, ext_3_1, ext_3_2, bne_self_eq_false, beq_self_eq_true, Bool.not_true, Bool.not_false, goG_undef, tm, t10, t11, t12, t13, t15, hLl]
  refine loop_inv mixed (fun s => ∃ (k : Nat), k ≤ L.length ∧ s.m = N11 ∧ s.t 10 = pw ∧ s.t 11 = v11 ∧ s.t 12 = .bool (strOk L) ∧ s.t 20 = v20 ∧ s.t 24 = .int .i64 (amtTo L k) ∧ s.t 25 = .int .i64 k) (fun s => L.length - (intOf (s.t 25)).toNat)
    ⟨0, by omega, by simp only [put_t, put_t', put_m, putT_t, putT_t', putT_m, init_t, init_m, initT_0, initT_1, initT_2, initT_3, initT_4, initT_5, initT_6, initT_7, initT_8, Nat.reduceEqDiff, ↓reduceIte, tm], by simp only [put_t, put_t', put_m, putT_t, putT_t', putT_m, init_t, init_m, initT_0, initT_1, initT_2, initT_3, initT_4, initT_5, initT_6, initT_7, initT_8, Nat.reduceEqDiff, ↓reduceIte, t10], by simp only [put_t, put_t', put_m, putT_t, putT_t', putT_m, init_t, init_m, initT_0, initT_1, initT_2, initT_3, initT_4, initT_5, initT_6, initT_7, initT_8, Nat.reduceEqDiff, ↓reduceIte, t11], by simp only [put_t, put_t', put_m, putT_t, putT_t', putT_m, init_t, init_m, initT_0, initT_1, initT_2, initT_3, initT_4, initT_5, initT_6, initT_7, initT_8, Nat.reduceEqDiff, ↓reduceIte, t12], by simp only [put_t, put_t', put_m, putT_t, putT_t', putT_m, init_t, init_m, initT_0, initT_1, initT_2, initT_3, initT_4, initT_5, initT_6, initT_7, initT_8, Nat.reduceEqDiff, ↓reduceIte], by simp only [put_t, put_t', put_m, putT_t, putT_t', putT_m, init_t, init_m, initT_0, initT_1, initT_2, initT_3, initT_4, initT_5, initT_6, initT_7, initT_8, Nat.reduceEqDiff, ↓reduceIte]; simp [amtTo], by simp only [put_t, put_t', put_m, putT_t, putT_t', putT_m, init_t, init_m, initT_0, initT_1, initT_2, initT_3, initT_4, initT_5, initT_6, initT_7, initT_8, Nat.reduceEqDiff, ↓reduceIte]; simp⟩ ?_
  clear tm t10 t11 t12 t13 t15
  rintro s ⟨k, hk, tm, t10, t11, t12, t20, t24, t25⟩
  by_cases hlk : k < L.length
  · have hlk' : (k : Int) < L.length := by omega
    have i1 := P.at_ hlk
    obtain ⟨q1, f1, g1⟩ := P.fld hlk 1 (by decide)
    replace g1 : ldA N11 none q1 = some (.int .i64 (L.getD k Pc0).amount) := g1
    have b1 := amtTo_bd hG k (by omega)
    have b2 := (hG.all k hlk).amount
    have eA : amtTo L (k + 1) = amtTo L k + (L.getD k Pc0).amount := rfl
    simp (config := {implicitDefEqProofs := false, maxDischargeDepth := 20}) (disch := first | omega | (simp only [lenE]; done) | (simp only [lenE]; omega) | rfl | (simp only [lenE, markR_len]; done) | (simp only [lenE, markR_len]; omega)) only [runE, mapE, listE, initT_5, initT_6, initT_7, initT_8, resV, oneV, binA, unA, reduceCtorEq, Nat.reduceEqDiff, Nat.reduceAdd, Nat.reduceLT, Nat.reduceLeDiff, Nat.reduceMul, Nat.reduceSub, ↓reduceIte, decide_true, decide_false, Bool.true_eq_false, Bool.false_eq_true, Bool.not_true, Bool.not_false, if_true, if_false, and_true, true_and, memE, celE, w64, Nat.zero_add, Nat.add_zero, Nat.mul_one, putL, and_self, ldn, tm, t10, t11, t12, t20, t24, t25, hLl, hlk', i1, f1, g1]
    refine ⟨⟨k + 1, by omega, by rw [eA], by simp⟩, ?_⟩
    simp [intOf]; omega
  have hlk' : ¬ ((k : Int) < L.length) := by omega
  obtain rfl : k = L.length := by omega
  have eAr : arrA L = arrTo L L.length := by unfold arrA; rw [hp]; rfl
  have hal := arrTo_len L L.length
  rw [eAr] at I20
  have eSum : sumTo (arrTo L L.length) (arrTo L L.length).length = amtTo L L.length := by
    rw [sumTo_all (Nat.le_refl _), arr_sum hG _ (Nat.le_refl _), amtTo_sum L _ (Nat.le_refl _)]
  try simp (config := {implicitDefEqProofs := false, maxDischargeDepth := 20}) (disch := first | omega | (simp only [lenE]; done) | (simp only [lenE]; omega) | rfl | (simp only [lenE, markR_len]; done) | (simp only [lenE, markR_len]; omega)) only [runE, mapE, listE, initT_5, initT_6, initT_7, initT_8, resV, oneV, binA, unA, reduceCtorEq, Nat.reduceEqDiff, Nat.reduceAdd, Nat.reduceLT, Nat.reduceLeDiff, Nat.reduceMul, Nat.reduceSub, ↓reduceIte, decide_true, decide_false, Bool.true_eq_false, Bool.false_eq_true, Bool.not_true, Bool.not_false, if_true, if_false, and_true, true_and, memE, celE, w64, Nat.zero_add, Nat.add_zero, Nat.mul_one, putL, and_self, ldn, Bool.and_self, Bool.and_true, Bool.true_and, Bool.and_false, Bool.false_and, Bool.or_false, Bool.false_or, ext_2_0, ext_2_1, ext_3_0, ext_3_1, ext_3_2, bne_self_eq_false, beq_self_eq_true, Bool.not_true, Bool.not_false, goG_undef, tm, t10, t11, t12, t20, t24, t25, hLl, hlk']
  refine callH_rc (rSumF_rc N11 v20 _ I20 (fun k hk => arrTo_sumBd hG k (by omega))) ?_
  rintro r new ⟨rfl, rfl⟩
  rw [List.append_nil, eSum]
  cases hso : strOk L with
  | false =>
    try simp (config := {implicitDefEqProofs := false, maxDischargeDepth := 20}) (disch := first | omega | (simp only [lenE]; done) | (simp only [lenE]; omega) | rfl | (simp only [lenE, markR_len]; done) | (simp only [lenE, markR_len]; omega)) only [runE, mapE, listE, initT_5, initT_6, initT_7, initT_8, resV, oneV, binA, unA, reduceCtorEq, Nat.reduceEqDiff, Nat.reduceAdd, Nat.reduceLT, Nat.reduceLeDiff, Nat.reduceMul, Nat.reduceSub, ↓reduceIte, decide_true, decide_false, Bool.true_eq_false, Bool.false_eq_true, Bool.not_true, Bool.not_false, if_true, if_false, and_true, true_and, memE, celE, w64, Nat.zero_add, Nat.add_zero, Nat.mul_one, putL, and_self, ldn, Bool.and_self, Bool.and_true, Bool.true_and, Bool.and_false, Bool.false_and, Bool.or_false, Bool.false_or, ext_2_0, ext_2_1, ext_3_0, ext_3_1, ext_3_2, bne_self_eq_false, beq_self_eq_true, Bool.not_true, Bool.not_false, goG_undef, tm, t10, t11, t12, t20, t24, t25, hso]
  | true =>
  have eS : strA L = strTo L L.length := by unfold strA; rw [hso]; rfl
  rw [eS] at P11
  try simp (config := {implicitDefEqProofs := false, maxDischargeDepth := 20}) (disch := first | omega | (simp only [lenE]; done) | (simp only [lenE]; omega) | rfl | (simp only [lenE, markR_len]; done) | (simp only [lenE, markR_len]; omega)) only [runE, mapE, listE, initT_5, initT_6, initT_7, initT_8, resV, oneV, binA, unA, reduceCtorEq, Nat.reduceEqDiff, Nat.reduceAdd, Nat.reduceLT, Nat.reduceLeDiff, Nat.reduceMul, Nat.reduceSub, ↓reduceIte, decide_true, decide_false, Bool.true_eq_false, Bool.false_eq_true, Bool.not_true, Bool.not_false, if_true, if_false, and_true, true_and, memE, celE, w64, Nat.zero_add, Nat.add_zero, Nat.mul_one, putL, and_self, ldn, Bool.and_self, Bool.and_true, Bool.true_and, Bool.and_false, Bool.false_and, Bool.or_false, Bool.false_or, ext_2_0, ext_2_1, ext_3_0, ext_3_1, ext_3_2, bne_self_eq_false, beq_self_eq_true, Bool.not_true, Bool.not_false, goG_undef, tm, t10, t11, t12, t20, t24, t25, hso]
  have ePar := str_par hp
  have eCr := str_noCross hp
  have eArr : arrA (strTo L L.length) = arrTo L L.length := by rw [str_arrA hso, eAr]
  have cCr := implCrossing_rc N11 v11 _ P11
  rw [eCr, ePar] at cCr
  refine callH_rc cCr ?_
  clear cCr
  rintro r new ⟨nr, v26, rfl, hv⟩
  have Q26 := hv.now.in
  clear hv
  obtain ⟨N12, hN⟩ : ∃ X, X = N11 ++ new := ⟨_, rfl⟩
  replace B : BytesA N12 0 l := by rw [hN]; exact B.ext _
  replace P : PcsA N12 pw L := by rw [hN]; exact P.ext _
  replace P11 : PcsA N12 v11 (strTo L L.length) := by rw [hN]; exact P11.ext _
  replace I20 : IntsA N12 v20 (arrTo L L.length) := by rw [hN]; exact I20.ext _
  rw [← hN] at Q26
  rw [← hN]
  clear hN nr
  try simp (config := {implicitDefEqProofs := false, maxDischargeDepth := 20}) (disch := first | omega | (simp only [lenE]; done) | (simp only [lenE]; omega) | rfl | (simp only [lenE, markR_len]; done) | (simp only [lenE, markR_len]; omega)) only [runE, mapE, listE, initT_5, initT_6, initT_7, initT_8, resV, oneV, binA, unA, reduceCtorEq, Nat.reduceEqDiff, Nat.reduceAdd, Nat.reduceLT, Nat.reduceLeDiff, Nat.reduceMul, Nat.reduceSub, ↓reduceIte, decide_true, decide_false, Bool.true_eq_false, Bool.false_eq_true, Bool.not_true, Bool.not_false, if_true, if_false, and_true, true_and, memE, celE, w64, Nat.zero_add, Nat.add_zero, Nat.mul_one, putL, and_self, ldn, Bool.and_self, Bool.and_true, Bool.true_and, Bool.and_false, Bool.false_and, Bool.or_false, Bool.false_or, ext_2_0, ext_2_1, ext_3_0, ext_3_1, ext_3_2, bne_self_eq_false, beq_self_eq_true, Bool.not_true, Bool.not_false, goG_undef, tm, t10, t11, t12, t20, t24, t25]
  have cAr := implArrivalsOf_rc N12 v11 _ P11
  rw [eArr, ePar] at cAr
  refine callH_rc cAr ?_
  clear cAr
  rintro r new ⟨nr, v28, rfl, hv⟩
  have I28 := hv.now.in
  clear hv
  obtain ⟨N13, hN⟩ : ∃ X, X = N12 ++ new := ⟨_, rfl⟩
  replace B : BytesA N13 0 l := by rw [hN]; exact B.ext _
  replace P : PcsA N13 pw L := by rw [hN]; exact P.ext _
  replace P11 : PcsA N13 v11 (strTo L L.length) := by rw [hN]; exact P11.ext _
  replace I20 : IntsA N13 v20 (arrTo L L.length) := by rw [hN]; exact I20.ext _
  replace Q26 : PairsA N13 v26 [] := by rw [hN]; exact Q26.ext _
  rw [← hN] at I28
  rw [← hN]
  clear hN nr
  have n26 : lenA v26 = some (.int .i64 0) := Q26.lenF
  try simp (config := {implicitDefEqProofs := false, maxDischargeDepth := 20}) (disch := first | omega | (simp only [lenE]; done) | (simp only [lenE]; omega) | rfl | (simp only [lenE, markR_len]; done) | (simp only [lenE, markR_len]; omega)) only [runE, mapE, listE, initT_5, initT_6, initT_7, initT_8, resV, oneV, binA, unA, reduceCtorEq, Nat.reduceEqDiff, Nat.reduceAdd, Nat.reduceLT, Nat.reduceLeDiff, Nat.reduceMul, Nat.reduceSub, ↓reduceIte, decide_true, decide_false, Bool.true_eq_false, Bool.false_eq_true, Bool.not_true, Bool.not_false, if_true, if_false, and_true, true_and, memE, celE, w64, Nat.zero_add, Nat.add_zero, Nat.mul_one, putL, and_self, ldn, Bool.and_self, Bool.and_true, Bool.true_and, Bool.and_false, Bool.false_and, Bool.or_false, Bool.false_or, ext_2_0, ext_2_1, ext_3_0, ext_3_1, ext_3_2, bne_self_eq_false, beq_self_eq_true, Bool.not_true, Bool.not_false, goG_undef, tm, t10, t11, t12, t20, t24, t25, n26]
  refine callH_rc (rIntsF_rc N13 v28 v20 _ I28 I20) ?_
  rintro r new ⟨rfl, rfl⟩
  rw [List.append_nil]
  try simp (config := {implicitDefEqProofs := false, maxDischargeDepth := 20}) (disch := first | omega | (simp only [lenE]; done) | (simp only [lenE]; omega) | rfl | (simp only [lenE, markR_len]; done) | (simp only [lenE, markR_len]; omega)) only [runE, mapE, listE, initT_5, initT_6, initT_7, initT_8, resV, oneV, binA, unA, reduceCtorEq, Nat.reduceEqDiff, Nat.reduceAdd, Nat.reduceLT, Nat.reduceLeDiff, Nat.reduceMul, Nat.reduceSub, ↓reduceIte, decide_true, decide_false, Bool.true_eq_false, Bool.false_eq_true, Bool.not_true, Bool.not_false, if_true, if_false, and_true, true_and, memE, celE, w64, Nat.zero_add, Nat.add_zero, Nat.mul_one, putL, and_self, ldn, Bool.and_self, Bool.and_true, Bool.true_and, Bool.and_false, Bool.false_and, Bool.or_false, Bool.false_or, ext_2_0, ext_2_1, ext_3_0, ext_3_1, ext_3_2, bne_self_eq_false, beq_self_eq_true, Bool.not_true, Bool.not_false, goG_undef, tm, t10, t11, t12, t20, t24, t25, bl_ten]
  obtain ⟨K, hK⟩ : ∃ K, K = N13 ++ [rowB [1, 2, 3, 4, 5, 6, 7, 8, 9, 10]] := ⟨_, rfl⟩
  have I30 : IntsA K (.slice (some ⟨N13.length, 0, none⟩) 10 1) [1, 2, 3, 4, 5, 6, 7, 8, 9, 10] := by
    have ho : OwnR K N13.length [1, 2, 3, 4, 5, 6, 7, 8, 9, 10] := by rw [hK]; exact OwnB.here rfl
    exact ho.ints (by simp) 1
  replace P : PcsA K pw L := by rw [hK]; exact P.ext _
  replace P11 : PcsA K v11 (strTo L L.length) := by rw [hK]; exact P11.ext _
  try rw [← hK]
  clear hK
  generalize (.slice (some ⟨N13.length, 0, none⟩) 10 1 : Value) = cv at *
  have hst := str_stocks hso 10 [1, 2, 3, 4, 5, 6, 7, 8, 9, 10]
  have hpo : pstOk 10 L [1, 2, 3, 4, 5, 6, 7, 8, 9, 10] = true := by
    unfold pstOk; rw [hp]; decide
  refine callH_rc (implParcelStocks_rc K pw cv 10 L _ P I30) ?_
  rintro r new ⟨nr, v31, rfl, hv⟩
  have I31 := hv.now.in
  clear hv
  obtain ⟨K1, hN⟩ : ∃ X, X = K ++ new := ⟨_, rfl⟩
  rw [← hN] at I31
  replace P11 : PcsA K1 v11 (strTo L L.length) := by rw [hN]; exact P11.ext _
  replace I30 : IntsA K1 cv [1, 2, 3, 4, 5, 6, 7, 8, 9, 10] := by rw [hN]; exact I30.ext _
  rw [← hN, hpo]
  clear hN nr
  try simp (config := {implicitDefEqProofs := false, maxDischargeDepth := 20}) (disch := first | omega | (simp only [lenE]; done) | (simp only [lenE]; omega) | rfl | (simp only [lenE, markR_len]; done) | (simp only [lenE, markR_len]; omega)) only [runE, mapE, listE, initT_5, initT_6, initT_7, initT_8, resV, oneV, binA, unA, reduceCtorEq, Nat.reduceEqDiff, Nat.reduceAdd, Nat.reduceLT, Nat.reduceLeDiff, Nat.reduceMul, Nat.reduceSub, ↓reduceIte, decide_true, decide_false, Bool.true_eq_false, Bool.false_eq_true, Bool.not_true, Bool.not_false, if_true, if_false, and_true, true_and, memE, celE, w64, Nat.zero_add, Nat.add_zero, Nat.mul_one, putL, and_self, ldn, Bool.and_self, Bool.and_true, Bool.true_and, Bool.and_false, Bool.false_and, Bool.or_false, Bool.false_or, ext_2_0, ext_2_1, ext_3_0, ext_3_1, ext_3_2, bne_self_eq_false, beq_self_eq_true, Bool.not_true, Bool.not_false, goG_undef, tm, t10, t11, t12, t20, t24, t25]
  have c2 := implParcelStocks_rc K1 v11 cv 10 (strTo L L.length) _ P11 I30
  rw [hst.1, hst.2, hpo] at c2
  refine callH_rc c2 ?_
  clear c2
  rintro r new ⟨nr, v32, rfl, hv⟩
  have I32 := hv.now.in
  clear hv
  obtain ⟨K2, hN⟩ : ∃ X, X = K1 ++ new := ⟨_, rfl⟩
  rw [← hN] at I32
  replace I31 := I31.ext new
  rw [← hN] at I31
  rw [← hN]
  clear hN nr
  try simp (config := {implicitDefEqProofs := false, maxDischargeDepth := 20}) (disch := first | omega | (simp only [lenE]; done) | (simp only [lenE]; omega) | rfl | (simp only [lenE, markR_len]; done) | (simp only [lenE, markR_len]; omega)) only [runE, mapE, listE, initT_5, initT_6, initT_7, initT_8, resV, oneV, binA, unA, reduceCtorEq, Nat.reduceEqDiff, Nat.reduceAdd, Nat.reduceLT, Nat.reduceLeDiff, Nat.reduceMul, Nat.reduceSub, ↓reduceIte, decide_true, decide_false, Bool.true_eq_false, Bool.false_eq_true, Bool.not_true, Bool.not_false, if_true, if_false, and_true, true_and, memE, celE, w64, Nat.zero_add, Nat.add_zero, Nat.mul_one, putL, and_self, ldn, Bool.and_self, Bool.and_true, Bool.true_and, Bool.and_false, Bool.false_and, Bool.or_false, Bool.false_or, ext_2_0, ext_2_1, ext_3_0, ext_3_1, ext_3_2, bne_self_eq_false, beq_self_eq_true, Bool.not_true, Bool.not_false, goG_undef, tm, t10, t11, t12, t20, t24, t25]
  refine callH_rc (rIntsF_rc K2 v31 v32 _ I31 I32) ?_
  rintro r new ⟨rfl, rfl⟩
  try simp (config := {implicitDefEqProofs := false, maxDischargeDepth := 20}) (disch := first | omega | (simp only [lenE]; done) | (simp only [lenE]; omega) | rfl | (simp only [lenE, markR_len]; done) | (simp only [lenE, markR_len]; omega)) only [runE, mapE, listE, initT_5, initT_6, initT_7, initT_8, resV, oneV, binA, unA, reduceCtorEq, Nat.reduceEqDiff, Nat.reduceAdd, Nat.reduceLT, Nat.reduceLeDiff, Nat.reduceMul, Nat.reduceSub, ↓reduceIte, decide_true, decide_false, Bool.true_eq_false, Bool.false_eq_true, Bool.not_true, Bool.not_false, if_true, if_false, and_true, true_and, memE, celE, w64, Nat.zero_add, Nat.add_zero, Nat.mul_one, putL, and_self, ldn, Bool.and_self, Bool.and_true, Bool.true_and, Bool.and_false, Bool.false_and, Bool.or_false, Bool.false_or, ext_2_0, ext_2_1, ext_3_0, ext_3_1, ext_3_2, bne_self_eq_false, beq_self_eq_true, Bool.not_true, Bool.not_false, goG_undef, tm, t10, t11, t12, t20, t24, t25]
end Go.Proofs.Ytjdallbnbjnghaa.Ab
end
section
namespace Go.Proofs.Ytjdallbnbjnghaa.Ab
open Go Go.RowKit
set_option linter.unusedVariables false
theorem ws_word : ∀ (p r : List Char), p.all (fun c => c != ' ') = true → wordsSigns (p ++ ' ' :: r) = p :: wordsSigns r
  | [], r, _ => by rw [List.nil_append, wordsSigns]
  | c :: p, r, h => by
    rw [List.all_cons, Bool.and_eq_true] at h
    have hc : c ≠ ' ' := by simpa using h.1
    rw [List.cons_append, wordsSigns, ws_word p r h.2]
    intro e; exact hc e
def sumW : List Char := ['4', '2', 'e', '4', '0', '0', '1', '9', '9', '0', 'c', 'd', 'e', 'e', 'f', '9', '9', '1', '9', 'd', 'b', 'e', '0', '5', '6', 'a', 'c', '1', 'c', '4', '0', '0', '3', 'e', '4', '1', '4', '3', '5', 'f', 'd', '1', '4', 'c', 'e', '9', '8', 'd', 'e', 'a', '9', '9', 'a', '4', 'd', '4', '3', '1', '3', 'b', 'c', '3', 'b', '5']
def restW : List Char := ['a', 't', ' ', 'l', 'o', 'o', 'p', '.', 'e', 'x', 'a', 'm', 'p', 'l', 'e', '/', 'g', '0', '1', '1', '1', '1', '/', 'l', 'a', 'w', 's', '.', 'F', 'n', 'L', 'e', 'a', 'd', 's', ' ', 'l', 'o', 'o', 'p', '.', 'e', 'x', 'a', 'm', 'p', 'l', 'e', '/', 'g', '0', '1', '1', '1', '1', '/', 'l', 'a', 'w', 's', '.', 'F', 'n', 'D', 'a', 'y', 's', ' ', 'l', 'o', 'o', 'p', '.', 'e', 'x', 'a', 'm', 'p', 'l', 'e', '/', 'g', '0', '1', '1', '1', '1', '/', 'l', 'a', 'w', 's', '.', 'F', 'n', 'P', 'a', 'r', 'c', 'e', 'l', 's']
set_option maxRecDepth 100000 in
theorem head_is : Try.prog.initOrder = String.ofList (['h', 'a', 'r', 'n', 'e', 's', 's'] ++ ' ' :: (sumW ++ ' ' :: (['c', 'u', 't'] ++ ' ' :: restW))) := by kernel_rfl
set_option maxRecDepth 100000 in
theorem sum_ok : isSumSigns sumW = true := by kernel_rfl
theorem head_words : behindMainWord (wordsSigns Try.prog.initOrder.toList) = ['c', 'u', 't'] :: wordsSigns restW := by
  rw [head_is, String.toList_ofList, ws_word _ _ (by decide), ws_word _ _ (by decide), ws_word _ _ (by decide)]
  simp only [behindMainWord, sum_ok, Bool.and_true]
  rfl
set_option maxRecDepth 100000 in
theorem strip_cut (X : List (List Char)) : stripLifts liftWords (['c', 'u', 't'] :: X) = ([], ['c', 'u', 't'] :: X) := by kernel_rfl
theorem lifts_gen (P : Program) (X : List (List Char)) (h : behindMainWord (wordsSigns P.initOrder.toList) = ['c', 'u', 't'] :: X) : P.headLifts = [] := by
  unfold Program.headLifts
  rw [h, strip_cut]
  rfl
theorem enters_gen (P : Program) (X : List (List Char)) (h : behindMainWord (wordsSigns P.initOrder.toList) = ['c', 'u', 't'] :: X) (h1 : P.laysLater = false) (h2 : P.bearsReflect = false) (h3 : P.doorFits [] = true) : P.mayEnter = true := by
  unfold Program.mayEnter
  rw [h]
  simp only [strip_cut, h1, h2, h3]
  rfl
theorem finals_gen (P : Program) (X : List (List Char)) (h : behindMainWord (wordsSigns P.initOrder.toList) = ['c', 'u', 't'] :: X) : P.liftsFinal = false := by
  unfold Program.liftsFinal
  rw [lifts_gen P X h, h]
  rfl
theorem make_gen (P : Program) (X : List (List Char)) (h : behindMainWord (wordsSigns P.initOrder.toList) = ['c', 'u', 't'] :: X) : P.make = some .cut := by
  unfold Program.make
  rw [h]
  rfl
set_option maxRecDepth 100000 in
theorem enters : Try.prog.mayEnter = true := enters_gen _ _ head_words (by kernel_rfl) (by kernel_rfl) (by kernel_rfl)
theorem no_finals : Try.prog.liftsFinal = false := finals_gen _ _ head_words
theorem makes : Try.prog.make = some .cut := make_gen _ _ head_words
end Go.Proofs.Ytjdallbnbjnghaa.Ab
end
