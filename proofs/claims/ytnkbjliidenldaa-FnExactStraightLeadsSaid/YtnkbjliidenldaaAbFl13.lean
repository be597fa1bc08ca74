/- Parcels: their arrivals. -/
import Derived.Test.YtnkbjliidenldaaAbFl12
namespace Go.Proofs.Ytnkbjliidenldaa.Ab
open Go Go.RowKit
set_option linter.unusedVariables false
set_option linter.unusedSimpArgs false

def arrTo (L : List Pc) : Nat → List Int
  | 0 => List.replicate 24 0
  | k + 1 => (arrTo L k).set ((L.getD k Pc0).day + (L.getD k Pc0).lead - 1).toNat ((arrTo L k).getD ((L.getD k Pc0).day + (L.getD k Pc0).lead - 1).toNat 0 + (L.getD k Pc0).amount)
theorem arrTo_len (L : List Pc) : ∀ k, (arrTo L k).length = 24
  | 0 => by simp [arrTo]
  | k + 1 => by simp [arrTo, arrTo_len L k]
theorem arrTo_bd {L : List Pc} (h : GoodL L) : ∀ k, k ≤ L.length → ∀ i, 0 ≤ (arrTo L k).getD i 0 ∧ (arrTo L k).getD i 0 ≤ 40 * (k : Int)
  | 0, _, i => by
    simp only [arrTo, List.getD_eq_getElem?_getD, List.getElem?_replicate]
    split <;> simp
  | k + 1, hk, i => by
    have ih := arrTo_bd h k (by omega) i
    have ih2 := arrTo_bd h k (by omega) ((L.getD k Pc0).day + (L.getD k Pc0).lead - 1).toNat
    have hg := h.all k (by omega)
    have ga := hg.amount
    simp only [arrTo]
    rw [List.getD_eq_getElem?_getD, List.getElem?_set]
    split
    · split
      · simp only [Option.getD_some]
        omega
      · simp only [Option.getD_none]
        omega
    · rw [← List.getD_eq_getElem?_getD]
      omega
def arrA (L : List Pc) : List Int := if parB L then arrTo L L.length else []
theorem OwnB.box3 {M : Mem} {e : TypeId} {a b c : Value} : OwnB (M ++ [⟨.own, e, [a, b, c]⟩]) M.length e [a, b, c] := OwnB.here rfl
theorem arrivalOf_rc (m : Mem) (p : Pc) (h : GoodP11 p) : RC Try.prog 112 [pcV p] m (AnsV (.int .i64 (p.day + p.lead))) := by
  refine rc_of_run mixed ok_impl_arrivalOf (by simp) (go_start _ _ _ ?_)
  have := h.day
  have := h.lead
  simp (config := {implicitDefEqProofs := false, maxDischargeDepth := 20}) (disch := first | omega | (simp only [lenE]; done) | (simp only [lenE]; omega) | rfl | (simp only [lenE, markR_len]; done) | (simp only [lenE, markR_len]; omega)) only [runE, mapE, listE, initT_5, initT_6, initT_7, initT_8, resV, oneV, binA, unA, reduceCtorEq, Nat.reduceEqDiff, Nat.reduceAdd, Nat.reduceLT, Nat.reduceLeDiff, Nat.reduceMul, Nat.reduceSub, ↓reduceIte, decide_true, decide_false, Bool.true_eq_false, Bool.false_eq_true, Bool.not_true, Bool.not_false, if_true, if_false, and_true, true_and, memE, celE, w64, Nat.zero_add, Nat.add_zero, Nat.mul_one, putL, and_self, ldn, c_impl_arrivalOf, r_impl_arrivalOf, pcV]
  exact ext_ansV ((Ext.refl m).one _ _) rfl
set_option maxHeartbeats 4000000 in
theorem l11Parcels_rc (m : Mem) (v : Value) (L : List Pc) (h : PcsA m v L) : RC Try.prog 101 [v] m (AnsV (.bool (parB L))) := by
  refine rc_of_run mixed ok_spec_l11Parcels (by simp) (go_start _ _ _ ?_)
  have hl := h.len
  have hbd := h.1
  simp (config := {implicitDefEqProofs := false, maxDischargeDepth := 20}) (disch := first | omega | (simp only [lenE]; done) | (simp only [lenE]; omega) | rfl | (simp only [lenE, markR_len]; done) | (simp only [lenE, markR_len]; omega)) only [runE, mapE, listE, initT_5, initT_6, initT_7, initT_8, resV, oneV, binA, unA, reduceCtorEq, Nat.reduceEqDiff, Nat.reduceAdd, Nat.reduceLT, Nat.reduceLeDiff, Nat.reduceMul, Nat.reduceSub, ↓reduceIte, decide_true, decide_false, Bool.true_eq_false, Bool.false_eq_true, Bool.not_true, Bool.not_false, if_true, if_false, and_true, true_and, memE, celE, w64, Nat.zero_add, Nat.add_zero, Nat.mul_one, putL, and_self, ldn, c_spec_l11Parcels, r_spec_l11Parcels]
  refine loop_inv mixed (fun s => ∃ (k : Nat) (M : Mem), k ≤ L.length ∧ s.m = M ∧ Ext m M ∧ s.t 0 = v ∧ s.t 3 = .int .i64 k ∧ (∀ j, j < k → GoodP11 (L.getD j Pc0)) ∧ (∀ j, j + 1 < k → (L.getD j Pc0).day ≤ (L.getD (j + 1) Pc0).day)) (fun s => L.length - (intOf (s.t 3)).toNat)
    ⟨0, _, by omega, rfl, Ext.refl m, rfl, rfl, fun j h => absurd h (by omega), fun j h => absurd h (by omega)⟩ ?_
  rintro s ⟨k, M, hk, tm, hx, t0, t3, hg, hasc⟩
  by_cases hlt : k < L.length
  · have hlt' : (k : Int) < L.length := by omega
    have hM := hx.keeps.pcs h
    obtain ⟨p, hp⟩ : ∃ p, p = L.getD k Pc0 := ⟨_, rfl⟩
    have i1 := hM.at_ hlt
    have i2 := hM.ld hlt
    rw [← hp] at i2
    have no : ∀ M', Ext m M' → ¬ GoodP11 p → newQ m (AnsV (.bool (parB L))) (.bool false) M' := fun M' hM' hn => ext_ansV hM' (by
      cases hb : parB L with
      | false => rfl
      | true => exact absurd (hp ▸ (parB_iff.1 hb).all k hlt) hn)
    simp (config := {implicitDefEqProofs := false, maxDischargeDepth := 20}) (disch := first | omega | (simp only [lenE]; done) | (simp only [lenE]; omega) | rfl | (simp only [lenE, markR_len]; done) | (simp only [lenE, markR_len]; omega)) only [runE, mapE, listE, initT_5, initT_6, initT_7, initT_8, resV, oneV, binA, unA, reduceCtorEq, Nat.reduceEqDiff, Nat.reduceAdd, Nat.reduceLT, Nat.reduceLeDiff, Nat.reduceMul, Nat.reduceSub, ↓reduceIte, decide_true, decide_false, Bool.true_eq_false, Bool.false_eq_true, Bool.not_true, Bool.not_false, if_true, if_false, and_true, true_and, memE, celE, w64, Nat.zero_add, Nat.add_zero, Nat.mul_one, putL, and_self, ldn, tm, t0, t3, hl, hlt', i1, i2, pcV, stP_agg3p]
    obtain ⟨E, hE⟩ : ∃ E, E = M ++ [⟨.own, 113, [.int .i64 p.day, .int .i64 p.amount, .int .i64 p.lead]⟩] := ⟨_, rfl⟩
    have hXE : Ext m E := by rw [hE]; exact hx.one _ _
    have bE : OwnB E M.length 113 [.int .i64 p.day, .int .i64 p.amount, .int .i64 p.lead] := by rw [hE]; exact OwnB.here rfl
    try rw [← hE]
    clear hE
    try simp (config := {implicitDefEqProofs := false, maxDischargeDepth := 20}) (disch := first | omega | (simp only [lenE]; done) | (simp only [lenE]; omega) | rfl | (simp only [lenE, markR_len]; done) | (simp only [lenE, markR_len]; omega)) only [runE, mapE, listE, initT_5, initT_6, initT_7, initT_8, resV, oneV, binA, unA, reduceCtorEq, Nat.reduceEqDiff, Nat.reduceAdd, Nat.reduceLT, Nat.reduceLeDiff, Nat.reduceMul, Nat.reduceSub, ↓reduceIte, decide_true, decide_false, Bool.true_eq_false, Bool.false_eq_true, Bool.not_true, Bool.not_false, if_true, if_false, and_true, true_and, memE, celE, w64, Nat.zero_add, Nat.add_zero, Nat.mul_one, putL, and_self, ldn, bE.mk3']
    refine rcallH_rc (l1In_rc _ _ _ _) ?_
    rintro r1 new ⟨rfl, rfl⟩
    rw [List.append_nil]
    cases h1 : (decide (1 ≤ p.day) && decide (p.day ≤ 20)) with
    | false =>
      simp (config := {implicitDefEqProofs := false, maxDischargeDepth := 20}) (disch := first | omega | (simp only [lenE]; done) | (simp only [lenE]; omega) | rfl | (simp only [lenE, markR_len]; done) | (simp only [lenE, markR_len]; omega)) only [runE, mapE, listE, initT_5, initT_6, initT_7, initT_8, resV, oneV, binA, unA, reduceCtorEq, Nat.reduceEqDiff, Nat.reduceAdd, Nat.reduceLT, Nat.reduceLeDiff, Nat.reduceMul, Nat.reduceSub, ↓reduceIte, decide_true, decide_false, Bool.true_eq_false, Bool.false_eq_true, Bool.not_true, Bool.not_false, if_true, if_false, and_true, true_and, memE, celE, w64, Nat.zero_add, Nat.add_zero, Nat.mul_one, putL, and_self, ldn]
      exact no _ hXE fun hg => by have := hg.day; simp [this.1, this.2] at h1
    | true =>
    simp (config := {implicitDefEqProofs := false, maxDischargeDepth := 20}) (disch := first | omega | (simp only [lenE]; done) | (simp only [lenE]; omega) | rfl | (simp only [lenE, markR_len]; done) | (simp only [lenE, markR_len]; omega)) only [runE, mapE, listE, initT_5, initT_6, initT_7, initT_8, resV, oneV, binA, unA, reduceCtorEq, Nat.reduceEqDiff, Nat.reduceAdd, Nat.reduceLT, Nat.reduceLeDiff, Nat.reduceMul, Nat.reduceSub, ↓reduceIte, decide_true, decide_false, Bool.true_eq_false, Bool.false_eq_true, Bool.not_true, Bool.not_false, if_true, if_false, and_true, true_and, memE, celE, w64, Nat.zero_add, Nat.add_zero, Nat.mul_one, putL, and_self, ldn, bE.mk3']
    refine rcallH_rc (l1In_rc _ _ _ _) ?_
    rintro r1 new ⟨rfl, rfl⟩
    rw [List.append_nil]
    cases h2 : (decide (1 ≤ p.amount) && decide (p.amount ≤ 40)) with
    | false =>
      simp (config := {implicitDefEqProofs := false, maxDischargeDepth := 20}) (disch := first | omega | (simp only [lenE]; done) | (simp only [lenE]; omega) | rfl | (simp only [lenE, markR_len]; done) | (simp only [lenE, markR_len]; omega)) only [runE, mapE, listE, initT_5, initT_6, initT_7, initT_8, resV, oneV, binA, unA, reduceCtorEq, Nat.reduceEqDiff, Nat.reduceAdd, Nat.reduceLT, Nat.reduceLeDiff, Nat.reduceMul, Nat.reduceSub, ↓reduceIte, decide_true, decide_false, Bool.true_eq_false, Bool.false_eq_true, Bool.not_true, Bool.not_false, if_true, if_false, and_true, true_and, memE, celE, w64, Nat.zero_add, Nat.add_zero, Nat.mul_one, putL, and_self, ldn]
      exact no _ hXE fun hg => by have := hg.amount; simp [this.1, this.2] at h2
    | true =>
    simp (config := {implicitDefEqProofs := false, maxDischargeDepth := 20}) (disch := first | omega | (simp only [lenE]; done) | (simp only [lenE]; omega) | rfl | (simp only [lenE, markR_len]; done) | (simp only [lenE, markR_len]; omega)) only [runE, mapE, listE, initT_5, initT_6, initT_7, initT_8, resV, oneV, binA, unA, reduceCtorEq, Nat.reduceEqDiff, Nat.reduceAdd, Nat.reduceLT, Nat.reduceLeDiff, Nat.reduceMul, Nat.reduceSub, ↓reduceIte, decide_true, decide_false, Bool.true_eq_false, Bool.false_eq_true, Bool.not_true, Bool.not_false, if_true, if_false, and_true, true_and, memE, celE, w64, Nat.zero_add, Nat.add_zero, Nat.mul_one, putL, and_self, ldn, bE.mk3']
    refine rcallH_rc (l1In_rc _ _ _ _) ?_
    rintro r1 new ⟨rfl, rfl⟩
    rw [List.append_nil]
    cases h3 : (decide (0 ≤ p.lead) && decide (p.lead ≤ 4)) with
    | false =>
      simp (config := {implicitDefEqProofs := false, maxDischargeDepth := 20}) (disch := first | omega | (simp only [lenE]; done) | (simp only [lenE]; omega) | rfl | (simp only [lenE, markR_len]; done) | (simp only [lenE, markR_len]; omega)) only [runE, mapE, listE, initT_5, initT_6, initT_7, initT_8, resV, oneV, binA, unA, reduceCtorEq, Nat.reduceEqDiff, Nat.reduceAdd, Nat.reduceLT, Nat.reduceLeDiff, Nat.reduceMul, Nat.reduceSub, ↓reduceIte, decide_true, decide_false, Bool.true_eq_false, Bool.false_eq_true, Bool.not_true, Bool.not_false, if_true, if_false, and_true, true_and, memE, celE, w64, Nat.zero_add, Nat.add_zero, Nat.mul_one, putL, and_self, ldn]
      exact no _ hXE fun hg => by have := hg.lead; simp [this.1, this.2] at h3
    | true =>
    simp only [Bool.and_eq_true, decide_eq_true_eq] at h1 h2 h3
    have hgp : GoodP11 p := ⟨h1, h2, h3⟩
    have hg' : ∀ j, j < k + 1 → GoodP11 (L.getD j Pc0) := fun j hj => by
      by_cases e : j = k
      · subst e; exact hp ▸ hgp
      · exact hg j (by omega)
    by_cases hk0 : (0 : Int) < k
    · have hME := hXE.keeps.pcs h
      have ek : (k : Int) - 1 = ((k - 1 : Nat) : Int) := by omega
      obtain ⟨q, hq⟩ : ∃ q, q = L.getD (k - 1) Pc0 := ⟨_, rfl⟩
      have j1 := hME.at_ (k := k - 1) (by omega)
      rw [← ek] at j1
      obtain ⟨q0, f0, g0⟩ := hME.fld (k := k - 1) (by omega) 0 (by decide)
      rw [← hq] at g0
      replace g0 : ldA E none q0 = some (.int .i64 q.day) := g0
      by_cases hc : p.day < q.day
      · simp (config := {implicitDefEqProofs := false, maxDischargeDepth := 20}) (disch := first | omega | (simp only [lenE]; done) | (simp only [lenE]; omega) | rfl | (simp only [lenE, markR_len]; done) | (simp only [lenE, markR_len]; omega)) only [runE, mapE, listE, initT_5, initT_6, initT_7, initT_8, resV, oneV, binA, unA, reduceCtorEq, Nat.reduceEqDiff, Nat.reduceAdd, Nat.reduceLT, Nat.reduceLeDiff, Nat.reduceMul, Nat.reduceSub, ↓reduceIte, decide_true, decide_false, Bool.true_eq_false, Bool.false_eq_true, Bool.not_true, Bool.not_false, if_true, if_false, and_true, true_and, memE, celE, w64, Nat.zero_add, Nat.add_zero, Nat.mul_one, putL, and_self, ldn, tm, t0, t3, gt_iff_lt, hk0, bE.mk3', j1, f0, g0, hc]
        refine ext_ansV hXE ?_
        cases hb : parB L with
        | false => rfl
        | true =>
          have := (parB_iff.1 hb).asc (k - 1) (by omega)
          rw [show k - 1 + 1 = k by omega, ← hq, ← hp] at this
          omega
      · simp (config := {implicitDefEqProofs := false, maxDischargeDepth := 20}) (disch := first | omega | (simp only [lenE]; done) | (simp only [lenE]; omega) | rfl | (simp only [lenE, markR_len]; done) | (simp only [lenE, markR_len]; omega)) only [runE, mapE, listE, initT_5, initT_6, initT_7, initT_8, resV, oneV, binA, unA, reduceCtorEq, Nat.reduceEqDiff, Nat.reduceAdd, Nat.reduceLT, Nat.reduceLeDiff, Nat.reduceMul, Nat.reduceSub, ↓reduceIte, decide_true, decide_false, Bool.true_eq_false, Bool.false_eq_true, Bool.not_true, Bool.not_false, if_true, if_false, and_true, true_and, memE, celE, w64, Nat.zero_add, Nat.add_zero, Nat.mul_one, putL, and_self, ldn, tm, t0, t3, gt_iff_lt, hk0, bE.mk3', j1, f0, g0, hc]
        refine ⟨⟨k + 1, _, by omega, rfl, hXE, by simp, hg', fun j hj => ?_⟩, ?_⟩
        · by_cases e : j = k - 1
          · subst e
            rw [show k - 1 + 1 = k by omega, ← hq, ← hp]
            omega
          · exact hasc j (by omega)
        · simp [intOf]; omega
    · simp (config := {implicitDefEqProofs := false, maxDischargeDepth := 20}) (disch := first | omega | (simp only [lenE]; done) | (simp only [lenE]; omega) | rfl | (simp only [lenE, markR_len]; done) | (simp only [lenE, markR_len]; omega)) only [runE, mapE, listE, initT_5, initT_6, initT_7, initT_8, resV, oneV, binA, unA, reduceCtorEq, Nat.reduceEqDiff, Nat.reduceAdd, Nat.reduceLT, Nat.reduceLeDiff, Nat.reduceMul, Nat.reduceSub, ↓reduceIte, decide_true, decide_false, Bool.true_eq_false, Bool.false_eq_true, Bool.not_true, Bool.not_false, if_true, if_false, and_true, true_and, memE, celE, w64, Nat.zero_add, Nat.add_zero, Nat.mul_one, putL, and_self, ldn, tm, t0, t3, gt_iff_lt, hk0]
      refine ⟨⟨k + 1, _, by omega, rfl, hXE, by simp, hg', fun j hj => absurd hj (by omega)⟩, ?_⟩
      simp [intOf]; omega
  · have hlt' : ¬ ((k : Int) < L.length) := by omega
    obtain rfl : k = L.length := by omega
    simp (config := {implicitDefEqProofs := false, maxDischargeDepth := 20}) (disch := first | omega | (simp only [lenE]; done) | (simp only [lenE]; omega) | rfl | (simp only [lenE, markR_len]; done) | (simp only [lenE, markR_len]; omega)) only [runE, mapE, listE, initT_5, initT_6, initT_7, initT_8, resV, oneV, binA, unA, reduceCtorEq, Nat.reduceEqDiff, Nat.reduceAdd, Nat.reduceLT, Nat.reduceLeDiff, Nat.reduceMul, Nat.reduceSub, ↓reduceIte, decide_true, decide_false, Bool.true_eq_false, Bool.false_eq_true, Bool.not_true, Bool.not_false, if_true, if_false, and_true, true_and, memE, celE, w64, Nat.zero_add, Nat.add_zero, Nat.mul_one, putL, and_self, ldn, tm, t0, t3, hl, hlt']
    refine ext_ansV hx ?_
    congr 1
    unfold parB ascB
    rw [allPc.2 hg, decide_eq_true (p := ∀ k, k < L.length - 1 → _) fun j hj => hasc j (by omega), Bool.and_true, Bool.and_true]
set_option maxHeartbeats 4000000 in
theorem l11Arrivals_rc (m : Mem) (v : Value) (L : List Pc) (h : PcsA m v L) (hG : GoodL L) : RC Try.prog 102 [v] m (AnsR m (arrTo L L.length)) := by
  refine rc_of_run mixed ok_spec_l11Arrivals (by simp) (go_start _ _ _ ?_)
  have hl := h.len
  have hlen := hG.len
  simp (config := {implicitDefEqProofs := false, maxDischargeDepth := 20}) (disch := first | omega | (simp only [lenE]; done) | (simp only [lenE]; omega) | rfl | (simp only [lenE, markR_len]; done) | (simp only [lenE, markR_len]; omega)) only [runE, mapE, listE, initT_5, initT_6, initT_7, initT_8, resV, oneV, binA, unA, reduceCtorEq, Nat.reduceEqDiff, Nat.reduceAdd, Nat.reduceLT, Nat.reduceLeDiff, Nat.reduceMul, Nat.reduceSub, ↓reduceIte, decide_true, decide_false, Bool.true_eq_false, Bool.false_eq_true, Bool.not_true, Bool.not_false, if_true, if_false, and_true, true_and, memE, celE, w64, Nat.zero_add, Nat.add_zero, Nat.mul_one, putL, and_self, ldn, c_spec_l11Arrivals, r_spec_l11Arrivals, mksA_eq (byt := 8) (n := 24) (a := 24) (by rfl) (by omega)]
  refine loop_inv mixed (fun s => ∃ (k : Nat) (M : Mem), k ≤ L.length ∧ s.m = M ∧ Ext m M ∧ OwnR M m.length (arrTo L k) ∧ s.t 0 = v ∧ s.t 3 = .slice (some ⟨m.length, 0, none⟩) 24 1 ∧ s.t 4 = .int .i64 k) (fun s => L.length - (intOf (s.t 4)).toNat)
    ⟨0, _, by omega, rfl, (Ext.refl m).one _ _, OwnR.zeros (roM_len m).symm, rfl, rfl, rfl⟩ ?_
  rintro s ⟨k, M, hk, tm, hx, ho, t0, t3, t4⟩
  by_cases hlt : k < L.length
  · have hlt' : (k : Int) < L.length := by omega
    have hM := hx.keeps.pcs h
    obtain ⟨p, hp⟩ : ∃ p, p = L.getD k Pc0 := ⟨_, rfl⟩
    have hgp : GoodP11 p := hp ▸ hG.all k hlt
    have gd := hgp.day
    have gl := hgp.lead
    have ga := hgp.amount
    have i1 := hM.at_ hlt
    obtain ⟨q0, f0, g0⟩ := hM.fld hlt 0 (by decide)
    obtain ⟨q1, f1, g1⟩ := hM.fld hlt 1 (by decide)
    obtain ⟨q2, f2, g2⟩ := hM.fld hlt 2 (by decide)
    rw [← hp] at g0 g1 g2
    replace g0 : ldA M none q0 = some (.int .i64 p.day) := g0
    replace g1 : ldA M none q1 = some (.int .i64 p.amount) := g1
    replace g2 : ldA M none q2 = some (.int .i64 p.lead) := g2
    have hal := arrTo_len L k
    have hi : (p.day + p.lead - 1).toNat < 24 := by omega
    have ei : p.day + p.lead - 1 = ((p.day + p.lead - 1).toNat : Int) := by omega
    have q3 := iad0 (id := m.length) (n := 24) (fl := 1) ei hi
    have q4 := ho.rd' (i := (p.day + p.lead - 1).toNat) (by omega)
    have bd := arrTo_bd hG k (by omega) (p.day + p.lead - 1).toNat
    have st := ho.st (off := (p.day + p.lead - 1).toNat) (x := (arrTo L k).getD (p.day + p.lead - 1).toNat 0 + p.amount) (by omega)
    simp (config := {implicitDefEqProofs := false, maxDischargeDepth := 20}) (disch := first | omega | (simp only [lenE]; done) | (simp only [lenE]; omega) | rfl | (simp only [lenE, markR_len]; done) | (simp only [lenE, markR_len]; omega)) only [runE, mapE, listE, initT_5, initT_6, initT_7, initT_8, resV, oneV, binA, unA, reduceCtorEq, Nat.reduceEqDiff, Nat.reduceAdd, Nat.reduceLT, Nat.reduceLeDiff, Nat.reduceMul, Nat.reduceSub, ↓reduceIte, decide_true, decide_false, Bool.true_eq_false, Bool.false_eq_true, Bool.not_true, Bool.not_false, if_true, if_false, and_true, true_and, memE, celE, w64, Nat.zero_add, Nat.add_zero, Nat.mul_one, putL, and_self, ldn, tm, t0, t3, t4, hl, hlt', i1, f0, f1, f2, g0, g1, g2, q3, q4, st]
    refine ⟨⟨k + 1, _, by omega, rfl, hx.put (Nat.le_refl _) _ _, ?_, by simp⟩, ?_⟩
    · have : arrTo L (k + 1) = (arrTo L k).set (p.day + p.lead - 1).toNat ((arrTo L k).getD (p.day + p.lead - 1).toNat 0 + p.amount) := by rw [hp]; rfl
      rw [this]
      exact ho.set_self
    · simp [intOf]; omega
  · have hlt' : ¬ ((k : Int) < L.length) := by omega
    obtain rfl : k = L.length := by omega
    simp (config := {implicitDefEqProofs := false, maxDischargeDepth := 20}) (disch := first | omega | (simp only [lenE]; done) | (simp only [lenE]; omega) | rfl | (simp only [lenE, markR_len]; done) | (simp only [lenE, markR_len]; omega)) only [runE, mapE, listE, initT_5, initT_6, initT_7, initT_8, resV, oneV, binA, unA, reduceCtorEq, Nat.reduceEqDiff, Nat.reduceAdd, Nat.reduceLT, Nat.reduceLeDiff, Nat.reduceMul, Nat.reduceSub, ↓reduceIte, decide_true, decide_false, Bool.true_eq_false, Bool.false_eq_true, Bool.not_true, Bool.not_false, if_true, if_false, and_true, true_and, memE, celE, w64, Nat.zero_add, Nat.add_zero, Nat.mul_one, putL, and_self, ldn, tm, t0, t3, t4, hl, hlt']
    exact ext_ansR hx ho (Nat.le_refl _) (by rw [arrTo_len]) (by rw [arrTo_len]; decide)
set_option maxHeartbeats 4000000 in
theorem arrivalsOf_rc (m : Mem) (v : Value) (L : List Pc) (h : PcsA m v L) (hG : GoodL L) : RC Try.prog 105 [v] m (AnsR m (arrTo L L.length)) := by
  refine rc_of_run mixed ok_impl_arrivalsOf (by simp) (go_start _ _ _ ?_)
  have hl := h.len
  have hlen := hG.len
  simp (config := {implicitDefEqProofs := false, maxDischargeDepth := 20}) (disch := first | omega | (simp only [lenE]; done) | (simp only [lenE]; omega) | rfl | (simp only [lenE, markR_len]; done) | (simp only [lenE, markR_len]; omega)) only [runE, mapE, listE, initT_5, initT_6, initT_7, initT_8, resV, oneV, binA, unA, reduceCtorEq, Nat.reduceEqDiff, Nat.reduceAdd, Nat.reduceLT, Nat.reduceLeDiff, Nat.reduceMul, Nat.reduceSub, ↓reduceIte, decide_true, decide_false, Bool.true_eq_false, Bool.false_eq_true, Bool.not_true, Bool.not_false, if_true, if_false, and_true, true_and, memE, celE, w64, Nat.zero_add, Nat.add_zero, Nat.mul_one, putL, and_self, ldn, c_impl_arrivalsOf, r_impl_arrivalsOf, hl, mksA_eq (byt := 8) (n := 24) (a := 24) (by rfl) (by omega)]
  refine loop_inv mixed (fun s => ∃ (k : Nat) (M : Mem), k ≤ L.length ∧ s.m = M ∧ Ext m M ∧ OwnR M m.length (arrTo L k) ∧ s.t 3 = .slice (some ⟨m.length, 0, none⟩) 24 1 ∧ s.t 7 = v ∧ s.t 8 = .int .i64 L.length ∧ s.t 9 = .int .i64 k) (fun s => L.length - (intOf (s.t 9)).toNat)
    ⟨0, _, by omega, rfl, (Ext.refl m).one _ _, OwnR.zeros (roM_len m).symm, rfl, rfl, rfl, rfl⟩ ?_
  rintro s ⟨k, M, hk, tm, hx, ho, t3, t7, t8, t9⟩
  by_cases hlt : k < L.length
  · have hlt' : (k : Int) < L.length := by omega
    have hM := hx.keeps.pcs h
    obtain ⟨p, hp⟩ : ∃ p, p = L.getD k Pc0 := ⟨_, rfl⟩
    have hgp : GoodP11 p := hp ▸ hG.all k hlt
    have gd := hgp.day
    have gl := hgp.lead
    have ga := hgp.amount
    have i1 := hM.at_ hlt
    have i2 := hM.ld hlt
    rw [← hp] at i2
    simp (config := {implicitDefEqProofs := false, maxDischargeDepth := 20}) (disch := first | omega | (simp only [lenE]; done) | (simp only [lenE]; omega) | rfl | (simp only [lenE, markR_len]; done) | (simp only [lenE, markR_len]; omega)) only [runE, mapE, listE, initT_5, initT_6, initT_7, initT_8, resV, oneV, binA, unA, reduceCtorEq, Nat.reduceEqDiff, Nat.reduceAdd, Nat.reduceLT, Nat.reduceLeDiff, Nat.reduceMul, Nat.reduceSub, ↓reduceIte, decide_true, decide_false, Bool.true_eq_false, Bool.false_eq_true, Bool.not_true, Bool.not_false, if_true, if_false, and_true, true_and, memE, celE, w64, Nat.zero_add, Nat.add_zero, Nat.mul_one, putL, and_self, ldn, tm, t3, t7, t8, t9, hlt', i1, i2, pcV, stP_agg3p]
    obtain ⟨E, hE⟩ : ∃ E, E = M ++ [⟨.own, 113, [.int .i64 p.day, .int .i64 p.amount, .int .i64 p.lead]⟩] := ⟨_, rfl⟩
    have hXE : Ext m E := by rw [hE]; exact hx.one _ _
    have hoE : OwnR E m.length (arrTo L k) := by rw [hE]; exact ho.ext _
    have bE : OwnB E M.length 113 [.int .i64 p.day, .int .i64 p.amount, .int .i64 p.lead] := by rw [hE]; exact OwnB.here rfl
    try rw [← hE]
    clear hE
    try simp (config := {implicitDefEqProofs := false, maxDischargeDepth := 20}) (disch := first | omega | (simp only [lenE]; done) | (simp only [lenE]; omega) | rfl | (simp only [lenE, markR_len]; done) | (simp only [lenE, markR_len]; omega)) only [runE, mapE, listE, initT_5, initT_6, initT_7, initT_8, resV, oneV, binA, unA, reduceCtorEq, Nat.reduceEqDiff, Nat.reduceAdd, Nat.reduceLT, Nat.reduceLeDiff, Nat.reduceMul, Nat.reduceSub, ↓reduceIte, decide_true, decide_false, Bool.true_eq_false, Bool.false_eq_true, Bool.not_true, Bool.not_false, if_true, if_false, and_true, true_and, memE, celE, w64, Nat.zero_add, Nat.add_zero, Nat.mul_one, putL, and_self, ldn, bE.mk3']
    refine rcallH_rc (arrivalOf_rc _ p hgp) ?_
    rintro r n1 ⟨rfl, hn1⟩
    obtain ⟨E1, hE1⟩ : ∃ E1, E1 = E ++ n1 := ⟨_, rfl⟩
    have hX1 : Ext m E1 := by rw [hE1]; exact hXE.app hn1
    have ho1 : OwnR E1 m.length (arrTo L k) := by rw [hE1]; exact hoE.ext _
    rw [← hE1]
    clear hE1
    have hal := arrTo_len L k
    have hi : (p.day + p.lead - 1).toNat < 24 := by omega
    have ei : p.day + p.lead - 1 = ((p.day + p.lead - 1).toNat : Int) := by omega
    have q3 := iad0 (id := m.length) (n := 24) (fl := 1) ei hi
    have q4 := ho1.rd' (i := (p.day + p.lead - 1).toNat) (by omega)
    have bd := arrTo_bd hG k (by omega) (p.day + p.lead - 1).toNat
    have st := ho1.st (off := (p.day + p.lead - 1).toNat) (x := (arrTo L k).getD (p.day + p.lead - 1).toNat 0 + p.amount) (by omega)
    simp (config := {implicitDefEqProofs := false, maxDischargeDepth := 20}) (disch := first | omega | (simp only [lenE]; done) | (simp only [lenE]; omega) | rfl | (simp only [lenE, markR_len]; done) | (simp only [lenE, markR_len]; omega)) only [runE, mapE, listE, initT_5, initT_6, initT_7, initT_8, resV, oneV, binA, unA, reduceCtorEq, Nat.reduceEqDiff, Nat.reduceAdd, Nat.reduceLT, Nat.reduceLeDiff, Nat.reduceMul, Nat.reduceSub, ↓reduceIte, decide_true, decide_false, Bool.true_eq_false, Bool.false_eq_true, Bool.not_true, Bool.not_false, if_true, if_false, and_true, true_and, memE, celE, w64, Nat.zero_add, Nat.add_zero, Nat.mul_one, putL, and_self, ldn, tm, t3, t7, t8, t9, q3, q4, st]
    refine ⟨⟨k + 1, _, by omega, rfl, hX1.put (Nat.le_refl _) _ _, ?_, by simp⟩, ?_⟩
    · have : arrTo L (k + 1) = (arrTo L k).set (p.day + p.lead - 1).toNat ((arrTo L k).getD (p.day + p.lead - 1).toNat 0 + p.amount) := by rw [hp]; rfl
      rw [this]
      exact ho1.set_self
    · simp [intOf]; omega
  · have hlt' : ¬ ((k : Int) < L.length) := by omega
    obtain rfl : k = L.length := by omega
    simp (config := {implicitDefEqProofs := false, maxDischargeDepth := 20}) (disch := first | omega | (simp only [lenE]; done) | (simp only [lenE]; omega) | rfl | (simp only [lenE, markR_len]; done) | (simp only [lenE, markR_len]; omega)) only [runE, mapE, listE, initT_5, initT_6, initT_7, initT_8, resV, oneV, binA, unA, reduceCtorEq, Nat.reduceEqDiff, Nat.reduceAdd, Nat.reduceLT, Nat.reduceLeDiff, Nat.reduceMul, Nat.reduceSub, ↓reduceIte, decide_true, decide_false, Bool.true_eq_false, Bool.false_eq_true, Bool.not_true, Bool.not_false, if_true, if_false, and_true, true_and, memE, celE, w64, Nat.zero_add, Nat.add_zero, Nat.mul_one, putL, and_self, ldn, tm, t3, t7, t8, t9, hlt']
    exact ext_ansR hx ho (Nat.le_refl _) (by rw [arrTo_len]) (by rw [arrTo_len]; decide)
end Go.Proofs.Ytnkbjliidenldaa.Ab
