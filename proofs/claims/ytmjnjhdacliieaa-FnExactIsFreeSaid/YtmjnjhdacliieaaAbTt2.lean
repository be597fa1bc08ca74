/- Timetables: IsFree, VisitsOn, DaysBusy on both sides. -/
import Derived.Test.YtmjnjhdacliieaaAbTt1
namespace Go.Proofs.Ytmjnjhdacliieaa.Ab
open Go Go.RowKit
set_option linter.unusedVariables false
set_option linter.unusedSimpArgs false
set_option maxRecDepth 10000

/-! Pairs, to be read. -/
def pPair (v : Value) (k : Nat) : Value := match v with
  | .slice (some ⟨id, _, _⟩) _ _ => .pointer (some ⟨id, k * 2, none⟩)
  | _ => undef
def pairV (p : Int × Int) : Value := .agg #[.int .i64 p.1, .int .i64 p.2]
theorem PairsA.len2 {m : Mem} {v : Value} {L : List (Int × Int)} (h : PairsA m v L) : lenA v = some (.int .i64 L.length) := by
  obtain ⟨hb, id, fl, rfl, hc⟩ := h; rfl
theorem PairsA.at2 {m : Mem} {v : Value} {L : List (Int × Int)} (h : PairsA m v L) {k : Nat} (hk : k < L.length) : iadA 2 v (.int .i64 (k : Int)) = some (pPair v k) := by
  obtain ⟨hb, id, fl, rfl, hc⟩ := h
  simp only [pPair]
  rw [iadA_in hk]
  simp
theorem PairsA.ld2 {m : Mem} {v : Value} {L : List (Int × Int)} (h : PairsA m v L) {k : Nat} (hk : k < L.length) : ldA m (some 2) (pPair v k) = some (pairV (L.getD k (0, 0))) := by
  obtain ⟨hb, id, fl, rfl, hc⟩ := h
  have r := hc k hk
  simp only [pPair, ldA, rdn, r.1, r.2, pairV]
theorem Sees.pairs {m M : Mem} (h : Sees m M) {v : Value} {L : List (Int × Int)} (hi : PairsA m v L) : PairsA M v L := by
  obtain ⟨hb, id, fl, rfl, hc⟩ := hi
  exact ⟨hb, id, fl, rfl, fun k hk => ⟨h.rdc (hc k hk).1, h.rdc (hc k hk).2⟩⟩
theorem PairsA.take {m : Mem} {v : Value} {L : List (Int × Int)} (h : PairsA m v L) {k : Nat} (hk : k ≤ L.length) : ∃ w, slcA 2 v none (some (.int .i64 (k : Int))) = some w ∧ PairsA m w (L.take k) := by
  obtain ⟨hb, id, fl, rfl, hc⟩ := h
  refine ⟨.slice (some ⟨id, 0, none⟩) k fl, ?_, by rw [List.length_take]; omega, id, fl, by rw [List.length_take, Nat.min_eq_left hk], fun j hj => ?_⟩
  · simp only [slcA, boundA, Int.toNat_natCast]
    rw [if_pos (by omega)]
    simp [hk]
  · rw [List.length_take] at hj
    have e : (L.take k).getD j (0, 0) = L.getD j (0, 0) := by
      rw [List.getD_eq_getElem?_getD, List.getD_eq_getElem?_getD, List.getElem?_take_of_lt (by omega)]
    rw [e]
    exact hc j (by omega)
/-- A test of pairs that a function value tells. -/
def TestV (m : Mem) (fv : Value) (L : List (Int × Int)) (f : Int × Int → Bool) : Prop := ∃ g first cap, fv = .func (.func g) (List.toArray first) (List.toArray cap) ∧ ∀ M p, Sees m M → p ∈ L → RC Try.prog g (first ++ (pairV p :: cap)) M (AnsV (.bool (f p)))
theorem pair_in {L : List (Int × Int)} {k : Nat} (hk : k < L.length) : L.getD k (0, 0) ∈ L := by
  rw [List.getD_eq_getElem?_getD, List.getElem?_eq_getElem hk]; exact List.getElem_mem hk
theorem any_none {L : List (Int × Int)} {f : Int × Int → Bool} (h : ∀ j, j < L.length → f (L.getD j (0, 0)) = false) : L.any f = false := by
  rw [List.any_eq_false]
  intro x hx
  obtain ⟨j, hj, rfl⟩ := List.mem_iff_getElem.1 hx
  have := h j hj
  rw [List.getD_eq_getElem?_getD, List.getElem?_eq_getElem hj] at this
  simpa using this
theorem indexV_rc (m : Mem) (v fv : Value) (L : List (Int × Int)) (f : Int × Int → Bool) (h : PairsA m v L) (hf : TestV m fv L f) :
    RC Try.prog 116 [v, fv] m fun r new => (∃ z : Int, r = .int .i64 z ∧ decide (0 ≤ z) = L.any f) ∧ NoRo new := by
  refine rc_of_run mixed ok_slices_IndexFunc_visit (by simp) (go_start _ _ _ ?_)
  obtain ⟨g, first, cap, rfl, hg⟩ := hf
  have hl := h.len2
  have hbd := h.1
  simp (config := {implicitDefEqProofs := false, maxDischargeDepth := 20}) (disch := first | omega | (simp only [lenE]; done) | (simp only [lenE]; omega) | rfl | (simp only [lenE, markR_len]; done) | (simp only [lenE, markR_len]; omega)) only [runE, mapE, listE, initT_5, initT_6, initT_7, initT_8, resV, oneV, binA, unA, reduceCtorEq, Nat.reduceEqDiff, Nat.reduceAdd, Nat.reduceLT, Nat.reduceLeDiff, Nat.reduceMul, Nat.reduceSub, ↓reduceIte, decide_true, decide_false, Bool.true_eq_false, Bool.false_eq_true, Bool.not_true, Bool.not_false, if_true, if_false, and_true, true_and, memE, celE, w64, Nat.zero_add, Nat.add_zero, Nat.mul_one, putL, and_self, ldn, c_slices_IndexFunc_visit, r_slices_IndexFunc_visit, hl]
  refine loop_inv mixed (fun s => ∃ (k : Nat) (M : Mem), k ≤ L.length ∧ (∀ j, j < k → f (L.getD j (0, 0)) = false) ∧ s.m = M ∧ Ext m M ∧ s.t 0 = v ∧ s.t 1 = .func (.func g) (List.toArray first) (List.toArray cap) ∧ s.t 7 = .int .i64 (L.length : Int) ∧ s.t 8 = .int .i64 (k : Int)) (fun s => L.length - (intOf (s.t 8)).toNat)
    ⟨0, _, by omega, fun j hj => absurd hj (by omega), rfl, Ext.refl m, rfl, rfl, rfl, rfl⟩ ?_
  rintro s ⟨k, M, hk, hno, tm, hX, t0, t1, t7, t8⟩
  have hM := (Sees.ext hX).pairs h
  by_cases hkl : k < L.length
  · have hlt : (k : Int) < L.length := by omega
    have i1 := hM.at2 hkl
    have i2 := hM.ld2 hkl
    have hh := hg M (L.getD k (0, 0)) (Sees.ext hX) (pair_in hkl)
    simp (config := {implicitDefEqProofs := false, maxDischargeDepth := 20}) (disch := first | omega | (simp only [lenE]; done) | (simp only [lenE]; omega) | rfl | (simp only [lenE, markR_len]; done) | (simp only [lenE, markR_len]; omega)) only [runE, mapE, listE, initT_5, initT_6, initT_7, initT_8, resV, oneV, binA, unA, reduceCtorEq, Nat.reduceEqDiff, Nat.reduceAdd, Nat.reduceLT, Nat.reduceLeDiff, Nat.reduceMul, Nat.reduceSub, ↓reduceIte, decide_true, decide_false, Bool.true_eq_false, Bool.false_eq_true, Bool.not_true, Bool.not_false, if_true, if_false, and_true, true_and, memE, celE, w64, Nat.zero_add, Nat.add_zero, Nat.mul_one, putL, and_self, ldn, tm, t0, t1, t7, t8, hlt, i1, i2, List.append_assoc]
    refine callH_rc hh ?_
    rintro r new ⟨rfl, nrn⟩
    cases hb : f (L.getD k (0, 0)) with
    | true =>
      simp (config := {implicitDefEqProofs := false, maxDischargeDepth := 20}) (disch := first | omega | (simp only [lenE]; done) | (simp only [lenE]; omega) | rfl | (simp only [lenE, markR_len]; done) | (simp only [lenE, markR_len]; omega)) only [runE, mapE, listE, initT_5, initT_6, initT_7, initT_8, resV, oneV, binA, unA, reduceCtorEq, Nat.reduceEqDiff, Nat.reduceAdd, Nat.reduceLT, Nat.reduceLeDiff, Nat.reduceMul, Nat.reduceSub, ↓reduceIte, decide_true, decide_false, Bool.true_eq_false, Bool.false_eq_true, Bool.not_true, Bool.not_false, if_true, if_false, and_true, true_and, memE, celE, w64, Nat.zero_add, Nat.add_zero, Nat.mul_one, putL, and_self, ldn, tm, t0, t1, t7, t8]
      obtain ⟨n0, e0, h0⟩ := hX.app nrn
      refine ⟨n0, e0, h0, ⟨_, rfl, ?_⟩, h0⟩
      rw [List.any_eq_true.2 ⟨_, pair_in hkl, hb⟩]
      exact decide_eq_true (by omega)
    | false =>
      simp (config := {implicitDefEqProofs := false, maxDischargeDepth := 20}) (disch := first | omega | (simp only [lenE]; done) | (simp only [lenE]; omega) | rfl | (simp only [lenE, markR_len]; done) | (simp only [lenE, markR_len]; omega)) only [runE, mapE, listE, initT_5, initT_6, initT_7, initT_8, resV, oneV, binA, unA, reduceCtorEq, Nat.reduceEqDiff, Nat.reduceAdd, Nat.reduceLT, Nat.reduceLeDiff, Nat.reduceMul, Nat.reduceSub, ↓reduceIte, decide_true, decide_false, Bool.true_eq_false, Bool.false_eq_true, Bool.not_true, Bool.not_false, if_true, if_false, and_true, true_and, memE, celE, w64, Nat.zero_add, Nat.add_zero, Nat.mul_one, putL, and_self, ldn, tm, t0, t1, t7, t8]
      refine ⟨⟨k + 1, _, by omega, fun j hj => ?_, rfl, hX.app nrn, by simp⟩, ?_⟩
      · by_cases e : j = k
        · subst e; exact hb
        · exact hno j (by omega)
      · simp [intOf]; omega
  · have hlt : ¬ ((k : Int) < L.length) := by omega
    have e : k = L.length := by omega
    subst e
    simp (config := {implicitDefEqProofs := false, maxDischargeDepth := 20}) (disch := first | omega | (simp only [lenE]; done) | (simp only [lenE]; omega) | rfl | (simp only [lenE, markR_len]; done) | (simp only [lenE, markR_len]; omega)) only [runE, mapE, listE, initT_5, initT_6, initT_7, initT_8, resV, oneV, binA, unA, reduceCtorEq, Nat.reduceEqDiff, Nat.reduceAdd, Nat.reduceLT, Nat.reduceLeDiff, Nat.reduceMul, Nat.reduceSub, ↓reduceIte, decide_true, decide_false, Bool.true_eq_false, Bool.false_eq_true, Bool.not_true, Bool.not_false, if_true, if_false, and_true, true_and, memE, celE, w64, Nat.zero_add, Nat.add_zero, Nat.mul_one, putL, and_self, ldn, tm, t0, t1, t7, t8, hlt]
    obtain ⟨n0, e0, h0⟩ := hX
    exact ⟨n0, e0, h0, ⟨_, rfl, by rw [any_none hno]; rfl⟩, h0⟩
theorem containsV_rc (m : Mem) (v fv : Value) (L : List (Int × Int)) (f : Int × Int → Bool) (h : PairsA m v L) (hf : TestV m fv L f) :
    RC Try.prog 90 [v, fv] m (AnsV (.bool (L.any f))) := by
  refine rc_of_run mixed ok_slices_ContainsFunc_visit (by simp) (go_start _ _ _ ?_)
  have hf' : TestV (roM m) fv L f := by
    obtain ⟨g, first, cap, rfl, hg⟩ := hf
    exact ⟨g, first, cap, rfl, fun M p hs => hg M p ((Sees.ro m).trans hs)⟩
  simp (config := {implicitDefEqProofs := false, maxDischargeDepth := 20}) (disch := first | omega | (simp only [lenE]; done) | (simp only [lenE]; omega) | rfl | (simp only [lenE, markR_len]; done) | (simp only [lenE, markR_len]; omega)) only [runE, mapE, listE, initT_5, initT_6, initT_7, initT_8, resV, oneV, binA, unA, reduceCtorEq, Nat.reduceEqDiff, Nat.reduceAdd, Nat.reduceLT, Nat.reduceLeDiff, Nat.reduceMul, Nat.reduceSub, ↓reduceIte, decide_true, decide_false, Bool.true_eq_false, Bool.false_eq_true, Bool.not_true, Bool.not_false, if_true, if_false, and_true, true_and, memE, celE, w64, Nat.zero_add, Nat.add_zero, Nat.mul_one, putL, and_self, ldn, c_slices_ContainsFunc_visit, r_slices_ContainsFunc_visit]
  refine callH_rc (indexV_rc _ v fv L f h.ro hf') ?_
  rintro r new ⟨⟨z, rfl, hz⟩, nrn⟩
  simp (config := {implicitDefEqProofs := false, maxDischargeDepth := 20}) (disch := first | omega | (simp only [lenE]; done) | (simp only [lenE]; omega) | rfl | (simp only [lenE, markR_len]; done) | (simp only [lenE, markR_len]; omega)) only [runE, mapE, listE, initT_5, initT_6, initT_7, initT_8, resV, oneV, binA, unA, reduceCtorEq, Nat.reduceEqDiff, Nat.reduceAdd, Nat.reduceLT, Nat.reduceLeDiff, Nat.reduceMul, Nat.reduceSub, ↓reduceIte, decide_true, decide_false, Bool.true_eq_false, Bool.false_eq_true, Bool.not_true, Bool.not_false, if_true, if_false, and_true, true_and, memE, celE, w64, Nat.zero_add, Nat.add_zero, Nat.mul_one, putL, and_self, ldn, hz, ge_iff_le]
  exact ext_ansV ((Ext.refl m).app nrn) rfl
/-! Timetables. -/
theorem l8Table_rc (m : Mem) (v u : Value) (l o : List Int) (h : IntsA m v l) (hu : IntsA m u o) : RC Try.prog 87 [v, u] m (AnsV (.bool (ttB l o))) := by
  refine rc_of_run mixed ok_spec_l8Table (by simp) (go_start _ _ _ ?_)
  have hA := h.ro
  have hB := hu.ro
  have hl1 := hA.len
  have hl2 := hB.len
  have hbd := hB.bd
  simp (config := {implicitDefEqProofs := false, maxDischargeDepth := 20}) (disch := first | omega | (simp only [lenE]; done) | (simp only [lenE]; omega) | rfl | (simp only [lenE, markR_len]; done) | (simp only [lenE, markR_len]; omega)) only [runE, mapE, listE, initT_5, initT_6, initT_7, initT_8, resV, oneV, binA, unA, reduceCtorEq, Nat.reduceEqDiff, Nat.reduceAdd, Nat.reduceLT, Nat.reduceLeDiff, Nat.reduceMul, Nat.reduceSub, ↓reduceIte, decide_true, decide_false, Bool.true_eq_false, Bool.false_eq_true, Bool.not_true, Bool.not_false, if_true, if_false, and_true, true_and, memE, celE, w64, Nat.zero_add, Nat.add_zero, Nat.mul_one, putL, and_self, ldn, c_spec_l8Table, r_spec_l8Table]
  have hfit : ∀ k, Tab l o → k < l.length → 0 ≤ o.getD k 0 ∧ o.getD k 0 ≤ IntKind.i64.wrap (l.getD k 0 - 1) := fun k ht hk => by
    have := ht.cyc.all k hk
    rw [w64 (by omega)]
    exact ht.off k hk
  refine loop_inv mixed (fun s => ∃ (k : Nat), k ≤ o.length ∧ k ≤ l.length ∧ (∀ j, j < k → 0 ≤ o.getD j 0 ∧ o.getD j 0 ≤ IntKind.i64.wrap (l.getD j 0 - 1)) ∧ s.m = roM m ∧ s.t 0 = v ∧ s.t 1 = u ∧ s.t 5 = .int .i64 (k : Int)) (fun s => o.length - (intOf (s.t 5)).toNat)
    ⟨0, by omega, by omega, fun j hj => absurd hj (by omega), rfl, rfl, rfl, rfl⟩ ?_
  rintro s ⟨k, hk, hk2, hall, tm, t0, t1, t5⟩
  have fin : (k = o.length ∨ k = l.length) → (cycB l && (((o.length : Int)) == ((l.length : Int)))) = ttB l o := fun he => by
    cases ht : ttB l o with
    | true =>
      have hT := ttB_iff.1 ht
      rw [cycB_iff.2 hT.cyc, Bool.true_and, beq_iff_eq]
      have := hT.len; omega
    | false =>
      cases hc : cycB l with
      | false => rfl
      | true =>
        rw [Bool.true_and, beq_eq_false_iff_ne]
        intro hlen
        have hC := cycB_iff.1 hc
        have : ttB l o = true := ttB_iff.2 ⟨hC, by omega, fun i hi => by
          have h1 := hall i (by omega)
          have h2 := hC.all i hi
          rw [w64 (by omega)] at h1
          exact h1⟩
        rw [ht] at this; cases this
  by_cases hko : k < o.length
  · have hlt : (k : Int) < o.length := by omega
    by_cases hkl : k < l.length
    · have hlt2 : (k : Int) < l.length := by omega
      have i1 := hB.at_ k hko
      have i2 := hB.ld k hko
      have i3 := hA.at_ k hkl
      have i4 := hA.ld k hkl
      simp (config := {implicitDefEqProofs := false, maxDischargeDepth := 20}) (disch := first | omega | (simp only [lenE]; done) | (simp only [lenE]; omega) | rfl | (simp only [lenE, markR_len]; done) | (simp only [lenE, markR_len]; omega)) only [runE, mapE, listE, initT_5, initT_6, initT_7, initT_8, resV, oneV, binA, unA, reduceCtorEq, Nat.reduceEqDiff, Nat.reduceAdd, Nat.reduceLT, Nat.reduceLeDiff, Nat.reduceMul, Nat.reduceSub, ↓reduceIte, decide_true, decide_false, Bool.true_eq_false, Bool.false_eq_true, Bool.not_true, Bool.not_false, if_true, if_false, and_true, true_and, memE, celE, w64, Nat.zero_add, Nat.add_zero, Nat.mul_one, putL, and_self, ldn, tm, t0, t1, t5, hl1, hl2, hlt, hlt2, i1, i2, i3, i4]
      refine rcallH_rc (l1In_rc _ _ _ _) ?_
      rintro r new ⟨rfl, rfl⟩
      rw [List.append_nil]
      by_cases hg : 0 ≤ o.getD k 0 ∧ o.getD k 0 ≤ IntKind.i64.wrap (l.getD k 0 - 1)
      · rw [decide_eq_true hg.1, decide_eq_true hg.2]
        simp (config := {implicitDefEqProofs := false, maxDischargeDepth := 20}) (disch := first | omega | (simp only [lenE]; done) | (simp only [lenE]; omega) | rfl | (simp only [lenE, markR_len]; done) | (simp only [lenE, markR_len]; omega)) only [runE, mapE, listE, initT_5, initT_6, initT_7, initT_8, resV, oneV, binA, unA, reduceCtorEq, Nat.reduceEqDiff, Nat.reduceAdd, Nat.reduceLT, Nat.reduceLeDiff, Nat.reduceMul, Nat.reduceSub, ↓reduceIte, decide_true, decide_false, Bool.true_eq_false, Bool.false_eq_true, Bool.not_true, Bool.not_false, if_true, if_false, and_true, true_and, memE, celE, w64, Nat.zero_add, Nat.add_zero, Nat.mul_one, putL, and_self, ldn, tm, t0, t1, t5, Bool.false_and, Bool.true_and, Bool.and_true, Bool.and_false, Bool.and_self]
        refine ⟨⟨k + 1, by omega, by omega, fun j hj => ?_, by simp⟩, ?_⟩
        · by_cases e : j = k
          · subst e; exact hg
          · exact hall j (by omega)
        · simp [intOf]; omega
      · have hbad : (decide (0 ≤ o.getD k 0) && decide (o.getD k 0 ≤ IntKind.i64.wrap (l.getD k 0 - 1))) = false := by
          rw [← Bool.decide_and, decide_eq_false hg]
        rw [hbad]
        simp (config := {implicitDefEqProofs := false, maxDischargeDepth := 20}) (disch := first | omega | (simp only [lenE]; done) | (simp only [lenE]; omega) | rfl | (simp only [lenE, markR_len]; done) | (simp only [lenE, markR_len]; omega)) only [runE, mapE, listE, initT_5, initT_6, initT_7, initT_8, resV, oneV, binA, unA, reduceCtorEq, Nat.reduceEqDiff, Nat.reduceAdd, Nat.reduceLT, Nat.reduceLeDiff, Nat.reduceMul, Nat.reduceSub, ↓reduceIte, decide_true, decide_false, Bool.true_eq_false, Bool.false_eq_true, Bool.not_true, Bool.not_false, if_true, if_false, and_true, true_and, memE, celE, w64, Nat.zero_add, Nat.add_zero, Nat.mul_one, putL, and_self, ldn, tm, t0, t1, t5]
        refine ext_ansV (Ext.refl m) ?_
        cases ht : ttB l o with
        | false => rfl
        | true => exact absurd (hfit k (ttB_iff.1 ht) hkl) hg
    · have hlt2 : ¬ ((k : Int) < l.length) := by omega
      simp (config := {implicitDefEqProofs := false, maxDischargeDepth := 20}) (disch := first | omega | (simp only [lenE]; done) | (simp only [lenE]; omega) | rfl | (simp only [lenE, markR_len]; done) | (simp only [lenE, markR_len]; omega)) only [runE, mapE, listE, initT_5, initT_6, initT_7, initT_8, resV, oneV, binA, unA, reduceCtorEq, Nat.reduceEqDiff, Nat.reduceAdd, Nat.reduceLT, Nat.reduceLeDiff, Nat.reduceMul, Nat.reduceSub, ↓reduceIte, decide_true, decide_false, Bool.true_eq_false, Bool.false_eq_true, Bool.not_true, Bool.not_false, if_true, if_false, and_true, true_and, memE, celE, w64, Nat.zero_add, Nat.add_zero, Nat.mul_one, putL, and_self, ldn, tm, t0, t1, t5, hl1, hl2, hlt, hlt2]
      refine callH_rc (l8Cycles_rc _ v l hA) ?_
      rintro r new ⟨rfl, nrn⟩
      have fin := fin (.inr (by omega))
      cases hc : cycB l with
      | true =>
        rw [hc, Bool.true_and] at fin
        simp (config := {implicitDefEqProofs := false, maxDischargeDepth := 20}) (disch := first | omega | (simp only [lenE]; done) | (simp only [lenE]; omega) | rfl | (simp only [lenE, markR_len]; done) | (simp only [lenE, markR_len]; omega)) only [runE, mapE, listE, initT_5, initT_6, initT_7, initT_8, resV, oneV, binA, unA, reduceCtorEq, Nat.reduceEqDiff, Nat.reduceAdd, Nat.reduceLT, Nat.reduceLeDiff, Nat.reduceMul, Nat.reduceSub, ↓reduceIte, decide_true, decide_false, Bool.true_eq_false, Bool.false_eq_true, Bool.not_true, Bool.not_false, if_true, if_false, and_true, true_and, memE, celE, w64, Nat.zero_add, Nat.add_zero, Nat.mul_one, putL, and_self, ldn, tm, t0, t1, t5, hl1, hl2, fin]
        exact ext_ansV ((Ext.refl m).app nrn) rfl
      | false =>
        rw [hc, Bool.false_and] at fin
        rw [← fin]
        simp (config := {implicitDefEqProofs := false, maxDischargeDepth := 20}) (disch := first | omega | (simp only [lenE]; done) | (simp only [lenE]; omega) | rfl | (simp only [lenE, markR_len]; done) | (simp only [lenE, markR_len]; omega)) only [runE, mapE, listE, initT_5, initT_6, initT_7, initT_8, resV, oneV, binA, unA, reduceCtorEq, Nat.reduceEqDiff, Nat.reduceAdd, Nat.reduceLT, Nat.reduceLeDiff, Nat.reduceMul, Nat.reduceSub, ↓reduceIte, decide_true, decide_false, Bool.true_eq_false, Bool.false_eq_true, Bool.not_true, Bool.not_false, if_true, if_false, and_true, true_and, memE, celE, w64, Nat.zero_add, Nat.add_zero, Nat.mul_one, putL, and_self, ldn, tm, t0, t1, t5, hl1, hl2]
        exact ext_ansV ((Ext.refl m).app nrn) rfl
  · have hlt : ¬ ((k : Int) < o.length) := by omega
    simp (config := {implicitDefEqProofs := false, maxDischargeDepth := 20}) (disch := first | omega | (simp only [lenE]; done) | (simp only [lenE]; omega) | rfl | (simp only [lenE, markR_len]; done) | (simp only [lenE, markR_len]; omega)) only [runE, mapE, listE, initT_5, initT_6, initT_7, initT_8, resV, oneV, binA, unA, reduceCtorEq, Nat.reduceEqDiff, Nat.reduceAdd, Nat.reduceLT, Nat.reduceLeDiff, Nat.reduceMul, Nat.reduceSub, ↓reduceIte, decide_true, decide_false, Bool.true_eq_false, Bool.false_eq_true, Bool.not_true, Bool.not_false, if_true, if_false, and_true, true_and, memE, celE, w64, Nat.zero_add, Nat.add_zero, Nat.mul_one, putL, and_self, ldn, tm, t0, t1, t5, hl1, hl2, hlt]
    refine callH_rc (l8Cycles_rc _ v l hA) ?_
    rintro r new ⟨rfl, nrn⟩
    have fin := fin (.inl (by omega))
    cases hc : cycB l with
    | true =>
      rw [hc, Bool.true_and] at fin
      simp (config := {implicitDefEqProofs := false, maxDischargeDepth := 20}) (disch := first | omega | (simp only [lenE]; done) | (simp only [lenE]; omega) | rfl | (simp only [lenE, markR_len]; done) | (simp only [lenE, markR_len]; omega)) only [runE, mapE, listE, initT_5, initT_6, initT_7, initT_8, resV, oneV, binA, unA, reduceCtorEq, Nat.reduceEqDiff, Nat.reduceAdd, Nat.reduceLT, Nat.reduceLeDiff, Nat.reduceMul, Nat.reduceSub, ↓reduceIte, decide_true, decide_false, Bool.true_eq_false, Bool.false_eq_true, Bool.not_true, Bool.not_false, if_true, if_false, and_true, true_and, memE, celE, w64, Nat.zero_add, Nat.add_zero, Nat.mul_one, putL, and_self, ldn, tm, t0, t1, t5, hl1, hl2, fin]
      exact ext_ansV ((Ext.refl m).app nrn) rfl
    | false =>
      rw [hc, Bool.false_and] at fin
      rw [← fin]
      simp (config := {implicitDefEqProofs := false, maxDischargeDepth := 20}) (disch := first | omega | (simp only [lenE]; done) | (simp only [lenE]; omega) | rfl | (simp only [lenE, markR_len]; done) | (simp only [lenE, markR_len]; omega)) only [runE, mapE, listE, initT_5, initT_6, initT_7, initT_8, resV, oneV, binA, unA, reduceCtorEq, Nat.reduceEqDiff, Nat.reduceAdd, Nat.reduceLT, Nat.reduceLeDiff, Nat.reduceMul, Nat.reduceSub, ↓reduceIte, decide_true, decide_false, Bool.true_eq_false, Bool.false_eq_true, Bool.not_true, Bool.not_false, if_true, if_false, and_true, true_and, memE, celE, w64, Nat.zero_add, Nat.add_zero, Nat.mul_one, putL, and_self, ldn, tm, t0, t1, t5, hl1, hl2]
      exact ext_ansV ((Ext.refl m).app nrn) rfl
def visA (l o : List Int) : List (Int × Int) := if ttB l o then zipV l o l.length else []
theorem timetable_rc (m : Mem) (v u : Value) (l o : List Int) (h : IntsA m v l) (hu : IntsA m u o) :
    RC Try.prog 89 [v, u] m (AnsO m (PairsO 96 (visA l o)) fun w => .tuple #[w, .bool (ttB l o)]) := by
  refine rc_of_run mixed ok_impl_timetableOf (by simp) (go_start _ _ _ ?_)
  unfold visA
  have hX := Ext.refl m
  have hl1 := h.len
  have hl2 := hu.len
  simp (config := {implicitDefEqProofs := false, maxDischargeDepth := 20}) (disch := first | omega | (simp only [lenE]; done) | (simp only [lenE]; omega) | rfl | (simp only [lenE, markR_len]; done) | (simp only [lenE, markR_len]; omega)) only [runE, mapE, listE, initT_5, initT_6, initT_7, initT_8, resV, oneV, binA, unA, reduceCtorEq, Nat.reduceEqDiff, Nat.reduceAdd, Nat.reduceLT, Nat.reduceLeDiff, Nat.reduceMul, Nat.reduceSub, ↓reduceIte, decide_true, decide_false, Bool.true_eq_false, Bool.false_eq_true, Bool.not_true, Bool.not_false, if_true, if_false, and_true, true_and, memE, celE, w64, Nat.zero_add, Nat.add_zero, Nat.mul_one, putL, and_self, ldn, c_impl_timetableOf, r_impl_timetableOf]
  refine callH_rc (areCycles_rc _ v l ((Sees.ext hX).ints h)) ?_
  rintro r new0 ⟨rfl, nr0⟩
  have hX := hX.app nr0
  cases g1 : cycB l with
  | false =>
    have ht : ttB l o = false := by unfold ttB; rw [g1]; rfl
    rw [ht]
    simp (config := {implicitDefEqProofs := false, maxDischargeDepth := 20}) (disch := first | omega | (simp only [lenE]; done) | (simp only [lenE]; omega) | rfl | (simp only [lenE, markR_len]; done) | (simp only [lenE, markR_len]; omega)) only [runE, mapE, listE, initT_5, initT_6, initT_7, initT_8, resV, oneV, binA, unA, reduceCtorEq, Nat.reduceEqDiff, Nat.reduceAdd, Nat.reduceLT, Nat.reduceLeDiff, Nat.reduceMul, Nat.reduceSub, ↓reduceIte, decide_true, decide_false, Bool.true_eq_false, Bool.false_eq_true, Bool.not_true, Bool.not_false, if_true, if_false, and_true, true_and, memE, celE, w64, Nat.zero_add, Nat.add_zero, Nat.mul_one, putL, and_self, ldn, bsl_no]
    exact ext_noPairs (f := fun w => .tuple #[w, .bool false]) hX (by simp [roM_len])
  | true =>
  have hC := cycB_iff.1 g1
  by_cases hlen : o.length = l.length
  · have hne : ((o.length : Int) != (l.length : Int)) = false := by rw [bne_eq_false_iff_eq]; omega
    have hlc := hC.len
    simp (config := {implicitDefEqProofs := false, maxDischargeDepth := 20}) (disch := first | omega | (simp only [lenE]; done) | (simp only [lenE]; omega) | rfl | (simp only [lenE, markR_len]; done) | (simp only [lenE, markR_len]; omega)) only [runE, mapE, listE, initT_5, initT_6, initT_7, initT_8, resV, oneV, binA, unA, reduceCtorEq, Nat.reduceEqDiff, Nat.reduceAdd, Nat.reduceLT, Nat.reduceLeDiff, Nat.reduceMul, Nat.reduceSub, ↓reduceIte, decide_true, decide_false, Bool.true_eq_false, Bool.false_eq_true, Bool.not_true, Bool.not_false, if_true, if_false, and_true, true_and, memE, celE, w64, Nat.zero_add, Nat.add_zero, Nat.mul_one, putL, and_self, ldn, hl1, hl2, hne, bsl_no]
    obtain ⟨E, hE⟩ : ∃ M, M = roM m ++ new0 := ⟨_, rfl⟩
    rw [← hE] at hX ⊢
    have LE : m.length + new0.length = E.length := by rw [hE, List.length_append, roM_len]
    rw [LE]
    clear hE
    have hge := hX.len
    refine loop_inv mixed (fun s => ∃ (k : Nat) (M : Mem) (id : Nat), k ≤ l.length ∧ (∀ j, j < k → 0 ≤ o.getD j 0 ∧ o.getD j 0 ≤ l.getD j 0 - 1) ∧ s.m = M ∧ Ext m M ∧ m.length ≤ id ∧ OwnB M id 96 (pairsC (zipV l o k)) ∧ s.t 1 = u ∧ s.t 6 = .slice (some ⟨id, 0, none⟩) k 2 ∧ s.t 21 = v ∧ s.t 22 = .int .i64 (l.length : Int) ∧ s.t 23 = .int .i64 (k : Int)) (fun s => l.length - (intOf (s.t 23)).toNat)
      ⟨0, _, E.length, by omega, fun j hj => absurd hj (by omega), rfl, hX.one _ _, hge, OwnB.here rfl, rfl, rfl, rfl, rfl, rfl⟩ ?_
    rintro s ⟨k, M, id, hk, hall, tm, hX, hid, ho, t1, t6, t21, t22, t23⟩
    have hA := (Sees.ext hX).ints h
    have hB := (Sees.ext hX).ints hu
    by_cases hkl : k < l.length
    · have hlt : (k : Int) < l.length := by omega
      have i1 := hA.at_ k hkl
      have i2 := hA.ld k hkl
      have i3 := hB.at_ k (by omega)
      have i4 := hB.ld k (by omega)
      have g := hC.all k hkl
      simp (config := {implicitDefEqProofs := false, maxDischargeDepth := 20}) (disch := first | omega | (simp only [lenE]; done) | (simp only [lenE]; omega) | rfl | (simp only [lenE, markR_len]; done) | (simp only [lenE, markR_len]; omega)) only [runE, mapE, listE, initT_5, initT_6, initT_7, initT_8, resV, oneV, binA, unA, reduceCtorEq, Nat.reduceEqDiff, Nat.reduceAdd, Nat.reduceLT, Nat.reduceLeDiff, Nat.reduceMul, Nat.reduceSub, ↓reduceIte, decide_true, decide_false, Bool.true_eq_false, Bool.false_eq_true, Bool.not_true, Bool.not_false, if_true, if_false, and_true, true_and, memE, celE, w64, Nat.zero_add, Nat.add_zero, Nat.mul_one, putL, and_self, ldn, tm, t1, t6, t21, t22, t23, hlt, i1, i2, i3, i4]
      refine callH_rc (isWithin_rc _ _ _) ?_
      rintro r new ⟨rfl, rfl⟩
      rw [List.append_nil, inB_inR]
      cases hg : inR 0 (l.getD k 0 - 1) (o.getD k 0) with
      | true =>
        have hg' := inR_iff.1 hg
        have hap := app_back (byt := 16) (sz := 2) (n := k) (ys := [.int .i64 (l.getD k 0), .int .i64 (o.getD k 0)]) ho rfl (by rw [pairsC_len, zipV_len]) rfl rfl (by omega) (by omega)
        have e : pairsC (zipV l o k) ++ [.int .i64 (l.getD k 0), .int .i64 (o.getD k 0)] = pairsC (zipV l o (k + 1)) := by
          rw [zipV_step, pairsC_app]; rfl
        rw [e] at hap
        simp (config := {implicitDefEqProofs := false, maxDischargeDepth := 20}) (disch := first | omega | (simp only [lenE]; done) | (simp only [lenE]; omega) | rfl | (simp only [lenE, markR_len]; done) | (simp only [lenE, markR_len]; omega)) only [runE, mapE, listE, initT_5, initT_6, initT_7, initT_8, resV, oneV, binA, unA, reduceCtorEq, Nat.reduceEqDiff, Nat.reduceAdd, Nat.reduceLT, Nat.reduceLeDiff, Nat.reduceMul, Nat.reduceSub, ↓reduceIte, decide_true, decide_false, Bool.true_eq_false, Bool.false_eq_true, Bool.not_true, Bool.not_false, if_true, if_false, and_true, true_and, memE, celE, w64, Nat.zero_add, Nat.add_zero, Nat.mul_one, putL, and_self, ldn, tm, t1, t6, t21, t22, t23, i3, i4, bld2, bsl_pair, hap]
        refine ⟨⟨k + 1, _, _, by omega, fun j hj => ?_, rfl, ((hX.dead hid).one _ _).one _ _, ?_, OwnB.here ?_, rfl, by simp⟩, ?_⟩
        · by_cases e : j = k
          · subst e; exact hg'
          · exact hall j (by omega)
        · have := hX.len; omega
        · simp
        · simp [intOf]; omega
      | false =>
        have ht : ttB l o = false := by
          cases ht : ttB l o with
          | false => rfl
          | true =>
            have := inR_iff.2 ((ttB_iff.1 ht).off k hkl)
            rw [hg] at this; cases this
        rw [ht]
        simp (config := {implicitDefEqProofs := false, maxDischargeDepth := 20}) (disch := first | omega | (simp only [lenE]; done) | (simp only [lenE]; omega) | rfl | (simp only [lenE, markR_len]; done) | (simp only [lenE, markR_len]; omega)) only [runE, mapE, listE, initT_5, initT_6, initT_7, initT_8, resV, oneV, binA, unA, reduceCtorEq, Nat.reduceEqDiff, Nat.reduceAdd, Nat.reduceLT, Nat.reduceLeDiff, Nat.reduceMul, Nat.reduceSub, ↓reduceIte, decide_true, decide_false, Bool.true_eq_false, Bool.false_eq_true, Bool.not_true, Bool.not_false, if_true, if_false, and_true, true_and, memE, celE, w64, Nat.zero_add, Nat.add_zero, Nat.mul_one, putL, and_self, ldn, tm, t1, t6, t21, t22, t23, bsl_no]
        exact ext_noPairs (f := fun w => .tuple #[w, .bool false]) hX rfl
    · have hlt : ¬ ((k : Int) < l.length) := by omega
      have e : k = l.length := by omega
      subst e
      have ht : ttB l o = true := ttB_iff.2 ⟨hC, hlen, hall⟩
      rw [ht]
      simp (config := {implicitDefEqProofs := false, maxDischargeDepth := 20}) (disch := first | omega | (simp only [lenE]; done) | (simp only [lenE]; omega) | rfl | (simp only [lenE, markR_len]; done) | (simp only [lenE, markR_len]; omega)) only [runE, mapE, listE, initT_5, initT_6, initT_7, initT_8, resV, oneV, binA, unA, reduceCtorEq, Nat.reduceEqDiff, Nat.reduceAdd, Nat.reduceLT, Nat.reduceLeDiff, Nat.reduceMul, Nat.reduceSub, ↓reduceIte, decide_true, decide_false, Bool.true_eq_false, Bool.false_eq_true, Bool.not_true, Bool.not_false, if_true, if_false, and_true, true_and, memE, celE, w64, Nat.zero_add, Nat.add_zero, Nat.mul_one, putL, and_self, ldn, tm, t1, t6, t21, t22, t23, hlt]
      refine ext_ansO (f := fun w => .tuple #[w, .bool true]) hX fun M' hM => ⟨by rw [zipV_len]; omega, id, 2, by rw [zipV_len], hid, ho.lt, ho.at_ (hM _ hid ho.lt)⟩
  · have hne : ((o.length : Int) != (l.length : Int)) = true := by rw [bne_iff_ne]; omega
    have ht : ttB l o = false := by unfold ttB; rw [decide_eq_false hlen]; simp
    rw [ht]
    simp (config := {implicitDefEqProofs := false, maxDischargeDepth := 20}) (disch := first | omega | (simp only [lenE]; done) | (simp only [lenE]; omega) | rfl | (simp only [lenE, markR_len]; done) | (simp only [lenE, markR_len]; omega)) only [runE, mapE, listE, initT_5, initT_6, initT_7, initT_8, resV, oneV, binA, unA, reduceCtorEq, Nat.reduceEqDiff, Nat.reduceAdd, Nat.reduceLT, Nat.reduceLeDiff, Nat.reduceMul, Nat.reduceSub, ↓reduceIte, decide_true, decide_false, Bool.true_eq_false, Bool.false_eq_true, Bool.not_true, Bool.not_false, if_true, if_false, and_true, true_and, memE, celE, w64, Nat.zero_add, Nat.add_zero, Nat.mul_one, putL, and_self, ldn, hl1, hl2, hne, bsl_no]
    exact ext_noPairs (f := fun w => .tuple #[w, .bool false]) hX (by simp [roM_len])
/-! Meeting. -/
theorem tmod_small {x y : Int} {g : Nat} (hx : 0 ≤ x ∧ x ≤ 63) (hy : 0 ≤ y ∧ y ≤ 63) : -63 ≤ x - y ∧ x - y ≤ 63 := by omega
theorem l8Meet_rc (m : Mem) (a x b y : Int) (ha : 1 ≤ a ∧ a ≤ 64) (hb : 1 ≤ b ∧ b ≤ 64) (hx : 0 ≤ x ∧ x ≤ 63) (hy : 0 ≤ y ∧ y ≤ 63) : RC Try.prog 88 [.int .i64 a, .int .i64 x, .int .i64 b, .int .i64 y] m (AnsV (.bool (meetB a x b y))) := by
  refine rc_of_run mixed ok_spec_l8Meet (by simp) (go_start _ _ _ ?_)
  obtain ⟨a, rfl⟩ := Int.eq_ofNat_of_zero_le (show 0 ≤ a by omega)
  obtain ⟨b, rfl⟩ := Int.eq_ofNat_of_zero_le (show 0 ≤ b by omega)
  unfold meetB
  simp (config := {implicitDefEqProofs := false, maxDischargeDepth := 20}) (disch := first | omega | (simp only [lenE]; done) | (simp only [lenE]; omega) | rfl | (simp only [lenE, markR_len]; done) | (simp only [lenE, markR_len]; omega)) only [runE, mapE, listE, initT_5, initT_6, initT_7, initT_8, resV, oneV, binA, unA, reduceCtorEq, Nat.reduceEqDiff, Nat.reduceAdd, Nat.reduceLT, Nat.reduceLeDiff, Nat.reduceMul, Nat.reduceSub, ↓reduceIte, decide_true, decide_false, Bool.true_eq_false, Bool.false_eq_true, Bool.not_true, Bool.not_false, if_true, if_false, and_true, true_and, memE, celE, w64, Nat.zero_add, Nat.add_zero, Nat.mul_one, putL, and_self, ldn, c_spec_l8Meet, r_spec_l8Meet]
  refine callH_rc (specGcd_rc _ a b) ?_
  rintro r new ⟨rfl, nrn⟩
  have hg : 0 < a.gcd b := Nat.gcd_pos_of_pos_right _ (by omega)
  simp only [Int.toNat_natCast]
  generalize a.gcd b = g at *
  have hg0 : ¬ ((g : Int) = 0) := by omega
  simp (config := {implicitDefEqProofs := false, maxDischargeDepth := 20}) (disch := first | omega | (simp only [lenE]; done) | (simp only [lenE]; omega) | rfl | (simp only [lenE, markR_len]; done) | (simp only [lenE, markR_len]; omega)) only [runE, mapE, listE, initT_5, initT_6, initT_7, initT_8, resV, oneV, binA, unA, reduceCtorEq, Nat.reduceEqDiff, Nat.reduceAdd, Nat.reduceLT, Nat.reduceLeDiff, Nat.reduceMul, Nat.reduceSub, ↓reduceIte, decide_true, decide_false, Bool.true_eq_false, Bool.false_eq_true, Bool.not_true, Bool.not_false, if_true, if_false, and_true, true_and, memE, celE, w64, Nat.zero_add, Nat.add_zero, Nat.mul_one, putL, and_self, ldn, hg0]
  exact ext_ansV ((Ext.refl m).app nrn) rfl
theorem meets_rc (m : Mem) (a x b y : Int) (ha : 1 ≤ a ∧ a ≤ 64) (hb : 1 ≤ b ∧ b ≤ 64) (hx : 0 ≤ x ∧ x ≤ 63) (hy : 0 ≤ y ∧ y ≤ 63) : RC Try.prog 91 [pairV (a, x), pairV (b, y)] m (AnsV (.bool (meetB a x b y))) := by
  refine rc_of_run mixed ok_impl_visit__meets (by simp) (go_start _ _ _ ?_)
  obtain ⟨a, rfl⟩ := Int.eq_ofNat_of_zero_le (show 0 ≤ a by omega)
  obtain ⟨b, rfl⟩ := Int.eq_ofNat_of_zero_le (show 0 ≤ b by omega)
  unfold meetB
  simp (config := {implicitDefEqProofs := false, maxDischargeDepth := 20}) (disch := first | omega | (simp only [lenE]; done) | (simp only [lenE]; omega) | rfl | (simp only [lenE, markR_len]; done) | (simp only [lenE, markR_len]; omega)) only [runE, mapE, listE, initT_5, initT_6, initT_7, initT_8, resV, oneV, binA, unA, reduceCtorEq, Nat.reduceEqDiff, Nat.reduceAdd, Nat.reduceLT, Nat.reduceLeDiff, Nat.reduceMul, Nat.reduceSub, ↓reduceIte, decide_true, decide_false, Bool.true_eq_false, Bool.false_eq_true, Bool.not_true, Bool.not_false, if_true, if_false, and_true, true_and, memE, celE, w64, Nat.zero_add, Nat.add_zero, Nat.mul_one, putL, and_self, ldn, c_impl_visit__meets, r_impl_visit__meets, pairV]
  obtain ⟨E, hE⟩ : ∃ M, M = roM m ++ [⟨.own, 96, [.int .i64 (a : Int), .int .i64 x]⟩] ++ [⟨.own, 96, [.int .i64 (b : Int), .int .i64 y]⟩] := ⟨_, rfl⟩
  rw [← hE]
  have hX : Ext m E := by rw [hE]; exact ((Ext.refl m).one _ _).one _ _
  clear hE
  refine rcallH_rc (implGcd_rc _ a b) ?_
  rintro r new ⟨rfl, nrn⟩
  have hg : 0 < a.gcd b := Nat.gcd_pos_of_pos_right _ (by omega)
  simp only [Int.toNat_natCast]
  generalize a.gcd b = g at *
  have hg0 : ¬ ((g : Int) = 0) := by omega
  simp (config := {implicitDefEqProofs := false, maxDischargeDepth := 20}) (disch := first | omega | (simp only [lenE]; done) | (simp only [lenE]; omega) | rfl | (simp only [lenE, markR_len]; done) | (simp only [lenE, markR_len]; omega)) only [runE, mapE, listE, initT_5, initT_6, initT_7, initT_8, resV, oneV, binA, unA, reduceCtorEq, Nat.reduceEqDiff, Nat.reduceAdd, Nat.reduceLT, Nat.reduceLeDiff, Nat.reduceMul, Nat.reduceSub, ↓reduceIte, decide_true, decide_false, Bool.true_eq_false, Bool.false_eq_true, Bool.not_true, Bool.not_false, if_true, if_false, and_true, true_and, memE, celE, w64, Nat.zero_add, Nat.add_zero, Nat.mul_one, putL, and_self, ldn, hg0]
  exact ext_ansV (hX.app nrn) rfl
theorem specIsFree_rc (m : Mem) (v u : Value) (l o : List Int) (h : IntsA m v l) (hu : IntsA m u o) : RC Try.prog 51 [v, u] m (AnsV (.tuple #[.bool (ttB l o && freeB l o), .bool (ttB l o)])) := by
  refine rc_of_run mixed ok_spec_IsFree (by simp) (go_start _ _ _ ?_)
  have hX := Ext.refl m
  simp (config := {implicitDefEqProofs := false, maxDischargeDepth := 20}) (disch := first | omega | (simp only [lenE]; done) | (simp only [lenE]; omega) | rfl | (simp only [lenE, markR_len]; done) | (simp only [lenE, markR_len]; omega)) only [runE, mapE, listE, initT_5, initT_6, initT_7, initT_8, resV, oneV, binA, unA, reduceCtorEq, Nat.reduceEqDiff, Nat.reduceAdd, Nat.reduceLT, Nat.reduceLeDiff, Nat.reduceMul, Nat.reduceSub, ↓reduceIte, decide_true, decide_false, Bool.true_eq_false, Bool.false_eq_true, Bool.not_true, Bool.not_false, if_true, if_false, and_true, true_and, memE, celE, w64, Nat.zero_add, Nat.add_zero, Nat.mul_one, putL, and_self, ldn, c_spec_IsFree, r_spec_IsFree]
  refine callH_rc (l8Table_rc _ v u l o ((Sees.ext hX).ints h) ((Sees.ext hX).ints hu)) ?_
  rintro r new0 ⟨rfl, nr0⟩
  have hX := hX.app nr0
  cases g1 : ttB l o with
  | false =>
    simp (config := {implicitDefEqProofs := false, maxDischargeDepth := 20}) (disch := first | omega | (simp only [lenE]; done) | (simp only [lenE]; omega) | rfl | (simp only [lenE, markR_len]; done) | (simp only [lenE, markR_len]; omega)) only [runE, mapE, listE, initT_5, initT_6, initT_7, initT_8, resV, oneV, binA, unA, reduceCtorEq, Nat.reduceEqDiff, Nat.reduceAdd, Nat.reduceLT, Nat.reduceLeDiff, Nat.reduceMul, Nat.reduceSub, ↓reduceIte, decide_true, decide_false, Bool.true_eq_false, Bool.false_eq_true, Bool.not_true, Bool.not_false, if_true, if_false, and_true, true_and, memE, celE, w64, Nat.zero_add, Nat.add_zero, Nat.mul_one, putL, and_self, ldn, Bool.false_and, Bool.true_and, Bool.and_true, Bool.and_false, Bool.and_self]
    exact ext_ansV hX rfl
  | true =>
  have hT := ttB_iff.1 g1
  have hlc := hT.cyc.len
  have hol := hT.len
  simp (config := {implicitDefEqProofs := false, maxDischargeDepth := 20}) (disch := first | omega | (simp only [lenE]; done) | (simp only [lenE]; omega) | rfl | (simp only [lenE, markR_len]; done) | (simp only [lenE, markR_len]; omega)) only [runE, mapE, listE, initT_5, initT_6, initT_7, initT_8, resV, oneV, binA, unA, reduceCtorEq, Nat.reduceEqDiff, Nat.reduceAdd, Nat.reduceLT, Nat.reduceLeDiff, Nat.reduceMul, Nat.reduceSub, ↓reduceIte, decide_true, decide_false, Bool.true_eq_false, Bool.false_eq_true, Bool.not_true, Bool.not_false, if_true, if_false, and_true, true_and, memE, celE, w64, Nat.zero_add, Nat.add_zero, Nat.mul_one, putL, and_self, ldn, Bool.false_and, Bool.true_and, Bool.and_true, Bool.and_false, Bool.and_self]
  refine loop_inv mixed (fun s => ∃ (i : Nat) (M : Mem), i ≤ l.length ∧ freeTo l o i = true ∧ s.m = M ∧ Ext m M ∧ s.t 0 = v ∧ s.t 1 = u ∧ s.t 6 = .int .i64 (i : Int)) (fun s => l.length - (intOf (s.t 6)).toNat)
    ⟨0, _, by omega, rfl, rfl, hX, rfl, rfl, rfl⟩ ?_
  rintro s ⟨i, M, hi, hfr, tm, hX, t0, t1, t6⟩
  have hl := ((Sees.ext hX).ints h).len
  by_cases hil : i < l.length
  · have hlt : (i : Int) < l.length := by omega
    simp (config := {implicitDefEqProofs := false, maxDischargeDepth := 20}) (disch := first | omega | (simp only [lenE]; done) | (simp only [lenE]; omega) | rfl | (simp only [lenE, markR_len]; done) | (simp only [lenE, markR_len]; omega)) only [runE, mapE, listE, initT_5, initT_6, initT_7, initT_8, resV, oneV, binA, unA, reduceCtorEq, Nat.reduceEqDiff, Nat.reduceAdd, Nat.reduceLT, Nat.reduceLeDiff, Nat.reduceMul, Nat.reduceSub, ↓reduceIte, decide_true, decide_false, Bool.true_eq_false, Bool.false_eq_true, Bool.not_true, Bool.not_false, if_true, if_false, and_true, true_and, memE, celE, w64, Nat.zero_add, Nat.add_zero, Nat.mul_one, putL, and_self, ldn, tm, t0, t1, t6, hl, hlt]
    refine loop_inv mixed (fun s => ∃ (k : Nat) (M : Mem), k ≤ i ∧ rowFree l o i k = true ∧ s.m = M ∧ Ext m M ∧ s.t 0 = v ∧ s.t 1 = u ∧ s.t 6 = .int .i64 (i : Int) ∧ s.t 7 = .int .i64 (k : Int)) (fun s => i - (intOf (s.t 7)).toNat)
      ⟨0, M, by omega, rfl, tm, hX, t0, t1, t6, rfl⟩ ?_
    rintro s ⟨k, M, hk, hrf, tm, hX, t0, t1, t6, t7⟩
    have hA := (Sees.ext hX).ints h
    have hB := (Sees.ext hX).ints hu
    by_cases hki : k < i
    · have hlt2 : (k : Int) < i := by omega
      have i1 := hA.at_ i hil
      have i2 := hA.ld i hil
      have i3 := hB.at_ i (by omega)
      have i4 := hB.ld i (by omega)
      have j1 := hA.at_ k (by omega)
      have j2 := hA.ld k (by omega)
      have j3 := hB.at_ k (by omega)
      have j4 := hB.ld k (by omega)
      have n1 := hT.nums hil
      have n2 := hT.nums (i := k) (by omega)
      have hst := rowFree_step l o i k
      rw [hrf, Bool.true_and] at hst
      simp (config := {implicitDefEqProofs := false, maxDischargeDepth := 20}) (disch := first | omega | (simp only [lenE]; done) | (simp only [lenE]; omega) | rfl | (simp only [lenE, markR_len]; done) | (simp only [lenE, markR_len]; omega)) only [runE, mapE, listE, initT_5, initT_6, initT_7, initT_8, resV, oneV, binA, unA, reduceCtorEq, Nat.reduceEqDiff, Nat.reduceAdd, Nat.reduceLT, Nat.reduceLeDiff, Nat.reduceMul, Nat.reduceSub, ↓reduceIte, decide_true, decide_false, Bool.true_eq_false, Bool.false_eq_true, Bool.not_true, Bool.not_false, if_true, if_false, and_true, true_and, memE, celE, w64, Nat.zero_add, Nat.add_zero, Nat.mul_one, putL, and_self, ldn, tm, t0, t1, t6, t7, hlt2, i1, i2, i3, i4, j1, j2, j3, j4]
      refine rcallH_rc (l8Meet_rc _ _ _ _ _ n1.1 n2.1 n1.2 n2.2) ?_
      rintro r new ⟨rfl, nrn⟩
      cases hm : meetB (l.getD i 0) (o.getD i 0) (l.getD k 0) (o.getD k 0) with
      | true =>
        simp (config := {implicitDefEqProofs := false, maxDischargeDepth := 20}) (disch := first | omega | (simp only [lenE]; done) | (simp only [lenE]; omega) | rfl | (simp only [lenE, markR_len]; done) | (simp only [lenE, markR_len]; omega)) only [runE, mapE, listE, initT_5, initT_6, initT_7, initT_8, resV, oneV, binA, unA, reduceCtorEq, Nat.reduceEqDiff, Nat.reduceAdd, Nat.reduceLT, Nat.reduceLeDiff, Nat.reduceMul, Nat.reduceSub, ↓reduceIte, decide_true, decide_false, Bool.true_eq_false, Bool.false_eq_true, Bool.not_true, Bool.not_false, if_true, if_false, and_true, true_and, memE, celE, w64, Nat.zero_add, Nat.add_zero, Nat.mul_one, putL, and_self, ldn, tm, t0, t1, t6, t7]
        refine ext_ansV (hX.app nrn) ?_
        have : freeB l o = false := freeTo_no hil (rowFree_no hki hm)
        rw [this]
      | false =>
        rw [hm] at hst
        simp (config := {implicitDefEqProofs := false, maxDischargeDepth := 20}) (disch := first | omega | (simp only [lenE]; done) | (simp only [lenE]; omega) | rfl | (simp only [lenE, markR_len]; done) | (simp only [lenE, markR_len]; omega)) only [runE, mapE, listE, initT_5, initT_6, initT_7, initT_8, resV, oneV, binA, unA, reduceCtorEq, Nat.reduceEqDiff, Nat.reduceAdd, Nat.reduceLT, Nat.reduceLeDiff, Nat.reduceMul, Nat.reduceSub, ↓reduceIte, decide_true, decide_false, Bool.true_eq_false, Bool.false_eq_true, Bool.not_true, Bool.not_false, if_true, if_false, and_true, true_and, memE, celE, w64, Nat.zero_add, Nat.add_zero, Nat.mul_one, putL, and_self, ldn, tm, t0, t1, t6, t7]
        refine ⟨⟨k + 1, _, by omega, hst, rfl, hX.app nrn, by simp⟩, ?_⟩
        simp [intOf]; omega
    · have hlt2 : ¬ ((k : Int) < i) := by omega
      have e : k = i := by omega
      subst e
      simp (config := {implicitDefEqProofs := false, maxDischargeDepth := 20}) (disch := first | omega | (simp only [lenE]; done) | (simp only [lenE]; omega) | rfl | (simp only [lenE, markR_len]; done) | (simp only [lenE, markR_len]; omega)) only [runE, mapE, listE, initT_5, initT_6, initT_7, initT_8, resV, oneV, binA, unA, reduceCtorEq, Nat.reduceEqDiff, Nat.reduceAdd, Nat.reduceLT, Nat.reduceLeDiff, Nat.reduceMul, Nat.reduceSub, ↓reduceIte, decide_true, decide_false, Bool.true_eq_false, Bool.false_eq_true, Bool.not_true, Bool.not_false, if_true, if_false, and_true, true_and, memE, celE, w64, Nat.zero_add, Nat.add_zero, Nat.mul_one, putL, and_self, ldn, tm, t0, t1, t6, t7, hlt2]
      refine ⟨⟨k + 1, _, by omega, by rw [freeTo_step, hfr, hrf]; rfl, rfl, hX, by simp⟩, ?_⟩
      simp [intOf]; omega
  · have hlt : ¬ ((i : Int) < l.length) := by omega
    have e : i = l.length := by omega
    subst e
    simp (config := {implicitDefEqProofs := false, maxDischargeDepth := 20}) (disch := first | omega | (simp only [lenE]; done) | (simp only [lenE]; omega) | rfl | (simp only [lenE, markR_len]; done) | (simp only [lenE, markR_len]; omega)) only [runE, mapE, listE, initT_5, initT_6, initT_7, initT_8, resV, oneV, binA, unA, reduceCtorEq, Nat.reduceEqDiff, Nat.reduceAdd, Nat.reduceLT, Nat.reduceLeDiff, Nat.reduceMul, Nat.reduceSub, ↓reduceIte, decide_true, decide_false, Bool.true_eq_false, Bool.false_eq_true, Bool.not_true, Bool.not_false, if_true, if_false, and_true, true_and, memE, celE, w64, Nat.zero_add, Nat.add_zero, Nat.mul_one, putL, and_self, ldn, tm, t0, t1, t6, hl, hlt]
    refine ext_ansV hX ?_
    rw [show freeB l o = true from hfr]
theorem visits_in {l o : List Int} (hT : Tab l o) {p : Int × Int} (hp : p ∈ zipV l o l.length) : (1 ≤ p.1 ∧ p.1 ≤ 64) ∧ (0 ≤ p.2 ∧ p.2 ≤ 63) := by
  obtain ⟨i, hi, rfl⟩ := List.mem_map.1 hp
  exact hT.nums (List.mem_range.1 hi)
theorem implIsFree_rc (m : Mem) (v u : Value) (l o : List Int) (h : IntsA m v l) (hu : IntsA m u o) : RC Try.prog 52 [v, u] m (AnsV (.tuple #[.bool (ttB l o && freeB l o), .bool (ttB l o)])) := by
  refine rc_of_run mixed ok_impl_IsFree (by simp) (go_start _ _ _ ?_)
  have hX := Ext.refl m
  simp (config := {implicitDefEqProofs := false, maxDischargeDepth := 20}) (disch := first | omega | (simp only [lenE]; done) | (simp only [lenE]; omega) | rfl | (simp only [lenE, markR_len]; done) | (simp only [lenE, markR_len]; omega)) only [runE, mapE, listE, initT_5, initT_6, initT_7, initT_8, resV, oneV, binA, unA, reduceCtorEq, Nat.reduceEqDiff, Nat.reduceAdd, Nat.reduceLT, Nat.reduceLeDiff, Nat.reduceMul, Nat.reduceSub, ↓reduceIte, decide_true, decide_false, Bool.true_eq_false, Bool.false_eq_true, Bool.not_true, Bool.not_false, if_true, if_false, and_true, true_and, memE, celE, w64, Nat.zero_add, Nat.add_zero, Nat.mul_one, putL, and_self, ldn, c_impl_IsFree, r_impl_IsFree]
  refine callH_rc (timetable_rc _ v u l o ((Sees.ext hX).ints h) ((Sees.ext hX).ints hu)) ?_
  rintro r new0 ⟨nr0, w, rfl, hP⟩
  have hX := hX.app nr0
  have hP := hP.now.in
  cases g1 : ttB l o with
  | false =>
    simp (config := {implicitDefEqProofs := false, maxDischargeDepth := 20}) (disch := first | omega | (simp only [lenE]; done) | (simp only [lenE]; omega) | rfl | (simp only [lenE, markR_len]; done) | (simp only [lenE, markR_len]; omega)) only [runE, mapE, listE, initT_5, initT_6, initT_7, initT_8, resV, oneV, binA, unA, reduceCtorEq, Nat.reduceEqDiff, Nat.reduceAdd, Nat.reduceLT, Nat.reduceLeDiff, Nat.reduceMul, Nat.reduceSub, ↓reduceIte, decide_true, decide_false, Bool.true_eq_false, Bool.false_eq_true, Bool.not_true, Bool.not_false, if_true, if_false, and_true, true_and, memE, celE, w64, Nat.zero_add, Nat.add_zero, Nat.mul_one, putL, and_self, ldn, ext_2_0, ext_2_1, Bool.false_and, Bool.true_and, Bool.and_true, Bool.and_false, Bool.and_self]
    exact ext_ansV hX rfl
  | true =>
  have hT := ttB_iff.1 g1
  have hlc := hT.cyc.len
  have hol := hT.len
  have hv : visA l o = zipV l o l.length := by unfold visA; rw [g1]; rfl
  rw [hv] at hP
  have hlw := hP.len2
  rw [zipV_len] at hlw
  simp (config := {implicitDefEqProofs := false, maxDischargeDepth := 20}) (disch := first | omega | (simp only [lenE]; done) | (simp only [lenE]; omega) | rfl | (simp only [lenE, markR_len]; done) | (simp only [lenE, markR_len]; omega)) only [runE, mapE, listE, initT_5, initT_6, initT_7, initT_8, resV, oneV, binA, unA, reduceCtorEq, Nat.reduceEqDiff, Nat.reduceAdd, Nat.reduceLT, Nat.reduceLeDiff, Nat.reduceMul, Nat.reduceSub, ↓reduceIte, decide_true, decide_false, Bool.true_eq_false, Bool.false_eq_true, Bool.not_true, Bool.not_false, if_true, if_false, and_true, true_and, memE, celE, w64, Nat.zero_add, Nat.add_zero, Nat.mul_one, putL, and_self, ldn, ext_2_0, ext_2_1, Bool.false_and, Bool.true_and, Bool.and_true, Bool.and_false, Bool.and_self, hlw]
  obtain ⟨B, hB⟩ : ∃ B, B = roM m ++ new0 := ⟨_, rfl⟩
  have hP : PairsA B w (zipV l o l.length) := by rw [hB]; exact hP
  rw [← hB] at hX ⊢
  clear hB
  refine loop_inv mixed (fun s => ∃ (i : Nat) (M : Mem), i ≤ l.length ∧ freeTo l o i = true ∧ s.m = M ∧ Ext m M ∧ PairsA M w (zipV l o l.length) ∧ s.t 6 = w ∧ s.t 18 = w ∧ s.t 19 = .int .i64 (l.length : Int) ∧ s.t 20 = .int .i64 (i : Int)) (fun s => l.length - (intOf (s.t 20)).toNat)
    ⟨0, _, by omega, rfl, rfl, hX, hP, rfl, rfl, rfl, rfl⟩ ?_
  rintro s ⟨i, M, hi, hfr, tm, hX, hP, t6, t18, t19, t20⟩
  by_cases hil : i < l.length
  · have hlt : (i : Int) < l.length := by omega
    have i1 := hP.at2 (k := i) (by rw [zipV_len]; exact hil)
    have i2 := hP.ld2 (k := i) (by rw [zipV_len]; exact hil)
    rw [zipV_at l o l.length i hil] at i2
    have n1 := hT.nums hil
    obtain ⟨w2, hs2, hP2⟩ := hP.take (k := i) (by rw [zipV_len]; omega)
    rw [zipV_take l o l.length i (by omega)] at hP2
    simp (config := {implicitDefEqProofs := false, maxDischargeDepth := 20}) (disch := first | omega | (simp only [lenE]; done) | (simp only [lenE]; omega) | rfl | (simp only [lenE, markR_len]; done) | (simp only [lenE, markR_len]; omega)) only [runE, mapE, listE, initT_5, initT_6, initT_7, initT_8, resV, oneV, binA, unA, reduceCtorEq, Nat.reduceEqDiff, Nat.reduceAdd, Nat.reduceLT, Nat.reduceLeDiff, Nat.reduceMul, Nat.reduceSub, ↓reduceIte, decide_true, decide_false, Bool.true_eq_false, Bool.false_eq_true, Bool.not_true, Bool.not_false, if_true, if_false, and_true, true_and, memE, celE, w64, Nat.zero_add, Nat.add_zero, Nat.mul_one, putL, and_self, ldn, tm, t6, t18, t19, t20, hlt, i1, i2, pairV, stP_agg2, hs2, Option.map_none]
    obtain ⟨F, hF⟩ : ∃ F, F = M ++ [⟨.own, 96, [.int .i64 (l.getD i 0), .int .i64 (o.getD i 0)]⟩] := ⟨_, rfl⟩
    rw [← hF]
    have hXF : Ext m F := by rw [hF]; exact hX.one _ _
    have hPF : PairsA F w (zipV l o l.length) := by rw [hF]; exact hP.ext _
    have hPF2 : PairsA F w2 (zipV l o i) := by rw [hF]; exact hP2.ext _
    clear hF
    have hT2 : TestV F (.func (.func 91) #[.agg #[.int .i64 (l.getD i 0), .int .i64 (o.getD i 0)]] #[]) (zipV l o i) (fun p => meetB (l.getD i 0) (o.getD i 0) p.1 p.2) := by
      refine ⟨_, [.agg #[.int .i64 (l.getD i 0), .int .i64 (o.getD i 0)]], [], rfl, fun M' p hs hp => ?_⟩
      have hp2 : p ∈ zipV l o l.length := by
        rw [← zipV_take l o l.length i (by omega)] at hp
        exact List.mem_of_mem_take hp
      have np := visits_in hT hp2
      exact meets_rc M' (l.getD i 0) (o.getD i 0) p.1 p.2 n1.1 np.1 n1.2 np.2
    refine rcallH_rc (containsV_rc _ w2 _ _ _ hPF2 hT2) ?_
    rintro r new ⟨rfl, nrn⟩
    rw [any_row]
    cases hr : rowFree l o i i with
    | true =>
      simp (config := {implicitDefEqProofs := false, maxDischargeDepth := 20}) (disch := first | omega | (simp only [lenE]; done) | (simp only [lenE]; omega) | rfl | (simp only [lenE, markR_len]; done) | (simp only [lenE, markR_len]; omega)) only [runE, mapE, listE, initT_5, initT_6, initT_7, initT_8, resV, oneV, binA, unA, reduceCtorEq, Nat.reduceEqDiff, Nat.reduceAdd, Nat.reduceLT, Nat.reduceLeDiff, Nat.reduceMul, Nat.reduceSub, ↓reduceIte, decide_true, decide_false, Bool.true_eq_false, Bool.false_eq_true, Bool.not_true, Bool.not_false, if_true, if_false, and_true, true_and, memE, celE, w64, Nat.zero_add, Nat.add_zero, Nat.mul_one, putL, and_self, ldn, tm, t6, t18, t19, t20, Bool.not_true]
      refine ⟨⟨i + 1, _, by omega, by rw [freeTo_step, hfr, hr]; rfl, rfl, hXF.app nrn, hPF.ext _, by simp⟩, ?_⟩
      simp [intOf]; omega
    | false =>
      simp (config := {implicitDefEqProofs := false, maxDischargeDepth := 20}) (disch := first | omega | (simp only [lenE]; done) | (simp only [lenE]; omega) | rfl | (simp only [lenE, markR_len]; done) | (simp only [lenE, markR_len]; omega)) only [runE, mapE, listE, initT_5, initT_6, initT_7, initT_8, resV, oneV, binA, unA, reduceCtorEq, Nat.reduceEqDiff, Nat.reduceAdd, Nat.reduceLT, Nat.reduceLeDiff, Nat.reduceMul, Nat.reduceSub, ↓reduceIte, decide_true, decide_false, Bool.true_eq_false, Bool.false_eq_true, Bool.not_true, Bool.not_false, if_true, if_false, and_true, true_and, memE, celE, w64, Nat.zero_add, Nat.add_zero, Nat.mul_one, putL, and_self, ldn, tm, t6, t18, t19, t20, Bool.not_false]
      refine ext_ansV (hXF.app nrn) ?_
      have : freeB l o = false := freeTo_no hil hr
      rw [this]
  · have hlt : ¬ ((i : Int) < l.length) := by omega
    have e : i = l.length := by omega
    subst e
    simp (config := {implicitDefEqProofs := false, maxDischargeDepth := 20}) (disch := first | omega | (simp only [lenE]; done) | (simp only [lenE]; omega) | rfl | (simp only [lenE, markR_len]; done) | (simp only [lenE, markR_len]; omega)) only [runE, mapE, listE, initT_5, initT_6, initT_7, initT_8, resV, oneV, binA, unA, reduceCtorEq, Nat.reduceEqDiff, Nat.reduceAdd, Nat.reduceLT, Nat.reduceLeDiff, Nat.reduceMul, Nat.reduceSub, ↓reduceIte, decide_true, decide_false, Bool.true_eq_false, Bool.false_eq_true, Bool.not_true, Bool.not_false, if_true, if_false, and_true, true_and, memE, celE, w64, Nat.zero_add, Nat.add_zero, Nat.mul_one, putL, and_self, ldn, tm, t6, t18, t19, t20, hlt]
    refine ext_ansV hX ?_
    rw [show freeB l o = true from hfr]
end Go.Proofs.Ytmjnjhdacliieaa.Ab
