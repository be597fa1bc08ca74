/- Families: validity, factors, joint costs. -/
import Derived.Test.YtmjnjhdacliieaaAbItemArg
import Derived.Test.YtmjnjhdacliieaaAbCy5
import Derived.Test.YtmjnjhdacliieaaAbHas
namespace Go.Proofs.Ytmjnjhdacliieaa.Ab
open Go Go.RowKit
set_option linter.unusedVariables false
set_option linter.unusedSimpArgs false
set_option maxRecDepth 10000

theorem Sees.items {m M : Mem} (h : Sees m M) {v : Value} {L : List It} (hi : ItemsA m v L) : ItemsA M v L := by
  obtain ⟨hb, id, fl, rfl, hc⟩ := hi
  refine ⟨hb, id, fl, rfl, fun k i hk hi => ?_⟩
  obtain ⟨u, hu⟩ := itC_some (L.getD k It0) hi
  have := hc k i hk hi
  rw [hu] at this ⊢
  exact h.rdc this
theorem OwnB.ld2 {M : Mem} {id : Nat} {e : TypeId} {a b : Value} (h : OwnB M id e [a, b]) : ldA M (some 2) (.pointer (some ⟨id, 0, none⟩)) = some (.agg #[a, b]) := by
  unfold OwnB at h
  simp [ldA, rdn, rdc, h]
theorem famB_step {L : List It} {k : Nat} (hk : k < L.length) : (L.take (k + 1)).all (·.good) = ((L.take k).all (·.good) && (L.getD k It0).good) := by
  rw [List.take_add_one, List.all_append, List.getD_eq_getElem?_getD, List.getElem?_eq_getElem hk]
  simp
theorem l8Family_rc (m : Mem) (v : Value) (L : List It) (h : ItemsA m v L) : RC Try.prog 70 [v] m (AnsV (.bool (famB L))) := by
  refine rc_of_run mixed ok_spec_l8Family (by simp) (go_start _ _ _ ?_)
  have hA := h.ro
  have hbd := hA.1
  simp (config := {implicitDefEqProofs := false, maxDischargeDepth := 20}) (disch := first | omega | (simp only [lenE]; done) | (simp only [lenE]; omega) | rfl | (simp only [lenE, markR_len]; done) | (simp only [lenE, markR_len]; omega)) only [runE, mapE, listE, initT_5, initT_6, initT_7, initT_8, resV, oneV, binA, unA, reduceCtorEq, Nat.reduceEqDiff, Nat.reduceAdd, Nat.reduceLT, Nat.reduceLeDiff, Nat.reduceMul, Nat.reduceSub, ↓reduceIte, decide_true, decide_false, Bool.true_eq_false, Bool.false_eq_true, Bool.not_true, Bool.not_false, if_true, if_false, and_true, true_and, memE, celE, w64, Nat.zero_add, Nat.add_zero, Nat.mul_one, putL, and_self, ldn, c_spec_l8Family, r_spec_l8Family]
  refine loop_inv mixed (fun s => ∃ (k : Nat) (M : Mem), k ≤ L.length ∧ (L.take k).all (·.good) = true ∧ s.m = M ∧ Ext m M ∧ s.t 0 = v ∧ s.t 3 = .int .i64 (k : Int)) (fun s => L.length - (intOf (s.t 3)).toNat)
    ⟨0, _, by omega, rfl, rfl, Ext.refl m, rfl, rfl⟩ ?_
  rintro s ⟨k, M, hk, hall, tm, hX, t0, t3⟩
  have hM := (Sees.ext hX).items h
  have hl := hM.len
  by_cases hkl : k < L.length
  · have hlt : (k : Int) < L.length := by omega
    have i1 := hM.at_ hkl
    have i2 := hM.ld hkl
    simp (config := {implicitDefEqProofs := false, maxDischargeDepth := 20}) (disch := first | omega | (simp only [lenE]; done) | (simp only [lenE]; omega) | rfl | (simp only [lenE, markR_len]; done) | (simp only [lenE, markR_len]; omega)) only [runE, mapE, listE, initT_5, initT_6, initT_7, initT_8, resV, oneV, binA, unA, reduceCtorEq, Nat.reduceEqDiff, Nat.reduceAdd, Nat.reduceLT, Nat.reduceLeDiff, Nat.reduceMul, Nat.reduceSub, ↓reduceIte, decide_true, decide_false, Bool.true_eq_false, Bool.false_eq_true, Bool.not_true, Bool.not_false, if_true, if_false, and_true, true_and, memE, celE, w64, Nat.zero_add, Nat.add_zero, Nat.mul_one, putL, and_self, ldn, tm, t0, t3, hl, hlt, i1, i2]
    refine callH_rc (l8Item_rc _ _) ?_
    rintro r new ⟨rfl, nrn⟩
    have hs := famB_step hkl
    rw [hall, Bool.true_and] at hs
    cases hg : (L.getD k It0).good with
    | true =>
      rw [hg] at hs
      simp (config := {implicitDefEqProofs := false, maxDischargeDepth := 20}) (disch := first | omega | (simp only [lenE]; done) | (simp only [lenE]; omega) | rfl | (simp only [lenE, markR_len]; done) | (simp only [lenE, markR_len]; omega)) only [runE, mapE, listE, initT_5, initT_6, initT_7, initT_8, resV, oneV, binA, unA, reduceCtorEq, Nat.reduceEqDiff, Nat.reduceAdd, Nat.reduceLT, Nat.reduceLeDiff, Nat.reduceMul, Nat.reduceSub, ↓reduceIte, decide_true, decide_false, Bool.true_eq_false, Bool.false_eq_true, Bool.not_true, Bool.not_false, if_true, if_false, and_true, true_and, memE, celE, w64, Nat.zero_add, Nat.add_zero, Nat.mul_one, putL, and_self, ldn, tm, t0, t3]
      refine ⟨⟨k + 1, _, by omega, hs, rfl, hX.app nrn, by simp⟩, ?_⟩
      simp [intOf]; omega
    | false =>
      simp (config := {implicitDefEqProofs := false, maxDischargeDepth := 20}) (disch := first | omega | (simp only [lenE]; done) | (simp only [lenE]; omega) | rfl | (simp only [lenE, markR_len]; done) | (simp only [lenE, markR_len]; omega)) only [runE, mapE, listE, initT_5, initT_6, initT_7, initT_8, resV, oneV, binA, unA, reduceCtorEq, Nat.reduceEqDiff, Nat.reduceAdd, Nat.reduceLT, Nat.reduceLeDiff, Nat.reduceMul, Nat.reduceSub, ↓reduceIte, decide_true, decide_false, Bool.true_eq_false, Bool.false_eq_true, Bool.not_true, Bool.not_false, if_true, if_false, and_true, true_and, memE, celE, w64, Nat.zero_add, Nat.add_zero, Nat.mul_one, putL, and_self, ldn, tm, t0, t3]
      refine ext_ansV (hX.app nrn) ?_
      have : L.all (·.good) = false := by
        cases ha : L.all (·.good) with
        | false => rfl
        | true =>
          have := List.all_eq_true.1 ha (L.getD k It0) (by rw [List.getD_eq_getElem?_getD, List.getElem?_eq_getElem hkl]; exact List.getElem_mem hkl)
          rw [hg] at this; cases this
      simp [famB, this]
  · have hlt : ¬ ((k : Int) < L.length) := by omega
    have e : k = L.length := by omega
    subst e
    rw [List.take_length] at hall
    simp (config := {implicitDefEqProofs := false, maxDischargeDepth := 20}) (disch := first | omega | (simp only [lenE]; done) | (simp only [lenE]; omega) | rfl | (simp only [lenE, markR_len]; done) | (simp only [lenE, markR_len]; omega)) only [runE, mapE, listE, initT_5, initT_6, initT_7, initT_8, resV, oneV, binA, unA, reduceCtorEq, Nat.reduceEqDiff, Nat.reduceAdd, Nat.reduceLT, Nat.reduceLeDiff, Nat.reduceMul, Nat.reduceSub, ↓reduceIte, decide_true, decide_false, Bool.true_eq_false, Bool.false_eq_true, Bool.not_true, Bool.not_false, if_true, if_false, and_true, true_and, memE, celE, w64, Nat.zero_add, Nat.add_zero, Nat.mul_one, putL, and_self, ldn, tm, t0, t3, hl, hlt]
    refine callH_rc (l1In_rc _ _ _ _) ?_
    rintro r new ⟨rfl, rfl⟩
    rw [List.append_nil]
    simp (config := {implicitDefEqProofs := false, maxDischargeDepth := 20}) (disch := first | omega | (simp only [lenE]; done) | (simp only [lenE]; omega) | rfl | (simp only [lenE, markR_len]; done) | (simp only [lenE, markR_len]; omega)) only [runE, mapE, listE, initT_5, initT_6, initT_7, initT_8, resV, oneV, binA, unA, reduceCtorEq, Nat.reduceEqDiff, Nat.reduceAdd, Nat.reduceLT, Nat.reduceLeDiff, Nat.reduceMul, Nat.reduceSub, ↓reduceIte, decide_true, decide_false, Bool.true_eq_false, Bool.false_eq_true, Bool.not_true, Bool.not_false, if_true, if_false, and_true, true_and, memE, celE, w64, Nat.zero_add, Nat.add_zero, Nat.mul_one, putL, and_self, ldn]
    refine ext_ansV hX ?_
    have e1 : decide ((1 : Int) ≤ (L.length : Int)) = decide (1 ≤ L.length) := by congr 1; apply propext; omega
    have e2 : decide ((L.length : Int) ≤ 4) = decide (L.length ≤ 4) := by congr 1; apply propext; omega
    unfold famB
    rw [hall, Bool.true_and, e1, e2]
theorem badItem_rc (m : Mem) (x : It) : RC Try.prog 108 [itV x] m (AnsV (.bool (!x.good))) := by
  refine rc_of_run mixed ok_impl_isFamily_1 (by simp) (go_start _ _ _ ?_)
  simp (config := {implicitDefEqProofs := false, maxDischargeDepth := 20}) (disch := first | omega | (simp only [lenE]; done) | (simp only [lenE]; omega) | rfl | (simp only [lenE, markR_len]; done) | (simp only [lenE, markR_len]; omega)) only [runE, mapE, listE, initT_5, initT_6, initT_7, initT_8, resV, oneV, binA, unA, reduceCtorEq, Nat.reduceEqDiff, Nat.reduceAdd, Nat.reduceLT, Nat.reduceLeDiff, Nat.reduceMul, Nat.reduceSub, ↓reduceIte, decide_true, decide_false, Bool.true_eq_false, Bool.false_eq_true, Bool.not_true, Bool.not_false, if_true, if_false, and_true, true_and, memE, celE, w64, Nat.zero_add, Nat.add_zero, Nat.mul_one, putL, and_self, ldn, c_impl_isFamily_1, r_impl_isFamily_1, itV]
  obtain ⟨E, hE⟩ : ∃ M, M = roM m ++ [⟨.own, 25, [.int .i64 x.daily, .int .i64 x.setup, .int .i64 x.hold, .int .i64 x.made, .int .i64 x.pause]⟩] := ⟨_, rfl⟩
  rw [← hE]
  have hX : Ext m E := by rw [hE]; exact (Ext.refl m).one _ _
  clear hE
  refine callH_rc (isItem_rc _ x) ?_
  rintro r new ⟨rfl, nrn⟩
  simp (config := {implicitDefEqProofs := false, maxDischargeDepth := 20}) (disch := first | omega | (simp only [lenE]; done) | (simp only [lenE]; omega) | rfl | (simp only [lenE, markR_len]; done) | (simp only [lenE, markR_len]; omega)) only [runE, mapE, listE, initT_5, initT_6, initT_7, initT_8, resV, oneV, binA, unA, reduceCtorEq, Nat.reduceEqDiff, Nat.reduceAdd, Nat.reduceLT, Nat.reduceLeDiff, Nat.reduceMul, Nat.reduceSub, ↓reduceIte, decide_true, decide_false, Bool.true_eq_false, Bool.false_eq_true, Bool.not_true, Bool.not_false, if_true, if_false, and_true, true_and, memE, celE, w64, Nat.zero_add, Nat.add_zero, Nat.mul_one, putL, and_self, ldn]
  exact ext_ansV (hX.app nrn) rfl
theorem indexItem_rc (m : Mem) (v : Value) (L : List It) (h : ItemsA m v L) :
    RC Try.prog 126 [v, .func (.func 108) #[] #[]] m fun r new => (∃ z : Int, r = .int .i64 z ∧ (decide (0 ≤ z) = !L.all (·.good))) ∧ NoRo new := by
  refine rc_of_run mixed ok_slices_IndexFunc_Item (by simp) (go_start _ _ _ ?_)
  have hA := h.ro
  have hbd := hA.1
  have hl := hA.len
  simp (config := {implicitDefEqProofs := false, maxDischargeDepth := 20}) (disch := first | omega | (simp only [lenE]; done) | (simp only [lenE]; omega) | rfl | (simp only [lenE, markR_len]; done) | (simp only [lenE, markR_len]; omega)) only [runE, mapE, listE, initT_5, initT_6, initT_7, initT_8, resV, oneV, binA, unA, reduceCtorEq, Nat.reduceEqDiff, Nat.reduceAdd, Nat.reduceLT, Nat.reduceLeDiff, Nat.reduceMul, Nat.reduceSub, ↓reduceIte, decide_true, decide_false, Bool.true_eq_false, Bool.false_eq_true, Bool.not_true, Bool.not_false, if_true, if_false, and_true, true_and, memE, celE, w64, Nat.zero_add, Nat.add_zero, Nat.mul_one, putL, and_self, ldn, c_slices_IndexFunc_Item, r_slices_IndexFunc_Item, hl]
  refine loop_inv mixed (fun s => ∃ (k : Nat) (M : Mem), k ≤ L.length ∧ (L.take k).all (·.good) = true ∧ s.m = M ∧ Ext m M ∧ s.t 0 = v ∧ s.t 1 = .func (.func 108) #[] #[] ∧ s.t 7 = .int .i64 (L.length : Int) ∧ s.t 8 = .int .i64 (k : Int)) (fun s => L.length - (intOf (s.t 8)).toNat)
    ⟨0, _, by omega, rfl, rfl, Ext.refl m, rfl, rfl, rfl, rfl⟩ ?_
  rintro s ⟨k, M, hk, hall, tm, hX, t0, t1, t7, t8⟩
  have hM := (Sees.ext hX).items h
  by_cases hkl : k < L.length
  · have hlt : (k : Int) < L.length := by omega
    have i1 := hM.at_ hkl
    have i2 := hM.ld hkl
    simp (config := {implicitDefEqProofs := false, maxDischargeDepth := 20}) (disch := first | omega | (simp only [lenE]; done) | (simp only [lenE]; omega) | rfl | (simp only [lenE, markR_len]; done) | (simp only [lenE, markR_len]; omega)) only [runE, mapE, listE, initT_5, initT_6, initT_7, initT_8, resV, oneV, binA, unA, reduceCtorEq, Nat.reduceEqDiff, Nat.reduceAdd, Nat.reduceLT, Nat.reduceLeDiff, Nat.reduceMul, Nat.reduceSub, ↓reduceIte, decide_true, decide_false, Bool.true_eq_false, Bool.false_eq_true, Bool.not_true, Bool.not_false, if_true, if_false, and_true, true_and, memE, celE, w64, Nat.zero_add, Nat.add_zero, Nat.mul_one, putL, and_self, ldn, tm, t0, t1, t7, t8, hlt, i1, i2]
    refine callH_rc (badItem_rc _ _) ?_
    rintro r new ⟨rfl, nrn⟩
    have hs := famB_step hkl
    rw [hall, Bool.true_and] at hs
    cases hg : (L.getD k It0).good with
    | true =>
      rw [hg] at hs
      simp (config := {implicitDefEqProofs := false, maxDischargeDepth := 20}) (disch := first | omega | (simp only [lenE]; done) | (simp only [lenE]; omega) | rfl | (simp only [lenE, markR_len]; done) | (simp only [lenE, markR_len]; omega)) only [runE, mapE, listE, initT_5, initT_6, initT_7, initT_8, resV, oneV, binA, unA, reduceCtorEq, Nat.reduceEqDiff, Nat.reduceAdd, Nat.reduceLT, Nat.reduceLeDiff, Nat.reduceMul, Nat.reduceSub, ↓reduceIte, decide_true, decide_false, Bool.true_eq_false, Bool.false_eq_true, Bool.not_true, Bool.not_false, if_true, if_false, and_true, true_and, memE, celE, w64, Nat.zero_add, Nat.add_zero, Nat.mul_one, putL, and_self, ldn, tm, t0, t1, t7, t8]
      refine ⟨⟨k + 1, _, by omega, hs, rfl, hX.app nrn, by simp⟩, ?_⟩
      simp [intOf]; omega
    | false =>
      have : L.all (·.good) = false := by
        cases ha : L.all (·.good) with
        | false => rfl
        | true =>
          have := List.all_eq_true.1 ha (L.getD k It0) (by rw [List.getD_eq_getElem?_getD, List.getElem?_eq_getElem hkl]; exact List.getElem_mem hkl)
          rw [hg] at this; cases this
      simp (config := {implicitDefEqProofs := false, maxDischargeDepth := 20}) (disch := first | omega | (simp only [lenE]; done) | (simp only [lenE]; omega) | rfl | (simp only [lenE, markR_len]; done) | (simp only [lenE, markR_len]; omega)) only [runE, mapE, listE, initT_5, initT_6, initT_7, initT_8, resV, oneV, binA, unA, reduceCtorEq, Nat.reduceEqDiff, Nat.reduceAdd, Nat.reduceLT, Nat.reduceLeDiff, Nat.reduceMul, Nat.reduceSub, ↓reduceIte, decide_true, decide_false, Bool.true_eq_false, Bool.false_eq_true, Bool.not_true, Bool.not_false, if_true, if_false, and_true, true_and, memE, celE, w64, Nat.zero_add, Nat.add_zero, Nat.mul_one, putL, and_self, ldn, tm, t0, t1, t7, t8]
      obtain ⟨n0, e0, h0⟩ := hX.app nrn
      exact ⟨n0, e0, h0, ⟨_, rfl, by rw [this]; exact decide_eq_true (by omega)⟩, h0⟩
  · have hlt : ¬ ((k : Int) < L.length) := by omega
    have e : k = L.length := by omega
    subst e
    rw [List.take_length] at hall
    simp (config := {implicitDefEqProofs := false, maxDischargeDepth := 20}) (disch := first | omega | (simp only [lenE]; done) | (simp only [lenE]; omega) | rfl | (simp only [lenE, markR_len]; done) | (simp only [lenE, markR_len]; omega)) only [runE, mapE, listE, initT_5, initT_6, initT_7, initT_8, resV, oneV, binA, unA, reduceCtorEq, Nat.reduceEqDiff, Nat.reduceAdd, Nat.reduceLT, Nat.reduceLeDiff, Nat.reduceMul, Nat.reduceSub, ↓reduceIte, decide_true, decide_false, Bool.true_eq_false, Bool.false_eq_true, Bool.not_true, Bool.not_false, if_true, if_false, and_true, true_and, memE, celE, w64, Nat.zero_add, Nat.add_zero, Nat.mul_one, putL, and_self, ldn, tm, t0, t1, t7, t8, hlt]
    obtain ⟨n0, rfl, h0⟩ := hX
    exact ⟨n0, rfl, h0, ⟨_, rfl, by rw [hall]; rfl⟩, h0⟩
theorem isFamily_rc (m : Mem) (v : Value) (L : List It) (h : ItemsA m v L) : RC Try.prog 73 [v] m (AnsV (.bool (famB L))) := by
  refine rc_of_run mixed ok_impl_isFamily (by simp) (go_start _ _ _ ?_)
  have hA := h.ro
  have hl := hA.len
  simp (config := {implicitDefEqProofs := false, maxDischargeDepth := 20}) (disch := first | omega | (simp only [lenE]; done) | (simp only [lenE]; omega) | rfl | (simp only [lenE, markR_len]; done) | (simp only [lenE, markR_len]; omega)) only [runE, mapE, listE, initT_5, initT_6, initT_7, initT_8, resV, oneV, binA, unA, reduceCtorEq, Nat.reduceEqDiff, Nat.reduceAdd, Nat.reduceLT, Nat.reduceLeDiff, Nat.reduceMul, Nat.reduceSub, ↓reduceIte, decide_true, decide_false, Bool.true_eq_false, Bool.false_eq_true, Bool.not_true, Bool.not_false, if_true, if_false, and_true, true_and, memE, celE, w64, Nat.zero_add, Nat.add_zero, Nat.mul_one, putL, and_self, ldn, c_impl_isFamily, r_impl_isFamily, hl]
  refine callH_rc (isCount_rc _ _ _) ?_
  rintro r new ⟨rfl, rfl⟩
  rw [List.append_nil]
  have e1 : decide ((1 : Int) ≤ (L.length : Int)) = decide (1 ≤ L.length) := by congr 1; apply propext; omega
  have e2 : decide ((L.length : Int) ≤ 4) = decide (L.length ≤ 4) := by congr 1; apply propext; omega
  cases hc : inR 1 4 (L.length : Int) with
  | false =>
    simp (config := {implicitDefEqProofs := false, maxDischargeDepth := 20}) (disch := first | omega | (simp only [lenE]; done) | (simp only [lenE]; omega) | rfl | (simp only [lenE, markR_len]; done) | (simp only [lenE, markR_len]; omega)) only [runE, mapE, listE, initT_5, initT_6, initT_7, initT_8, resV, oneV, binA, unA, reduceCtorEq, Nat.reduceEqDiff, Nat.reduceAdd, Nat.reduceLT, Nat.reduceLeDiff, Nat.reduceMul, Nat.reduceSub, ↓reduceIte, decide_true, decide_false, Bool.true_eq_false, Bool.false_eq_true, Bool.not_true, Bool.not_false, if_true, if_false, and_true, true_and, memE, celE, w64, Nat.zero_add, Nat.add_zero, Nat.mul_one, putL, and_self, ldn]
    refine ext_ansV (Ext.refl m) ?_
    unfold inR at hc
    rw [e1, e2] at hc
    unfold famB
    rw [Bool.and_assoc, hc, Bool.and_false]
  | true =>
  simp (config := {implicitDefEqProofs := false, maxDischargeDepth := 20}) (disch := first | omega | (simp only [lenE]; done) | (simp only [lenE]; omega) | rfl | (simp only [lenE, markR_len]; done) | (simp only [lenE, markR_len]; omega)) only [runE, mapE, listE, initT_5, initT_6, initT_7, initT_8, resV, oneV, binA, unA, reduceCtorEq, Nat.reduceEqDiff, Nat.reduceAdd, Nat.reduceLT, Nat.reduceLeDiff, Nat.reduceMul, Nat.reduceSub, ↓reduceIte, decide_true, decide_false, Bool.true_eq_false, Bool.false_eq_true, Bool.not_true, Bool.not_false, if_true, if_false, and_true, true_and, memE, celE, w64, Nat.zero_add, Nat.add_zero, Nat.mul_one, putL, and_self, ldn, hl]
  refine callH_rc (?_ : RC Try.prog 109 [v, .func (.func 108) #[] #[]] (roM m) (AnsV (.bool (!L.all (·.good))))) ?_
  · refine rc_of_run mixed ok_slices_ContainsFunc_Item (by simp) (go_start _ _ _ ?_)
    simp (config := {implicitDefEqProofs := false, maxDischargeDepth := 20}) (disch := first | omega | (simp only [lenE]; done) | (simp only [lenE]; omega) | rfl | (simp only [lenE, markR_len]; done) | (simp only [lenE, markR_len]; omega)) only [runE, mapE, listE, initT_5, initT_6, initT_7, initT_8, resV, oneV, binA, unA, reduceCtorEq, Nat.reduceEqDiff, Nat.reduceAdd, Nat.reduceLT, Nat.reduceLeDiff, Nat.reduceMul, Nat.reduceSub, ↓reduceIte, decide_true, decide_false, Bool.true_eq_false, Bool.false_eq_true, Bool.not_true, Bool.not_false, if_true, if_false, and_true, true_and, memE, celE, w64, Nat.zero_add, Nat.add_zero, Nat.mul_one, putL, and_self, ldn, c_slices_ContainsFunc_Item, r_slices_ContainsFunc_Item]
    refine callH_rc (indexItem_rc _ v L hA.ro) ?_
    rintro r new ⟨⟨z, rfl, hz⟩, nrn⟩
    simp (config := {implicitDefEqProofs := false, maxDischargeDepth := 20}) (disch := first | omega | (simp only [lenE]; done) | (simp only [lenE]; omega) | rfl | (simp only [lenE, markR_len]; done) | (simp only [lenE, markR_len]; omega)) only [runE, mapE, listE, initT_5, initT_6, initT_7, initT_8, resV, oneV, binA, unA, reduceCtorEq, Nat.reduceEqDiff, Nat.reduceAdd, Nat.reduceLT, Nat.reduceLeDiff, Nat.reduceMul, Nat.reduceSub, ↓reduceIte, decide_true, decide_false, Bool.true_eq_false, Bool.false_eq_true, Bool.not_true, Bool.not_false, if_true, if_false, and_true, true_and, memE, celE, w64, Nat.zero_add, Nat.add_zero, Nat.mul_one, putL, and_self, ldn, hz, ge_iff_le]
    exact ext_ansV ((Ext.refl _).app nrn) rfl
  rintro r new ⟨rfl, nrn⟩
  simp (config := {implicitDefEqProofs := false, maxDischargeDepth := 20}) (disch := first | omega | (simp only [lenE]; done) | (simp only [lenE]; omega) | rfl | (simp only [lenE, markR_len]; done) | (simp only [lenE, markR_len]; omega)) only [runE, mapE, listE, initT_5, initT_6, initT_7, initT_8, resV, oneV, binA, unA, reduceCtorEq, Nat.reduceEqDiff, Nat.reduceAdd, Nat.reduceLT, Nat.reduceLeDiff, Nat.reduceMul, Nat.reduceSub, ↓reduceIte, decide_true, decide_false, Bool.true_eq_false, Bool.false_eq_true, Bool.not_true, Bool.not_false, if_true, if_false, and_true, true_and, memE, celE, w64, Nat.zero_add, Nat.add_zero, Nat.mul_one, putL, and_self, ldn]
  refine ext_ansV ((Ext.refl m).app nrn) ?_
  unfold inR at hc
  rw [e1, e2] at hc
  unfold famB
  rw [Bool.and_assoc, hc, Bool.and_true, Bool.not_not]
/-- So many numbers, each of 1 .. most. -/
def cntB (l : List Int) (n : Nat) (most : Int) : Bool := l.all (inR 1 most) && decide (l.length = n)
theorem cnt_step {l : List Int} {most : Int} {k : Nat} (hk : k < l.length) : (l.take (k + 1)).all (inR 1 most) = ((l.take k).all (inR 1 most) && inR 1 most (l.getD k 0)) := by
  rw [List.take_add_one, List.all_append, List.getD_eq_getElem?_getD, List.getElem?_eq_getElem hk]
  simp
theorem l8Factors_rc (m : Mem) (v u : Value) (L : List It) (l : List Int) (h : ItemsA m v L) (hu : IntsA m u l) : RC Try.prog 71 [v, u] m (AnsV (.bool (cntB l L.length 8))) := by
  refine rc_of_run mixed ok_spec_l8Factors (by simp) (go_start _ _ _ ?_)
  have hA := h.ro
  have hB := hu.ro
  have hbd := hB.bd
  have hl := hA.len
  have hl2 := hB.len
  simp (config := {implicitDefEqProofs := false, maxDischargeDepth := 20}) (disch := first | omega | (simp only [lenE]; done) | (simp only [lenE]; omega) | rfl | (simp only [lenE, markR_len]; done) | (simp only [lenE, markR_len]; omega)) only [runE, mapE, listE, initT_5, initT_6, initT_7, initT_8, resV, oneV, binA, unA, reduceCtorEq, Nat.reduceEqDiff, Nat.reduceAdd, Nat.reduceLT, Nat.reduceLeDiff, Nat.reduceMul, Nat.reduceSub, ↓reduceIte, decide_true, decide_false, Bool.true_eq_false, Bool.false_eq_true, Bool.not_true, Bool.not_false, if_true, if_false, and_true, true_and, memE, celE, w64, Nat.zero_add, Nat.add_zero, Nat.mul_one, putL, and_self, ldn, c_spec_l8Factors, r_spec_l8Factors]
  refine loop_inv mixed (fun s => ∃ (k : Nat), k ≤ l.length ∧ (l.take k).all (inR 1 8) = true ∧ s.m = roM m ∧ s.t 0 = v ∧ s.t 1 = u ∧ s.t 5 = .int .i64 (k : Int)) (fun s => l.length - (intOf (s.t 5)).toNat)
    ⟨0, by omega, rfl, rfl, rfl, rfl, rfl⟩ ?_
  rintro s ⟨k, hk, hall, tm, t0, t1, t5⟩
  by_cases hkl : k < l.length
  · have hlt : (k : Int) < l.length := by omega
    have i1 := hB.at_ k hkl
    have i2 := hB.ld k hkl
    simp (config := {implicitDefEqProofs := false, maxDischargeDepth := 20}) (disch := first | omega | (simp only [lenE]; done) | (simp only [lenE]; omega) | rfl | (simp only [lenE, markR_len]; done) | (simp only [lenE, markR_len]; omega)) only [runE, mapE, listE, initT_5, initT_6, initT_7, initT_8, resV, oneV, binA, unA, reduceCtorEq, Nat.reduceEqDiff, Nat.reduceAdd, Nat.reduceLT, Nat.reduceLeDiff, Nat.reduceMul, Nat.reduceSub, ↓reduceIte, decide_true, decide_false, Bool.true_eq_false, Bool.false_eq_true, Bool.not_true, Bool.not_false, if_true, if_false, and_true, true_and, memE, celE, w64, Nat.zero_add, Nat.add_zero, Nat.mul_one, putL, and_self, ldn, tm, t0, t1, t5, hl2, hlt, i1, i2]
    refine callH_rc (l1In_rc _ _ _ _) ?_
    rintro r new ⟨rfl, rfl⟩
    rw [List.append_nil, show (decide (1 ≤ l.getD k 0) && decide (l.getD k 0 ≤ 8)) = inR 1 8 (l.getD k 0) from rfl]
    have hs := cnt_step (most := 8) hkl
    rw [hall, Bool.true_and] at hs
    cases hg : inR 1 8 (l.getD k 0) with
    | true =>
      rw [hg] at hs
      simp (config := {implicitDefEqProofs := false, maxDischargeDepth := 20}) (disch := first | omega | (simp only [lenE]; done) | (simp only [lenE]; omega) | rfl | (simp only [lenE, markR_len]; done) | (simp only [lenE, markR_len]; omega)) only [runE, mapE, listE, initT_5, initT_6, initT_7, initT_8, resV, oneV, binA, unA, reduceCtorEq, Nat.reduceEqDiff, Nat.reduceAdd, Nat.reduceLT, Nat.reduceLeDiff, Nat.reduceMul, Nat.reduceSub, ↓reduceIte, decide_true, decide_false, Bool.true_eq_false, Bool.false_eq_true, Bool.not_true, Bool.not_false, if_true, if_false, and_true, true_and, memE, celE, w64, Nat.zero_add, Nat.add_zero, Nat.mul_one, putL, and_self, ldn, tm, t0, t1, t5]
      refine ⟨⟨k + 1, by omega, hs, by simp⟩, ?_⟩
      simp [intOf]; omega
    | false =>
      simp (config := {implicitDefEqProofs := false, maxDischargeDepth := 20}) (disch := first | omega | (simp only [lenE]; done) | (simp only [lenE]; omega) | rfl | (simp only [lenE, markR_len]; done) | (simp only [lenE, markR_len]; omega)) only [runE, mapE, listE, initT_5, initT_6, initT_7, initT_8, resV, oneV, binA, unA, reduceCtorEq, Nat.reduceEqDiff, Nat.reduceAdd, Nat.reduceLT, Nat.reduceLeDiff, Nat.reduceMul, Nat.reduceSub, ↓reduceIte, decide_true, decide_false, Bool.true_eq_false, Bool.false_eq_true, Bool.not_true, Bool.not_false, if_true, if_false, and_true, true_and, memE, celE, w64, Nat.zero_add, Nat.add_zero, Nat.mul_one, putL, and_self, ldn, tm, t0, t1, t5]
      refine ext_ansV (Ext.refl m) ?_
      have : l.all (inR 1 8) = false := by
        cases ha : l.all (inR 1 8) with
        | false => rfl
        | true =>
          have := List.all_eq_true.1 ha (l.getD k 0) (by rw [List.getD_eq_getElem?_getD, List.getElem?_eq_getElem hkl]; exact List.getElem_mem hkl)
          rw [hg] at this; cases this
      simp [cntB, this]
  · have hlt : ¬ ((k : Int) < l.length) := by omega
    have e : k = l.length := by omega
    subst e
    rw [List.take_length] at hall
    simp (config := {implicitDefEqProofs := false, maxDischargeDepth := 20}) (disch := first | omega | (simp only [lenE]; done) | (simp only [lenE]; omega) | rfl | (simp only [lenE, markR_len]; done) | (simp only [lenE, markR_len]; omega)) only [runE, mapE, listE, initT_5, initT_6, initT_7, initT_8, resV, oneV, binA, unA, reduceCtorEq, Nat.reduceEqDiff, Nat.reduceAdd, Nat.reduceLT, Nat.reduceLeDiff, Nat.reduceMul, Nat.reduceSub, ↓reduceIte, decide_true, decide_false, Bool.true_eq_false, Bool.false_eq_true, Bool.not_true, Bool.not_false, if_true, if_false, and_true, true_and, memE, celE, w64, Nat.zero_add, Nat.add_zero, Nat.mul_one, putL, and_self, ldn, tm, t0, t1, t5, hl, hl2, hlt]
    refine ext_ansV (Ext.refl m) ?_
    unfold cntB
    rw [hall, Bool.true_and]
    congr 1
    by_cases e : l.length = L.length
    · rw [e, beq_self_eq_true, decide_eq_true rfl]
    · rw [decide_eq_false e, beq_eq_false_iff_ne]; omega
theorem hasX_any {l : List Int} {x : Int} (d : Nat) : hasX l x 0 d = true ↔ ∃ j, j < d ∧ x = l.getD j 0 := by
  induction d with
  | zero => simp [hasX]
  | succ d ih =>
    rw [hasX, Bool.or_eq_true, ih, beq_iff_eq, Nat.zero_add]
    constructor
    · rintro (⟨j, hj, e⟩ | e)
      · exact ⟨j, by omega, e⟩
      · exact ⟨d, by omega, e⟩
    · rintro ⟨j, hj, e⟩
      by_cases hd : j = d
      · subst hd; exact .inr e
      · exact .inl ⟨j, by omega, e⟩
theorem cntB_row (l : List Int) (n : Nat) (most : Int) (h8 : l.length ≤ 1048576) : cntB l n most = (Go.Proofs.Ytmjnjhdacliieaa.rowB l n most && !hasX l 0 0 l.length) := by
  have key : cntB l n most = true ↔ (Go.Proofs.Ytmjnjhdacliieaa.rowB l n most && !hasX l 0 0 l.length) = true := by
    rw [Bool.and_eq_true, rowB_iff]
    simp only [cntB, Bool.and_eq_true, List.all_eq_true, inR_iff, decide_eq_true_eq, Bool.not_eq_true']
    constructor
    · rintro ⟨h1, h2⟩
      refine ⟨⟨fun x hx => by have := h1 x hx; omega, h2⟩, ?_⟩
      cases hh : hasX l 0 0 l.length with
      | false => rfl
      | true =>
        obtain ⟨j, hj, e⟩ := (hasX_any _).1 hh
        have := h1 (l.getD j 0) (by rw [List.getD_eq_getElem?_getD, List.getElem?_eq_getElem hj]; exact List.getElem_mem hj)
        omega
    · rintro ⟨⟨h1, h2⟩, h3⟩
      refine ⟨fun x hx => ?_, h2⟩
      have := h1 x hx
      have hne : x ≠ 0 := by
        rintro rfl
        obtain ⟨j, hj, e⟩ := List.mem_iff_getElem.1 hx
        have : hasX l 0 0 l.length = true := (hasX_any _).2 ⟨j, hj, by rw [List.getD_eq_getElem?_getD, List.getElem?_eq_getElem hj]; exact e.symm⟩
        rw [this] at h3; cases h3
      omega
  cases h1 : cntB l n most <;> cases h2 : (Go.Proofs.Ytmjnjhdacliieaa.rowB l n most && !hasX l 0 0 l.length) <;> first | rfl | (rw [h1, h2] at key; simp at key)
theorem areCounts_rc (m : Mem) (u : Value) (l : List Int) (n : Nat) (most : Int) (hu : IntsA m u l) (hn : n ≤ 1048576) : RC Try.prog 74 [u, .int .i64 (n : Int), .int .i64 most] m (AnsV (.bool (cntB l n most))) := by
  refine rc_of_run mixed ok_impl_areCounts (by simp) (go_start _ _ _ ?_)
  have hB := hu.ro
  simp (config := {implicitDefEqProofs := false, maxDischargeDepth := 20}) (disch := first | omega | (simp only [lenE]; done) | (simp only [lenE]; omega) | rfl | (simp only [lenE, markR_len]; done) | (simp only [lenE, markR_len]; omega)) only [runE, mapE, listE, initT_5, initT_6, initT_7, initT_8, resV, oneV, binA, unA, reduceCtorEq, Nat.reduceEqDiff, Nat.reduceAdd, Nat.reduceLT, Nat.reduceLeDiff, Nat.reduceMul, Nat.reduceSub, ↓reduceIte, decide_true, decide_false, Bool.true_eq_false, Bool.false_eq_true, Bool.not_true, Bool.not_false, if_true, if_false, and_true, true_and, memE, celE, w64, Nat.zero_add, Nat.add_zero, Nat.mul_one, putL, and_self, ldn, c_impl_areCounts, r_impl_areCounts]
  refine callH_rc (isRow_rc _ u l n most hB) ?_
  rintro r new ⟨rfl, nrn⟩
  cases hr : Go.Proofs.Ytmjnjhdacliieaa.rowB l n most with
  | false =>
    simp (config := {implicitDefEqProofs := false, maxDischargeDepth := 20}) (disch := first | omega | (simp only [lenE]; done) | (simp only [lenE]; omega) | rfl | (simp only [lenE, markR_len]; done) | (simp only [lenE, markR_len]; omega)) only [runE, mapE, listE, initT_5, initT_6, initT_7, initT_8, resV, oneV, binA, unA, reduceCtorEq, Nat.reduceEqDiff, Nat.reduceAdd, Nat.reduceLT, Nat.reduceLeDiff, Nat.reduceMul, Nat.reduceSub, ↓reduceIte, decide_true, decide_false, Bool.true_eq_false, Bool.false_eq_true, Bool.not_true, Bool.not_false, if_true, if_false, and_true, true_and, memE, celE, w64, Nat.zero_add, Nat.add_zero, Nat.mul_one, putL, and_self, ldn]
    refine ext_ansV ((Ext.refl m).app nrn) ?_
    have : cntB l n most = false := by
      cases hc : cntB l n most with
      | false => rfl
      | true =>
        have h := hc
        simp only [cntB, Bool.and_eq_true, List.all_eq_true, inR_iff, decide_eq_true_eq] at h
        have : Go.Proofs.Ytmjnjhdacliieaa.rowB l n most = true := rowB_iff.2 ⟨fun x hx => by have := h.1 x hx; omega, h.2⟩
        rw [hr] at this; cases this
    rw [this]
  | true =>
  have h8 : l.length ≤ 1048576 := by have := (rowB_iff.1 hr).2; omega
  simp (config := {implicitDefEqProofs := false, maxDischargeDepth := 20}) (disch := first | omega | (simp only [lenE]; done) | (simp only [lenE]; omega) | rfl | (simp only [lenE, markR_len]; done) | (simp only [lenE, markR_len]; omega)) only [runE, mapE, listE, initT_5, initT_6, initT_7, initT_8, resV, oneV, binA, unA, reduceCtorEq, Nat.reduceEqDiff, Nat.reduceAdd, Nat.reduceLT, Nat.reduceLeDiff, Nat.reduceMul, Nat.reduceSub, ↓reduceIte, decide_true, decide_false, Bool.true_eq_false, Bool.false_eq_true, Bool.not_true, Bool.not_false, if_true, if_false, and_true, true_and, memE, celE, w64, Nat.zero_add, Nat.add_zero, Nat.mul_one, putL, and_self, ldn]
  refine callH_rc (contains_rc _ u l 0 (hB.ext _) h8) ?_
  rintro r new2 ⟨rfl, rfl⟩
  rw [List.append_nil]
  simp (config := {implicitDefEqProofs := false, maxDischargeDepth := 20}) (disch := first | omega | (simp only [lenE]; done) | (simp only [lenE]; omega) | rfl | (simp only [lenE, markR_len]; done) | (simp only [lenE, markR_len]; omega)) only [runE, mapE, listE, initT_5, initT_6, initT_7, initT_8, resV, oneV, binA, unA, reduceCtorEq, Nat.reduceEqDiff, Nat.reduceAdd, Nat.reduceLT, Nat.reduceLeDiff, Nat.reduceMul, Nat.reduceSub, ↓reduceIte, decide_true, decide_false, Bool.true_eq_false, Bool.false_eq_true, Bool.not_true, Bool.not_false, if_true, if_false, and_true, true_and, memE, celE, w64, Nat.zero_add, Nat.add_zero, Nat.mul_one, putL, and_self, ldn]
  refine ext_ansV ((Ext.refl m).app nrn) ?_
  rw [cntB_row l n most h8, hr, Bool.true_and]
theorem add_fit {D V U : Int} {p q : Int × Int} (hD : 0 < D) (hp : Bd D V p) (hq : Bd D U q) (h1 : V * D ≤ 1000000000000) (h2 : U * D ≤ 1000000000000) (h3 : D ≤ 1000000) (hV : 0 ≤ V) (hU : 0 ≤ U) : p.1 * q.2 + q.1 * p.2 ≤ 9223372036854775807 ∧ p.2 * q.2 ≤ 9223372036854775807 := by
  have d1 := hp.den hD
  have d2 := hq.den hD
  have v1 : p.1 ≤ V * D := Int.le_trans hp.le (Int.mul_le_mul_of_nonneg_left d1 hV)
  have v2 : q.1 ≤ U * D := Int.le_trans hq.le (Int.mul_le_mul_of_nonneg_left d2 hU)
  have := hp.nn; have := hq.nn; have := hp.pos; have := hq.pos
  have m1 := mul_le2 (a := p.1) (x := q.2) (A := 1000000000000) (B := 1000000) (by omega) (by omega)
  have m2 := mul_le2 (a := q.1) (x := p.2) (A := 1000000000000) (B := 1000000) (by omega) (by omega)
  have m3 := mul_le2 (a := p.2) (x := q.2) (A := 1000000) (B := 1000000) (by omega) (by omega)
  omega
theorem joint_fit {L : List It} (hF : GoodF L) {joint base : Int} {fs : List Int} (hj : 0 ≤ joint ∧ joint ≤ 99) (hb : 1 ≤ base ∧ base ≤ 32) (hfs : GoodFs L.length fs) (k : Nat) (hk : k < L.length) :
    let p := jointTo L joint base fs k
    let q := dailyF (L.getD k It0) (base * fs.getD k 0)
    (0 ≤ p.1 ∧ 0 < p.2 ∧ 0 ≤ q.1 ∧ 0 < q.2) ∧ p.1 * q.2 + q.1 * p.2 ≤ 9223372036854775807 ∧ p.2 * q.2 ≤ 9223372036854775807 := by
  have h1 := joint_bd hF hj hb hfs k (by omega)
  have hq := base_fac hb (hfs.all k hk)
  have h2 := daily_bd (D := 1680 * base) (hF.all k hk) (c := base * fs.getD k 0) (by omega) hq.2
  have hl := hF.len
  refine ⟨⟨h1.nn, h1.pos, h2.nn, h2.pos⟩, add_fit (D := 1680 * base) (V := 99 + 46179 * (k : Int)) (U := 46179) (by omega) h1 h2 ?_ (by omega) (by omega) (by omega) (by omega)⟩
  have := mul_le2 (a := 99 + 46179 * (k : Int)) (x := 1680 * base) (A := 138636) (B := 53760) (by omega) (by omega)
  omega

theorem specJoint_rc (m : Mem) (v u : Value) (L : List It) (joint base : Int) (fs : List Int) (h : ItemsA m v L) (hu : IntsA m u fs) (hF : GoodF L) (hj : 0 ≤ joint ∧ joint ≤ 99) (hb : 1 ≤ base ∧ base ≤ 32) (hfs : GoodFs L.length fs) :
    RC Try.prog 72 [v, .int .i64 joint, .int .i64 base, u] m (AnsV (frV (jointF L joint base fs))) := by
  refine rc_of_run mixed ok_spec_l8Joint (by simp) (go_start _ _ _ ?_)
  simp (config := {implicitDefEqProofs := false, maxDischargeDepth := 20}) (disch := first | omega | (simp only [lenE]; done) | (simp only [lenE]; omega) | rfl | (simp only [lenE, markR_len]; done) | (simp only [lenE, markR_len]; omega)) only [runE, mapE, listE, initT_5, initT_6, initT_7, initT_8, resV, oneV, binA, unA, reduceCtorEq, Nat.reduceEqDiff, Nat.reduceAdd, Nat.reduceLT, Nat.reduceLeDiff, Nat.reduceMul, Nat.reduceSub, ↓reduceIte, decide_true, decide_false, Bool.true_eq_false, Bool.false_eq_true, Bool.not_true, Bool.not_false, if_true, if_false, and_true, true_and, memE, celE, w64, Nat.zero_add, Nat.add_zero, Nat.mul_one, putL, and_self, ldn, c_spec_l8Joint, r_spec_l8Joint]
  obtain ⟨E, hE⟩ : ∃ M, M = roM m ++ [⟨.own, 28, [.int .i64 0, .int .i64 0]⟩] := ⟨_, rfl⟩
  rw [← hE]
  have hX : Ext m E := by rw [hE]; exact (Ext.refl m).one _ _
  have o0 : OwnB E m.length 28 [.int .i64 0, .int .i64 0] := by rw [hE]; exact OwnB.here (roM_len m).symm
  have LE : m.length < E.length := o0.lt
  clear hE
  refine callH_rc (specCut_rc _ joint base ⟨by omega, by omega⟩ ⟨by omega, by omega⟩) ?_
  rintro r new ⟨rfl, nrn⟩
  have hlv := ((Sees.ext hX).items h).len
  simp (config := {implicitDefEqProofs := false, maxDischargeDepth := 20}) (disch := first | omega | (simp only [lenE]; done) | (simp only [lenE]; omega) | rfl | (simp only [lenE, markR_len]; done) | (simp only [lenE, markR_len]; omega)) only [runE, mapE, listE, initT_5, initT_6, initT_7, initT_8, resV, oneV, binA, unA, reduceCtorEq, Nat.reduceEqDiff, Nat.reduceAdd, Nat.reduceLT, Nat.reduceLeDiff, Nat.reduceMul, Nat.reduceSub, ↓reduceIte, decide_true, decide_false, Bool.true_eq_false, Bool.false_eq_true, Bool.not_true, Bool.not_false, if_true, if_false, and_true, true_and, memE, celE, w64, Nat.zero_add, Nat.add_zero, Nat.mul_one, putL, and_self, ldn, frV, stP_agg2, hlv]
  obtain ⟨E2, hE2⟩ : ∃ M, M = E ++ new := ⟨_, rfl⟩
  rw [← hE2]
  have hX2 : Ext m E2 := by rw [hE2]; exact hX.app nrn
  have o2 : OwnB E2 m.length 28 [.int .i64 0, .int .i64 0] := by rw [hE2]; exact o0.ext _
  have LE2 : E.length + new.length = E2.length := by rw [hE2, List.length_append]
  rw [LE2]
  clear hE2
  obtain ⟨E3, hE3⟩ : ∃ M, M = E2 ++ [⟨.own, 28, [.int .i64 (fr joint base).1, .int .i64 (fr joint base).2]⟩] := ⟨_, rfl⟩
  have hX3 : Ext m E3 := by rw [hE3]; exact hX2.one _ _
  have o3 : OwnB E3 m.length 28 [.int .i64 0, .int .i64 0] := by rw [hE3]; exact o2.ext _
  have p3 : OwnB E3 E2.length 28 [.int .i64 (fr joint base).1, .int .i64 (fr joint base).2] := by rw [hE3]; exact OwnB.here rfl
  have hgt : m.length < E2.length := o2.lt
  try rw [← hE3]
  clear hE3
  refine loop_inv mixed (fun s => ∃ (k : Nat) (M : Mem), k ≤ L.length ∧ s.m = M ∧ Ext m M ∧ OwnB M m.length 28 [.int .i64 0, .int .i64 0] ∧ OwnB M E2.length 28 [.int .i64 (jointTo L joint base fs k).1, .int .i64 (jointTo L joint base fs k).2] ∧ s.t 2 = .int .i64 base ∧ s.t 3 = u ∧ s.t 8 = .pointer (some ⟨m.length, 0, none⟩) ∧ s.t 9 = .pointer (some ⟨E2.length, 0, none⟩) ∧ s.t 0 = v ∧ s.t 10 = .int .i64 (k : Int)) (fun s => L.length - (intOf (s.t 10)).toNat)
    ⟨0, _, by omega, rfl, hX3, o3, p3, rfl, rfl, rfl, rfl, rfl, rfl⟩ ?_
  rintro s ⟨k, M, hk, tm, hX, o0, p0, t2, t3, t8, t9, t0, tk⟩
  have hM := (Sees.ext hX).items h
  have hI := (Sees.ext hX).ints hu
  have hl := hM.len
  have hbd := hM.1
  by_cases hkl : k < L.length
  · have hlt : (k : Int) < L.length := by omega
    have i1 := hM.at_ hkl
    have i2 := hM.ld hkl
    have i3 := hI.at_ k (by rw [hfs.len]; exact hkl)
    have i4 := hI.ld k (by rw [hfs.len]; exact hkl)
    have bf := base_fac hb (hfs.all k hkl)
    obtain ⟨⟨n1, n2, n3, n4⟩, hn, hd⟩ := joint_fit hF hj hb hfs k hkl
    have hg := hF.all k hkl
    change GoodI (L.getD k It0) at hg
    have hstep : jointTo L joint base fs (k + 1) = addF (jointTo L joint base fs k) (dailyF (L.getD k It0) (base * fs.getD k 0)) := rfl
    generalize jointTo L joint base fs k = p at *
    generalize L.getD k It0 = x at *
    simp (config := {implicitDefEqProofs := false, maxDischargeDepth := 20}) (disch := first | omega | (simp only [lenE]; done) | (simp only [lenE]; omega) | rfl | (simp only [lenE, markR_len]; done) | (simp only [lenE, markR_len]; omega)) only [runE, mapE, listE, initT_5, initT_6, initT_7, initT_8, resV, oneV, binA, unA, reduceCtorEq, Nat.reduceEqDiff, Nat.reduceAdd, Nat.reduceLT, Nat.reduceLeDiff, Nat.reduceMul, Nat.reduceSub, ↓reduceIte, decide_true, decide_false, Bool.true_eq_false, Bool.false_eq_true, Bool.not_true, Bool.not_false, if_true, if_false, and_true, true_and, memE, celE, w64, Nat.zero_add, Nat.add_zero, Nat.mul_one, putL, and_self, ldn, tm, t2, t3, t8, t9, t0, tk, hl, hlt, i1, i2, i3, i4, p0.ld2, itV]
    refine rcallH_rc (specDaily_rc _ x (base * fs.getD k 0) hg (by omega)) ?_
    rintro r new1 ⟨rfl, nr1⟩
    simp (config := {implicitDefEqProofs := false, maxDischargeDepth := 20}) (disch := first | omega | (simp only [lenE]; done) | (simp only [lenE]; omega) | rfl | (simp only [lenE, markR_len]; done) | (simp only [lenE, markR_len]; omega)) only [runE, mapE, listE, initT_5, initT_6, initT_7, initT_8, resV, oneV, binA, unA, reduceCtorEq, Nat.reduceEqDiff, Nat.reduceAdd, Nat.reduceLT, Nat.reduceLeDiff, Nat.reduceMul, Nat.reduceSub, ↓reduceIte, decide_true, decide_false, Bool.true_eq_false, Bool.false_eq_true, Bool.not_true, Bool.not_false, if_true, if_false, and_true, true_and, memE, celE, w64, Nat.zero_add, Nat.add_zero, Nat.mul_one, putL, and_self, ldn]
    refine rcallH_rc (specPlus_rc _ p (dailyF x (base * fs.getD k 0)) n1 n2 n3 n4 hn hd) ?_
    rintro r new2 ⟨rfl, nr2⟩
    rw [← hstep]
    generalize hz : jointTo L joint base fs (k + 1) = z at *
    have q0 := (p0.ext new1).ext new2
    have r0 := (o0.ext new1).ext new2
    have hst := q0.st (off := 0) (vs := [.int .i64 z.1, .int .i64 z.2]) (by simp) rfl
    simp (config := {implicitDefEqProofs := false, maxDischargeDepth := 20}) (disch := first | omega | (simp only [lenE]; done) | (simp only [lenE]; omega) | rfl | (simp only [lenE, markR_len]; done) | (simp only [lenE, markR_len]; omega)) only [runE, mapE, listE, initT_5, initT_6, initT_7, initT_8, resV, oneV, binA, unA, reduceCtorEq, Nat.reduceEqDiff, Nat.reduceAdd, Nat.reduceLT, Nat.reduceLeDiff, Nat.reduceMul, Nat.reduceSub, ↓reduceIte, decide_true, decide_false, Bool.true_eq_false, Bool.false_eq_true, Bool.not_true, Bool.not_false, if_true, if_false, and_true, true_and, memE, celE, w64, Nat.zero_add, Nat.add_zero, Nat.mul_one, putL, and_self, ldn, tm, t2, t3, t8, t9, t0, tk, frV, stP_agg2, hst]
    refine ⟨⟨k + 1, _, by omega, rfl, ((hX.app nr1).app nr2).put (by omega) _ _, r0.set_ne (by omega) _, by rw [hz]; exact q0.set_self _ _, by simp⟩, ?_⟩
    simp [intOf]; omega
  · have hlt : ¬ ((k : Int) < L.length) := by omega
    have e : k = L.length := by omega
    subst e
    unfold jointF
    generalize jointTo L joint base fs L.length = z at *
    have hst := o0.st (off := 0) (vs := [.int .i64 z.1, .int .i64 z.2]) (by simp) rfl
    have hrd := (o0.set_self 28 [.int .i64 z.1, .int .i64 z.2]).rd
    simp (config := {implicitDefEqProofs := false, maxDischargeDepth := 20}) (disch := first | omega | (simp only [lenE]; done) | (simp only [lenE]; omega) | rfl | (simp only [lenE, markR_len]; done) | (simp only [lenE, markR_len]; omega)) only [runE, mapE, listE, initT_5, initT_6, initT_7, initT_8, resV, oneV, binA, unA, reduceCtorEq, Nat.reduceEqDiff, Nat.reduceAdd, Nat.reduceLT, Nat.reduceLeDiff, Nat.reduceMul, Nat.reduceSub, ↓reduceIte, decide_true, decide_false, Bool.true_eq_false, Bool.false_eq_true, Bool.not_true, Bool.not_false, if_true, if_false, and_true, true_and, memE, celE, w64, Nat.zero_add, Nat.add_zero, Nat.mul_one, putL, and_self, ldn, tm, t2, t3, t8, t9, t0, tk, hl, hlt, p0.ld2, frV, stP_agg2, hst, hrd]
    exact ext_ansV (hX.put (Nat.le_refl _) _ _) rfl

theorem implJoint_rc (m : Mem) (v u : Value) (L : List It) (joint base : Int) (fs : List Int) (h : ItemsA m v L) (hu : IntsA m u fs) (hF : GoodF L) (hj : 0 ≤ joint ∧ joint ≤ 99) (hb : 1 ≤ base ∧ base ≤ 32) (hfs : GoodFs L.length fs) :
    RC Try.prog 75 [v, .int .i64 joint, .int .i64 base, u] m (AnsV (frV (jointF L joint base fs))) := by
  refine rc_of_run mixed ok_impl_familyCost (by simp) (go_start _ _ _ ?_)
  simp (config := {implicitDefEqProofs := false, maxDischargeDepth := 20}) (disch := first | omega | (simp only [lenE]; done) | (simp only [lenE]; omega) | rfl | (simp only [lenE, markR_len]; done) | (simp only [lenE, markR_len]; omega)) only [runE, mapE, listE, initT_5, initT_6, initT_7, initT_8, resV, oneV, binA, unA, reduceCtorEq, Nat.reduceEqDiff, Nat.reduceAdd, Nat.reduceLT, Nat.reduceLeDiff, Nat.reduceMul, Nat.reduceSub, ↓reduceIte, decide_true, decide_false, Bool.true_eq_false, Bool.false_eq_true, Bool.not_true, Bool.not_false, if_true, if_false, and_true, true_and, memE, celE, w64, Nat.zero_add, Nat.add_zero, Nat.mul_one, putL, and_self, ldn, c_impl_familyCost, r_impl_familyCost]
  obtain ⟨E, hE⟩ : ∃ M, M = roM m ++ [⟨.own, 67, [.int .i64 0, .int .i64 0]⟩] := ⟨_, rfl⟩
  rw [← hE]
  have hX : Ext m E := by rw [hE]; exact (Ext.refl m).one _ _
  have o0 : OwnB E m.length 67 [.int .i64 0, .int .i64 0] := by rw [hE]; exact OwnB.here (roM_len m).symm
  have LE : m.length < E.length := o0.lt
  clear hE
  refine callH_rc (implCut_rc _ joint base ⟨by omega, by omega⟩ ⟨by omega, by omega⟩) ?_
  rintro r new ⟨rfl, nrn⟩
  have hlv := ((Sees.ext hX).items h).len
  simp (config := {implicitDefEqProofs := false, maxDischargeDepth := 20}) (disch := first | omega | (simp only [lenE]; done) | (simp only [lenE]; omega) | rfl | (simp only [lenE, markR_len]; done) | (simp only [lenE, markR_len]; omega)) only [runE, mapE, listE, initT_5, initT_6, initT_7, initT_8, resV, oneV, binA, unA, reduceCtorEq, Nat.reduceEqDiff, Nat.reduceAdd, Nat.reduceLT, Nat.reduceLeDiff, Nat.reduceMul, Nat.reduceSub, ↓reduceIte, decide_true, decide_false, Bool.true_eq_false, Bool.false_eq_true, Bool.not_true, Bool.not_false, if_true, if_false, and_true, true_and, memE, celE, w64, Nat.zero_add, Nat.add_zero, Nat.mul_one, putL, and_self, ldn, frV, stP_agg2, hlv]
  obtain ⟨E2, hE2⟩ : ∃ M, M = E ++ new := ⟨_, rfl⟩
  rw [← hE2]
  have hX2 : Ext m E2 := by rw [hE2]; exact hX.app nrn
  have o2 : OwnB E2 m.length 67 [.int .i64 0, .int .i64 0] := by rw [hE2]; exact o0.ext _
  have LE2 : E.length + new.length = E2.length := by rw [hE2, List.length_append]
  rw [LE2]
  clear hE2
  obtain ⟨E3, hE3⟩ : ∃ M, M = E2 ++ [⟨.own, 67, [.int .i64 (fr joint base).1, .int .i64 (fr joint base).2]⟩] := ⟨_, rfl⟩
  have hX3 : Ext m E3 := by rw [hE3]; exact hX2.one _ _
  have o3 : OwnB E3 m.length 67 [.int .i64 0, .int .i64 0] := by rw [hE3]; exact o2.ext _
  have p3 : OwnB E3 E2.length 67 [.int .i64 (fr joint base).1, .int .i64 (fr joint base).2] := by rw [hE3]; exact OwnB.here rfl
  have hgt : m.length < E2.length := o2.lt
  try rw [← hE3]
  clear hE3
  refine loop_inv mixed (fun s => ∃ (k : Nat) (M : Mem), k ≤ L.length ∧ s.m = M ∧ Ext m M ∧ OwnB M m.length 67 [.int .i64 0, .int .i64 0] ∧ OwnB M E2.length 67 [.int .i64 (jointTo L joint base fs k).1, .int .i64 (jointTo L joint base fs k).2] ∧ s.t 2 = .int .i64 base ∧ s.t 3 = u ∧ s.t 8 = .pointer (some ⟨m.length, 0, none⟩) ∧ s.t 9 = .pointer (some ⟨E2.length, 0, none⟩) ∧ s.t 15 = v ∧ s.t 16 = .int .i64 (L.length : Int) ∧ s.t 17 = .int .i64 (k : Int)) (fun s => L.length - (intOf (s.t 17)).toNat)
    ⟨0, _, by omega, rfl, hX3, o3, p3, rfl, rfl, rfl, rfl, rfl, rfl, rfl⟩ ?_
  rintro s ⟨k, M, hk, tm, hX, o0, p0, t2, t3, t8, t9, t15, t16, tk⟩
  have hM := (Sees.ext hX).items h
  have hI := (Sees.ext hX).ints hu
  have hl := hM.len
  have hbd := hM.1
  by_cases hkl : k < L.length
  · have hlt : (k : Int) < L.length := by omega
    have i1 := hM.at_ hkl
    have i2 := hM.ld hkl
    have i3 := hI.at_ k (by rw [hfs.len]; exact hkl)
    have i4 := hI.ld k (by rw [hfs.len]; exact hkl)
    have bf := base_fac hb (hfs.all k hkl)
    obtain ⟨⟨n1, n2, n3, n4⟩, hn, hd⟩ := joint_fit hF hj hb hfs k hkl
    have hg := hF.all k hkl
    change GoodI (L.getD k It0) at hg
    have hstep : jointTo L joint base fs (k + 1) = addF (jointTo L joint base fs k) (dailyF (L.getD k It0) (base * fs.getD k 0)) := rfl
    generalize jointTo L joint base fs k = p at *
    generalize L.getD k It0 = x at *
    have q1 : ∀ b, ldA (M ++ [b]) (some 2) (.pointer (some ⟨E2.length, 0, none⟩)) = some (.agg #[.int .i64 p.1, .int .i64 p.2]) := fun b => (p0.ext [b]).ld2
    have i5 : ∀ b, ldA (M ++ [b]) none (pAt u k) = some (.int .i64 (fs.getD k 0)) := fun b => (hI.ext [b]).ld k (by rw [hfs.len]; exact hkl)
    simp (config := {implicitDefEqProofs := false, maxDischargeDepth := 20}) (disch := first | omega | (simp only [lenE]; done) | (simp only [lenE]; omega) | rfl | (simp only [lenE, markR_len]; done) | (simp only [lenE, markR_len]; omega)) only [runE, mapE, listE, initT_5, initT_6, initT_7, initT_8, resV, oneV, binA, unA, reduceCtorEq, Nat.reduceEqDiff, Nat.reduceAdd, Nat.reduceLT, Nat.reduceLeDiff, Nat.reduceMul, Nat.reduceSub, ↓reduceIte, decide_true, decide_false, Bool.true_eq_false, Bool.false_eq_true, Bool.not_true, Bool.not_false, if_true, if_false, and_true, true_and, memE, celE, w64, Nat.zero_add, Nat.add_zero, Nat.mul_one, putL, and_self, ldn, tm, t2, t3, t8, t9, t15, t16, tk, hl, hlt, i1, i2, i3, i5, itV, stP_agg5, q1, bld5]
    obtain ⟨F, hF2⟩ : ∃ F, F = M ++ [⟨.own, 25, [.int .i64 x.daily, .int .i64 x.setup, .int .i64 x.hold, .int .i64 x.made, .int .i64 x.pause]⟩] := ⟨_, rfl⟩
    rw [← hF2]
    have hXF : Ext m F := by rw [hF2]; exact hX.one _ _
    have pF : OwnB F E2.length 67 [.int .i64 p.1, .int .i64 p.2] := by rw [hF2]; exact p0.ext _
    have oF : OwnB F m.length 67 [.int .i64 0, .int .i64 0] := by rw [hF2]; exact o0.ext _
    clear hF2
    refine rcallH_rc (implDaily_rc _ x (base * fs.getD k 0) hg (by omega)) ?_
    rintro r new1 ⟨rfl, nr1⟩
    simp (config := {implicitDefEqProofs := false, maxDischargeDepth := 20}) (disch := first | omega | (simp only [lenE]; done) | (simp only [lenE]; omega) | rfl | (simp only [lenE, markR_len]; done) | (simp only [lenE, markR_len]; omega)) only [runE, mapE, listE, initT_5, initT_6, initT_7, initT_8, resV, oneV, binA, unA, reduceCtorEq, Nat.reduceEqDiff, Nat.reduceAdd, Nat.reduceLT, Nat.reduceLeDiff, Nat.reduceMul, Nat.reduceSub, ↓reduceIte, decide_true, decide_false, Bool.true_eq_false, Bool.false_eq_true, Bool.not_true, Bool.not_false, if_true, if_false, and_true, true_and, memE, celE, w64, Nat.zero_add, Nat.add_zero, Nat.mul_one, putL, and_self, ldn]
    refine rcallH_rc (implPlus_rc _ p (dailyF x (base * fs.getD k 0)) n1 n2 n3 n4 hn hd) ?_
    rintro r new2 ⟨rfl, nr2⟩
    rw [← hstep]
    generalize hz : jointTo L joint base fs (k + 1) = z at *
    have q0 := (pF.ext new1).ext new2
    have r0 := (oF.ext new1).ext new2
    have hst := q0.st (off := 0) (vs := [.int .i64 z.1, .int .i64 z.2]) (by simp) rfl
    simp (config := {implicitDefEqProofs := false, maxDischargeDepth := 20}) (disch := first | omega | (simp only [lenE]; done) | (simp only [lenE]; omega) | rfl | (simp only [lenE, markR_len]; done) | (simp only [lenE, markR_len]; omega)) only [runE, mapE, listE, initT_5, initT_6, initT_7, initT_8, resV, oneV, binA, unA, reduceCtorEq, Nat.reduceEqDiff, Nat.reduceAdd, Nat.reduceLT, Nat.reduceLeDiff, Nat.reduceMul, Nat.reduceSub, ↓reduceIte, decide_true, decide_false, Bool.true_eq_false, Bool.false_eq_true, Bool.not_true, Bool.not_false, if_true, if_false, and_true, true_and, memE, celE, w64, Nat.zero_add, Nat.add_zero, Nat.mul_one, putL, and_self, ldn, tm, t2, t3, t8, t9, t15, t16, tk, frV, stP_agg2, hst]
    refine ⟨⟨k + 1, _, by omega, rfl, ((hXF.app nr1).app nr2).put (by omega) _ _, r0.set_ne (by omega) _, by rw [hz]; exact q0.set_self _ _, by simp⟩, ?_⟩
    simp [intOf]; omega
  · have hlt : ¬ ((k : Int) < L.length) := by omega
    have e : k = L.length := by omega
    subst e
    unfold jointF
    generalize jointTo L joint base fs L.length = z at *
    have hst := o0.st (off := 0) (vs := [.int .i64 z.1, .int .i64 z.2]) (by simp) rfl
    have hrd := (o0.set_self 67 [.int .i64 z.1, .int .i64 z.2]).rd
    simp (config := {implicitDefEqProofs := false, maxDischargeDepth := 20}) (disch := first | omega | (simp only [lenE]; done) | (simp only [lenE]; omega) | rfl | (simp only [lenE, markR_len]; done) | (simp only [lenE, markR_len]; omega)) only [runE, mapE, listE, initT_5, initT_6, initT_7, initT_8, resV, oneV, binA, unA, reduceCtorEq, Nat.reduceEqDiff, Nat.reduceAdd, Nat.reduceLT, Nat.reduceLeDiff, Nat.reduceMul, Nat.reduceSub, ↓reduceIte, decide_true, decide_false, Bool.true_eq_false, Bool.false_eq_true, Bool.not_true, Bool.not_false, if_true, if_false, and_true, true_and, memE, celE, w64, Nat.zero_add, Nat.add_zero, Nat.mul_one, putL, and_self, ldn, tm, t2, t3, t8, t9, t15, t16, tk, hl, hlt, p0.ld2, frV, stP_agg2, hst, hrd]
    exact ext_ansV (hX.put (Nat.le_refl _) _ _) rfl

end Go.Proofs.Ytmjnjhdacliieaa.Ab
