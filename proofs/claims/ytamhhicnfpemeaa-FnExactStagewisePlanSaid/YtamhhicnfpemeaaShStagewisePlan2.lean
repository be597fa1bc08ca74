/- What the law needs of the texts that it rests on. -/
import Derived.Test.YtamhhicnfpemeaaShStagewisePlan1
section
namespace Go.Proofs.Ytamhhicnfpemeaa.Ab
open Go Go.RowKit
set_option linter.unusedVariables false
set_option linter.unusedSimpArgs false
structure PT (N k lo lb : Nat) (W : Nat → List Int) (M : Mem) (id : Nat) (R F : Nat → Nat) : Prop where
  cells : OwnB M id 24 ((List.range N).map fun j => if j + k < N then .slice none 0 0 else .slice (some ⟨R j, 0, none⟩) (W j).length (F j))
  lid : lo ≤ id ∧ id < lb
  rows : ∀ j, N ≤ j + k → j < N → lb ≤ R j ∧ R j < M.length ∧ OwnR M (R j) (W j)
  inj : ∀ i j, N ≤ i + k → i < N → N ≤ j + k → j < N → R i = R j → i = j
theorem PT.next {N k lo lb : Nat} {W : Nat → List Int} {M M' : Mem} {id rid fl : Nat} {R F : Nat → Nat} (h : PT N k lo lb W M id R F) (hb : lb ≤ M.length) (hk : k < N) (hl : M.length ≤ M'.length) (hs : ∀ i, lb ≤ i → i < M.length → M'[i]? = M[i]?) (hr : M.length ≤ rid) (hr2 : rid < M'.length) (ho : OwnR M' rid (W (N - 1 - k)))
    (hc : OwnB M' id 24 (((List.range N).map fun j => if j + k < N then (.slice none 0 0 : Value) else .slice (some ⟨R j, 0, none⟩) (W j).length (F j)).set (N - 1 - k) (.slice (some ⟨rid, 0, none⟩) (W (N - 1 - k)).length fl))) :
    PT N (k + 1) lo lb W M' id (fun j => if j + k + 1 = N then rid else R j) (fun j => if j + k + 1 = N then fl else F j) := by
  have hid := h.cells.lt
  refine ⟨?_, h.lid, fun j h1 h2 => ?_, fun i j h1 h2 h3 h4 he => ?_⟩
  · have : ((List.range N).map fun j => if j + (k + 1) < N then (.slice none 0 0 : Value) else .slice (some ⟨if j + k + 1 = N then rid else R j, 0, none⟩) (W j).length (if j + k + 1 = N then fl else F j)) = (((List.range N).map fun j => if j + k < N then (.slice none 0 0 : Value) else .slice (some ⟨R j, 0, none⟩) (W j).length (F j)).set (N - 1 - k) (.slice (some ⟨rid, 0, none⟩) (W (N - 1 - k)).length fl)) := by
      apply List.ext_getElem?
      intro i
      by_cases hi : i < N
      · by_cases e : i = N - 1 - k
        · have e2 : i + k + 1 = N := by omega
          rw [List.getElem?_set, if_pos (by omega)]
          simp only [List.length_map, List.length_range, show N - 1 - k < N by omega, if_true]
          simp [hi, e2, show ¬ (i + (k + 1) < N) by omega]
          rw [e]
        · rw [List.getElem?_set_ne (by omega)]
          simp only [List.getElem?_map, List.getElem?_range hi, Option.map_some]
          congr 1
          by_cases e3 : i + (k + 1) < N
          · rw [if_pos e3, if_pos (by omega)]
          · rw [if_neg e3, if_neg (by omega), if_neg (by omega), if_neg (by omega)]
      · rw [List.getElem?_eq_none (by simp; omega), List.getElem?_eq_none (by simp; omega)]
    rw [this]; exact hc
  · by_cases e : j + k + 1 = N
    · simp only [e, if_true]
      have ej : j = N - 1 - k := by omega
      subst ej
      exact ⟨by omega, hr2, ho⟩
    · simp only [e, if_false]
      obtain ⟨a, b, c⟩ := h.rows j (by omega) h2
      exact ⟨a, by omega, c.at_ (hs _ a b)⟩
  · by_cases e1 : i + k + 1 = N <;> by_cases e2 : j + k + 1 = N
    · omega
    · simp only [e1, e2, if_true, if_false] at he
      have := (h.rows j (by omega) h4).2.1
      omega
    · simp only [e1, e2, if_true, if_false] at he
      have := (h.rows i (by omega) h2).2.1
      omega
    · simp only [e1, e2, if_false] at he
      exact h.inj i j (by omega) h2 (by omega) h4 he
theorem PT.full {N lo lb : Nat} {S : List (List Int)} {W : Nat → List Int} {M : Mem} {id fl : Nat} {R F : Nat → Nat} (h : PT N N lo lb W M id R F) (hl : S.length = N) (hW : ∀ j, j < N → S.getD j [] = W j) (h1 : N ≤ 1048576) (h2 : tsz S S.length ≤ 1048576) {M' : Mem} (hs : ∀ i, id ≤ i → i < M.length → M'[i]? = M[i]?) : TabO S lo M.length M' (.slice (some ⟨id, 0, none⟩) N fl) := by
  subst hl
  have hid := h.cells.lt
  have hlid := h.lid.1
  have hlb := h.lid.2
  refine ⟨h1, h2, id, fl, R, F, rfl, hlid, hid, ?_, fun j hj => ?_, fun i j hi hj => h.inj i j (by omega) hi (by omega) hj⟩
  · have : rowsC S R F = ((List.range S.length).map fun j => if j + S.length < S.length then (.slice none 0 0 : Value) else .slice (some ⟨R j, 0, none⟩) (W j).length (F j)) := by
      unfold rowsC
      apply List.map_congr_left
      intro j hj
      rw [if_neg (by omega), hW j (List.mem_range.1 hj)]
    rw [this]
    exact h.cells.at_ (hs _ (Nat.le_refl _) hid)
  · obtain ⟨a, b, c⟩ := h.rows j (by omega) hj
    rw [hW j hj]
    exact ⟨by omega, b, c.at_ (hs _ (by omega) b)⟩
end Go.Proofs.Ytamhhicnfpemeaa.Ab
end
section
namespace Go.Proofs.Ytamhhicnfpemeaa.Ab
open Go Go.RowKit
set_option linter.unusedVariables false
set_option linter.unusedSimpArgs false
theorem orderCost_rc (m : Mem) (v : Value) (k : Cs) (i j : Nat) (h : CaseA m v k) (hg : Good k) (hij : i < j) (hj : j ≤ k.need.length) :
    RC Try.prog 156 [v, .int .i64 i, .int .i64 j] m (AnsV (.int .i64 (spanF k i j))) := by
  refine rc_of_run mixed ok_impl_orderCost (by simp) (go_start _ _ _ ?_)
  obtain ⟨v1, v2, v3, v4, rfl, h1, h2, h3, h4⟩ := h.ro.ok
  have h8 := hg.n8
  have g0 := hg.ls
  have g1 := hg.lu
  have g2 := hg.lh
  obtain ⟨c1, e1, d1⟩ := (h1.ext [⟨.own, 30, [v1, v2, v3, v4]⟩]).cut (Nat.le_of_lt hij) hj
  simp (config := {implicitDefEqProofs := false, maxDischargeDepth := 20}) (disch := first | omega | (simp only [lenE]; done) | (simp only [lenE]; omega) | rfl | (simp only [lenE, markR_len]; done) | (simp only [lenE, markR_len]; omega)) only [runE, mapE, listE, initT_5, initT_6, initT_7, initT_8, resV, oneV, binA, unA, reduceCtorEq, Nat.reduceEqDiff, Nat.reduceAdd, Nat.reduceLT, Nat.reduceLeDiff, Nat.reduceMul, Nat.reduceSub, ↓reduceIte, decide_true, decide_false, Bool.true_eq_false, Bool.false_eq_true, Bool.not_true, Bool.not_false, if_true, if_false, and_true, true_and, memE, celE, w64, Nat.zero_add, Nat.add_zero, Nat.mul_one, putL, and_self, ldn, c_impl_orderCost, r_impl_orderCost, e1]
  refine callH_rc (sumOf_cut_rc _ _ k.need (b := 20) d1 (by omega) hj (by omega) (by omega) hg.need (by omega)) ?_
  rintro r new ⟨rfl, rfl⟩
  have s0 := sumR_nn (m := 20) (by omega) hg.need (i := i) (j := j) (by omega)
  have s1 := sumR_le8 (m := 20) (by omega) hg.need (i := i) (j := j) (by omega) (by omega)
  by_cases hz : sumR k.need i j = 0
  · have hz' : (sumR k.need i j == 0) = true := by simp [hz]
    simp (config := {implicitDefEqProofs := false, maxDischargeDepth := 20}) (disch := first | omega | (simp only [lenE]; done) | (simp only [lenE]; omega) | rfl | (simp only [lenE, markR_len]; done) | (simp only [lenE, markR_len]; omega)) only [runE, mapE, listE, initT_5, initT_6, initT_7, initT_8, resV, oneV, binA, unA, reduceCtorEq, Nat.reduceEqDiff, Nat.reduceAdd, Nat.reduceLT, Nat.reduceLeDiff, Nat.reduceMul, Nat.reduceSub, ↓reduceIte, decide_true, decide_false, Bool.true_eq_false, Bool.false_eq_true, Bool.not_true, Bool.not_false, if_true, if_false, and_true, true_and, memE, celE, w64, Nat.zero_add, Nat.add_zero, Nat.mul_one, putL, and_self, ldn, hz']
    exact ext_ansV ((Ext.refl m).one _ _) (by rw [spanF_zero k hz])
  · have hz' : (sumR k.need i j == 0) = false := by simp [hz]
    have u0 := getD_bound (m := 9) (by omega) hg.unit i
    have u1 := mul_bound u0.1 u0.2 s0 s1
    have u2 := getD_bound (m := 99) (by omega) hg.setup i
    have i2 := h2.ext [⟨.own, 30, [v1, v2, v3, v4]⟩]
    have i3 := h3.ext [⟨.own, 30, [v1, v2, v3, v4]⟩]
    have i1 := h1.ext [⟨.own, 30, [v1, v2, v3, v4]⟩]
    have i4 := h4.ext [⟨.own, 30, [v1, v2, v3, v4]⟩]
    have so := spanF_order k (Nat.le_of_lt hij) (by omega : 0 < sumR k.need i j)
    simp (config := {implicitDefEqProofs := false, maxDischargeDepth := 20}) (disch := first | omega | (simp only [lenE]; done) | (simp only [lenE]; omega) | rfl | (simp only [lenE, markR_len]; done) | (simp only [lenE, markR_len]; omega)) only [runE, mapE, listE, initT_5, initT_6, initT_7, initT_8, resV, oneV, binA, unA, reduceCtorEq, Nat.reduceEqDiff, Nat.reduceAdd, Nat.reduceLT, Nat.reduceLeDiff, Nat.reduceMul, Nat.reduceSub, ↓reduceIte, decide_true, decide_false, Bool.true_eq_false, Bool.false_eq_true, Bool.not_true, Bool.not_false, if_true, if_false, and_true, true_and, memE, celE, w64, Nat.zero_add, Nat.add_zero, Nat.mul_one, putL, and_self, ldn, hz', i2.at_ i (by omega), i2.ld i (by omega), i3.at_ i (by omega), i3.ld i (by omega)]
    refine loop_inv mixed (fun s => ∃ x : Nat, i ≤ x ∧ x ≤ j ∧ s.t 2 = .int .i64 j ∧ s.t 3 = .pointer (some ⟨m.length, 0, none⟩) ∧ s.t 7 = .int .i64 (sumR k.need x j) ∧ s.t 8 = .int .i64 (k.setup.getD i 0 + k.unit.getD i 0 * sumR k.need i j + holdS k i j x) ∧ s.t 9 = .int .i64 x ∧ s.m = roM m ++ [⟨.own, 30, [v1, v2, v3, v4]⟩]) (fun s => j - (intOf (s.t 9)).toNat)
      ⟨i, Nat.le_refl _, by omega, rfl, rfl, rfl, by rw [holdS_self, Int.add_zero]; rfl, rfl, rfl⟩ ?_
    rintro s ⟨x, hix, hxj, t2, t3, t7, t8, t9, tm⟩
    by_cases hlt : x < j
    · have hlt' : (x : Int) < j := by omega
      have w0 := sumR_h k.need x j
      have w1 := sumR_nn (m := 20) (by omega) hg.need (i := x + 1) (j := j) (by omega)
      have w2 := sumR_le8 (m := 20) (by omega) hg.need (i := x + 1) (j := j) (by omega) (by omega)
      have w3 := getD_bound (m := 9) (by omega) hg.hold x
      have w4 := mul_bound w3.1 w3.2 w1 w2
      have w5 := getD_bound (m := 20) (by omega) hg.need x
      have w6 := holdS_in' hg hix hxj (by omega)
      have w7 : sumR k.need x j - k.need.getD x 0 = sumR k.need (x + 1) j := by omega
      have w8 := holdS_s k (j := j) hix
      simp (config := {implicitDefEqProofs := false, maxDischargeDepth := 20}) (disch := first | omega | (simp only [lenE]; done) | (simp only [lenE]; omega) | rfl | (simp only [lenE, markR_len]; done) | (simp only [lenE, markR_len]; omega)) only [runE, mapE, listE, initT_5, initT_6, initT_7, initT_8, resV, oneV, binA, unA, reduceCtorEq, Nat.reduceEqDiff, Nat.reduceAdd, Nat.reduceLT, Nat.reduceLeDiff, Nat.reduceMul, Nat.reduceSub, ↓reduceIte, decide_true, decide_false, Bool.true_eq_false, Bool.false_eq_true, Bool.not_true, Bool.not_false, if_true, if_false, and_true, true_and, memE, celE, w64, Nat.zero_add, Nat.add_zero, Nat.mul_one, putL, and_self, ldn, t2, t3, t7, t8, t9, tm, hlt', i1.at_ x (by omega), i1.ld x (by omega), i4.at_ x (by omega), i4.ld x (by omega), w7]
      exact ⟨⟨x + 1, by omega, by omega, rfl, by rw [w8]; congr 1; omega, by simp⟩, by simp [intOf]; omega⟩
    · have hlt' : ¬ ((x : Int) < j) := by omega
      have e : x = j := by omega
      subst e
      simp (config := {implicitDefEqProofs := false, maxDischargeDepth := 20}) (disch := first | omega | (simp only [lenE]; done) | (simp only [lenE]; omega) | rfl | (simp only [lenE, markR_len]; done) | (simp only [lenE, markR_len]; omega)) only [runE, mapE, listE, initT_5, initT_6, initT_7, initT_8, resV, oneV, binA, unA, reduceCtorEq, Nat.reduceEqDiff, Nat.reduceAdd, Nat.reduceLT, Nat.reduceLeDiff, Nat.reduceMul, Nat.reduceSub, ↓reduceIte, decide_true, decide_false, Bool.true_eq_false, Bool.false_eq_true, Bool.not_true, Bool.not_false, if_true, if_false, and_true, true_and, memE, celE, w64, Nat.zero_add, Nat.add_zero, Nat.mul_one, putL, and_self, ldn, t2, t3, t7, t8, t9, tm, hlt']
      exact ext_ansV ((Ext.refl m).one _ _) (by rw [so])

end Go.Proofs.Ytamhhicnfpemeaa.Ab
end
section
namespace Go.Proofs.Ytamhhicnfpemeaa.Ab
open Go Go.RowKit
set_option linter.unusedVariables false
set_option linter.unusedSimpArgs false
theorem isNaN_rc (m : Mem) (x : Int) : RC Try.prog 157 [.int .i64 x] m fun r new => r = .bool false ∧ new = [] := by
  refine rc_of_run mixed ok_cmp_isNaN (by simp) (go_start _ _ _ ?_)
  simp (config := {implicitDefEqProofs := false, maxDischargeDepth := 20}) (disch := first | omega | (simp only [lenE]; done) | (simp only [lenE]; omega) | rfl | (simp only [lenE, markR_len]; done) | (simp only [lenE, markR_len]; omega)) only [runE, mapE, listE, initT_5, initT_6, initT_7, initT_8, resV, oneV, binA, unA, reduceCtorEq, Nat.reduceEqDiff, Nat.reduceAdd, Nat.reduceLT, Nat.reduceLeDiff, Nat.reduceMul, Nat.reduceSub, ↓reduceIte, decide_true, decide_false, Bool.true_eq_false, Bool.false_eq_true, Bool.not_true, Bool.not_false, if_true, if_false, and_true, true_and, memE, celE, w64, Nat.zero_add, Nat.add_zero, Nat.mul_one, putL, and_self, ldn, c_cmp_isNaN, r_cmp_isNaN, bne_self_eq_false]
  exact newQ_nil ⟨rfl, rfl⟩
def cmpI (a b : Int) : Int := if a < b then -1 else if b < a then 1 else 0
theorem cmpI_rc (m : Mem) (a b : Int) : RC Try.prog 150 [.int .i64 a, .int .i64 b] m fun r new => r = .int .i64 (cmpI a b) ∧ new = [] := by
  refine rc_of_run mixed ok_cmp_Compare (by simp) (go_start _ _ _ ?_)
  simp (config := {implicitDefEqProofs := false, maxDischargeDepth := 20}) (disch := first | omega | (simp only [lenE]; done) | (simp only [lenE]; omega) | rfl | (simp only [lenE, markR_len]; done) | (simp only [lenE, markR_len]; omega)) only [runE, mapE, listE, initT_5, initT_6, initT_7, initT_8, resV, oneV, binA, unA, reduceCtorEq, Nat.reduceEqDiff, Nat.reduceAdd, Nat.reduceLT, Nat.reduceLeDiff, Nat.reduceMul, Nat.reduceSub, ↓reduceIte, decide_true, decide_false, Bool.true_eq_false, Bool.false_eq_true, Bool.not_true, Bool.not_false, if_true, if_false, and_true, true_and, memE, celE, w64, Nat.zero_add, Nat.add_zero, Nat.mul_one, putL, and_self, ldn, c_cmp_Compare, r_cmp_Compare]
  refine callH_rc (isNaN_rc _ a) ?_
  rintro r new ⟨rfl, rfl⟩
  simp (config := {implicitDefEqProofs := false, maxDischargeDepth := 20}) (disch := first | omega | (simp only [lenE]; done) | (simp only [lenE]; omega) | rfl | (simp only [lenE, markR_len]; done) | (simp only [lenE, markR_len]; omega)) only [runE, mapE, listE, initT_5, initT_6, initT_7, initT_8, resV, oneV, binA, unA, reduceCtorEq, Nat.reduceEqDiff, Nat.reduceAdd, Nat.reduceLT, Nat.reduceLeDiff, Nat.reduceMul, Nat.reduceSub, ↓reduceIte, decide_true, decide_false, Bool.true_eq_false, Bool.false_eq_true, Bool.not_true, Bool.not_false, if_true, if_false, and_true, true_and, memE, celE, w64, Nat.zero_add, Nat.add_zero, Nat.mul_one, putL, and_self, ldn]
  refine callH_rc (isNaN_rc _ b) ?_
  rintro r new ⟨rfl, rfl⟩
  unfold cmpI
  by_cases h1 : a < b
  · simp (config := {implicitDefEqProofs := false, maxDischargeDepth := 20}) (disch := first | omega | (simp only [lenE]; done) | (simp only [lenE]; omega) | rfl | (simp only [lenE, markR_len]; done) | (simp only [lenE, markR_len]; omega)) only [runE, mapE, listE, initT_5, initT_6, initT_7, initT_8, resV, oneV, binA, unA, reduceCtorEq, Nat.reduceEqDiff, Nat.reduceAdd, Nat.reduceLT, Nat.reduceLeDiff, Nat.reduceMul, Nat.reduceSub, ↓reduceIte, decide_true, decide_false, Bool.true_eq_false, Bool.false_eq_true, Bool.not_true, Bool.not_false, if_true, if_false, and_true, true_and, memE, celE, w64, Nat.zero_add, Nat.add_zero, Nat.mul_one, putL, and_self, ldn, h1]
    exact newQ_nil ⟨rfl, rfl⟩
  · by_cases h2 : b < a
    · simp (config := {implicitDefEqProofs := false, maxDischargeDepth := 20}) (disch := first | omega | (simp only [lenE]; done) | (simp only [lenE]; omega) | rfl | (simp only [lenE, markR_len]; done) | (simp only [lenE, markR_len]; omega)) only [runE, mapE, listE, initT_5, initT_6, initT_7, initT_8, resV, oneV, binA, unA, reduceCtorEq, Nat.reduceEqDiff, Nat.reduceAdd, Nat.reduceLT, Nat.reduceLeDiff, Nat.reduceMul, Nat.reduceSub, ↓reduceIte, decide_true, decide_false, Bool.true_eq_false, Bool.false_eq_true, Bool.not_true, Bool.not_false, if_true, if_false, and_true, true_and, memE, celE, w64, Nat.zero_add, Nat.add_zero, Nat.mul_one, putL, and_self, ldn, h1, gt_iff_lt, h2]
      exact newQ_nil ⟨rfl, rfl⟩
    · simp (config := {implicitDefEqProofs := false, maxDischargeDepth := 20}) (disch := first | omega | (simp only [lenE]; done) | (simp only [lenE]; omega) | rfl | (simp only [lenE, markR_len]; done) | (simp only [lenE, markR_len]; omega)) only [runE, mapE, listE, initT_5, initT_6, initT_7, initT_8, resV, oneV, binA, unA, reduceCtorEq, Nat.reduceEqDiff, Nat.reduceAdd, Nat.reduceLT, Nat.reduceLeDiff, Nat.reduceMul, Nat.reduceSub, ↓reduceIte, decide_true, decide_false, Bool.true_eq_false, Bool.false_eq_true, Bool.not_true, Bool.not_false, if_true, if_false, and_true, true_and, memE, celE, w64, Nat.zero_add, Nat.add_zero, Nat.mul_one, putL, and_self, ldn, h1, gt_iff_lt, h2]
      exact newQ_nil ⟨rfl, rfl⟩
def cmpL : List Int → List Int → Int
  | [], [] => 0
  | [], _ :: _ => -1
  | _ :: _, [] => 1
  | x :: a, y :: b => if cmpI x y = 0 then cmpL a b else cmpI x y
theorem cmpL_drop {a b : List Int} {i : Nat} (ha : i < a.length) (hb : i < b.length) : cmpL (a.drop i) (b.drop i) = if cmpI (a.getD i 0) (b.getD i 0) = 0 then cmpL (a.drop (i + 1)) (b.drop (i + 1)) else cmpI (a.getD i 0) (b.getD i 0) := by
  rw [List.drop_eq_getElem_cons ha, List.drop_eq_getElem_cons hb, cmpL]
  simp [List.getD_eq_getElem?_getD, ha, hb]
theorem slCompare_rc (m : Mem) (v u : Value) (a b : List Int) (h : IntsA m v a) (h' : IntsA m u b) :
    RC Try.prog 154 [v, u] m (AnsV (.int .i64 (cmpL a b))) := by
  refine rc_of_run mixed ok_slices_Compare (by simp) (go_start _ _ _ ?_)
  have hv := h.ro
  have hu := h'.ro
  have hbd := hv.bd
  simp (config := {implicitDefEqProofs := false, maxDischargeDepth := 20}) (disch := first | omega | (simp only [lenE]; done) | (simp only [lenE]; omega) | rfl | (simp only [lenE, markR_len]; done) | (simp only [lenE, markR_len]; omega)) only [runE, mapE, listE, initT_5, initT_6, initT_7, initT_8, resV, oneV, binA, unA, reduceCtorEq, Nat.reduceEqDiff, Nat.reduceAdd, Nat.reduceLT, Nat.reduceLeDiff, Nat.reduceMul, Nat.reduceSub, ↓reduceIte, decide_true, decide_false, Bool.true_eq_false, Bool.false_eq_true, Bool.not_true, Bool.not_false, if_true, if_false, and_true, true_and, memE, celE, w64, Nat.zero_add, Nat.add_zero, Nat.mul_one, putL, and_self, ldn, c_slices_Compare, r_slices_Compare, hv.len]
  refine loop_inv mixed (fun s => ∃ i : Nat, i ≤ a.length ∧ i ≤ b.length ∧ cmpL a b = cmpL (a.drop i) (b.drop i) ∧ s.t 0 = v ∧ s.t 1 = u ∧ s.t 9 = v ∧ s.t 10 = .int .i64 a.length ∧ s.t 11 = .int .i64 i ∧ s.m = roM m) (fun s => a.length - (intOf (s.t 11)).toNat)
    ⟨0, by omega, by omega, rfl, rfl, rfl, rfl, rfl, rfl, rfl⟩ ?_
  rintro s ⟨i, hk, hk2, he, t0, t1, t9, t10, t11, tm⟩
  by_cases hlt : i < a.length
  · have hlt' : (i : Int) < a.length := by omega
    by_cases hlb : i < b.length
    · have hlb' : ¬ ((b.length : Int) ≤ i) := by omega
      rw [cmpL_drop hlt hlb] at he
      simp (config := {implicitDefEqProofs := false, maxDischargeDepth := 20}) (disch := first | omega | (simp only [lenE]; done) | (simp only [lenE]; omega) | rfl | (simp only [lenE, markR_len]; done) | (simp only [lenE, markR_len]; omega)) only [runE, mapE, listE, initT_5, initT_6, initT_7, initT_8, resV, oneV, binA, unA, reduceCtorEq, Nat.reduceEqDiff, Nat.reduceAdd, Nat.reduceLT, Nat.reduceLeDiff, Nat.reduceMul, Nat.reduceSub, ↓reduceIte, decide_true, decide_false, Bool.true_eq_false, Bool.false_eq_true, Bool.not_true, Bool.not_false, if_true, if_false, and_true, true_and, memE, celE, w64, Nat.zero_add, Nat.add_zero, Nat.mul_one, putL, and_self, ldn, t0, t1, t9, t10, t11, tm, hlt', hv.at_ i hlt, hv.ld i hlt, hu.len, ge_iff_le, hlb', hu.at_ i hlb, hu.ld i hlb]
      refine callH_rc (cmpI_rc _ (a.getD i 0) (b.getD i 0)) ?_
      rintro r new ⟨rfl, rfl⟩
      by_cases hq : cmpI (a.getD i 0) (b.getD i 0) = 0
      · have hq' : (cmpI (a.getD i 0) (b.getD i 0) != 0) = false := by rw [hq]; rfl
        rw [if_pos hq] at he
        simp (config := {implicitDefEqProofs := false, maxDischargeDepth := 20}) (disch := first | omega | (simp only [lenE]; done) | (simp only [lenE]; omega) | rfl | (simp only [lenE, markR_len]; done) | (simp only [lenE, markR_len]; omega)) only [runE, mapE, listE, initT_5, initT_6, initT_7, initT_8, resV, oneV, binA, unA, reduceCtorEq, Nat.reduceEqDiff, Nat.reduceAdd, Nat.reduceLT, Nat.reduceLeDiff, Nat.reduceMul, Nat.reduceSub, ↓reduceIte, decide_true, decide_false, Bool.true_eq_false, Bool.false_eq_true, Bool.not_true, Bool.not_false, if_true, if_false, and_true, true_and, memE, celE, w64, Nat.zero_add, Nat.add_zero, Nat.mul_one, putL, and_self, ldn, t0, t1, t9, t10, t11, tm, hq']
        exact ⟨⟨i + 1, by omega, by omega, he, by simp⟩, by simp [intOf]; omega⟩
      · have hq' : (cmpI (a.getD i 0) (b.getD i 0) != 0) = true := by simpa using hq
        rw [if_neg hq] at he
        simp (config := {implicitDefEqProofs := false, maxDischargeDepth := 20}) (disch := first | omega | (simp only [lenE]; done) | (simp only [lenE]; omega) | rfl | (simp only [lenE, markR_len]; done) | (simp only [lenE, markR_len]; omega)) only [runE, mapE, listE, initT_5, initT_6, initT_7, initT_8, resV, oneV, binA, unA, reduceCtorEq, Nat.reduceEqDiff, Nat.reduceAdd, Nat.reduceLT, Nat.reduceLeDiff, Nat.reduceMul, Nat.reduceSub, ↓reduceIte, decide_true, decide_false, Bool.true_eq_false, Bool.false_eq_true, Bool.not_true, Bool.not_false, if_true, if_false, and_true, true_and, memE, celE, w64, Nat.zero_add, Nat.add_zero, Nat.mul_one, putL, and_self, ldn, t0, t1, t9, t10, t11, tm, hq']
        rw [he]
        exact ext_ansV (Ext.refl m) rfl
    · have hlb' : (b.length : Int) ≤ i := by omega
      have e : cmpL (a.drop i) (b.drop i) = 1 := by
        rw [show b.drop i = [] from List.drop_eq_nil_of_le (by omega), List.drop_eq_getElem_cons hlt]; rfl
      simp (config := {implicitDefEqProofs := false, maxDischargeDepth := 20}) (disch := first | omega | (simp only [lenE]; done) | (simp only [lenE]; omega) | rfl | (simp only [lenE, markR_len]; done) | (simp only [lenE, markR_len]; omega)) only [runE, mapE, listE, initT_5, initT_6, initT_7, initT_8, resV, oneV, binA, unA, reduceCtorEq, Nat.reduceEqDiff, Nat.reduceAdd, Nat.reduceLT, Nat.reduceLeDiff, Nat.reduceMul, Nat.reduceSub, ↓reduceIte, decide_true, decide_false, Bool.true_eq_false, Bool.false_eq_true, Bool.not_true, Bool.not_false, if_true, if_false, and_true, true_and, memE, celE, w64, Nat.zero_add, Nat.add_zero, Nat.mul_one, putL, and_self, ldn, t0, t1, t9, t10, t11, tm, hlt', hv.at_ i hlt, hv.ld i hlt, hu.len, ge_iff_le, hlb']
      rw [he, e]
      exact ext_ansV (Ext.refl m) rfl
  · have hlt' : ¬ ((i : Int) < a.length) := by omega
    have e : i = a.length := by omega
    by_cases hlb : a.length < b.length
    · have hlb' : (a.length : Int) < b.length := by omega
      have e2 : cmpL (a.drop i) (b.drop i) = -1 := by
        rw [e, List.drop_length, List.drop_eq_getElem_cons hlb]; rfl
      simp (config := {implicitDefEqProofs := false, maxDischargeDepth := 20}) (disch := first | omega | (simp only [lenE]; done) | (simp only [lenE]; omega) | rfl | (simp only [lenE, markR_len]; done) | (simp only [lenE, markR_len]; omega)) only [runE, mapE, listE, initT_5, initT_6, initT_7, initT_8, resV, oneV, binA, unA, reduceCtorEq, Nat.reduceEqDiff, Nat.reduceAdd, Nat.reduceLT, Nat.reduceLeDiff, Nat.reduceMul, Nat.reduceSub, ↓reduceIte, decide_true, decide_false, Bool.true_eq_false, Bool.false_eq_true, Bool.not_true, Bool.not_false, if_true, if_false, and_true, true_and, memE, celE, w64, Nat.zero_add, Nat.add_zero, Nat.mul_one, putL, and_self, ldn, t0, t1, t9, t10, t11, tm, hlt', hv.len, hu.len, hlb']
      rw [he, e2]
      exact ext_ansV (Ext.refl m) rfl
    · have hlb' : ¬ ((a.length : Int) < b.length) := by omega
      have e2 : cmpL (a.drop i) (b.drop i) = 0 := by
        rw [e, List.drop_length, show b.drop a.length = [] from List.drop_eq_nil_of_le (by omega)]; rfl
      simp (config := {implicitDefEqProofs := false, maxDischargeDepth := 20}) (disch := first | omega | (simp only [lenE]; done) | (simp only [lenE]; omega) | rfl | (simp only [lenE, markR_len]; done) | (simp only [lenE, markR_len]; omega)) only [runE, mapE, listE, initT_5, initT_6, initT_7, initT_8, resV, oneV, binA, unA, reduceCtorEq, Nat.reduceEqDiff, Nat.reduceAdd, Nat.reduceLT, Nat.reduceLeDiff, Nat.reduceMul, Nat.reduceSub, ↓reduceIte, decide_true, decide_false, Bool.true_eq_false, Bool.false_eq_true, Bool.not_true, Bool.not_false, if_true, if_false, and_true, true_and, memE, celE, w64, Nat.zero_add, Nat.add_zero, Nat.mul_one, putL, and_self, ldn, t0, t1, t9, t10, t11, tm, hlt', hv.len, hu.len, hlb']
      rw [he, e2]
      exact ext_ansV (Ext.refl m) rfl
def orL : List Int → Int
  | [] => 0
  | x :: l => if x = 0 then orL l else x
theorem orL_drop {a : List Int} {i : Nat} (ha : i < a.length) : orL (a.drop i) = if a.getD i 0 = 0 then orL (a.drop (i + 1)) else a.getD i 0 := by
  rw [List.drop_eq_getElem_cons ha, orL]
  simp [List.getD_eq_getElem?_getD, ha]
theorem cmpOr_rc (m : Mem) (v : Value) (a : List Int) (h : IntsA m v a) : RC Try.prog 149 [v] m (AnsV (.int .i64 (orL a))) := by
  refine rc_of_run mixed ok_cmp_Or (by simp) (go_start _ _ _ ?_)
  have hv := h.ro
  have hbd := hv.bd
  simp (config := {implicitDefEqProofs := false, maxDischargeDepth := 20}) (disch := first | omega | (simp only [lenE]; done) | (simp only [lenE]; omega) | rfl | (simp only [lenE, markR_len]; done) | (simp only [lenE, markR_len]; omega)) only [runE, mapE, listE, initT_5, initT_6, initT_7, initT_8, resV, oneV, binA, unA, reduceCtorEq, Nat.reduceEqDiff, Nat.reduceAdd, Nat.reduceLT, Nat.reduceLeDiff, Nat.reduceMul, Nat.reduceSub, ↓reduceIte, decide_true, decide_false, Bool.true_eq_false, Bool.false_eq_true, Bool.not_true, Bool.not_false, if_true, if_false, and_true, true_and, memE, celE, w64, Nat.zero_add, Nat.add_zero, Nat.mul_one, putL, and_self, ldn, c_cmp_Or, r_cmp_Or, hv.len]
  refine loop_inv mixed (fun s => ∃ i : Nat, i ≤ a.length ∧ orL a = orL (a.drop i) ∧ s.t 3 = .int .i64 0 ∧ s.t 6 = v ∧ s.t 7 = .int .i64 a.length ∧ s.t 8 = .int .i64 i ∧ s.m = roM m) (fun s => a.length - (intOf (s.t 8)).toNat)
    ⟨0, by omega, rfl, rfl, rfl, rfl, rfl, rfl⟩ ?_
  rintro s ⟨i, hk, he, t3, t6, t7, t8, tm⟩
  by_cases hlt : i < a.length
  · have hlt' : (i : Int) < a.length := by omega
    rw [orL_drop hlt] at he
    by_cases hq : a.getD i 0 = 0
    · have hq' : (a.getD i 0 != 0) = false := by rw [hq]; rfl
      rw [if_pos hq] at he
      simp (config := {implicitDefEqProofs := false, maxDischargeDepth := 20}) (disch := first | omega | (simp only [lenE]; done) | (simp only [lenE]; omega) | rfl | (simp only [lenE, markR_len]; done) | (simp only [lenE, markR_len]; omega)) only [runE, mapE, listE, initT_5, initT_6, initT_7, initT_8, resV, oneV, binA, unA, reduceCtorEq, Nat.reduceEqDiff, Nat.reduceAdd, Nat.reduceLT, Nat.reduceLeDiff, Nat.reduceMul, Nat.reduceSub, ↓reduceIte, decide_true, decide_false, Bool.true_eq_false, Bool.false_eq_true, Bool.not_true, Bool.not_false, if_true, if_false, and_true, true_and, memE, celE, w64, Nat.zero_add, Nat.add_zero, Nat.mul_one, putL, and_self, ldn, t3, t6, t7, t8, tm, hlt', hv.at_ i hlt, hv.ld i hlt, hq']
      exact ⟨⟨i + 1, by omega, he, by simp⟩, by simp [intOf]; omega⟩
    · have hq' : (a.getD i 0 != 0) = true := by simpa using hq
      rw [if_neg hq] at he
      simp (config := {implicitDefEqProofs := false, maxDischargeDepth := 20}) (disch := first | omega | (simp only [lenE]; done) | (simp only [lenE]; omega) | rfl | (simp only [lenE, markR_len]; done) | (simp only [lenE, markR_len]; omega)) only [runE, mapE, listE, initT_5, initT_6, initT_7, initT_8, resV, oneV, binA, unA, reduceCtorEq, Nat.reduceEqDiff, Nat.reduceAdd, Nat.reduceLT, Nat.reduceLeDiff, Nat.reduceMul, Nat.reduceSub, ↓reduceIte, decide_true, decide_false, Bool.true_eq_false, Bool.false_eq_true, Bool.not_true, Bool.not_false, if_true, if_false, and_true, true_and, memE, celE, w64, Nat.zero_add, Nat.add_zero, Nat.mul_one, putL, and_self, ldn, t3, t6, t7, t8, tm, hlt', hv.at_ i hlt, hv.ld i hlt, hq']
      rw [he]
      exact ext_ansV (Ext.refl m) rfl
  · have hlt' : ¬ ((i : Int) < a.length) := by omega
    have e : i = a.length := by omega
    rw [e, List.drop_length] at he
    simp (config := {implicitDefEqProofs := false, maxDischargeDepth := 20}) (disch := first | omega | (simp only [lenE]; done) | (simp only [lenE]; omega) | rfl | (simp only [lenE, markR_len]; done) | (simp only [lenE, markR_len]; omega)) only [runE, mapE, listE, initT_5, initT_6, initT_7, initT_8, resV, oneV, binA, unA, reduceCtorEq, Nat.reduceEqDiff, Nat.reduceAdd, Nat.reduceLT, Nat.reduceLeDiff, Nat.reduceMul, Nat.reduceSub, ↓reduceIte, decide_true, decide_false, Bool.true_eq_false, Bool.false_eq_true, Bool.not_true, Bool.not_false, if_true, if_false, and_true, true_and, memE, celE, w64, Nat.zero_add, Nat.add_zero, Nat.mul_one, putL, and_self, ldn, t3, t6, t7, t8, tm, hlt']
    rw [he]
    exact ext_ansV (Ext.refl m) rfl
theorem cmpL_lex : ∀ {a b : List Int}, a.length = b.length → decide (cmpL a b < 0) = lexB a b := by
  intro a
  induction a with
  | nil => intro b h; cases b with
    | nil => rfl
    | cons y b => simp at h
  | cons x a ih =>
    intro b h
    cases b with
    | nil => simp at h
    | cons y b =>
      rw [cmpL, lexB]
      unfold cmpI
      by_cases e : x = y
      · subst e
        simp only [Int.lt_irrefl, if_false, if_true]
        exact ih (by simpa using h)
      · rw [if_neg e]
        by_cases h1 : x < y
        · simp [h1]
        · have h2 : y < x := by omega
          simp [h1, h2]
theorem or_bef (c1 c2 : Int) (l1 l2 : List Int) : decide (orL [cmpI c1 c2, cmpI l1.length l2.length, cmpL l1 l2] < 0) = bef (c1, l1) (c2, l2) := by
  unfold bef beforeB
  simp only [orL]
  unfold cmpI
  by_cases e : c1 = c2
  · subst e
    simp only [Int.lt_irrefl, if_false, if_true]
    by_cases e2 : l1.length = l2.length
    · rw [if_pos e2, ← cmpL_lex e2, e2]
      simp only [Int.lt_irrefl, if_false, if_true]
      by_cases h0 : cmpL l1 l2 = 0
      · rw [h0]; simp
      · rw [if_neg h0]
    · rw [if_neg e2]
      by_cases h1 : l1.length < l2.length
      · have h1' : (l1.length : Int) < l2.length := by omega
        simp [h1]
      · have h2 : l2.length < l1.length := by omega
        simp [h1, h2]
  · rw [if_neg e]
    by_cases h1 : c1 < c2
    · simp [h1]
    · have h2 : c2 < c1 := by omega
      simp [h1, h2]
theorem comesBefore_rc (m : Mem) (c1 c2 : Int) (v u : Value) (a b : List Int) (h : IntsA m v a) (h' : IntsA m u b) :
    RC Try.prog 127 [.agg #[.int .i64 c1, v], .agg #[.int .i64 c2, u]] m (AnsV (.bool (bef (c1, a) (c2, b)))) := by
  refine rc_of_run mixed ok_impl_comesBefore (by simp) (go_start _ _ _ ?_)
  have hv := h.ro
  have hu := h'.ro
  have l1 := hv.len
  have l2 := hu.len
  simp (config := {implicitDefEqProofs := false, maxDischargeDepth := 20}) (disch := first | omega | (simp only [lenE]; done) | (simp only [lenE]; omega) | rfl | (simp only [lenE, markR_len]; done) | (simp only [lenE, markR_len]; omega)) only [runE, mapE, listE, initT_5, initT_6, initT_7, initT_8, resV, oneV, binA, unA, reduceCtorEq, Nat.reduceEqDiff, Nat.reduceAdd, Nat.reduceLT, Nat.reduceLeDiff, Nat.reduceMul, Nat.reduceSub, ↓reduceIte, decide_true, decide_false, Bool.true_eq_false, Bool.false_eq_true, Bool.not_true, Bool.not_false, if_true, if_false, and_true, true_and, memE, celE, w64, Nat.zero_add, Nat.add_zero, Nat.mul_one, putL, and_self, ldn, c_impl_comesBefore, r_impl_comesBefore, l1, l2]
  refine rcallH_rc (cmpI_rc _ c1 c2) ?_
  rintro r new ⟨rfl, rfl⟩
  simp (config := {implicitDefEqProofs := false, maxDischargeDepth := 20}) (disch := first | omega | (simp only [lenE]; done) | (simp only [lenE]; omega) | rfl | (simp only [lenE, markR_len]; done) | (simp only [lenE, markR_len]; omega)) only [runE, mapE, listE, initT_5, initT_6, initT_7, initT_8, resV, oneV, binA, unA, reduceCtorEq, Nat.reduceEqDiff, Nat.reduceAdd, Nat.reduceLT, Nat.reduceLeDiff, Nat.reduceMul, Nat.reduceSub, ↓reduceIte, decide_true, decide_false, Bool.true_eq_false, Bool.false_eq_true, Bool.not_true, Bool.not_false, if_true, if_false, and_true, true_and, memE, celE, w64, Nat.zero_add, Nat.add_zero, Nat.mul_one, putL, and_self, ldn]
  refine rcallH_rc (cmpI_rc _ (a.length : Int) (b.length : Int)) ?_
  rintro r new ⟨rfl, rfl⟩
  simp (config := {implicitDefEqProofs := false, maxDischargeDepth := 20}) (disch := first | omega | (simp only [lenE]; done) | (simp only [lenE]; omega) | rfl | (simp only [lenE, markR_len]; done) | (simp only [lenE, markR_len]; omega)) only [runE, mapE, listE, initT_5, initT_6, initT_7, initT_8, resV, oneV, binA, unA, reduceCtorEq, Nat.reduceEqDiff, Nat.reduceAdd, Nat.reduceLT, Nat.reduceLeDiff, Nat.reduceMul, Nat.reduceSub, ↓reduceIte, decide_true, decide_false, Bool.true_eq_false, Bool.false_eq_true, Bool.not_true, Bool.not_false, if_true, if_false, and_true, true_and, memE, celE, w64, Nat.zero_add, Nat.add_zero, Nat.mul_one, putL, and_self, ldn]
  refine rcallH_rc (slCompare_rc _ v u a b ((hv.ext _).ext _) ((hu.ext _).ext _)) ?_
  rintro r new ⟨rfl, nr⟩
  have b3 : ∀ (M : Mem) (x y z : Int), bslA M 3 1 3 [.int .i64 0, .int .i64 0, .int .i64 0] [(0, 1, .int .i64 x), (1, 1, .int .i64 y), (2, 1, .int .i64 z)] = some (.slice (some ⟨M.length, 0, none⟩) 3 1, M ++ [⟨.own, 3, [x, y, z].map (Value.int .i64)⟩]) := fun M x y z => rfl
  simp (config := {implicitDefEqProofs := false, maxDischargeDepth := 20}) (disch := first | omega | (simp only [lenE]; done) | (simp only [lenE]; omega) | rfl | (simp only [lenE, markR_len]; done) | (simp only [lenE, markR_len]; omega)) only [runE, mapE, listE, initT_5, initT_6, initT_7, initT_8, resV, oneV, binA, unA, reduceCtorEq, Nat.reduceEqDiff, Nat.reduceAdd, Nat.reduceLT, Nat.reduceLeDiff, Nat.reduceMul, Nat.reduceSub, ↓reduceIte, decide_true, decide_false, Bool.true_eq_false, Bool.false_eq_true, Bool.not_true, Bool.not_false, if_true, if_false, and_true, true_and, memE, celE, w64, Nat.zero_add, Nat.add_zero, Nat.mul_one, putL, and_self, ldn, b3]
  have o3 := fun M : Mem => OwnR.at_end M [cmpI c1 c2, cmpI (a.length : Int) (b.length : Int), cmpL a b]
  refine rcallH_rc (cmpOr_rc _ _ [cmpI c1 c2, cmpI (a.length : Int) (b.length : Int), cmpL a b] ((OwnR.end' (l := [cmpI c1 c2, cmpI (a.length : Int) (b.length : Int), cmpL a b]) (by simp [roM_len]; omega)).ints (by simp) 1)) ?_
  rintro r new2 ⟨rfl, nr2⟩
  simp (config := {implicitDefEqProofs := false, maxDischargeDepth := 20}) (disch := first | omega | (simp only [lenE]; done) | (simp only [lenE]; omega) | rfl | (simp only [lenE, markR_len]; done) | (simp only [lenE, markR_len]; omega)) only [runE, mapE, listE, initT_5, initT_6, initT_7, initT_8, resV, oneV, binA, unA, reduceCtorEq, Nat.reduceEqDiff, Nat.reduceAdd, Nat.reduceLT, Nat.reduceLeDiff, Nat.reduceMul, Nat.reduceSub, ↓reduceIte, decide_true, decide_false, Bool.true_eq_false, Bool.false_eq_true, Bool.not_true, Bool.not_false, if_true, if_false, and_true, true_and, memE, celE, w64, Nat.zero_add, Nat.add_zero, Nat.mul_one, putL, and_self, ldn]
  rw [or_bef]
  exact ext_ansV ((((((Ext.refl m).one _ _).one _ _).app nr).one _ _).app nr2) rfl
end Go.Proofs.Ytamhhicnfpemeaa.Ab
end
section
namespace Go.Proofs.Ytamhhicnfpemeaa.Ab
open Go Go.RowKit
set_option linter.unusedVariables false
set_option linter.unusedSimpArgs false
structure Gw (mid : Nat) (m m' : Mem) : Prop where
  len : m.length ≤ m'.length
  old : ∀ id, id < m.length → id ≠ mid → m'[id]? = m[id]?
  new : ∀ id b, m.length ≤ id → m'[id]? = some b → b.kd ≠ .ro
  at_ : ∀ b, m'[mid]? = some b → b.kd ≠ .ro
theorem Gw.refl {mid : Nat} {m : Mem} (h : ∀ b, m[mid]? = some b → b.kd ≠ .ro) : Gw mid m m :=
  ⟨Nat.le_refl _, fun _ _ _ => rfl, fun id b h1 h2 => absurd (List.getElem?_eq_some_iff.1 h2).1 (by omega), h⟩
theorem Gw.app {mid : Nat} {m m' new : Mem} (h : Gw mid m m') (hn : NoRo new) : Gw mid m (m' ++ new) := by
  have key : ∀ (id : Nat) (b : Blk), (m' ++ new)[id]? = some b → m'[id]? = some b ∨ b.kd ≠ .ro := by
    intro id b hb
    by_cases hi : id < m'.length
    · rw [List.getElem?_append_left hi] at hb; exact .inl hb
    · rw [List.getElem?_append_right (by omega)] at hb; exact .inr (hn b (List.mem_of_getElem? hb))
  refine ⟨by rw [List.length_append]; have := h.len; omega, fun id h1 h2 => ?_, fun id b h1 h2 => ?_, fun b h2 => ?_⟩
  · rw [List.getElem?_append_left (by have := h.len; omega)]; exact h.old id h1 h2
  · rcases key id b h2 with h3 | h3
    · exact h.new id b h1 h3
    · exact h3
  · rcases key mid b h2 with h3 | h3
    · exact h.at_ b h3
    · exact h3
theorem Gw.one {mid : Nat} {m m' : Mem} (h : Gw mid m m') (e : TypeId) (cs : List Value) : Gw mid m (m' ++ [⟨.own, e, cs⟩]) := h.app (noRo_own noRo_nil)
theorem Gw.set {mid : Nat} {m m' : Mem} (h : Gw mid m m') {id : Nat} {b : Blk} (hid : m.length ≤ id ∨ id = mid) (hb : b.kd ≠ .ro) : Gw mid m (m'.set id b) := by
  refine ⟨by rw [List.length_set]; exact h.len, fun i h1 h2 => ?_, fun i b2 h1 h2 => ?_, fun b2 h2 => ?_⟩
  · rw [List.getElem?_set_ne (by omega)]; exact h.old i h1 h2
  · rcases at_set h2 with ⟨_, h3⟩ | ⟨_, h3, _⟩
    · exact h.new i b2 h1 h3
    · rw [← h3]; exact hb
  · rcases at_set h2 with ⟨_, h3⟩ | ⟨_, h3, _⟩
    · exact h.at_ b2 h3
    · rw [← h3]; exact hb
theorem Gw.trans {mid : Nat} {a b c : Mem} (h : Gw mid a b) (h' : Gw mid b c) : Gw mid a c := by
  have l1 := h.len
  have l2 := h'.len
  refine ⟨by omega, fun i h1 h2 => (h'.old i (by omega) h2).trans (h.old i h1 h2), fun i x h1 h2 => ?_, h'.at_⟩
  by_cases e : i = mid
  · subst e; exact h'.at_ x h2
  · by_cases hi : i < b.length
    · rw [h'.old i hi e] at h2; exact h.new i x h1 h2
    · exact h'.new i x (by omega) h2
theorem Gw.blk {mid : Nat} {m m' : Mem} (h : Gw mid m m') {id : Nat} {b : Blk} (hb : m[id]? = some b) (hne : id ≠ mid) : m'[id]? = some b := by
  rw [h.old id (List.getElem?_eq_some_iff.1 hb).1 hne]; exact hb
theorem rdc_blk {m : Mem} {id k : Nat} {v : Value} (h : rdc m id k = some v) : ∃ b, m[id]? = some b ∧ b.kd ≠ .dead := by
  unfold rdc at h
  cases hm : m[id]? with
  | none => rw [hm] at h; cases h
  | some b =>
    rw [hm] at h
    refine ⟨b, rfl, fun e => ?_⟩
    simp only [e, if_true] at h
    cases h
theorem Gw.rd {mid : Nat} {m m' : Mem} (h : Gw mid m m') {e : TypeId} {cs : List Value} (hd : m[mid]? = some ⟨.dead, e, cs⟩) {id k : Nat} {v : Value} (hv : rdc m id k = some v) : rdc m' id k = some v := by
  obtain ⟨b, hb, hk⟩ := rdc_blk hv
  have hne : id ≠ mid := fun e => by subst e; rw [hd] at hb; cases hb; exact hk rfl
  unfold rdc at hv ⊢
  rw [h.old id (List.getElem?_eq_some_iff.1 hb).1 hne]; exact hv
theorem IntsA.of_at {m m' : Mem} {id off n fl : Nat} {l : List Int} (h : IntsA m (.slice (some ⟨id, off, none⟩) n fl) l) (e : m'[id]? = m[id]?) : IntsA m' (.slice (some ⟨id, off, none⟩) n fl) l := by
  refine ⟨h.len, h.bd, h.at_, fun k hk => ?_, ?_⟩
  · have := h.ld k hk
    simp only [pAt, ldA, rdc] at this ⊢
    rw [e]; exact this
  · have := h.src
    simp only [slR, rdl] at this ⊢
    rw [e]; exact this
theorem Gw.ints {mid : Nat} {m m' : Mem} (h : Gw mid m m') {e : TypeId} {cs : List Value} (hd : m[mid]? = some ⟨.dead, e, cs⟩) {v : Value} {l : List Int} (hi : IntsA m v l) : IntsA m' v l := by
  rcases hi.form with ⟨rfl, rfl⟩ | ⟨id, off, fl, rfl⟩
  · exact IntsA.nil m'
  · have hs := hi.src
    simp only [slR, rdl] at hs
    cases hb : m[id]? with
    | none => rw [hb] at hs; cases hs
    | some b =>
      rw [hb] at hs
      refine hi.of_at (h.old id (List.getElem?_eq_some_iff.1 hb).1 fun e2 => ?_)
      subst e2
      rw [hd] at hb
      cases hb
      simp at hs
theorem Gw.case {mid : Nat} {m m' : Mem} (h : Gw mid m m') {e : TypeId} {cs : List Value} (hd : m[mid]? = some ⟨.dead, e, cs⟩) {v : Value} {k : Cs} (hk : CaseA m v k) : CaseA m' v k := by
  obtain ⟨v1, v2, v3, v4, e0, h1, h2, h3, h4⟩ := hk.ok
  exact ⟨v1, v2, v3, v4, e0, h.ints hd h1, h.ints hd h2, h.ints hd h3, h.ints hd h4⟩
theorem Gw.own {mid : Nat} {m m' : Mem} (h : Gw mid m m') {e : TypeId} {cs : List Value} (hd : m[mid]? = some ⟨.dead, e, cs⟩) {id : Nat} {l : List Int} (ho : OwnR m id l) : OwnR m' id l := by
  refine h.blk ho fun e2 => ?_
  subst e2
  have : m[id]? = some (rowB l) := ho
  rw [hd] at this
  cases this
def RowV (M : Mem) (v : Value) (l : List Int) : Prop := (v = .slice none 0 0 ∧ l = []) ∨ ∃ id fl, v = .slice (some ⟨id, 0, none⟩) l.length fl ∧ OwnR M id l ∧ l.length ≤ 1048576
theorem RowV.ints {M : Mem} {v : Value} {l : List Int} (h : RowV M v l) : IntsA M v l := by
  rcases h with ⟨rfl, rfl⟩ | ⟨id, fl, rfl, ho, hl⟩
  · exact IntsA.nil M
  · exact ho.ints (by omega) fl
theorem RowV.keep {M M' : Mem} {v : Value} {l : List Int} (h : RowV M v l) (hk : ∀ id l, OwnR M id l → OwnR M' id l) : RowV M' v l := by
  rcases h with h | ⟨id, fl, h1, ho, hl⟩
  · exact .inl h
  · exact .inr ⟨id, fl, h1, hk id l ho, hl⟩
def LotV (M : Mem) (v : Value) (c : Int) (l : List Int) : Prop := ∃ A ln cp, v = .agg #[.int .i64 c, .slice A ln cp] ∧ RowV M (.slice A ln cp) l
theorem LotV.keep {M M' : Mem} {v : Value} {c : Int} {l : List Int} (h : LotV M v c l) (hk : ∀ id l, OwnR M id l → OwnR M' id l) : LotV M' v c l := by
  obtain ⟨A, ln, cp, h1, h2⟩ := h
  exact ⟨A, ln, cp, h1, h2.keep hk⟩
structure MG (k : Cs) (mid : Nat) (e : TypeId) (es : List Value) (M : Mem) : Prop where
  mp : M[mid]? = some ⟨.dead, e, .bool true :: es⟩
  ok : ∀ x v, lkE es x = some v → ∃ j : Nat, x = j ∧ j ≤ k.need.length ∧ LotV M v (costL k k.need.length (dp k k.need.length j)) (dp k k.need.length j)
  end_ : (lkE es k.need.length).isSome = true
theorem MG.keep {k : Cs} {mid : Nat} {e : TypeId} {es : List Value} {M M' : Mem} (h : MG k mid e es M) (hm : M'[mid]? = M[mid]?) (hk : ∀ id l, OwnR M id l → OwnR M' id l) : MG k mid e es M' :=
  ⟨hm.trans h.mp, fun x v hv => by obtain ⟨j, h1, h2, h3⟩ := h.ok x v hv; exact ⟨j, h1, h2, h3.keep hk⟩, h.end_⟩
theorem MG.app {k : Cs} {mid : Nat} {e : TypeId} {es : List Value} {M : Mem} (h : MG k mid e es M) (R : Mem) : MG k mid e es (M ++ R) :=
  h.keep (List.getElem?_append_left (List.getElem?_eq_some_iff.1 h.mp).1) fun id l ho => ho.ext R
theorem MG.box {k : Cs} {mid : Nat} {e : TypeId} {es : List Value} {M : Mem} (h : MG k mid e es M) {id : Nat} {t : TypeId} {cs : List Value} {b : Blk} (hb : M[id]? = some ⟨.own, t, cs⟩) (ht : t ≠ 3) : MG k mid e es (M.set id b) := by
  refine h.keep (List.getElem?_set_ne fun e2 => ?_) fun i l ho => ho.set_ne fun e2 => ?_
  · subst e2; have := h.mp; rw [hb] at this; cases this
  · subst e2
    have : M[id]? = some (rowB l) := ho
    rw [hb] at this
    cases this
    exact ht rfl
structure LEnv (k : Cs) (v1 v2 v3 v4 : Value) (kb cb nb fb mid : Nat) (e : TypeId) (es : List Value) (m : Mem) : Prop where
  rk : rdc m kb 0 = some (.map (some mid))
  c0 : rdc m cb 0 = some v1
  c1 : rdc m cb 1 = some v2
  c2 : rdc m cb 2 = some v3
  c3 : rdc m cb 3 = some v4
  hc : CaseA m (.agg #[v1, v2, v3, v4]) k
  rn : rdc m nb 0 = some (.int .i64 k.need.length)
  rf : rdc m fb 0 = some (.func (.func 155) #[] #[.pointer (some ⟨kb, 0, none⟩), .pointer (some ⟨cb, 0, none⟩), .pointer (some ⟨nb, 0, none⟩), .pointer (some ⟨fb, 0, none⟩)])
  g : MG k mid e es m
theorem LEnv.gw {k : Cs} {v1 v2 v3 v4 : Value} {kb cb nb fb mid : Nat} {e : TypeId} {es es' : List Value} {m m' : Mem} (h : LEnv k v1 v2 v3 v4 kb cb nb fb mid e es m) (hg : Gw mid m m') (h2 : MG k mid e es' m') :
    LEnv k v1 v2 v3 v4 kb cb nb fb mid e es' m' :=
  ⟨hg.rd h.g.mp h.rk, hg.rd h.g.mp h.c0, hg.rd h.g.mp h.c1, hg.rd h.g.mp h.c2, hg.rd h.g.mp h.c3, hg.case h.g.mp h.hc, hg.rd h.g.mp h.rn, hg.rd h.g.mp h.rf, h2⟩
theorem rdc_lt {m : Mem} {id k : Nat} {v : Value} (h : rdc m id k = some v) : id < m.length := by
  obtain ⟨b, hb, _⟩ := rdc_blk h
  exact (List.getElem?_eq_some_iff.1 hb).1
theorem lkA_mp {M : Mem} {mid : Nat} {e : TypeId} {es : List Value} (h : M[mid]? = some ⟨.dead, e, .bool true :: es⟩) (z : Value) (x : Int) : lkA M true z (.map (some mid)) (.int .i64 x) = some (.tuple #[(lkE es x).getD z, .bool (lkE es x).isSome]) := by
  simp [lkA, mapOf, mapB, h]
theorem mupA_mp {M : Mem} {mid : Nat} {e : TypeId} {es : List Value} (h : M[mid]? = some ⟨.dead, e, .bool true :: es⟩) {x : Int} (hx : lkE es x = none) (v : Value) : mupA M (.map (some mid)) (.int .i64 x) v = some (M.set mid ⟨.dead, e, .bool true :: (es ++ [.tuple #[.int .i64 x, v]])⟩) := by
  simp [mupA, mapOf, mapB, h, hx]
theorem lkE_app : ∀ (es : List Value) (x y : Int) (v : Value), lkE (es ++ [.tuple #[.int .i64 y, v]]) x = match lkE es x with
    | some u => some u
    | none => if y = x then some v else none := by
  intro es
  induction es with
  | nil => intro x y v; simp [lkE]
  | cons a es ih =>
    intro x y v
    rw [List.cons_append]
    cases a with
    | tuple q =>
      simp only [lkE]
      split
      · split
        · rfl
        · exact ih x y v
      · exact ih x y v
    | _ => exact ih x y v
theorem rd_own {M : Mem} {id k : Nat} {t : TypeId} {cs : List Value} (h : M[id]? = some ⟨.own, t, cs⟩) : rdc M id k = cs[k]? := by
  simp [rdc, h]
theorem st2_own {M : Mem} {id : Nat} {t : TypeId} {a b : Value} (h : M[id]? = some ⟨.own, t, [a, b]⟩) (x : Int) (A : Option Addr) (ln cp : Nat) : stA M id 0 [.int .i64 x, .slice A ln cp] = some (M.set id ⟨.own, t, [.int .i64 x, .slice A ln cp]⟩) := by
  simp [stA, h, onesB, Value.oneCell', putL]
theorem dp_beg {k : Cs} {n nx : Nat} (h : nx ≤ n) : beg n (dp k n nx) 0 = nx := ((dp_min k n (n - nx) nx (by omega)).1).2
theorem dp_rising {k : Cs} {n nx : Nat} (h : nx ≤ n) : Rising (dp k n nx) n := ((dp_min k n (n - nx) nx (by omega)).1).1
end Go.Proofs.Ytamhhicnfpemeaa.Ab
end
section
namespace Go.Proofs.Ytamhhicnfpemeaa.Ab
open Go Go.RowKit
set_option linter.unusedVariables false
set_option linter.unusedSimpArgs false
theorem bld2 (x : Int) (A : Option Addr) (ln cp : Nat) : bldA [.int .i64 0, .slice none 0 0] [(0, 1, .int .i64 x), (1, 1, .slice A ln cp)] = some (.agg #[.int .i64 x, .slice A ln cp]) := rfl
theorem from_ac (k : Cs) (hg : Good k) (v1 v2 v3 v4 : Value) (kb cb nb fb mid : Nat) (e : TypeId) : ∀ (d first : Nat) (m : Mem) (es : List Value), first + d = k.need.length → LEnv k v1 v2 v3 v4 kb cb nb fb mid e es m →
    AC Try.prog 155 [.int .i64 first, .pointer (some ⟨kb, 0, none⟩), .pointer (some ⟨cb, 0, none⟩), .pointer (some ⟨nb, 0, none⟩), .pointer (some ⟨fb, 0, none⟩)] m fun r m' =>
      ∃ es', Gw mid m m' ∧ LEnv k v1 v2 v3 v4 kb cb nb fb mid e es' m' ∧ (∀ x : Int, x < first → lkE es' x = lkE es x) ∧ LotV m' r (costL k k.need.length (dp k k.need.length first)) (dp k k.need.length first) := by
  intro d
  induction d using Nat.strongRecOn with
  | _ d ih =>
    intro first m es hfd hE
    refine ac_of_run mixed ok_impl_lotsFrom_1 (by simp) (go_start _ _ _ ?_)
    have h8 := hg.n8
    obtain ⟨n, hn⟩ : ∃ n, n = k.need.length := ⟨_, rfl⟩
    have hkb := rdc_lt hE.rk
    have hcb := rdc_lt hE.c0
    have hnb := rdc_lt hE.rn
    have hfb := rdc_lt hE.rf
    have hmid := (List.getElem?_eq_some_iff.1 hE.g.mp).1
    have rk := hE.rk
    have c0 := hE.c0
    have c1 := hE.c1
    have c2 := hE.c2
    have c3 := hE.c3
    have rn := hE.rn
    rw [← hn] at h8 rn hfd
    have lk : ∀ R : Mem, lkA (m ++ R) true (.agg #[.int .i64 0, .slice none 0 0]) (.map (some mid)) (.int .i64 first) = some (.tuple #[(lkE es first).getD (.agg #[.int .i64 0, .slice none 0 0]), .bool (lkE es first).isSome]) := fun R => lkA_mp (hE.g.app R).mp _ _
    have g0 : Gw mid m m := Gw.refl fun b hb => by rw [hE.g.mp] at hb; cases hb; simp
    cases hl : lkE es first with
    | some v =>
      obtain ⟨j, hj, hjn, A, ln, cp, rfl, hrow⟩ := hE.g.ok _ _ hl
      have hj' : first = j := by omega
      subst hj'
      simp only [hl, Option.getD_some, Option.isSome_some] at lk
      simp (config := {implicitDefEqProofs := false, maxDischargeDepth := 20}) (disch := first | omega | (simp only [lenE]; done) | (simp only [lenE]; omega) | rfl | (simp only [lenE, markR_len]; done) | (simp only [lenE, markR_len]; omega)) only [runE, mapE, listE, initT_5, initT_6, initT_7, initT_8, resV, oneV, binA, unA, reduceCtorEq, Nat.reduceEqDiff, Nat.reduceAdd, Nat.reduceLT, Nat.reduceLeDiff, Nat.reduceMul, Nat.reduceSub, ↓reduceIte, decide_true, decide_false, Bool.true_eq_false, Bool.false_eq_true, Bool.not_true, Bool.not_false, if_true, if_false, and_true, true_and, memE, celE, w64, Nat.zero_add, Nat.add_zero, Nat.mul_one, putL, and_self, ldn, c_impl_lotsFrom_1, r_impl_lotsFrom_1, rk, lk, ext_2_0, ext_2_1, stP_aggL]
      have gw := (g0.one 103 [.int .i64 (costL k k.need.length (dp k k.need.length first)), .slice A ln cp]).one 103 [.int .i64 (costL k k.need.length (dp k k.need.length first)), .slice A ln cp]
      exact ⟨es, gw, hE.gw gw ((hE.g.app _).app _), fun x _ => rfl, A, ln, cp, rfl, hrow.keep fun id l ho => (ho.ext _).ext _⟩
    | none =>
      have hlt : first < n := by
        have := hE.g.end_
        rw [← hn] at this
        rcases Nat.lt_or_ge first n with h | h
        · exact h
        · have e1 : first = n := by omega
          rw [← e1, hl] at this
          cases this
      simp only [hl, Option.getD_none, Option.isSome_none] at lk
      simp (config := {implicitDefEqProofs := false, maxDischargeDepth := 20}) (disch := first | omega | (simp only [lenE]; done) | (simp only [lenE]; omega) | rfl | (simp only [lenE, markR_len]; done) | (simp only [lenE, markR_len]; omega)) only [runE, mapE, listE, initT_5, initT_6, initT_7, initT_8, resV, oneV, binA, unA, reduceCtorEq, Nat.reduceEqDiff, Nat.reduceAdd, Nat.reduceLT, Nat.reduceLeDiff, Nat.reduceMul, Nat.reduceSub, ↓reduceIte, decide_true, decide_false, Bool.true_eq_false, Bool.false_eq_true, Bool.not_true, Bool.not_false, if_true, if_false, and_true, true_and, memE, celE, w64, Nat.zero_add, Nat.add_zero, Nat.mul_one, putL, and_self, ldn, c_impl_lotsFrom_1, r_impl_lotsFrom_1, rk, lk, ext_2_0, ext_2_1, stP_aggL, c0, c1, c2, c3, rn]
      refine callH_rc (orderCost_rc _ _ k first n ((hE.hc.ext _).ext _) hg hlt (by omega)) ?_
      rintro r new ⟨rfl, nr⟩
      simp (config := {implicitDefEqProofs := false, maxDischargeDepth := 20}) (disch := first | omega | (simp only [lenE]; done) | (simp only [lenE]; omega) | rfl | (simp only [lenE, markR_len]; done) | (simp only [lenE, markR_len]; omega)) only [runE, mapE, listE, initT_5, initT_6, initT_7, initT_8, resV, oneV, binA, unA, reduceCtorEq, Nat.reduceEqDiff, Nat.reduceAdd, Nat.reduceLT, Nat.reduceLeDiff, Nat.reduceMul, Nat.reduceSub, ↓reduceIte, decide_true, decide_false, Bool.true_eq_false, Bool.false_eq_true, Bool.not_true, Bool.not_false, if_true, if_false, and_true, true_and, memE, celE, w64, Nat.zero_add, Nat.add_zero, Nat.mul_one, putL, and_self, ldn, bsl_one, stP_aggL, bld2]
      obtain ⟨M1, hM1⟩ : ∃ M1, M1 = m ++ [⟨.own, 103, [.int .i64 0, .slice none 0 0]⟩] ++ [⟨.own, 103, [.int .i64 0, .slice none 0 0]⟩] ++ new := ⟨_, rfl⟩
      have L1 : M1.length = m.length + 1 + 1 + new.length := by rw [hM1]; simp; omega
      have gw1 : Gw mid m M1 := by rw [hM1]; exact ((g0.one _ _).one _ _).app nr
      have mg1 : MG k mid e es M1 := by rw [hM1]; exact ((hE.g.app _).app _).app _
      have b61 : M1[m.length]? = some ⟨.own, 103, [.int .i64 0, .slice none 0 0]⟩ := by rw [hM1]; simp
      have o1 := OwnR.at_end M1 [(first : Int)]
      have hrow0 : RowV (M1 ++ [⟨.own, 3, [(first : Int)].map (Value.int .i64)⟩] ++ [⟨.own, 103, [.int .i64 (spanF k first n), .slice (some ⟨M1.length, 0, none⟩) 1 1]⟩]) (.slice (some ⟨M1.length, 0, none⟩) 1 1) [(first : Int)] :=
        .inr ⟨M1.length, 1, rfl, o1.ext _, by simp⟩
      have hb90 : (M1 ++ [⟨.own, 3, [(first : Int)].map (Value.int .i64)⟩] ++ [⟨.own, 103, [.int .i64 (spanF k first n), .slice (some ⟨M1.length, 0, none⟩) 1 1]⟩])[M1.length + 1]? = some ⟨.own, 103, [.int .i64 (spanF k first n), .slice (some ⟨M1.length, 0, none⟩) 1 1]⟩ := by simp
      have hc0 : spanF k first n = costL k n (dpLoop k n first (dp k n) (first + 1 - 1 - first)) := by
        rw [show first + 1 - 1 - first = 0 by omega, dpLoop, costL_cons, beg_nil, costL_nil]; simp
      have hl0 : [(first : Int)] = dpLoop k n first (dp k n) (first + 1 - 1 - first) := by
        rw [show first + 1 - 1 - first = 0 by omega, dpLoop]
      rw [← hM1, ← L1]
      refine loop_inv mixed (fun s => ∃ (nx : Nat) (M : Mem) (es1 : List Value) (A : Option Addr) (ln cp : Nat), first < nx ∧ nx ≤ n ∧ s.t 0 = .int .i64 first ∧ s.t 1 = .pointer (some ⟨kb, 0, none⟩) ∧ s.t 2 = .pointer (some ⟨cb, 0, none⟩) ∧ s.t 3 = .pointer (some ⟨nb, 0, none⟩) ∧ s.t 4 = .pointer (some ⟨fb, 0, none⟩) ∧ s.t 6 = .pointer (some ⟨m.length, 0, none⟩) ∧ s.t 9 = .pointer (some ⟨M1.length + 1, 0, none⟩) ∧ s.t 10 = .int .i64 nx ∧ s.m = M ∧
          Gw mid m M ∧ MG k mid e es1 M ∧ (∀ x : Int, x ≤ first → lkE es1 x = lkE es x) ∧ M[m.length]? = some ⟨.own, 103, [.int .i64 0, .slice none 0 0]⟩ ∧
          M[M1.length + 1]? = some ⟨.own, 103, [.int .i64 (costL k n (dpLoop k n first (dp k n) (nx - 1 - first))), .slice A ln cp]⟩ ∧ RowV M (.slice A ln cp) (dpLoop k n first (dp k n) (nx - 1 - first))) (fun s => n - (intOf (s.t 10)).toNat)
        ⟨first + 1, _, es, some ⟨M1.length, 0, none⟩, 1, 1, by omega, by omega, rfl, rfl, rfl, rfl, rfl, rfl, rfl, by simp only [put_t, put_t', put_m, putT_t, putT_t', putT_m, init_t, init_m, initT_0, initT_1, initT_2, initT_3, initT_4, initT_5, initT_6, initT_7, initT_8, Nat.reduceEqDiff, ↓reduceIte]; simp, rfl, (gw1.one _ _).one _ _, (mg1.app _).app _, fun x _ => rfl, ?_, ?_, ?_⟩ ?_
      · simp only [put_t, put_t', put_m, putT_t, putT_t', putT_m, init_t, init_m, initT_0, initT_1, initT_2, initT_3, initT_4, initT_5, initT_6, initT_7, initT_8, Nat.reduceEqDiff, ↓reduceIte]
        have := (List.getElem?_eq_some_iff.1 b61).1
        rw [List.getElem?_append_left (by simp; omega), List.getElem?_append_left (by omega)]; exact b61
      · rw [← hc0]; exact hb90
      · rw [← hl0]; exact hrow0
      rintro s ⟨nx, M, es1, A, ln, cp, hnx, hnn, t0, t1, t2, t3, t4, t6, t9, t10, tm, gw, mg, hpre, b6, b9, hrow⟩
      have hE1 := hE.gw gw mg
      have rk := hE1.rk
      have c0 := hE1.c0
      have c1 := hE1.c1
      have c2 := hE1.c2
      have c3 := hE1.c3
      have rn := hE1.rn
      have rf := hE1.rf
      rw [← hn] at rn
      have h6l := (List.getElem?_eq_some_iff.1 b6).1
      have h9l := (List.getElem?_eq_some_iff.1 b9).1
      by_cases hlt2 : nx < n
      · have hlt2' : (nx : Int) < n := by omega
        simp (config := {implicitDefEqProofs := false, maxDischargeDepth := 20}) (disch := first | omega | (simp only [lenE]; done) | (simp only [lenE]; omega) | rfl | (simp only [lenE, markR_len]; done) | (simp only [lenE, markR_len]; omega)) only [runE, mapE, listE, initT_5, initT_6, initT_7, initT_8, resV, oneV, binA, unA, reduceCtorEq, Nat.reduceEqDiff, Nat.reduceAdd, Nat.reduceLT, Nat.reduceLeDiff, Nat.reduceMul, Nat.reduceSub, ↓reduceIte, decide_true, decide_false, Bool.true_eq_false, Bool.false_eq_true, Bool.not_true, Bool.not_false, if_true, if_false, and_true, true_and, memE, celE, w64, Nat.zero_add, Nat.add_zero, Nat.mul_one, putL, and_self, ldn, t0, t1, t2, t3, t4, t6, t9, t10, tm, rn, hlt2', rf]
        refine callH_ac (ih (n - nx) (by omega) nx M es1 (by omega) hE1) ?_
        rintro r M2 ⟨es2, gw2, hE2, hpre2, A2, ln2, cp2, rfl, hrow2⟩
        rw [← hn] at hrow2 ⊢
        have gwt := gw.trans gw2
        have hne6 : m.length ≠ mid := by omega
        have hne9 : M1.length + 1 ≠ mid := by omega
        have b62 := gw2.blk b6 hne6
        have b92 := gw2.blk b9 hne9
        have hrow9 := hrow.keep fun id l ho => gw2.own hE1.g.mp ho
        have c0 := hE2.c0
        have c1 := hE2.c1
        have c2 := hE2.c2
        have c3 := hE2.c3
        have l2c := rdc_lt hE2.c0
        have h9l2 := (List.getElem?_eq_some_iff.1 b92).1
        have h6l2 := (List.getElem?_eq_some_iff.1 b62).1
        have hpre3 : ∀ x : Int, x ≤ first → lkE es2 x = lkE es x := fun x hx => (hpre2 x (by omega)).trans (hpre x hx)
        have hris := dp_rising (k := k) hnn
        have hdl := hris.len
        have ap := app_cons (x := (first : Int)) (id := M2.length + 1) (hrow2.ints.ext [⟨.own, 103, [.int .i64 (costL k n (dp k n nx)), .slice A2 ln2 cp2]⟩]) (by omega) (by simp)
        rw [Nat.add_comm 1, List.map_cons] at ap
        have hcl : spanF k first nx + costL k n (dp k n nx) = costL k n ((first : Int) :: dp k n nx) := by rw [costL_cons, dp_beg hnn]; simp
        have hri1 : Rising ((first : Int) :: dp k n nx) n := hris.cons (by omega) (by rw [dp_beg hnn]; omega)
        have cb0 := costL_in hg (ps := (first : Int) :: dp k n nx) (by rw [← hn]; exact hri1)
        rw [← hn] at cb0
        have hc3 := hE2.hc
        simp (config := {implicitDefEqProofs := false, maxDischargeDepth := 20}) (disch := first | omega | (simp only [lenE]; done) | (simp only [lenE]; omega) | rfl | (simp only [lenE, markR_len]; done) | (simp only [lenE, markR_len]; omega)) only [runE, mapE, listE, initT_5, initT_6, initT_7, initT_8, resV, oneV, binA, unA, reduceCtorEq, Nat.reduceEqDiff, Nat.reduceAdd, Nat.reduceLT, Nat.reduceLeDiff, Nat.reduceMul, Nat.reduceSub, ↓reduceIte, decide_true, decide_false, Bool.true_eq_false, Bool.false_eq_true, Bool.not_true, Bool.not_false, if_true, if_false, and_true, true_and, memE, celE, w64, Nat.zero_add, Nat.add_zero, Nat.mul_one, putL, and_self, ldn, t0, t1, t2, t3, t4, t6, t9, t10, bld2, stP_aggL, bsl_one, ap, c0, c1, c2, c3]
        obtain ⟨M3, hM3⟩ : ∃ M3, M3 = M2 ++ [⟨.own, 103, [.int .i64 (costL k n (dp k n nx)), .slice A2 ln2 cp2]⟩] ++ [deadB] ++ [⟨.own, 3, .int .i64 first :: (dp k n nx).map (Value.int .i64)⟩] := ⟨_, rfl⟩
        have L3 : M3.length = M2.length + 1 + 1 + 1 := by rw [hM3]; simp
        have hc3 : CaseA M3 (.agg #[v1, v2, v3, v4]) k := by rw [hM3]; exact ((hc3.ext _).ext _).ext _
        have facts : ∀ X : Mem, NoRo X → Gw mid m (M3 ++ X) ∧ MG k mid e es2 (M3 ++ X) ∧ (M3 ++ X)[m.length]? = some ⟨.own, 103, [.int .i64 0, .slice none 0 0]⟩ ∧
            (M3 ++ X)[M1.length + 1]? = some ⟨.own, 103, [.int .i64 (costL k n (dpLoop k n first (dp k n) (nx - 1 - first))), .slice A ln cp]⟩ ∧ RowV (M3 ++ X) (.slice A ln cp) (dpLoop k n first (dp k n) (nx - 1 - first)) ∧ OwnR (M3 ++ X) (M2.length + 1 + 1) ((first : Int) :: dp k n nx) := by
          intro X hX
          have hR : M3 ++ X = M2 ++ ([⟨.own, 103, [.int .i64 (costL k n (dp k n nx)), .slice A2 ln2 cp2]⟩] ++ [deadB] ++ [⟨.own, 3, .int .i64 first :: (dp k n nx).map (Value.int .i64)⟩] ++ X) := by rw [hM3]; simp
          refine ⟨?_, ?_, ?_, ?_, ?_, ?_⟩
          · rw [hM3]; exact (((gwt.one _ _).app (noRo_dead noRo_nil)).one _ _).app hX
          · rw [hR]; exact hE2.g.app _
          · rw [hR, List.getElem?_append_left h6l2]; exact b62
          · rw [hR, List.getElem?_append_left h9l2]; exact b92
          · rw [hR]; exact hrow9.keep fun id l ho => ho.ext _
          · rw [hM3]
            exact (OwnR.end' (l := (first : Int) :: dp k n nx) (by simp)).ext X
        rw [← hM3]
        have dls : dpLoop k n first (dp k n) (nx + 1 - 1 - first) = if bef (costL k n ((first : Int) :: dp k n nx), (first : Int) :: dp k n nx) (costL k n (dpLoop k n first (dp k n) (nx - 1 - first)), dpLoop k n first (dp k n) (nx - 1 - first)) = true then (first : Int) :: dp k n nx else dpLoop k n first (dp k n) (nx - 1 - first) := by
          rw [show nx + 1 - 1 - first = (nx - 1 - first) + 1 by omega, dpLoop, show first + 1 + (nx - 1 - first) = nx by omega]
        have done : ∀ (M6 : Mem) (X : Mem), NoRo X → M6 = M3 ++ X → ∀ b, bef (costL k n ((first : Int) :: dp k n nx), (first : Int) :: dp k n nx) (costL k n (dpLoop k n first (dp k n) (nx - 1 - first)), dpLoop k n first (dp k n) (nx - 1 - first)) = b →
            (b = false → Gw mid m M6 ∧ MG k mid e es2 M6 ∧ M6[m.length]? = some ⟨.own, 103, [.int .i64 0, .slice none 0 0]⟩ ∧ M6[M1.length + 1]? = some ⟨.own, 103, [.int .i64 (costL k n (dpLoop k n first (dp k n) (nx + 1 - 1 - first))), .slice A ln cp]⟩ ∧ RowV M6 (.slice A ln cp) (dpLoop k n first (dp k n) (nx + 1 - 1 - first))) ∧
            (b = true → ∀ M7, M7 = M6.set (M1.length + 1) ⟨.own, 103, [.int .i64 (costL k n ((first : Int) :: dp k n nx)), .slice (some ⟨M2.length + 1 + 1, 0, none⟩) ((dp k n nx).length + 1) 1]⟩ → Gw mid m M7 ∧ MG k mid e es2 M7 ∧ M7[m.length]? = some ⟨.own, 103, [.int .i64 0, .slice none 0 0]⟩ ∧ M7[M1.length + 1]? = some ⟨.own, 103, [.int .i64 (costL k n (dpLoop k n first (dp k n) (nx + 1 - 1 - first))), .slice (some ⟨M2.length + 1 + 1, 0, none⟩) ((dp k n nx).length + 1) 1]⟩ ∧ RowV M7 (.slice (some ⟨M2.length + 1 + 1, 0, none⟩) ((dp k n nx).length + 1) 1) (dpLoop k n first (dp k n) (nx + 1 - 1 - first))) := by
          intro M6 X hX h6 b hb
          obtain ⟨f1, f2, f3, f4, f5, f6⟩ := facts X hX
          rw [← h6] at f1 f2 f3 f4 f5 f6
          refine ⟨fun hbf => ?_, fun hbt M7 h7 => ?_⟩
          · rw [dls, hb, hbf, if_neg (by simp)]
            exact ⟨f1, f2, f3, f4, f5⟩
          · rw [dls, hb, hbt, if_pos rfl, h7]
            refine ⟨f1.set (.inl (by omega)) (by simp), f2.box f4 (by decide), ?_, ?_, .inr ⟨_, 1, rfl, ?_, by simp; omega⟩⟩
            · rw [List.getElem?_set_ne (by omega)]; exact f3
            · rw [List.getElem?_set_self (List.getElem?_eq_some_iff.1 f4).1]
            · refine f6.set_ne fun e2 => ?_
              have : M6[M2.length + 1 + 1]? = some (rowB ((first : Int) :: dp k n nx)) := f6
              rw [← e2, f4] at this
              cases this
        refine ⟨?_, ?_⟩
        · refine rcallH_rc (orderCost_rc _ _ k first nx hc3 hg hnx (by omega)) ?_
          rintro r new3 ⟨rfl, nr3⟩
          obtain ⟨f1, f2, f3, f4, f5, f6⟩ := facts new3 nr3
          have q0 := rd_own (k := 0) f4
          have q1 := rd_own (k := 1) f4
          have hl9 := (List.getElem?_eq_some_iff.1 f4).1
          obtain ⟨M4, hM4⟩ : ∃ M4, M4 = M3 ++ new3 := ⟨_, rfl⟩
          rw [← hM4] at f1 f2 f3 f4 f5 f6 q0 q1 hl9 ⊢
          simp (config := {implicitDefEqProofs := false, maxDischargeDepth := 20}) (disch := first | omega | (simp only [lenE]; done) | (simp only [lenE]; omega) | rfl | (simp only [lenE, markR_len]; done) | (simp only [lenE, markR_len]; omega)) only [runE, mapE, listE, initT_5, initT_6, initT_7, initT_8, resV, oneV, binA, unA, reduceCtorEq, Nat.reduceEqDiff, Nat.reduceAdd, Nat.reduceLT, Nat.reduceLeDiff, Nat.reduceMul, Nat.reduceSub, ↓reduceIte, decide_true, decide_false, Bool.true_eq_false, Bool.false_eq_true, Bool.not_true, Bool.not_false, if_true, if_false, and_true, true_and, memE, celE, w64, Nat.zero_add, Nat.add_zero, Nat.mul_one, putL, and_self, ldn, t0, t1, t2, t3, t4, t6, t9, t10, hcl, bld2, stP_aggL, q0, q1]
          obtain ⟨M5, hM5⟩ : ∃ M5, M5 = M4 ++ [⟨.own, 103, [.int .i64 (costL k n ((first : Int) :: dp k n nx)), .slice (some ⟨M2.length + 1 + 1, 0, none⟩) ((dp k n nx).length + 1) 1]⟩] := ⟨_, rfl⟩
          have hsh : ∃ X, NoRo X ∧ M5 = M3 ++ X := ⟨new3 ++ [⟨.own, 103, [.int .i64 (costL k n ((first : Int) :: dp k n nx)), .slice (some ⟨M2.length + 1 + 1, 0, none⟩) ((dp k n nx).length + 1) 1]⟩], noRo_app nr3 (noRo_own noRo_nil), by rw [hM5, hM4, List.append_assoc]⟩
          have L4 : M4.length = M3.length + new3.length := by rw [hM4]; simp
          obtain ⟨b13, hb13⟩ : ∃ b13, b13 = M4.length := ⟨_, rfl⟩
          have b13e : M5[b13]? = some ⟨.own, 103, [.int .i64 (costL k n ((first : Int) :: dp k n nx)), .slice (some ⟨M2.length + 1 + 1, 0, none⟩) ((dp k n nx).length + 1) 1]⟩ := by rw [hM5, hb13]; simp
          rw [← hM5, ← hb13]
          obtain ⟨p1, p2, p3, p4, p5, p6⟩ := (by obtain ⟨X, hX, h5⟩ := hsh; rw [h5]; exact facts X hX : Gw mid m M5 ∧ MG k mid e es2 M5 ∧ M5[m.length]? = some ⟨.own, 103, [.int .i64 0, .slice none 0 0]⟩ ∧
            M5[M1.length + 1]? = some ⟨.own, 103, [.int .i64 (costL k n (dpLoop k n first (dp k n) (nx - 1 - first))), .slice A ln cp]⟩ ∧ RowV M5 (.slice A ln cp) (dpLoop k n first (dp k n) (nx - 1 - first)) ∧ OwnR M5 (M2.length + 1 + 1) ((first : Int) :: dp k n nx))
          have iz : IntsA M5 (.slice (some ⟨M2.length + 1 + 1, 0, none⟩) ((dp k n nx).length + 1) 1) ((first : Int) :: dp k n nx) := p6.ints (by simp; omega) 1
          refine callH_rc (comesBefore_rc _ _ _ _ _ ((first : Int) :: dp k n nx) (dpLoop k n first (dp k n) (nx - 1 - first)) iz p5.ints) ?_
          rintro r new6 ⟨rfl, nr6⟩
          obtain ⟨M6, hM6⟩ : ∃ M6, M6 = M5 ++ new6 := ⟨_, rfl⟩
          have b136 : M6[b13]? = some ⟨.own, 103, [.int .i64 (costL k n ((first : Int) :: dp k n nx)), .slice (some ⟨M2.length + 1 + 1, 0, none⟩) ((dp k n nx).length + 1) 1]⟩ := by rw [hM6, List.getElem?_append_left (List.getElem?_eq_some_iff.1 b13e).1]; exact b13e
          have s0 := rd_own (k := 0) b136
          have s1 := rd_own (k := 1) b136
          rw [← hM6]
          have p46 : M6[M1.length + 1]? = some ⟨.own, 103, [.int .i64 (costL k n (dpLoop k n first (dp k n) (nx - 1 - first))), .slice A ln cp]⟩ := by rw [hM6, List.getElem?_append_left (List.getElem?_eq_some_iff.1 p4).1]; exact p4
          have w6 := st2_own p46 (costL k n ((first : Int) :: dp k n nx)) (some ⟨M2.length + 1 + 1, 0, none⟩) ((dp k n nx).length + 1) 1
          obtain ⟨M7, hM7⟩ : ∃ M7, M7 = M6.set (M1.length + 1) ⟨.own, 103, [.int .i64 (costL k n ((first : Int) :: dp k n nx)), .slice (some ⟨M2.length + 1 + 1, 0, none⟩) ((dp k n nx).length + 1) 1]⟩ := ⟨_, rfl⟩
          rw [← hM7] at w6
          obtain ⟨X, hX, hX5⟩ := hsh
          have dn := done M6 (X ++ new6) (noRo_app hX nr6) (by rw [hM6, hX5, List.append_assoc])
          cases hb : bef (costL k n ((first : Int) :: dp k n nx), (first : Int) :: dp k n nx) (costL k n (dpLoop k n first (dp k n) (nx - 1 - first)), dpLoop k n first (dp k n) (nx - 1 - first)) with
          | false =>
            obtain ⟨z1, z2, z3, z4, z5⟩ := (dn false hb).1 rfl
            simp (config := {implicitDefEqProofs := false, maxDischargeDepth := 20}) (disch := first | omega | (simp only [lenE]; done) | (simp only [lenE]; omega) | rfl | (simp only [lenE, markR_len]; done) | (simp only [lenE, markR_len]; omega)) only [runE, mapE, listE, initT_5, initT_6, initT_7, initT_8, resV, oneV, binA, unA, reduceCtorEq, Nat.reduceEqDiff, Nat.reduceAdd, Nat.reduceLT, Nat.reduceLeDiff, Nat.reduceMul, Nat.reduceSub, ↓reduceIte, decide_true, decide_false, Bool.true_eq_false, Bool.false_eq_true, Bool.not_true, Bool.not_false, if_true, if_false, and_true, true_and, memE, celE, w64, Nat.zero_add, Nat.add_zero, Nat.mul_one, putL, and_self, ldn, t0, t1, t2, t3, t4, t6, t9, t10]
            exact ⟨⟨nx + 1, M6, es2, A, ln, cp, by omega, by omega, by simp, rfl, z1, z2, hpre3, z3, z4, z5⟩, by simp [intOf]; omega⟩
          | true =>
            obtain ⟨z1, z2, z3, z4, z5⟩ := (dn true hb).2 rfl M7 hM7
            simp (config := {implicitDefEqProofs := false, maxDischargeDepth := 20}) (disch := first | omega | (simp only [lenE]; done) | (simp only [lenE]; omega) | rfl | (simp only [lenE, markR_len]; done) | (simp only [lenE, markR_len]; omega)) only [runE, mapE, listE, initT_5, initT_6, initT_7, initT_8, resV, oneV, binA, unA, reduceCtorEq, Nat.reduceEqDiff, Nat.reduceAdd, Nat.reduceLT, Nat.reduceLeDiff, Nat.reduceMul, Nat.reduceSub, ↓reduceIte, decide_true, decide_false, Bool.true_eq_false, Bool.false_eq_true, Bool.not_true, Bool.not_false, if_true, if_false, and_true, true_and, memE, celE, w64, Nat.zero_add, Nat.add_zero, Nat.mul_one, putL, and_self, ldn, t0, t1, t2, t3, t4, t6, t9, t10, s0, s1, stP_aggL, w6]
            exact ⟨⟨nx + 1, M7, es2, _, _, _, by omega, by omega, by simp, rfl, z1, z2, hpre3, z3, z4, z5⟩, by simp [intOf]; omega⟩
        · obtain ⟨f1, f2, f3, f4, f5, f6⟩ := facts [] noRo_nil
          rw [List.append_nil] at f1 f2 f3 f4 f5 f6
          obtain ⟨M4, hM4⟩ : ∃ M4, M4 = M3 ++ [⟨.own, 103, [.int .i64 0, .slice none 0 0]⟩] := ⟨_, rfl⟩
          have hc4 : CaseA M4 (.agg #[v1, v2, v3, v4]) k := by rw [hM4]; exact hc3.ext _
          rw [← hM4]
          refine rcallH_rc (orderCost_rc _ _ k first nx hc4 hg hnx (by omega)) ?_
          rintro r new3 ⟨rfl, nr3⟩
          have b130 : (M4 ++ new3)[M3.length]? = some ⟨.own, 103, [.int .i64 0, .slice none 0 0]⟩ := by rw [hM4, List.append_assoc]; simp
          have w3 := st2_own b130 (costL k n ((first : Int) :: dp k n nx)) (some ⟨M2.length + 1 + 1, 0, none⟩) ((dp k n nx).length + 1) 1
          obtain ⟨M5, hM5⟩ : ∃ M5, M5 = (M4 ++ new3).set M3.length ⟨.own, 103, [.int .i64 (costL k n ((first : Int) :: dp k n nx)), .slice (some ⟨M2.length + 1 + 1, 0, none⟩) ((dp k n nx).length + 1) 1]⟩ := ⟨_, rfl⟩
          rw [← hM5] at w3
          have hsh : ∃ X, NoRo X ∧ M5 = M3 ++ X := ⟨[⟨.own, 103, [.int .i64 (costL k n ((first : Int) :: dp k n nx)), .slice (some ⟨M2.length + 1 + 1, 0, none⟩) ((dp k n nx).length + 1) 1]⟩] ++ new3, noRo_app (noRo_own noRo_nil) nr3, by rw [hM5, hM4, List.append_assoc, List.set_append_right _ _ (Nat.le_refl _), Nat.sub_self]; rfl⟩
          obtain ⟨b13, hb13⟩ : ∃ b13, b13 = M3.length := ⟨_, rfl⟩
          have b13e : M5[b13]? = some ⟨.own, 103, [.int .i64 (costL k n ((first : Int) :: dp k n nx)), .slice (some ⟨M2.length + 1 + 1, 0, none⟩) ((dp k n nx).length + 1) 1]⟩ := by rw [hM5, hb13, List.getElem?_set_self (List.getElem?_eq_some_iff.1 b130).1]
          obtain ⟨p1, p2, p3, p4, p5, p6⟩ := (by obtain ⟨X, hX, h5⟩ := hsh; rw [h5]; exact facts X hX : Gw mid m M5 ∧ MG k mid e es2 M5 ∧ M5[m.length]? = some ⟨.own, 103, [.int .i64 0, .slice none 0 0]⟩ ∧
            M5[M1.length + 1]? = some ⟨.own, 103, [.int .i64 (costL k n (dpLoop k n first (dp k n) (nx - 1 - first))), .slice A ln cp]⟩ ∧ RowV M5 (.slice A ln cp) (dpLoop k n first (dp k n) (nx - 1 - first)) ∧ OwnR M5 (M2.length + 1 + 1) ((first : Int) :: dp k n nx))
          have q0 := rd_own (k := 0) p4
          have q1 := rd_own (k := 1) p4
          have q2 := rd_own (k := 0) b13e
          have q3 := rd_own (k := 1) b13e
          obtain ⟨M45, hM45⟩ : ∃ M45, M45 = M4 ++ new3 := ⟨_, rfl⟩
          rw [← hM45] at w3 ⊢
          have hb13' : b13 = M2.length + 1 + 1 + 1 := by rw [hb13, L3]
          rw [← hb13] at w3
          rw [← hb13']
          simp (config := {implicitDefEqProofs := false, maxDischargeDepth := 20}) (disch := first | omega | (simp only [lenE]; done) | (simp only [lenE]; omega) | rfl | (simp only [lenE, markR_len]; done) | (simp only [lenE, markR_len]; omega)) only [runE, mapE, listE, initT_5, initT_6, initT_7, initT_8, resV, oneV, binA, unA, reduceCtorEq, Nat.reduceEqDiff, Nat.reduceAdd, Nat.reduceLT, Nat.reduceLeDiff, Nat.reduceMul, Nat.reduceSub, ↓reduceIte, decide_true, decide_false, Bool.true_eq_false, Bool.false_eq_true, Bool.not_true, Bool.not_false, if_true, if_false, and_true, true_and, memE, celE, w64, Nat.zero_add, Nat.add_zero, Nat.mul_one, putL, and_self, ldn, t0, t1, t2, t3, t4, t6, t9, t10, hcl, bld2, stP_aggL, w3, q0, q1, q2, q3]
          have iz : IntsA M5 (.slice (some ⟨M2.length + 1 + 1, 0, none⟩) ((dp k n nx).length + 1) 1) ((first : Int) :: dp k n nx) := p6.ints (by simp; omega) 1
          refine callH_rc (comesBefore_rc _ _ _ _ _ ((first : Int) :: dp k n nx) (dpLoop k n first (dp k n) (nx - 1 - first)) iz p5.ints) ?_
          rintro r new6 ⟨rfl, nr6⟩
          obtain ⟨M6, hM6⟩ : ∃ M6, M6 = M5 ++ new6 := ⟨_, rfl⟩
          have b136 : M6[b13]? = some ⟨.own, 103, [.int .i64 (costL k n ((first : Int) :: dp k n nx)), .slice (some ⟨M2.length + 1 + 1, 0, none⟩) ((dp k n nx).length + 1) 1]⟩ := by rw [hM6, List.getElem?_append_left (List.getElem?_eq_some_iff.1 b13e).1]; exact b13e
          have s0 := rd_own (k := 0) b136
          have s1 := rd_own (k := 1) b136
          rw [← hM6]
          have p46 : M6[M1.length + 1]? = some ⟨.own, 103, [.int .i64 (costL k n (dpLoop k n first (dp k n) (nx - 1 - first))), .slice A ln cp]⟩ := by rw [hM6, List.getElem?_append_left (List.getElem?_eq_some_iff.1 p4).1]; exact p4
          have w6 := st2_own p46 (costL k n ((first : Int) :: dp k n nx)) (some ⟨M2.length + 1 + 1, 0, none⟩) ((dp k n nx).length + 1) 1
          obtain ⟨M7, hM7⟩ : ∃ M7, M7 = M6.set (M1.length + 1) ⟨.own, 103, [.int .i64 (costL k n ((first : Int) :: dp k n nx)), .slice (some ⟨M2.length + 1 + 1, 0, none⟩) ((dp k n nx).length + 1) 1]⟩ := ⟨_, rfl⟩
          rw [← hM7] at w6
          obtain ⟨X, hX, hX5⟩ := hsh
          have dn := done M6 (X ++ new6) (noRo_app hX nr6) (by rw [hM6, hX5, List.append_assoc])
          cases hb : bef (costL k n ((first : Int) :: dp k n nx), (first : Int) :: dp k n nx) (costL k n (dpLoop k n first (dp k n) (nx - 1 - first)), dpLoop k n first (dp k n) (nx - 1 - first)) with
          | false =>
            obtain ⟨z1, z2, z3, z4, z5⟩ := (dn false hb).1 rfl
            simp (config := {implicitDefEqProofs := false, maxDischargeDepth := 20}) (disch := first | omega | (simp only [lenE]; done) | (simp only [lenE]; omega) | rfl | (simp only [lenE, markR_len]; done) | (simp only [lenE, markR_len]; omega)) only [runE, mapE, listE, initT_5, initT_6, initT_7, initT_8, resV, oneV, binA, unA, reduceCtorEq, Nat.reduceEqDiff, Nat.reduceAdd, Nat.reduceLT, Nat.reduceLeDiff, Nat.reduceMul, Nat.reduceSub, ↓reduceIte, decide_true, decide_false, Bool.true_eq_false, Bool.false_eq_true, Bool.not_true, Bool.not_false, if_true, if_false, and_true, true_and, memE, celE, w64, Nat.zero_add, Nat.add_zero, Nat.mul_one, putL, and_self, ldn, t0, t1, t2, t3, t4, t6, t9, t10]
            exact ⟨⟨nx + 1, M6, es2, A, ln, cp, by omega, by omega, by simp, rfl, z1, z2, hpre3, z3, z4, z5⟩, by simp [intOf]; omega⟩
          | true =>
            obtain ⟨z1, z2, z3, z4, z5⟩ := (dn true hb).2 rfl M7 hM7
            simp (config := {implicitDefEqProofs := false, maxDischargeDepth := 20}) (disch := first | omega | (simp only [lenE]; done) | (simp only [lenE]; omega) | rfl | (simp only [lenE, markR_len]; done) | (simp only [lenE, markR_len]; omega)) only [runE, mapE, listE, initT_5, initT_6, initT_7, initT_8, resV, oneV, binA, unA, reduceCtorEq, Nat.reduceEqDiff, Nat.reduceAdd, Nat.reduceLT, Nat.reduceLeDiff, Nat.reduceMul, Nat.reduceSub, ↓reduceIte, decide_true, decide_false, Bool.true_eq_false, Bool.false_eq_true, Bool.not_true, Bool.not_false, if_true, if_false, and_true, true_and, memE, celE, w64, Nat.zero_add, Nat.add_zero, Nat.mul_one, putL, and_self, ldn, t0, t1, t2, t3, t4, t6, t9, t10, s0, s1, stP_aggL, w6]
            exact ⟨⟨nx + 1, M7, es2, _, _, _, by omega, by omega, by simp, rfl, z1, z2, hpre3, z3, z4, z5⟩, by simp [intOf]; omega⟩
      · have hlt2' : ¬ ((nx : Int) < n) := by omega
        have e0 : nx = n := by omega
        subst e0
        have hes : lkE es1 first = none := by rw [hpre _ (Int.le_refl _)]; exact hl
        have dl := dp_loop k hlt
        rw [← dl] at hrow b9
        obtain ⟨M8, hM8⟩ : ∃ M8, M8 = M.set mid ⟨.dead, e, .bool true :: (es1 ++ [.tuple #[.int .i64 first, .agg #[.int .i64 (costL k nx (dp k nx first)), .slice A ln cp]]])⟩ := ⟨_, rfl⟩
        have mu := mupA_mp mg.mp hes (.agg #[.int .i64 (costL k nx (dp k nx first)), .slice A ln cp])
        rw [← hM8] at mu
        have hne6 : mid ≠ m.length := by omega
        have hne9 : mid ≠ M1.length + 1 := by omega
        have r90 := rd_own (k := 0) b9
        have r91 := rd_own (k := 1) b9
        have b98 : M8[M1.length + 1]? = some ⟨.own, 103, [.int .i64 (costL k nx (dp k nx first)), .slice A ln cp]⟩ := by rw [hM8, List.getElem?_set_ne hne9]; exact b9
        have b68 : M8[m.length]? = some ⟨.own, 103, [.int .i64 0, .slice none 0 0]⟩ := by rw [hM8, List.getElem?_set_ne hne6]; exact b6
        have r80 := rd_own (k := 0) b98
        have r81 := rd_own (k := 1) b98
        have w8 := st2_own b68 (costL k nx (dp k nx first)) A ln cp
        obtain ⟨M9, hM9⟩ : ∃ M9, M9 = M8.set m.length ⟨.own, 103, [.int .i64 (costL k nx (dp k nx first)), .slice A ln cp]⟩ := ⟨_, rfl⟩
        rw [← hM9] at w8
        have b99 : M9[m.length]? = some ⟨.own, 103, [.int .i64 (costL k nx (dp k nx first)), .slice A ln cp]⟩ := by rw [hM9, List.getElem?_set_self (List.getElem?_eq_some_iff.1 b68).1]
        have s90 := rd_own (k := 0) b99
        have s91 := rd_own (k := 1) b99
        simp (config := {implicitDefEqProofs := false, maxDischargeDepth := 20}) (disch := first | omega | (simp only [lenE]; done) | (simp only [lenE]; omega) | rfl | (simp only [lenE, markR_len]; done) | (simp only [lenE, markR_len]; omega)) only [runE, mapE, listE, initT_5, initT_6, initT_7, initT_8, resV, oneV, binA, unA, reduceCtorEq, Nat.reduceEqDiff, Nat.reduceAdd, Nat.reduceLT, Nat.reduceLeDiff, Nat.reduceMul, Nat.reduceSub, ↓reduceIte, decide_true, decide_false, Bool.true_eq_false, Bool.false_eq_true, Bool.not_true, Bool.not_false, if_true, if_false, and_true, true_and, memE, celE, w64, Nat.zero_add, Nat.add_zero, Nat.mul_one, putL, and_self, ldn, t0, t1, t2, t3, t4, t6, t9, t10, tm, rn, hlt2', rk, r90, r91, mu, stP_aggL, r80, r81, w8, s90, s91]
        have hml : mid < M.length := (List.getElem?_eq_some_iff.1 mg.mp).1
        have keepO : ∀ id l, OwnR M id l → OwnR M9 id l := fun id l ho => by
          rw [hM9, hM8]
          refine (ho.set_ne fun e2 => ?_).set_ne fun e2 => ?_
          · subst e2
            have : M[mid]? = some (rowB l) := ho
            rw [mg.mp] at this
            cases this
          · subst e2
            have : M[m.length]? = some (rowB l) := ho
            rw [b6] at this
            cases this
        have gw9 : Gw mid m M9 := by rw [hM9, hM8]; exact (gw.set (.inr rfl) (by simp)).set (.inl (Nat.le_refl _)) (by simp)
        have mid9 : M9[mid]? = some ⟨.dead, e, .bool true :: (es1 ++ [.tuple #[.int .i64 first, .agg #[.int .i64 (costL k nx (dp k nx first)), .slice A ln cp]]])⟩ := by
          rw [hM9, List.getElem?_set_ne (Ne.symm hne6), hM8, List.getElem?_set_self hml]
        rw [← hn]
        refine ⟨_, gw9, hE.gw gw9 ⟨mid9, fun x v hv => ?_, ?_⟩, fun x hx => ?_, A, ln, cp, rfl, hrow.keep keepO⟩
        · rw [lkE_app] at hv
          cases hx : lkE es1 x with
          | some u =>
            rw [hx] at hv
            cases hv
            obtain ⟨j, h1, h2, h3⟩ := mg.ok x _ hx
            exact ⟨j, h1, h2, h3.keep keepO⟩
          | none =>
            rw [hx] at hv
            simp only [] at hv
            split at hv
            · rename_i hfx
              cases hv
              refine ⟨first, hfx.symm, by omega, ?_⟩
              rw [← hn]
              exact ⟨A, ln, cp, rfl, hrow.keep keepO⟩
            · cases hv
        · rw [lkE_app]
          have := mg.end_
          cases hx : lkE es1 k.need.length with
          | some u => rfl
          | none => rw [hx] at this; cases this
        · rw [lkE_app, hpre x (by omega)]
          cases lkE es x with
          | some u => rfl
          | none => rw [if_neg (by omega)]
end Go.Proofs.Ytamhhicnfpemeaa.Ab
end
section
namespace Go.Proofs.Ytamhhicnfpemeaa.Ab
open Go Go.RowKit
set_option linter.unusedVariables false
set_option linter.unusedSimpArgs false
def fromV (n : Nat) : Value := .func (.func 155) #[] #[.pointer (some ⟨n + 1 + 1 + 1, 0, none⟩), .pointer (some ⟨n, 0, none⟩), .pointer (some ⟨n + 1, 0, none⟩), .pointer (some ⟨n + 1 + 1 + 1 + 1, 0, none⟩)]
def fromM (t : TypeId) (k : Cs) (v1 v2 v3 v4 : Value) (n : Nat) (e1 e2 : TypeId) : Mem := [⟨.own, t, [v1, v2, v3, v4]⟩, ⟨.own, 3, [.int .i64 k.need.length]⟩, ⟨.dead, e1, [.bool true, .tuple #[.int .i64 k.need.length, .agg #[.int .i64 0, .slice none 0 0]]]⟩,
  ⟨.own, e1, [.map (some (n + 1 + 1))]⟩, ⟨.own, e2, [fromV n]⟩]
theorem lenv_new {M : Mem} {t e1 e2 : TypeId} {k : Cs} {v1 v2 v3 v4 : Value} (h : CaseA M (.agg #[v1, v2, v3, v4]) k) :
    LEnv k v1 v2 v3 v4 (M.length + 1 + 1 + 1) M.length (M.length + 1) (M.length + 1 + 1 + 1 + 1) (M.length + 1 + 1) e1 [.tuple #[.int .i64 k.need.length, .agg #[.int .i64 0, .slice none 0 0]]] (M ++ fromM t k v1 v2 v3 v4 M.length e1 e2) := by
  have at_ : ∀ i, (M ++ fromM t k v1 v2 v3 v4 M.length e1 e2)[M.length + i]? = (fromM t k v1 v2 v3 v4 M.length e1 e2)[i]? := fun i => by
    rw [List.getElem?_append_right (by omega), Nat.add_sub_cancel_left]
  have a0 := at_ 0
  rw [Nat.add_zero] at a0
  have a1 := at_ 1
  have a2 := at_ 2
  have a3 := at_ 3
  have a4 := at_ 4
  refine ⟨?_, ?_, ?_, ?_, ?_, h.ext _, ?_, ?_, ⟨?_, fun x v hv => ?_, ?_⟩⟩
  · unfold rdc; rw [show M.length + 1 + 1 + 1 = M.length + 3 from rfl, a3]; rfl
  · unfold rdc; rw [a0]; rfl
  · unfold rdc; rw [a0]; rfl
  · unfold rdc; rw [a0]; rfl
  · unfold rdc; rw [a0]; rfl
  · unfold rdc; rw [a1]; rfl
  · unfold rdc; rw [show M.length + 1 + 1 + 1 + 1 = M.length + 4 from rfl, a4]; rfl
  · rw [show M.length + 1 + 1 = M.length + 2 from rfl, a2]; rfl
  · simp only [lkE] at hv
    split at hv
    · rename_i hx
      cases hv
      refine ⟨k.need.length, hx.symm, Nat.le_refl _, none, 0, 0, ?_, ?_⟩
      · rw [dp_end k (Nat.le_refl _)]; rfl
      · rw [dp_end k (Nat.le_refl _)]; exact .inl ⟨rfl, rfl⟩
    · cases hv
  · simp [lkE]
theorem lotsFrom_rc (m : Mem) (v : Value) (k : Cs) (h : CaseA m v k) (hg : Good k) :
    RC Try.prog 126 [v] m fun r new => r = fromV m.length ∧ ∃ v1 v2 v3 v4 e1 e2, CaseA m (.agg #[v1, v2, v3, v4]) k ∧ new = fromM 30 k v1 v2 v3 v4 m.length e1 e2 := by
  refine rc_of_run mixed ok_impl_lotsFrom (by simp) (go_start _ _ _ ?_)
  obtain ⟨v1, v2, v3, v4, rfl, -, -, -, -⟩ := h.ok
  obtain ⟨w1, w2, w3, w4, he, h1, h2, h3, h4⟩ := h.ro.ok
  cases he
  have mu : ∀ {M : Mem} {e : TypeId} {x : Int} {v : Value} {id : Nat}, id = M.length → mupA (M ++ [⟨.dead, e, [.bool true]⟩]) (.map (some id)) (.int .i64 x) v = some (M ++ [⟨.dead, e, [.bool true, .tuple #[.int .i64 x, v]]⟩]) := fun {M e x v id} hid => by
    subst hid
    have := mupA_mp (M := M ++ [⟨.dead, e, [.bool true]⟩]) (mid := M.length) (e := e) (es := []) (by simp) (x := x) rfl v
    rw [this]; simp
  simp (config := {implicitDefEqProofs := false, maxDischargeDepth := 20}) (disch := first | omega | (simp only [lenE]; done) | (simp only [lenE]; omega) | rfl | (simp only [lenE, markR_len]; done) | (simp only [lenE, markR_len]; omega)) only [runE, mapE, listE, initT_5, initT_6, initT_7, initT_8, resV, oneV, binA, unA, reduceCtorEq, Nat.reduceEqDiff, Nat.reduceAdd, Nat.reduceLT, Nat.reduceLeDiff, Nat.reduceMul, Nat.reduceSub, ↓reduceIte, decide_true, decide_false, Bool.true_eq_false, Bool.false_eq_true, Bool.not_true, Bool.not_false, if_true, if_false, and_true, true_and, memE, celE, w64, Nat.zero_add, Nat.add_zero, Nat.mul_one, putL, and_self, ldn, c_impl_lotsFrom, r_impl_lotsFrom, h1.len, bld_nil, mu]
  refine ⟨fromM 30 k v1 v2 v3 v4 m.length 158 134, ?_, ?_, rfl, v1, v2, v3, v4, _, _, h, rfl⟩
  · simp only [List.append_assoc]; rfl
  · intro b hb
    simp only [fromM, List.mem_cons, List.not_mem_nil, or_false] at hb
    rcases hb with rfl | rfl | rfl | rfl | rfl <;> simp

theorem ext_gw {m M0 M : Mem} {mid : Nat} (h : Ext m M0) (hg : Gw mid M0 M) (hmid : m.length ≤ mid) : Ext m M := by
  obtain ⟨new, rfl, hn⟩ := h
  have hl := hg.len
  rw [List.length_append, roM_len] at hl
  refine ⟨M.drop m.length, ?_, fun b hb => ?_⟩
  · have : M.take m.length = roM m := by
      apply List.ext_getElem?
      intro i
      rw [List.getElem?_take]
      by_cases hi : i < m.length
      · rw [if_pos hi, hg.old i (by rw [List.length_append, roM_len]; omega) (by omega), List.getElem?_append_left (by rw [roM_len]; exact hi)]
      · rw [if_neg hi, List.getElem?_eq_none (by rw [roM_len]; omega)]
    rw [← this, List.take_append_drop]
  · obtain ⟨i, hi⟩ := List.mem_iff_getElem?.1 hb
    rw [List.getElem?_drop] at hi
    by_cases e : m.length + i = mid
    · rw [e] at hi; exact hg.at_ b hi
    · by_cases h2 : m.length + i < (roM m ++ new).length
      · rw [hg.old _ h2 e, List.getElem?_append_right (by rw [roM_len]; omega)] at hi
        exact hn b (List.mem_of_getElem? hi)
      · exact hg.new _ b (by omega) hi
def AnsP (m : Mem) (c : Int) (l : List Int) (r : Value) (new : Mem) : Prop := NoRo new ∧ ∃ A ln cp, r = .agg #[.int .i64 c, .slice A ln cp] ∧ ((A = none ∧ ln = 0 ∧ cp = 0 ∧ l = []) ∨
  ∃ id fl, A = some ⟨id, 0, none⟩ ∧ ln = l.length ∧ cp = fl ∧ m.length ≤ id ∧ OwnR (m ++ new) id l ∧ l.length ≤ 1048576)
theorem own_new {m new : Mem} {id : Nat} {l : List Int} (h : OwnR (roM m ++ new) id l) : m.length ≤ id ∧ OwnR (m ++ new) id l := by
  have hb : (roM m ++ new)[id]? = some (rowB l) := h
  by_cases hi : id < m.length
  · rw [List.getElem?_append_left (by rw [roM_len]; exact hi), roM, List.getElem?_map] at hb
    cases hm : m[id]? with
    | none => rw [hm] at hb; cases hb
    | some b =>
      rw [hm] at hb
      obtain ⟨kd, e, xs⟩ := b
      cases kd <;> simp [roB, rowB, deadB] at hb
  · refine ⟨by omega, ?_⟩
    show (m ++ new)[id]? = some (rowB l)
    rw [List.getElem?_append_right (by rw [roM_len]; omega), roM_len] at hb
    rw [List.getElem?_append_right (by omega)]
    exact hb
theorem ansP_of {m M : Mem} {c : Int} {l : List Int} {A : Option Addr} {ln cp : Nat} (h : Ext m M) (hr : RowV M (.slice A ln cp) l) : newQ m (AnsP m c l) (.agg #[.int .i64 c, .slice A ln cp]) M := by
  obtain ⟨new, rfl, hn⟩ := h
  refine ⟨new, rfl, hn, hn, A, ln, cp, rfl, ?_⟩
  rcases hr with ⟨h1, h2⟩ | ⟨id, fl, h1, h2, h3⟩
  · cases h1; exact .inl ⟨rfl, rfl, rfl, h2⟩
  · cases h1
    obtain ⟨h4, h5⟩ := own_new h2
    exact .inr ⟨id, _, rfl, rfl, rfl, h4, h5, h3⟩
theorem RowV.box {M : Mem} {v : Value} {l : List Int} (h : RowV M v l) {id : Nat} {t : TypeId} {cs : List Value} {b : Blk} (hb : M[id]? = some ⟨.own, t, cs⟩) (ht : t ≠ 3) : RowV (M.set id b) v l :=
  h.keep fun i l ho => ho.set_ne fun e2 => by
    subst e2
    have : M[id]? = some (rowB l) := ho
    rw [hb] at this
    cases this
    exact ht rfl
theorem bestLots_rc (m : Mem) (v : Value) (k : Cs) (h : CaseA m v k) (hg : Good k) : RC Try.prog 93 [v] m (AnsP m (bestCost k) (bestL k)) := by
  refine rc_of_run mixed ok_impl_bestLots (by simp) (go_start _ _ _ ?_)
  obtain ⟨v1, v2, v3, v4, rfl, h1, h2, h3, h4⟩ := h.ro.ok
  have hc : CaseA (roM m) (.agg #[v1, v2, v3, v4]) k := ⟨_, _, _, _, rfl, h1, h2, h3, h4⟩
  have h8 := hg.n8
  simp (config := {implicitDefEqProofs := false, maxDischargeDepth := 20}) (disch := first | omega | (simp only [lenE]; done) | (simp only [lenE]; omega) | rfl | (simp only [lenE, markR_len]; done) | (simp only [lenE, markR_len]; omega)) only [runE, mapE, listE, initT_5, initT_6, initT_7, initT_8, resV, oneV, binA, unA, reduceCtorEq, Nat.reduceEqDiff, Nat.reduceAdd, Nat.reduceLT, Nat.reduceLeDiff, Nat.reduceMul, Nat.reduceSub, ↓reduceIte, decide_true, decide_false, Bool.true_eq_false, Bool.false_eq_true, Bool.not_true, Bool.not_false, if_true, if_false, and_true, true_and, memE, celE, w64, Nat.zero_add, Nat.add_zero, Nat.mul_one, putL, and_self, ldn, c_impl_bestLots, r_impl_bestLots]
  obtain ⟨M0, hM0⟩ : ∃ M0, M0 = roM m ++ [⟨.own, 30, [v1, v2, v3, v4]⟩] ++ [⟨.own, 103, [.int .i64 0, .slice none 0 0]⟩] := ⟨_, rfl⟩
  have L0 : M0.length = m.length + 1 + 1 := by rw [hM0]; simp [roM_len]
  have hx0 : Grow (roM m ++ [⟨.own, 30, [v1, v2, v3, v4]⟩]) M0 := by rw [hM0]; exact (Grow.refl _).one _ _
  have x0 : Ext m M0 := hx0.ext
  have b2 : M0[m.length + 1]? = some ⟨.own, 103, [.int .i64 0, .slice none 0 0]⟩ := by rw [hM0, List.getElem?_append_right (by simp [roM_len])]; simp [roM_len]
  obtain ⟨q0, -, -, -, hlM⟩ := hx0.box4
  rw [← hM0]
  refine callH_rc (lotsFrom_rc _ _ k (hx0.caseV hc) hg) ?_
  rintro r new ⟨rfl, w1, w2, w3, w4, e1, e2, hcw, rfl⟩
  have hE := lenv_new (t := 30) (e1 := e1) (e2 := e2) hcw
  obtain ⟨N, hN⟩ : ∃ N, N = M0.length := ⟨_, rfl⟩
  have nrF : NoRo (fromM 30 k w1 w2 w3 w4 M0.length e1 e2) := by
    intro b hb
    simp only [fromM, List.mem_cons, List.not_mem_nil, or_false] at hb
    rcases hb with rfl | rfl | rfl | rfl | rfl <;> simp
  obtain ⟨M1, hM1⟩ : ∃ M1, M1 = M0 ++ fromM 30 k w1 w2 w3 w4 M0.length e1 e2 := ⟨_, rfl⟩
  have x1 : Ext m M1 := by rw [hM1]; exact x0.app nrF
  have b21 : M1[m.length + 1]? = some ⟨.own, 103, [.int .i64 0, .slice none 0 0]⟩ := by rw [hM1, List.getElem?_append_left (by omega)]; exact b2
  have q01 : rdc M1 m.length 0 = some v1 := by rw [hM1]; exact rdc_ext q0
  have i11 : IntsA M1 v1 k.need := by rw [hM1]; exact (hx0.intsV h1).ext _
  rw [← hM1] at hE ⊢
  rw [← hN] at hE ⊢
  have hfr : fromV N = .func (.func 155) #[] #[.pointer (some ⟨N + 1 + 1 + 1, 0, none⟩), .pointer (some ⟨N, 0, none⟩), .pointer (some ⟨N + 1, 0, none⟩), .pointer (some ⟨N + 1 + 1 + 1 + 1, 0, none⟩)] := rfl
  have d1 := hE.g.mp
  have g1 : Gw (N + 1 + 1) M1 M1 := Gw.refl fun b hb => by rw [d1] at hb; cases hb; simp
  simp (config := {implicitDefEqProofs := false, maxDischargeDepth := 20}) (disch := first | omega | (simp only [lenE]; done) | (simp only [lenE]; omega) | rfl | (simp only [lenE, markR_len]; done) | (simp only [lenE, markR_len]; omega)) only [runE, mapE, listE, initT_5, initT_6, initT_7, initT_8, resV, oneV, binA, unA, reduceCtorEq, Nat.reduceEqDiff, Nat.reduceAdd, Nat.reduceLT, Nat.reduceLeDiff, Nat.reduceMul, Nat.reduceSub, ↓reduceIte, decide_true, decide_false, Bool.true_eq_false, Bool.false_eq_true, Bool.not_true, Bool.not_false, if_true, if_false, and_true, true_and, memE, celE, w64, Nat.zero_add, Nat.add_zero, Nat.mul_one, putL, and_self, ldn, hfr]
  refine callH_ac (from_ac k hg w1 w2 w3 w4 (N + 1 + 1 + 1) N (N + 1) (N + 1 + 1 + 1 + 1) (N + 1 + 1) e1 k.need.length 0 M1 _ (by omega) hE) ?_
  rintro r M2 ⟨es2, gw2, hE2, hpre2, A2, ln2, cp2, rfl, hrow2⟩
  obtain ⟨n, hn⟩ : ∃ n, n = k.need.length := ⟨_, rfl⟩
  rw [← hn] at hrow2 h8 ⊢
  simp (config := {implicitDefEqProofs := false, maxDischargeDepth := 20}) (disch := first | omega | (simp only [lenE]; done) | (simp only [lenE]; omega) | rfl | (simp only [lenE, markR_len]; done) | (simp only [lenE, markR_len]; omega)) only [runE, mapE, listE, initT_5, initT_6, initT_7, initT_8, resV, oneV, binA, unA, reduceCtorEq, Nat.reduceEqDiff, Nat.reduceAdd, Nat.reduceLT, Nat.reduceLeDiff, Nat.reduceMul, Nat.reduceSub, ↓reduceIte, decide_true, decide_false, Bool.true_eq_false, Bool.false_eq_true, Bool.not_true, Bool.not_false, if_true, if_false, and_true, true_and, memE, celE, w64, Nat.zero_add, Nat.add_zero, Nat.mul_one, putL, and_self, ldn, stP_aggL]
  have l12 := gw2.len
  have L1 : M1.length = N + 1 + 1 + 1 + 1 + 1 := by rw [hM1, List.length_append, ← hN]; rfl
  rw [L0] at hN
  have g22 := gw2.one 103 [.int .i64 (costL k n (dp k n 0)), .slice A2 ln2 cp2]
  have mg22 := hE2.g.app [⟨.own, 103, [.int .i64 (costL k n (dp k n 0)), .slice A2 ln2 cp2]⟩]
  have hrow22 : RowV (M2 ++ [⟨.own, 103, [.int .i64 (costL k n (dp k n 0)), .slice A2 ln2 cp2]⟩]) (.slice A2 ln2 cp2) (dp k n 0) := hrow2.keep fun id l ho => ho.ext _
  refine loop_inv mixed (fun s => ∃ (t : Nat) (M : Mem) (es : List Value) (A : Option Addr) (ln cp : Nat), t ≤ n ∧ (∀ j, j < t → k.need.getD j 0 = 0) ∧ s.t 1 = .pointer (some ⟨m.length, 0, none⟩) ∧ s.t 2 = .pointer (some ⟨m.length + 1, 0, none⟩) ∧
      s.t 3 = .func (.func 155) #[] #[.pointer (some ⟨N + 1 + 1 + 1, 0, none⟩), .pointer (some ⟨N, 0, none⟩), .pointer (some ⟨N + 1, 0, none⟩), .pointer (some ⟨N + 1 + 1 + 1 + 1, 0, none⟩)] ∧ s.t 4 = .pointer (some ⟨M2.length, 0, none⟩) ∧ s.t 5 = .int .i64 t ∧ s.m = M ∧
      Gw (N + 1 + 1) M1 M ∧ MG k (N + 1 + 1) e1 es M ∧ M[M2.length]? = some ⟨.own, 103, [.int .i64 (costL k n (blF k n t)), .slice A ln cp]⟩ ∧ RowV M (.slice A ln cp) (blF k n t)) (fun s => n - (intOf (s.t 5)).toNat)
    ⟨0, _, es2, A2, ln2, cp2, by omega, fun j hj => absurd hj (by omega), rfl, rfl, rfl, rfl, rfl, rfl, g22, mg22, by simp only [put_t, put_t', put_m, putT_t, putT_t', putT_m, init_t, init_m, initT_0, initT_1, initT_2, initT_3, initT_4, initT_5, initT_6, initT_7, initT_8, Nat.reduceEqDiff, ↓reduceIte]; rw [blF]; simp, by simp only [put_t, put_t', put_m, putT_t, putT_t', putT_m, init_t, init_m, initT_0, initT_1, initT_2, initT_3, initT_4, initT_5, initT_6, initT_7, initT_8, Nat.reduceEqDiff, ↓reduceIte]; rw [blF]; exact hrow22⟩ ?_
  rintro s ⟨t, M, es, A, ln, cp, htn, hz, t1, t2, t3, t4, t5, tm, gw, mg, b4, hrow⟩
  have hE1 := hE.gw gw mg
  have q0 := gw.rd d1 q01
  have i1 := gw.ints d1 i11
  have il := i1.len
  rw [← hn] at il
  have b2M := gw.blk b21 (by omega)
  have r40 := rd_own (k := 0) b4
  have r41 := rd_own (k := 1) b4
  have fin : ∀ (T : Nat), T = t → (T = n ∨ (T < n ∧ k.need.getD T 0 ≠ 0)) → ∀ M9, M9 = M.set (m.length + 1) ⟨.own, 103, [.int .i64 (costL k n (blF k n t)), .slice A ln cp]⟩ → newQ m (AnsP m (bestCost k) (bestL k)) (.agg #[.int .i64 (costL k n (blF k n t)), .slice A ln cp]) M9 := by
    intro T hT hTn M9 h9
    subst hT
    have hb := bestL_dp hg (T := T) (by omega) hz (by rw [← hn]; exact hTn)
    rw [hb.1, hb.2, ← hn]
    refine ansP_of ?_ ?_
    · rw [h9]; exact (ext_gw x1 gw (by omega)).put (by omega) _ _
    · rw [h9]; exact hrow.box b2M (by decide)
  have wr := st2_own b2M (costL k n (blF k n t)) A ln cp
  obtain ⟨M9, hM9⟩ : ∃ M9, M9 = M.set (m.length + 1) ⟨.own, 103, [.int .i64 (costL k n (blF k n t)), .slice A ln cp]⟩ := ⟨_, rfl⟩
  rw [← hM9] at wr
  have b99 : M9[m.length + 1]? = some ⟨.own, 103, [.int .i64 (costL k n (blF k n t)), .slice A ln cp]⟩ := by rw [hM9, List.getElem?_set_self (List.getElem?_eq_some_iff.1 b2M).1]
  have s90 := rd_own (k := 0) b99
  have s91 := rd_own (k := 1) b99
  by_cases hlt : t < n
  · have hlt' : (t : Int) < n := by omega
    have ai := i1.at_ t (by omega)
    have li := i1.ld t (by omega)
    by_cases hzt : k.need.getD t 0 = 0
    · have hzt' : (k.need.getD t 0 == 0) = true := by rw [hzt]; rfl
      obtain ⟨t', ht'⟩ : ∃ t', t' = t + 1 := ⟨_, rfl⟩
      have et : (t : Int) + 1 = (t' : Int) := by omega
      simp (config := {implicitDefEqProofs := false, maxDischargeDepth := 20}) (disch := first | omega | (simp only [lenE]; done) | (simp only [lenE]; omega) | rfl | (simp only [lenE, markR_len]; done) | (simp only [lenE, markR_len]; omega)) only [runE, mapE, listE, initT_5, initT_6, initT_7, initT_8, resV, oneV, binA, unA, reduceCtorEq, Nat.reduceEqDiff, Nat.reduceAdd, Nat.reduceLT, Nat.reduceLeDiff, Nat.reduceMul, Nat.reduceSub, ↓reduceIte, decide_true, decide_false, Bool.true_eq_false, Bool.false_eq_true, Bool.not_true, Bool.not_false, if_true, if_false, and_true, true_and, memE, celE, w64, Nat.zero_add, Nat.add_zero, Nat.mul_one, putL, and_self, ldn, t1, t2, t3, t4, t5, tm, q0, il, hlt', ai, li, hzt', et]
      refine callH_ac (from_ac k hg w1 w2 w3 w4 (N + 1 + 1 + 1) N (N + 1) (N + 1 + 1 + 1 + 1) (N + 1 + 1) e1 (n - t') t' M es (by omega) hE1) ?_
      rintro r M3 ⟨es3, gw3, hE3, hpre3, A3, ln3, cp3, rfl, hrow3⟩
      rw [← hn] at hrow3 ⊢
      have hgw := gw.trans gw3
      have b43 := gw3.blk b4 (by omega)
      have hl43 := (List.getElem?_eq_some_iff.1 b43).1
      have r430 := rd_own (k := 0) b43
      have r431 := rd_own (k := 1) b43
      have hrow43 := hrow.keep fun id l ho => gw3.own hE1.g.mp ho
      simp (config := {implicitDefEqProofs := false, maxDischargeDepth := 20}) (disch := first | omega | (simp only [lenE]; done) | (simp only [lenE]; omega) | rfl | (simp only [lenE, markR_len]; done) | (simp only [lenE, markR_len]; omega)) only [runE, mapE, listE, initT_5, initT_6, initT_7, initT_8, resV, oneV, binA, unA, reduceCtorEq, Nat.reduceEqDiff, Nat.reduceAdd, Nat.reduceLT, Nat.reduceLeDiff, Nat.reduceMul, Nat.reduceSub, ↓reduceIte, decide_true, decide_false, Bool.true_eq_false, Bool.false_eq_true, Bool.not_true, Bool.not_false, if_true, if_false, and_true, true_and, memE, celE, w64, Nat.zero_add, Nat.add_zero, Nat.mul_one, putL, and_self, ldn, t1, t2, t3, t4, t5, stP_aggL, r430, r431]
      refine callH_rc (comesBefore_rc _ _ _ _ _ (dp k n t') (blF k n t) (hrow3.ints.ext _) (hrow43.ints.ext _)) ?_
      rintro r new6 ⟨rfl, nr6⟩
      obtain ⟨M6, hM6⟩ : ∃ M6, M6 = M3 ++ [⟨.own, 103, [.int .i64 (costL k n (dp k n t')), .slice A3 ln3 cp3]⟩] ++ new6 := ⟨_, rfl⟩
      have g6 : Gw (N + 1 + 1) M1 M6 := by rw [hM6]; exact (hgw.one _ _).app nr6
      have mg6 : MG k (N + 1 + 1) e1 es3 M6 := by rw [hM6]; exact (hE3.g.app _).app _
      have b46 : M6[M2.length]? = some ⟨.own, 103, [.int .i64 (costL k n (blF k n t)), .slice A ln cp]⟩ := by
        rw [hM6, List.append_assoc, List.getElem?_append_left hl43]; exact b43
      have b66 : M6[M3.length]? = some ⟨.own, 103, [.int .i64 (costL k n (dp k n t')), .slice A3 ln3 cp3]⟩ := by rw [hM6, List.append_assoc]; simp
      have hrow6 : RowV M6 (.slice A ln cp) (blF k n t) := by rw [hM6]; exact hrow43.keep fun id l ho => (ho.ext _).ext _
      have hrow36 : RowV M6 (.slice A3 ln3 cp3) (dp k n t') := by rw [hM6]; exact hrow3.keep fun id l ho => (ho.ext _).ext _
      have r60 := rd_own (k := 0) b66
      have r61 := rd_own (k := 1) b66
      have w6 := st2_own b46 (costL k n (dp k n t')) A3 ln3 cp3
      have hbl : blF k n t' = if bef (costL k n (dp k n t'), dp k n t') (costL k n (blF k n t), blF k n t) = true then dp k n t' else blF k n t := by rw [ht', blF]
      have hz' : ∀ j, j < t' → k.need.getD j 0 = 0 := fun j hj => by
        by_cases e : j = t
        · rw [e]; exact hzt
        · exact hz j (by omega)
      rw [← hM6]
      cases hb : bef (costL k n (dp k n t'), dp k n t') (costL k n (blF k n t), blF k n t) with
      | false =>
        rw [hb, if_neg (by simp)] at hbl
        simp (config := {implicitDefEqProofs := false, maxDischargeDepth := 20}) (disch := first | omega | (simp only [lenE]; done) | (simp only [lenE]; omega) | rfl | (simp only [lenE, markR_len]; done) | (simp only [lenE, markR_len]; omega)) only [runE, mapE, listE, initT_5, initT_6, initT_7, initT_8, resV, oneV, binA, unA, reduceCtorEq, Nat.reduceEqDiff, Nat.reduceAdd, Nat.reduceLT, Nat.reduceLeDiff, Nat.reduceMul, Nat.reduceSub, ↓reduceIte, decide_true, decide_false, Bool.true_eq_false, Bool.false_eq_true, Bool.not_true, Bool.not_false, if_true, if_false, and_true, true_and, memE, celE, w64, Nat.zero_add, Nat.add_zero, Nat.mul_one, putL, and_self, ldn, t1, t2, t3, t4, t5, et]
        exact ⟨⟨t', M6, es3, A, ln, cp, by omega, hz', by simp, rfl, g6, mg6, by rw [hbl]; exact b46, by rw [hbl]; exact hrow6⟩, by simp [intOf]; omega⟩
      | true =>
        rw [hb, if_pos rfl] at hbl
        simp (config := {implicitDefEqProofs := false, maxDischargeDepth := 20}) (disch := first | omega | (simp only [lenE]; done) | (simp only [lenE]; omega) | rfl | (simp only [lenE, markR_len]; done) | (simp only [lenE, markR_len]; omega)) only [runE, mapE, listE, initT_5, initT_6, initT_7, initT_8, resV, oneV, binA, unA, reduceCtorEq, Nat.reduceEqDiff, Nat.reduceAdd, Nat.reduceLT, Nat.reduceLeDiff, Nat.reduceMul, Nat.reduceSub, ↓reduceIte, decide_true, decide_false, Bool.true_eq_false, Bool.false_eq_true, Bool.not_true, Bool.not_false, if_true, if_false, and_true, true_and, memE, celE, w64, Nat.zero_add, Nat.add_zero, Nat.mul_one, putL, and_self, ldn, t1, t2, t3, t4, t5, et, r60, r61, stP_aggL, w6]
        refine ⟨⟨t', _, es3, A3, ln3, cp3, by omega, hz', by simp, rfl, g6.set (.inl (by omega)) (by simp), mg6.box b46 (by decide), ?_, by rw [hbl]; exact hrow36.box b46 (by decide)⟩, by simp [intOf]; omega⟩
        rw [hbl, List.getElem?_set_self (List.getElem?_eq_some_iff.1 b46).1]
    · have hzt' : (k.need.getD t 0 == 0) = false := by simpa using hzt
      simp (config := {implicitDefEqProofs := false, maxDischargeDepth := 20}) (disch := first | omega | (simp only [lenE]; done) | (simp only [lenE]; omega) | rfl | (simp only [lenE, markR_len]; done) | (simp only [lenE, markR_len]; omega)) only [runE, mapE, listE, initT_5, initT_6, initT_7, initT_8, resV, oneV, binA, unA, reduceCtorEq, Nat.reduceEqDiff, Nat.reduceAdd, Nat.reduceLT, Nat.reduceLeDiff, Nat.reduceMul, Nat.reduceSub, ↓reduceIte, decide_true, decide_false, Bool.true_eq_false, Bool.false_eq_true, Bool.not_true, Bool.not_false, if_true, if_false, and_true, true_and, memE, celE, w64, Nat.zero_add, Nat.add_zero, Nat.mul_one, putL, and_self, ldn, t1, t2, t3, t4, t5, tm, q0, il, hlt', ai, li, hzt', r40, r41, stP_aggL, wr, s90, s91]
      exact fin t rfl (.inr ⟨hlt, hzt⟩) M9 hM9
  · have hlt' : ¬ ((t : Int) < n) := by omega
    simp (config := {implicitDefEqProofs := false, maxDischargeDepth := 20}) (disch := first | omega | (simp only [lenE]; done) | (simp only [lenE]; omega) | rfl | (simp only [lenE, markR_len]; done) | (simp only [lenE, markR_len]; omega)) only [runE, mapE, listE, initT_5, initT_6, initT_7, initT_8, resV, oneV, binA, unA, reduceCtorEq, Nat.reduceEqDiff, Nat.reduceAdd, Nat.reduceLT, Nat.reduceLeDiff, Nat.reduceMul, Nat.reduceSub, ↓reduceIte, decide_true, decide_false, Bool.true_eq_false, Bool.false_eq_true, Bool.not_true, Bool.not_false, if_true, if_false, and_true, true_and, memE, celE, w64, Nat.zero_add, Nat.add_zero, Nat.mul_one, putL, and_self, ldn, t1, t2, t3, t4, t5, tm, q0, il, hlt', r40, r41, stP_aggL, wr, s90, s91, goG_undef]
    exact fin t rfl (.inl (by omega)) M9 hM9

end Go.Proofs.Ytamhhicnfpemeaa.Ab
end
section
namespace Go.Proofs.Ytamhhicnfpemeaa.Ab
open Go Go.RowKit
set_option linter.unusedVariables false
set_option linter.unusedSimpArgs false
theorem VR.nilRow {ρ : Places} {id : Nat} {p : Nat × Nat × Nat} (h : ρ[id]? = some p) : VR ρ (.slice (some ⟨id, 0, none⟩) 0 0) (.slice none 0 0) := by
  obtain ⟨b, o, t⟩ := p
  exact .sl h (Nat.le_refl _) (by unfold maxLen; omega) (fun _ h => absurd h (by omega)) (fun h => absurd h (by omega))
theorem rc_nilRow {P : Program} {f : FuncId} {args : List Value} {m : Mem} {Q : Value → Mem → Prop} {ok : Bool} {p : Prop} (h : RC P f args m fun r new => Q r new ∨ (p ∧ NoRo new ∧ r = .tuple #[.slice none 0 0, .bool ok]))
    (hq : ∀ new, p → NoRo new → Q (.tuple #[.slice (some ⟨m.length + new.length, 0, none⟩) 0 0, .bool ok]) (new ++ [⟨.own, 3, []⟩])) : RC P f args m Q := by
  refine ⟨h.1, fun ρ w cargs hm hv => (h.2 ρ w cargs hm hv).mono ?_⟩
  rintro e w' ⟨v, v', new, ρn, he, hQ | ⟨hp, hn, rfl⟩, hnn, hm2, hvr⟩
  · exact ⟨v, v', new, ρn, he, hQ, hnn, hm2, hvr⟩
  have hm3 := hm2.add (e := 3) (xs := []) (g := 0) (tot := 0) (by simp) (fun h => absurd h (by omega)) (fun h => absurd h (by omega))
  refine ⟨_, v', new ++ [⟨.own, 3, []⟩], ρn ++ [(0, 0, 0)], he, hq new hp hn, noRo_app hn (noRo_own noRo_nil), ?_, ?_⟩
  · rw [← List.append_assoc, ← List.append_assoc]; exact hm3
  · have hlen : (ρ ++ ρn).length = m.length + new.length := by rw [hm2.len]; simp [roM_len]
    rw [← List.append_assoc]
    cases hvr with
    | tup hs hh =>
      rename_i ds
      refine .tup (by simpa using hs) fun i x y hx hy => ?_
      match i with
      | 0 =>
        have h0 := hh 0 (.slice none 0 0) y rfl hy
        simp at hx
        subst hx
        cases h0
        exact VR.nilRow (p := (0, 0, 0)) (by rw [← hlen]; simp)
      | 1 =>
        have h1 := hh 1 (.bool ok) y rfl hy
        simp at hx
        subst hx
        cases h1
        exact .bool _
      | i + 2 => simp at hx
theorem implBestPeriods_pre (m : Mem) (v : Value) (k : Cs) (h : CaseA m v k) : RC Try.prog 115 [v] m fun r new => AnsL m (bestPA k) k.good r new ∨ (bestPA k = [] ∧ NoRo new ∧ r = .tuple #[.slice none 0 0, .bool k.good]) := by
  refine rc_of_run mixed ok_impl_BestPeriods (by simp) (go_start _ _ _ ?_)
  obtain ⟨v1, v2, v3, v4, rfl, h1, h2, h3, h4⟩ := h.ro.ok
  have hc : CaseA (roM m) (.agg #[v1, v2, v3, v4]) k := ⟨_, _, _, _, rfl, h1, h2, h3, h4⟩
  have up : ∀ {M : Mem} {v : Value} {l : List Int} {ok : Bool}, newQ m (AnsL m l ok) v M → newQ m (fun r new => AnsL m l ok r new ∨ (l = [] ∧ NoRo new ∧ r = .tuple #[.slice none 0 0, .bool ok])) v M := by
    rintro M v l ok ⟨new, h1, h2, h3⟩
    exact ⟨new, h1, h2, .inl h3⟩
  simp (config := {implicitDefEqProofs := false, maxDischargeDepth := 20}) (disch := first | omega | (simp only [lenE]; done) | (simp only [lenE]; omega) | rfl | (simp only [lenE, markR_len]; done) | (simp only [lenE, markR_len]; omega)) only [runE, mapE, listE, initT_5, initT_6, initT_7, initT_8, resV, oneV, binA, unA, reduceCtorEq, Nat.reduceEqDiff, Nat.reduceAdd, Nat.reduceLT, Nat.reduceLeDiff, Nat.reduceMul, Nat.reduceSub, ↓reduceIte, decide_true, decide_false, Bool.true_eq_false, Bool.false_eq_true, Bool.not_true, Bool.not_false, if_true, if_false, and_true, true_and, memE, celE, w64, Nat.zero_add, Nat.add_zero, Nat.mul_one, putL, and_self, ldn, c_impl_BestPeriods, r_impl_BestPeriods]
  refine callH_rc (implIsCase_rc _ _ k (hc.ext _)) ?_
  rintro r new ⟨rfl, nr1⟩
  have hx : Grow (roM m ++ [⟨.own, 30, [v1, v2, v3, v4]⟩]) (roM m ++ [⟨.own, 30, [v1, v2, v3, v4]⟩] ++ new) := (Grow.refl _).app nr1
  cases hg : k.good with
  | false =>
    simp (config := {implicitDefEqProofs := false, maxDischargeDepth := 20}) (disch := first | omega | (simp only [lenE]; done) | (simp only [lenE]; omega) | rfl | (simp only [lenE, markR_len]; done) | (simp only [lenE, markR_len]; omega)) only [runE, mapE, listE, initT_5, initT_6, initT_7, initT_8, resV, oneV, binA, unA, reduceCtorEq, Nat.reduceEqDiff, Nat.reduceAdd, Nat.reduceLT, Nat.reduceLeDiff, Nat.reduceMul, Nat.reduceSub, ↓reduceIte, decide_true, decide_false, Bool.true_eq_false, Bool.false_eq_true, Bool.not_true, Bool.not_false, if_true, if_false, and_true, true_and, memE, celE, w64, Nat.zero_add, Nat.add_zero, Nat.mul_one, putL, and_self, ldn, bsl_none]
    rw [bestPA_no hg]
    refine up (ext_ansL (hx.ext.one _ _) (OwnR.end' (l := []) ?_) (by omega) rfl (by simp))
    simp only [List.length_append, List.length_cons, List.length_nil, roM_len]
  | true =>
    have gd := good_iff.1 hg
    rw [bestPA_yes hg]
    simp (config := {implicitDefEqProofs := false, maxDischargeDepth := 20}) (disch := first | omega | (simp only [lenE]; done) | (simp only [lenE]; omega) | rfl | (simp only [lenE, markR_len]; done) | (simp only [lenE, markR_len]; omega)) only [runE, mapE, listE, initT_5, initT_6, initT_7, initT_8, resV, oneV, binA, unA, reduceCtorEq, Nat.reduceEqDiff, Nat.reduceAdd, Nat.reduceLT, Nat.reduceLeDiff, Nat.reduceMul, Nat.reduceSub, ↓reduceIte, decide_true, decide_false, Bool.true_eq_false, Bool.false_eq_true, Bool.not_true, Bool.not_false, if_true, if_false, and_true, true_and, memE, celE, w64, Nat.zero_add, Nat.add_zero, Nat.mul_one, putL, and_self, ldn]
    refine callH_rc (bestLots_rc _ _ k (hx.caseV hc) gd) ?_
    rintro r new2 ⟨nr2, A, ln, cp, rfl, hrow⟩
    have f1 : fldA 1 none (.agg #[.int .i64 (bestCost k), .slice A ln cp]) = some (.slice A ln cp) := rfl
    simp (config := {implicitDefEqProofs := false, maxDischargeDepth := 20}) (disch := first | omega | (simp only [lenE]; done) | (simp only [lenE]; omega) | rfl | (simp only [lenE, markR_len]; done) | (simp only [lenE, markR_len]; omega)) only [runE, mapE, listE, initT_5, initT_6, initT_7, initT_8, resV, oneV, binA, unA, reduceCtorEq, Nat.reduceEqDiff, Nat.reduceAdd, Nat.reduceLT, Nat.reduceLeDiff, Nat.reduceMul, Nat.reduceSub, ↓reduceIte, decide_true, decide_false, Bool.true_eq_false, Bool.false_eq_true, Bool.not_true, Bool.not_false, if_true, if_false, and_true, true_and, memE, celE, w64, Nat.zero_add, Nat.add_zero, Nat.mul_one, putL, and_self, ldn, f1]
    have hxx := (hx.app nr2).ext
    rcases hrow with ⟨rfl, rfl, rfl, hl⟩ | ⟨id, fl, rfl, rfl, rfl, h1, h2, h3⟩
    · obtain ⟨new3, e3, n3⟩ := hxx
      rw [e3]
      exact ⟨new3, rfl, n3, .inr ⟨hl, n3, rfl⟩⟩
    · have := hx.ext.len
      exact up (ext_ansL hxx h2 (by omega) rfl h3)
theorem implBestPeriods_rc (m : Mem) (v : Value) (k : Cs) (h : CaseA m v k) : RC Try.prog 115 [v] m (AnsL m (bestPA k) k.good) := by
  refine rc_nilRow (implBestPeriods_pre m v k h) fun new hp hn => ?_
  rw [hp]
  exact ⟨noRo_app hn (noRo_own noRo_nil), by simp, new.length, 0, rfl, by simp [rowB]⟩
end Go.Proofs.Ytamhhicnfpemeaa.Ab
end
section
namespace Go.Proofs.Ytamhhicnfpemeaa.Ab
open Go Go.RowKit
set_option linter.unusedVariables false
set_option linter.unusedSimpArgs false
theorem bestL_cov {k : Cs} (hg : Good k) : covers k.need (bestL k) = true := by
  obtain ⟨y, hr, hc⟩ : ∃ y, Rising y k.need.length ∧ covers k.need y = true := by
    by_cases h0 : k.need.length = 0
    · exact ⟨[], ⟨fun i hi => absurd hi (by simp), fun i hi => absurd hi (by simp)⟩, decide_eq_true fun t ht => absurd ht (by omega)⟩
    · refine ⟨[0], ⟨fun i hi => ?_, fun i hi => absurd hi (by simp)⟩, decide_eq_true fun t ht hl => absurd hl (by simp)⟩
      have : i = 0 := by simp at hi; omega
      subst this
      simp; omega
  obtain ⟨c', h1, h2⟩ := bits_all _ y hr
  rcases bestC_min hg (2 ^ k.need.length) with ⟨_, h3⟩ | ⟨h3, _⟩
  · rw [h2] at hc
    rw [h3 c' h1] at hc
    cases hc
  · obtain ⟨⟨c2, g1, g2, g3⟩, _⟩ := h3
    exact g3
def swNeed (c : Ch) : Nat → List Int
  | 0 => c.need
  | k + 1 => fromL (swNeed c k) (bestL (evenC (swNeed c k) (c.setup.getD (c.setup.length - 1 - k) 0) (c.hold.getD (c.setup.length - 1 - k) 0)))
def swCase (c : Ch) (k : Nat) : Cs := evenC (swNeed c k) (c.setup.getD (c.setup.length - 1 - k) 0) (c.hold.getD (c.setup.length - 1 - k) 0)
theorem swNeed_s (c : Ch) (k : Nat) : swNeed c (k + 1) = fromL (swNeed c k) (bestL (swCase c k)) := rfl
theorem swNeed_len (c : Ch) (k : Nat) : (swNeed c k).length = c.need.length := by
  induction k with
  | zero => rfl
  | succ k ih => rw [swNeed_s, fromL_len, ih]
def swOk (c : Ch) : Bool := c.good && (List.range c.setup.length).all fun k => (swCase c k).good
def swT (c : Ch) (k : Nat) : List (List Int) := (List.range k).map fun i => swNeed c (k - i)
theorem swT_len (c : Ch) (k : Nat) : (swT c k).length = k := by simp [swT]
theorem swT_s (c : Ch) (k : Nat) : swT c (k + 1) = swNeed c (k + 1) :: swT c k := by
  unfold swT
  rw [List.range_succ_eq_map, List.map_cons, List.map_map]
  congr 1
  apply List.map_congr_left
  intro i hi
  show swNeed c (k + 1 - (i + 1)) = swNeed c (k - i)
  congr 1; omega
theorem swT_at {c : Ch} {k j : Nat} (h : j < k) : (swT c k).getD j [] = swNeed c (k - j) := by simp [swT, List.getD_eq_getElem?_getD, h]
theorem swT_sz {c : Ch} {k : Nat} (h3 : k ≤ 3) (n6 : c.need.length ≤ 6) : tsz (swT c k) (swT c k).length ≤ 1048576 := by
  have := tsz_bd (T := swT c k) (n := 6) (fun j hj => by
    rw [swT_len] at hj
    rw [swT_at hj, swNeed_len]; exact n6) (swT c k).length (Nat.le_refl _)
  rw [swT_len] at this ⊢
  omega
def swA (c : Ch) : List (List Int) := if swOk c then swT c c.setup.length else []
theorem swA_no {c : Ch} (h : swOk c = false) : swA c = [] := by unfold swA; rw [h]; rfl
theorem swA_yes {c : Ch} (h : swOk c = true) : swA c = swT c c.setup.length := by unfold swA; rw [h]; rfl
theorem sw_no {c : Ch} {k : Nat} (hk : k < c.setup.length) (h : (swCase c k).good = false) : swOk c = false := by
  unfold swOk
  rw [all_range_no (f := fun k => (swCase c k).good) hk h]; simp
theorem specSw_rc (m : Mem) (v : Value) (c : Ch) (h : ChA m v c) : RC Try.prog 65 [v] m (AnsO m (TabO (swA c)) fun v => .tuple #[v, .bool (swOk c)]) := by
  refine rc_of_run mixed ok_spec_StagewisePlan (by simp) (go_start _ _ _ ?_)
  obtain ⟨a, b, d, rfl, ha, hb, hd⟩ := h.ro
  obtain ⟨M0, hM0⟩ : ∃ M0, M0 = roM m ++ [⟨.own, 26, [a, b, d]⟩] ++ [⟨.own, 24, []⟩] := ⟨_, rfl⟩
  have L0 : M0.length = m.length + 2 := by rw [hM0]; simp [roM_len]
  have hX0 : Ext m M0 := by rw [hM0]; exact ((Ext.refl m).one _ _).one _ _
  have b0 : OwnB M0 m.length 26 [a, b, d] := by rw [hM0]; exact (OwnB.here (roM_len m).symm).ext _
  have t0' : OwnB M0 (m.length + 1) 24 [] := by rw [hM0]; exact OwnB.here (by simp [roM_len])
  simp (config := {implicitDefEqProofs := false, maxDischargeDepth := 20}) (disch := first | omega | (simp only [lenE]; done) | (simp only [lenE]; omega) | rfl | (simp only [lenE, markR_len]; done) | (simp only [lenE, markR_len]; omega)) only [runE, mapE, listE, initT_5, initT_6, initT_7, initT_8, resV, oneV, binA, unA, reduceCtorEq, Nat.reduceEqDiff, Nat.reduceAdd, Nat.reduceLT, Nat.reduceLeDiff, Nat.reduceMul, Nat.reduceSub, ↓reduceIte, decide_true, decide_false, Bool.true_eq_false, Bool.false_eq_true, Bool.not_true, Bool.not_false, if_true, if_false, and_true, true_and, memE, celE, w64, Nat.zero_add, Nat.add_zero, Nat.mul_one, putL, and_self, ldn, c_spec_StagewisePlan, r_spec_StagewisePlan, bsl_no]
  rw [← hM0]
  refine callH_rc (l7Good_rc _ _ c (ChA.mk (hX0.ints ha) (hX0.ints hb) (hX0.ints hd))) ?_
  rintro r n1 ⟨rfl, nr1⟩
  have hX1 := hX0.app nr1
  replace b0 := b0.ext n1
  replace t0' := t0'.ext n1
  obtain ⟨M1, hM1⟩ : ∃ M1, M1 = M0 ++ n1 := ⟨_, rfl⟩
  rw [← hM1] at hX1 b0 t0' ⊢
  cases hg : c.good with
  | false =>
    have e : swOk c = false := by unfold swOk; rw [hg]; rfl
    simp (config := {implicitDefEqProofs := false, maxDischargeDepth := 20}) (disch := first | omega | (simp only [lenE]; done) | (simp only [lenE]; omega) | rfl | (simp only [lenE, markR_len]; done) | (simp only [lenE, markR_len]; omega)) only [runE, mapE, listE, initT_5, initT_6, initT_7, initT_8, resV, oneV, binA, unA, reduceCtorEq, Nat.reduceEqDiff, Nat.reduceAdd, Nat.reduceLT, Nat.reduceLeDiff, Nat.reduceMul, Nat.reduceSub, ↓reduceIte, decide_true, decide_false, Bool.true_eq_false, Bool.false_eq_true, Bool.not_true, Bool.not_false, if_true, if_false, and_true, true_and, memE, celE, w64, Nat.zero_add, Nat.add_zero, Nat.mul_one, putL, and_self, ldn]
    rw [swA_no e, e]
    exact ext_ansO (f := fun v => .tuple #[v, .bool false]) hX1 fun M' hM => ⟨by simp, by simp [tsz], _, 1, fun _ => 0, fun _ => 0, rfl, by omega, t0'.lt, t0'.at_ (hM _ (by omega) t0'.lt), fun j hj => absurd hj (by simp), fun i j hi => absurd hi (by simp)⟩
  | true =>
  have gd := goodCh_iff.1 hg
  have s3 := gd.s3
  have n6 := gd.n6
  have lh := gd.lh
  obtain ⟨N, hN⟩ : ∃ N, N = c.setup.length := ⟨_, rfl⟩
  have hbl := hb.len
  rw [← hN] at hbl
  have ht0 : TabX (swT c 0) (m.length + 1) M1.length M1 (m.length + 1) (fun _ => 0) (fun _ => 0) := ⟨by omega, t0'.lt, t0', fun j hj => absurd hj (by simp [swT]), fun i j hi => absurd hi (by simp [swT])⟩
  simp (config := {implicitDefEqProofs := false, maxDischargeDepth := 20}) (disch := first | omega | (simp only [lenE]; done) | (simp only [lenE]; omega) | rfl | (simp only [lenE, markR_len]; done) | (simp only [lenE, markR_len]; omega)) only [runE, mapE, listE, initT_5, initT_6, initT_7, initT_8, resV, oneV, binA, unA, reduceCtorEq, Nat.reduceEqDiff, Nat.reduceAdd, Nat.reduceLT, Nat.reduceLeDiff, Nat.reduceMul, Nat.reduceSub, ↓reduceIte, decide_true, decide_false, Bool.true_eq_false, Bool.false_eq_true, Bool.not_true, Bool.not_false, if_true, if_false, and_true, true_and, memE, celE, w64, Nat.zero_add, Nat.add_zero, Nat.mul_one, putL, and_self, ldn, b0.rd, hbl]
  refine loop_inv mixed (fun s => ∃ (k : Nat) (M : Mem) (id : Nat) (R F : Nat → Nat) (u : Value), k ≤ N ∧ s.m = M ∧ Ext m M ∧ OwnB M m.length 26 [a, b, d] ∧ TabX (swT c k) (m.length + 1) M.length M id R F ∧ IntsA M u (swNeed c k) ∧ (∀ j, j < k → (swCase c j).good = true) ∧ s.t 1 = .pointer (some ⟨m.length, 0, none⟩) ∧ s.t 4 = .slice (some ⟨id, 0, none⟩) k 1 ∧ s.t 5 = u ∧ s.t 6 = .int .i64 ((N : Int) - 1 - k)) (fun s => (intOf (s.t 6) + 1).toNat)
    ⟨0, _, m.length + 1, _, _, a, by omega, rfl, hX1, b0, ht0, hX1.ints ha, fun j hj => absurd hj (by omega), rfl, rfl, rfl, by simp only [put_t, put_t', put_m, putT_t, putT_t', putT_m, init_t, init_m, initT_0, initT_1, initT_2, initT_3, initT_4, initT_5, initT_6, initT_7, initT_8, Nat.reduceEqDiff, ↓reduceIte]; simp⟩ ?_
  rintro s ⟨k, M, id, R, F, u, hk, tm, hX, hbx, hTX, hu, hgd, t1, t4, t5, t6⟩
  by_cases hlt : k < N
  · obtain ⟨q, hq⟩ : ∃ q : Nat, q + 1 + k = N := ⟨N - 1 - k, by omega⟩
    have ez : (N : Int) - 1 - k = (q : Int) := by omega
    have hge : (0 : Int) ≤ (q : Int) := by omega
    rw [ez] at t6
    have hb1 := hX.ints hb
    have hd1 := hX.ints hd
    have eqk : c.setup.length - 1 - k = q := by omega
    have hidl := hTX.2.1
    have hlo := hTX.1
    have snl := swNeed_len c k
    simp (config := {implicitDefEqProofs := false, maxDischargeDepth := 20}) (disch := first | omega | (simp only [lenE]; done) | (simp only [lenE]; omega) | rfl | (simp only [lenE, markR_len]; done) | (simp only [lenE, markR_len]; omega)) only [runE, mapE, listE, initT_5, initT_6, initT_7, initT_8, resV, oneV, binA, unA, reduceCtorEq, Nat.reduceEqDiff, Nat.reduceAdd, Nat.reduceLT, Nat.reduceLeDiff, Nat.reduceMul, Nat.reduceSub, ↓reduceIte, decide_true, decide_false, Bool.true_eq_false, Bool.false_eq_true, Bool.not_true, Bool.not_false, if_true, if_false, and_true, true_and, memE, celE, w64, Nat.zero_add, Nat.add_zero, Nat.mul_one, putL, and_self, ldn, tm, t1, t4, t5, t6, ge_iff_le, hge, hbx.rd, hb1.at_ q (by omega), hb1.ld q (by omega), hd1.at_ q (by omega), hd1.ld q (by omega)]
    with_reducible refine ⟨?_, ?_⟩
    · refine rcallH_rc (l7Case_rc _ u (swNeed c k) _ _ hu (by omega)) ?_
      rintro r n2 ⟨nr2, w, hwe, hw⟩
      rw [id_eq] at hwe
      subst r
      have hC : CaseA (M ++ n2) w (swCase c k) := by unfold swCase; rw [eqk]; exact hw.now.in
      obtain ⟨w1, w2, w3, w4, rfl, ones⟩ := hw.now.agg
      obtain ⟨A, hA0⟩ : ∃ A, A = M ++ n2 := ⟨_, rfl⟩
      have hX2 := hX.app nr2
      have hbx2 := hbx.ext n2
      rw [← hA0] at hX2 hbx2 hC ⊢
      simp (config := {implicitDefEqProofs := false, maxDischargeDepth := 20}) (disch := first | omega | (simp only [lenE]; done) | (simp only [lenE]; omega) | rfl | (simp only [lenE, markR_len]; done) | (simp only [lenE, markR_len]; omega)) only [runE, mapE, listE, initT_5, initT_6, initT_7, initT_8, resV, oneV, binA, unA, reduceCtorEq, Nat.reduceEqDiff, Nat.reduceAdd, Nat.reduceLT, Nat.reduceLeDiff, Nat.reduceMul, Nat.reduceSub, ↓reduceIte, decide_true, decide_false, Bool.true_eq_false, Bool.false_eq_true, Bool.not_true, Bool.not_false, if_true, if_false, and_true, true_and, memE, celE, w64, Nat.zero_add, Nat.add_zero, Nat.mul_one, putL, and_self, ldn, stP_agg4, ones]
      obtain ⟨bid, hbid⟩ : ∃ bid, bid = A.length := ⟨_, rfl⟩
      obtain ⟨E, hE⟩ : ∃ E, E = A ++ [(⟨.own, 30, [w1, w2, w3, w4]⟩ : Blk)] := ⟨_, rfl⟩
      have b7 : OwnB E bid 30 [w1, w2, w3, w4] := by rw [hE]; exact OwnB.here hbid
      replace hX2 : Ext m E := by rw [hE]; exact hX2.one _ _
      replace hbx2 : OwnB E m.length 26 [a, b, d] := by rw [hE]; exact hbx2.ext _
      replace hC : CaseA E (.agg #[w1, w2, w3, w4]) (swCase c k) := by rw [hE]; exact hC.ext _
      have hEl : M.length ≤ E.length := by rw [hE, hA0]; simp <;> omega
      have same1 : ∀ i, i < M.length → E[i]? = M[i]? := fun i hi => by rw [hE, hA0, List.append_assoc, List.getElem?_append_left hi]
      have hTX2 : TabX (swT c k) (m.length + 1) M.length E id R F := hTX.at_ fun i _ h2 => same1 i h2
      rw [← hE, ← hbid]
      have hbE := b7.lt
      refine callH_rc (l2Good_rc _ _ (swCase c k) hC) ?_
      rintro r n3 ⟨rfl, nr3⟩
      replace hX2 := hX2.app nr3
      replace hbx2 := hbx2.ext n3
      replace hTX2 := hTX2.ext hEl n3
      replace hC := hC.ext n3
      replace b7 := b7.ext n3
      obtain ⟨B, hB⟩ : ∃ B, B = E ++ n3 := ⟨_, rfl⟩
      have hBl : M.length ≤ B.length := by rw [hB]; simp; omega
      rw [← hB] at hX2 hbx2 hTX2 hC b7 ⊢
      cases hgk : (swCase c k).good with
      | false =>
        simp (config := {implicitDefEqProofs := false, maxDischargeDepth := 20}) (disch := first | omega | (simp only [lenE]; done) | (simp only [lenE]; omega) | rfl | (simp only [lenE, markR_len]; done) | (simp only [lenE, markR_len]; omega)) only [runE, mapE, listE, initT_5, initT_6, initT_7, initT_8, resV, oneV, binA, unA, reduceCtorEq, Nat.reduceEqDiff, Nat.reduceAdd, Nat.reduceLT, Nat.reduceLeDiff, Nat.reduceMul, Nat.reduceSub, ↓reduceIte, decide_true, decide_false, Bool.true_eq_false, Bool.false_eq_true, Bool.not_true, Bool.not_false, if_true, if_false, and_true, true_and, memE, celE, w64, Nat.zero_add, Nat.add_zero, Nat.mul_one, putL, and_self, ldn, bsl_no]
        have e := sw_no (c := c) (k := k) (by omega) hgk
        rw [swA_no e, e]
        exact ext_noTab (f := fun v => .tuple #[v, .bool false]) hX2 rfl
      | true =>
        have gk := good_iff.1 hgk
        have hkn : (swCase c k).need = swNeed c k := rfl
        simp (config := {implicitDefEqProofs := false, maxDischargeDepth := 20}) (disch := first | omega | (simp only [lenE]; done) | (simp only [lenE]; omega) | rfl | (simp only [lenE, markR_len]; done) | (simp only [lenE, markR_len]; omega)) only [runE, mapE, listE, initT_5, initT_6, initT_7, initT_8, resV, oneV, binA, unA, reduceCtorEq, Nat.reduceEqDiff, Nat.reduceAdd, Nat.reduceLT, Nat.reduceLeDiff, Nat.reduceMul, Nat.reduceSub, ↓reduceIte, decide_true, decide_false, Bool.true_eq_false, Bool.false_eq_true, Bool.not_true, Bool.not_false, if_true, if_false, and_true, true_and, memE, celE, w64, Nat.zero_add, Nat.add_zero, Nat.mul_one, putL, and_self, ldn, b7.rd]
        refine rcallH_rc (l2Best_rc _ _ (swCase c k) hC gk) ?_
        intro r n4 hA4
        obtain ⟨bid, bf, rfl, bge, bown, ble, nr4⟩ := hA4.row
        have hX3 := hX2.app nr4
        simp (config := {implicitDefEqProofs := false, maxDischargeDepth := 20}) (disch := first | omega | (simp only [lenE]; done) | (simp only [lenE]; omega) | rfl | (simp only [lenE, markR_len]; done) | (simp only [lenE, markR_len]; omega)) only [runE, mapE, listE, initT_5, initT_6, initT_7, initT_8, resV, oneV, binA, unA, reduceCtorEq, Nat.reduceEqDiff, Nat.reduceAdd, Nat.reduceLT, Nat.reduceLeDiff, Nat.reduceMul, Nat.reduceSub, ↓reduceIte, decide_true, decide_false, Bool.true_eq_false, Bool.false_eq_true, Bool.not_true, Bool.not_false, if_true, if_false, and_true, true_and, memE, celE, w64, Nat.zero_add, Nat.add_zero, Nat.mul_one, putL, and_self, ldn]
        refine rcallH_rc (l2From_rc _ _ _ (swCase c k) (bestL (swCase c k)) (hC.ext n4) (bown.ints (by omega) bf) gk (bestL_rising _) ble) ?_
        intro r n5 hA5
        obtain ⟨rid, rf, rfl, rge, hown, hle, nr5⟩ := hA5.row
        have hX4 := hX3.app nr5
        have hbx4 := (hbx2.ext n4).ext n5
        have hTX4 := (hTX2.ext (by omega) n4).ext (by simp; omega) n5
        have hrge : M.length ≤ rid := by rw [List.length_append] at rge; omega
        have hfl : (fromL (swCase c k).need (bestL (swCase c k))).length = c.need.length := by rw [fromL_len, hkn, swNeed_len]
        obtain ⟨D, hD⟩ : ∃ D, D = B ++ n4 ++ n5 := ⟨_, rfl⟩
        have hDl : M.length ≤ D.length := by rw [hD]; simp; omega
        rw [← hD] at hX4 hbx4 hTX4 hown ⊢
        rw [hfl]
        have hown' : OwnR D rid (swNeed c (k + 1)) := hown
        have hridl := hown'.lt
        have happ := app_front (e := 24) (sz := 1) (byt := 24) (n := k) (fl := 1) (id2 := D.length) (ys := [.slice (some ⟨rid, 0, none⟩) c.need.length rf]) hTX4.2.2.1 rfl (by rw [rowsC_len, swT_len]; omega) rfl (onesB_rows _ _ _) (by omega) (by omega)
        simp (config := {implicitDefEqProofs := false, maxDischargeDepth := 20}) (disch := first | omega | (simp only [lenE]; done) | (simp only [lenE]; omega) | rfl | (simp only [lenE, markR_len]; done) | (simp only [lenE, markR_len]; omega)) only [runE, mapE, listE, initT_5, initT_6, initT_7, initT_8, resV, oneV, binA, unA, reduceCtorEq, Nat.reduceEqDiff, Nat.reduceAdd, Nat.reduceLT, Nat.reduceLeDiff, Nat.reduceMul, Nat.reduceSub, ↓reduceIte, decide_true, decide_false, Bool.true_eq_false, Bool.false_eq_true, Bool.not_true, Bool.not_false, if_true, if_false, and_true, true_and, memE, celE, w64, Nat.zero_add, Nat.add_zero, Nat.mul_one, putL, and_self, ldn, t1, t4, t5, t6, bsl_sl', happ]
        refine ⟨⟨k + 1, _, D.length + 1, fun j => if j = 0 then rid else R (j - 1), fun j => if j = 0 then rf else F (j - 1), _, by omega, rfl, (hX4.app (noRo_dead noRo_nil)).one _ _, (hbx4.ext _).ext _, ?_, ?_, fun j hj => ?_, by congr 1; omega, rfl, by congr 1; omega⟩, by simp [intOf]⟩
        · rw [swT_s]
          refine TabX.cons (rid := rid) (f := rf) (hi' := _) (hTX4.wider (Nat.le_refl _)) (fun i h1 h2 => ?_) (by omega) (by simp) ?_ hrge (by simp; omega) ((hown'.ext _).ext _) (by simp; omega)
          · rw [List.append_assoc, List.getElem?_append_left (by omega)]
          · rw [swNeed_len]
            exact OwnB.here (by simp)
        · have := ((hown'.ext [deadB]).ext [⟨.own, 24, [.slice (some ⟨rid, 0, none⟩) c.need.length rf] ++ rowsC (swT c k) R F⟩]).ints (by rw [swNeed_len]; omega) rf
          rw [swNeed_len] at this
          exact this
        · by_cases e : j = k
          · subst e; exact hgk
          · exact hgd j (by omega)
    · try simp (config := {implicitDefEqProofs := false, maxDischargeDepth := 20}) (disch := first | omega | (simp only [lenE]; done) | (simp only [lenE]; omega) | rfl | (simp only [lenE, markR_len]; done) | (simp only [lenE, markR_len]; omega)) only [runE, mapE, listE, initT_5, initT_6, initT_7, initT_8, resV, oneV, binA, unA, reduceCtorEq, Nat.reduceEqDiff, Nat.reduceAdd, Nat.reduceLT, Nat.reduceLeDiff, Nat.reduceMul, Nat.reduceSub, ↓reduceIte, decide_true, decide_false, Bool.true_eq_false, Bool.false_eq_true, Bool.not_true, Bool.not_false, if_true, if_false, and_true, true_and, memE, celE, w64, Nat.zero_add, Nat.add_zero, Nat.mul_one, putL, and_self, ldn]
      have hu2 := hu.ext [⟨.own, 30, [.slice none 0 0, .slice none 0 0, .slice none 0 0, .slice none 0 0]⟩]
      refine rcallH_rc (l7Case_rc _ u (swNeed c k) _ _ hu2 (by omega)) ?_
      rintro r n2 ⟨nr2, w, hwe, hw⟩
      rw [id_eq] at hwe
      subst r
      obtain ⟨w1, w2, w3, w4, rfl, ones⟩ := hw.now.agg
      obtain ⟨bid, hbid⟩ : ∃ bid, bid = M.length := ⟨_, rfl⟩
      have b7x : OwnB (M ++ [⟨.own, 30, [.slice none 0 0, .slice none 0 0, .slice none 0 0, .slice none 0 0]⟩] ++ n2) bid 30 [.slice none 0 0, .slice none 0 0, .slice none 0 0, .slice none 0 0] := (OwnB.here hbid).ext _
      have stE := b7x.st (off := 0) (vs := [w1, w2, w3, w4]) (by simp) ones
      have b7 := b7x.set_self 30 [w1, w2, w3, w4]
      have stE' : stA (M ++ [⟨.own, 30, [.slice none 0 0, .slice none 0 0, .slice none 0 0, .slice none 0 0]⟩] ++ n2) bid 0 [w1, w2, w3, w4] = some ((M ++ [(⟨.own, 30, [.slice none 0 0, .slice none 0 0, .slice none 0 0, .slice none 0 0]⟩ : Blk)] ++ n2).set bid ⟨.own, 30, [w1, w2, w3, w4]⟩) := stE
      obtain ⟨E, hE⟩ : ∃ E, E = (M ++ [(⟨.own, 30, [.slice none 0 0, .slice none 0 0, .slice none 0 0, .slice none 0 0]⟩ : Blk)] ++ n2).set bid ⟨.own, 30, [w1, w2, w3, w4]⟩ := ⟨_, rfl⟩
      have b7 : OwnB E bid 30 [w1, w2, w3, w4] := by rw [hE]; exact b7
      rw [← hE] at stE'
      have hXm := hX.len
      have hX2 : Ext m E := by rw [hE]; exact ((hX.one _ _).app nr2).put (by omega) _ _
      have hbx2 : OwnB E m.length 26 [a, b, d] := by rw [hE]; have := hbx.lt; exact ((hbx.ext _).ext _).set_ne (by omega) _
      have hC : CaseA E (.agg #[w1, w2, w3, w4]) (swCase c k) := by
        have := (hw.2.2 E fun i h1 h2 => by rw [hE, List.getElem?_set_ne (by simp at h1; omega)]).in
        unfold swCase; rw [eqk]; exact this
      have hEl : M.length ≤ E.length := by rw [hE]; simp
      have same1 : ∀ i, i < M.length → E[i]? = M[i]? := fun i hi => by rw [hE, List.getElem?_set_ne (by omega), List.append_assoc, List.getElem?_append_left hi]
      have hTX2 : TabX (swT c k) (m.length + 1) M.length E id R F := hTX.at_ fun i _ h2 => same1 i h2
      rw [← hbid]
      have hbE := b7.lt
      simp (config := {implicitDefEqProofs := false, maxDischargeDepth := 20}) (disch := first | omega | (simp only [lenE]; done) | (simp only [lenE]; omega) | rfl | (simp only [lenE, markR_len]; done) | (simp only [lenE, markR_len]; omega)) only [runE, mapE, listE, initT_5, initT_6, initT_7, initT_8, resV, oneV, binA, unA, reduceCtorEq, Nat.reduceEqDiff, Nat.reduceAdd, Nat.reduceLT, Nat.reduceLeDiff, Nat.reduceMul, Nat.reduceSub, ↓reduceIte, decide_true, decide_false, Bool.true_eq_false, Bool.false_eq_true, Bool.not_true, Bool.not_false, if_true, if_false, and_true, true_and, memE, celE, w64, Nat.zero_add, Nat.add_zero, Nat.mul_one, putL, and_self, ldn, stP_agg4, stE', b7.rd]
      refine callH_rc (l2Good_rc _ _ (swCase c k) hC) ?_
      rintro r n3 ⟨rfl, nr3⟩
      replace hX2 := hX2.app nr3
      replace hbx2 := hbx2.ext n3
      replace hTX2 := hTX2.ext hEl n3
      replace hC := hC.ext n3
      replace b7 := b7.ext n3
      obtain ⟨B, hB⟩ : ∃ B, B = E ++ n3 := ⟨_, rfl⟩
      have hBl : M.length ≤ B.length := by rw [hB]; simp; omega
      rw [← hB] at hX2 hbx2 hTX2 hC b7 ⊢
      cases hgk : (swCase c k).good with
      | false =>
        simp (config := {implicitDefEqProofs := false, maxDischargeDepth := 20}) (disch := first | omega | (simp only [lenE]; done) | (simp only [lenE]; omega) | rfl | (simp only [lenE, markR_len]; done) | (simp only [lenE, markR_len]; omega)) only [runE, mapE, listE, initT_5, initT_6, initT_7, initT_8, resV, oneV, binA, unA, reduceCtorEq, Nat.reduceEqDiff, Nat.reduceAdd, Nat.reduceLT, Nat.reduceLeDiff, Nat.reduceMul, Nat.reduceSub, ↓reduceIte, decide_true, decide_false, Bool.true_eq_false, Bool.false_eq_true, Bool.not_true, Bool.not_false, if_true, if_false, and_true, true_and, memE, celE, w64, Nat.zero_add, Nat.add_zero, Nat.mul_one, putL, and_self, ldn, bsl_no]
        have e := sw_no (c := c) (k := k) (by omega) hgk
        rw [swA_no e, e]
        exact ext_noTab (f := fun v => .tuple #[v, .bool false]) hX2 rfl
      | true =>
        have gk := good_iff.1 hgk
        have hkn : (swCase c k).need = swNeed c k := rfl
        simp (config := {implicitDefEqProofs := false, maxDischargeDepth := 20}) (disch := first | omega | (simp only [lenE]; done) | (simp only [lenE]; omega) | rfl | (simp only [lenE, markR_len]; done) | (simp only [lenE, markR_len]; omega)) only [runE, mapE, listE, initT_5, initT_6, initT_7, initT_8, resV, oneV, binA, unA, reduceCtorEq, Nat.reduceEqDiff, Nat.reduceAdd, Nat.reduceLT, Nat.reduceLeDiff, Nat.reduceMul, Nat.reduceSub, ↓reduceIte, decide_true, decide_false, Bool.true_eq_false, Bool.false_eq_true, Bool.not_true, Bool.not_false, if_true, if_false, and_true, true_and, memE, celE, w64, Nat.zero_add, Nat.add_zero, Nat.mul_one, putL, and_self, ldn, b7.rd]
        refine rcallH_rc (l2Best_rc _ _ (swCase c k) hC gk) ?_
        intro r n4 hA4
        obtain ⟨bid, bf, rfl, bge, bown, ble, nr4⟩ := hA4.row
        have hX3 := hX2.app nr4
        simp (config := {implicitDefEqProofs := false, maxDischargeDepth := 20}) (disch := first | omega | (simp only [lenE]; done) | (simp only [lenE]; omega) | rfl | (simp only [lenE, markR_len]; done) | (simp only [lenE, markR_len]; omega)) only [runE, mapE, listE, initT_5, initT_6, initT_7, initT_8, resV, oneV, binA, unA, reduceCtorEq, Nat.reduceEqDiff, Nat.reduceAdd, Nat.reduceLT, Nat.reduceLeDiff, Nat.reduceMul, Nat.reduceSub, ↓reduceIte, decide_true, decide_false, Bool.true_eq_false, Bool.false_eq_true, Bool.not_true, Bool.not_false, if_true, if_false, and_true, true_and, memE, celE, w64, Nat.zero_add, Nat.add_zero, Nat.mul_one, putL, and_self, ldn]
        refine rcallH_rc (l2From_rc _ _ _ (swCase c k) (bestL (swCase c k)) (hC.ext n4) (bown.ints (by omega) bf) gk (bestL_rising _) ble) ?_
        intro r n5 hA5
        obtain ⟨rid, rf, rfl, rge, hown, hle, nr5⟩ := hA5.row
        have hX4 := hX3.app nr5
        have hbx4 := (hbx2.ext n4).ext n5
        have hTX4 := (hTX2.ext (by omega) n4).ext (by simp; omega) n5
        have hrge : M.length ≤ rid := by rw [List.length_append] at rge; omega
        have hfl : (fromL (swCase c k).need (bestL (swCase c k))).length = c.need.length := by rw [fromL_len, hkn, swNeed_len]
        obtain ⟨D, hD⟩ : ∃ D, D = B ++ n4 ++ n5 := ⟨_, rfl⟩
        have hDl : M.length ≤ D.length := by rw [hD]; simp; omega
        rw [← hD] at hX4 hbx4 hTX4 hown ⊢
        rw [hfl]
        have hown' : OwnR D rid (swNeed c (k + 1)) := hown
        have hridl := hown'.lt
        have happ := app_front (e := 24) (sz := 1) (byt := 24) (n := k) (fl := 1) (id2 := D.length) (ys := [.slice (some ⟨rid, 0, none⟩) c.need.length rf]) hTX4.2.2.1 rfl (by rw [rowsC_len, swT_len]; omega) rfl (onesB_rows _ _ _) (by omega) (by omega)
        simp (config := {implicitDefEqProofs := false, maxDischargeDepth := 20}) (disch := first | omega | (simp only [lenE]; done) | (simp only [lenE]; omega) | rfl | (simp only [lenE, markR_len]; done) | (simp only [lenE, markR_len]; omega)) only [runE, mapE, listE, initT_5, initT_6, initT_7, initT_8, resV, oneV, binA, unA, reduceCtorEq, Nat.reduceEqDiff, Nat.reduceAdd, Nat.reduceLT, Nat.reduceLeDiff, Nat.reduceMul, Nat.reduceSub, ↓reduceIte, decide_true, decide_false, Bool.true_eq_false, Bool.false_eq_true, Bool.not_true, Bool.not_false, if_true, if_false, and_true, true_and, memE, celE, w64, Nat.zero_add, Nat.add_zero, Nat.mul_one, putL, and_self, ldn, t1, t4, t5, t6, bsl_sl', happ]
        refine ⟨⟨k + 1, _, D.length + 1, fun j => if j = 0 then rid else R (j - 1), fun j => if j = 0 then rf else F (j - 1), _, by omega, rfl, (hX4.app (noRo_dead noRo_nil)).one _ _, (hbx4.ext _).ext _, ?_, ?_, fun j hj => ?_, by congr 1; omega, rfl, by congr 1; omega⟩, by simp [intOf]⟩
        · rw [swT_s]
          refine TabX.cons (rid := rid) (f := rf) (hi' := _) (hTX4.wider (Nat.le_refl _)) (fun i h1 h2 => ?_) (by omega) (by simp) ?_ hrge (by simp; omega) ((hown'.ext _).ext _) (by simp; omega)
          · rw [List.append_assoc, List.getElem?_append_left (by omega)]
          · rw [swNeed_len]
            exact OwnB.here (by simp)
        · have := ((hown'.ext [deadB]).ext [⟨.own, 24, [.slice (some ⟨rid, 0, none⟩) c.need.length rf] ++ rowsC (swT c k) R F⟩]).ints (by rw [swNeed_len]; omega) rf
          rw [swNeed_len] at this
          exact this
        · by_cases e : j = k
          · subst e; exact hgk
          · exact hgd j (by omega)
  · have e : k = N := by omega
    subst e
    have ez : ¬ ((0 : Int) ≤ (k : Int) - 1 - k) := by omega
    simp (config := {implicitDefEqProofs := false, maxDischargeDepth := 20}) (disch := first | omega | (simp only [lenE]; done) | (simp only [lenE]; omega) | rfl | (simp only [lenE, markR_len]; done) | (simp only [lenE, markR_len]; omega)) only [runE, mapE, listE, initT_5, initT_6, initT_7, initT_8, resV, oneV, binA, unA, reduceCtorEq, Nat.reduceEqDiff, Nat.reduceAdd, Nat.reduceLT, Nat.reduceLeDiff, Nat.reduceMul, Nat.reduceSub, ↓reduceIte, decide_true, decide_false, Bool.true_eq_false, Bool.false_eq_true, Bool.not_true, Bool.not_false, if_true, if_false, and_true, true_and, memE, celE, w64, Nat.zero_add, Nat.add_zero, Nat.mul_one, putL, and_self, ldn, tm, t1, t4, t5, t6, ge_iff_le, ez]
    have e : swOk c = true := by
      unfold swOk
      rw [hg, ← hN, all_range_yes hgd]; rfl
    rw [swA_yes e, e, ← hN]
    refine ext_ansO (f := fun v => .tuple #[v, .bool true]) hX fun M' hM => ?_
    have := (hTX.at_ (M' := M') fun i h1 h2 => hM i (by omega) h2).obj (fl := 1) (by rw [swT_len]; omega) (swT_sz (by omega) n6)
    rw [swT_len] at this
    exact TabO.wide _ _ _ _ _ _ _ (by omega) (Nat.le_refl _) this
theorem implSw_rc (m : Mem) (v : Value) (c : Ch) (h : ChA m v c) : RC Try.prog 66 [v] m (AnsO m (TabO (swA c)) fun v => .tuple #[v, .bool (swOk c)]) := by
  refine rc_of_run mixed ok_impl_StagewisePlan (by simp) (go_start _ _ _ ?_)
  obtain ⟨a, b, d, rfl, ha, hb, hd⟩ := h.ro
  obtain ⟨M0, hM0⟩ : ∃ M0, M0 = roM m ++ [⟨.own, 26, [a, b, d]⟩] := ⟨_, rfl⟩
  have L0 : M0.length = m.length + 1 := by rw [hM0]; simp [roM_len]
  have hX0 : Ext m M0 := by rw [hM0]; exact (Ext.refl m).one _ _
  have b0 : OwnB M0 m.length 26 [a, b, d] := by rw [hM0]; exact OwnB.here (roM_len m).symm
  simp (config := {implicitDefEqProofs := false, maxDischargeDepth := 20}) (disch := first | omega | (simp only [lenE]; done) | (simp only [lenE]; omega) | rfl | (simp only [lenE, markR_len]; done) | (simp only [lenE, markR_len]; omega)) only [runE, mapE, listE, initT_5, initT_6, initT_7, initT_8, resV, oneV, binA, unA, reduceCtorEq, Nat.reduceEqDiff, Nat.reduceAdd, Nat.reduceLT, Nat.reduceLeDiff, Nat.reduceMul, Nat.reduceSub, ↓reduceIte, decide_true, decide_false, Bool.true_eq_false, Bool.false_eq_true, Bool.not_true, Bool.not_false, if_true, if_false, and_true, true_and, memE, celE, w64, Nat.zero_add, Nat.add_zero, Nat.mul_one, putL, and_self, ldn, c_impl_StagewisePlan, r_impl_StagewisePlan]
  rw [← hM0]
  refine callH_rc (implIsChain_rc _ _ c (ChA.mk (hX0.ints ha) (hX0.ints hb) (hX0.ints hd))) ?_
  rintro r n1 ⟨rfl, nr1⟩
  have hX1 := hX0.app nr1
  replace b0 := b0.ext n1
  obtain ⟨M1, hM1⟩ : ∃ M1, M1 = M0 ++ n1 := ⟨_, rfl⟩
  have L1 : m.length + 1 ≤ M1.length := by rw [hM1]; simp; omega
  rw [← hM1] at hX1 b0 ⊢
  cases hg : c.good with
  | false =>
    have e : swOk c = false := by unfold swOk; rw [hg]; rfl
    simp (config := {implicitDefEqProofs := false, maxDischargeDepth := 20}) (disch := first | omega | (simp only [lenE]; done) | (simp only [lenE]; omega) | rfl | (simp only [lenE, markR_len]; done) | (simp only [lenE, markR_len]; omega)) only [runE, mapE, listE, initT_5, initT_6, initT_7, initT_8, resV, oneV, binA, unA, reduceCtorEq, Nat.reduceEqDiff, Nat.reduceAdd, Nat.reduceLT, Nat.reduceLeDiff, Nat.reduceMul, Nat.reduceSub, ↓reduceIte, decide_true, decide_false, Bool.true_eq_false, Bool.false_eq_true, Bool.not_true, Bool.not_false, if_true, if_false, and_true, true_and, memE, celE, w64, Nat.zero_add, Nat.add_zero, Nat.mul_one, putL, and_self, ldn, bsl_no]
    rw [swA_no e, e]
    exact ext_noTab (f := fun v => .tuple #[v, .bool false]) hX1 rfl
  | true =>
  have gd := goodCh_iff.1 hg
  have s3 := gd.s3
  have n6 := gd.n6
  have lh := gd.lh
  obtain ⟨N, hN⟩ : ∃ N, N = c.setup.length := ⟨_, rfl⟩
  have hbl := hb.len
  rw [← hN] at hbl
  obtain ⟨q, hq⟩ : ∃ q, q = M1.length := ⟨_, rfl⟩
  have b1 := b0.ext [⟨.own, 24, List.replicate N (.slice none 0 0)⟩]
  have hX2 := hX1.one 24 (List.replicate N (.slice none 0 0))
  have pt0 : PT N 0 (m.length + 1) (q + 1) (fun j => swNeed c (N - j)) (M1 ++ [⟨.own, 24, List.replicate N (.slice none 0 0)⟩]) q (fun _ => 0) (fun _ => 0) := by
    refine ⟨?_, ⟨by omega, by omega⟩, fun j h1 h2 => absurd h2 (by omega), fun i j h1 h2 => absurd h2 (by omega)⟩
    have e : ((List.range N).map fun j => if j + 0 < N then (.slice none 0 0 : Value) else .slice (some ⟨0, 0, none⟩) (swNeed c (N - j)).length 0) = List.replicate N (.slice none 0 0) := by
      apply List.ext_getElem?
      intro i
      by_cases hi : i < N
      · simp [hi]
      · rw [List.getElem?_eq_none (by simp; omega), List.getElem?_eq_none (by simp; omega)]
    rw [e]
    exact OwnB.here hq
  simp (config := {implicitDefEqProofs := false, maxDischargeDepth := 20}) (disch := first | omega | (simp only [lenE]; done) | (simp only [lenE]; omega) | rfl | (simp only [lenE, markR_len]; done) | (simp only [lenE, markR_len]; omega)) only [runE, mapE, listE, initT_5, initT_6, initT_7, initT_8, resV, oneV, binA, unA, reduceCtorEq, Nat.reduceEqDiff, Nat.reduceAdd, Nat.reduceLT, Nat.reduceLeDiff, Nat.reduceMul, Nat.reduceSub, ↓reduceIte, decide_true, decide_false, Bool.true_eq_false, Bool.false_eq_true, Bool.not_true, Bool.not_false, if_true, if_false, and_true, true_and, memE, celE, w64, Nat.zero_add, Nat.add_zero, Nat.mul_one, putL, and_self, ldn, b0.rd, hbl, mksA_eq (z := .slice none 0 0) (byt := 24) (n := N) (a := N) rfl (by omega), b1.rd, ← hq]
  refine loop_inv mixed (fun s => ∃ (k : Nat) (M : Mem) (R F : Nat → Nat), k ≤ N ∧ s.m = M ∧ Ext m M ∧ q + 1 ≤ M.length ∧ OwnB M m.length 26 [a, b, d] ∧ PT N k (m.length + 1) (q + 1) (fun j => swNeed c (N - j)) M q R F ∧ (∀ j, j < k → (swCase c j).good = true) ∧ s.t 1 = .pointer (some ⟨m.length, 0, none⟩) ∧ s.t 4 = .slice (some ⟨q, 0, none⟩) N 1 ∧ s.t 5 = (if k = 0 then a else .slice (some ⟨R (N - k), 0, none⟩) c.need.length (F (N - k))) ∧ s.t 6 = .int .i64 ((N : Int) - 1 - k)) (fun s => (intOf (s.t 6) + 1).toNat)
    ⟨0, _, _, _, by omega, rfl, hX2, pt0.cells.lt, b1, pt0, fun j hj => absurd hj (by omega), rfl, rfl, rfl, by simp only [put_t, put_t', put_m, putT_t, putT_t', putT_m, init_t, init_m, initT_0, initT_1, initT_2, initT_3, initT_4, initT_5, initT_6, initT_7, initT_8, Nat.reduceEqDiff, ↓reduceIte]; simp⟩ ?_
  rintro s ⟨k, M, R, F, hk, tm, hX, hqM, hbx, pt, hgd, t1, t4, t5, t6⟩
  obtain ⟨u, hue⟩ : ∃ u, u = (if k = 0 then a else .slice (some ⟨R (N - k), 0, none⟩) c.need.length (F (N - k))) := ⟨_, rfl⟩
  rw [← hue] at t5
  have hu : IntsA M u (swNeed c k) := by
    rw [hue]
    by_cases e : k = 0
    · subst e; rw [if_pos rfl]; exact hX.ints ha
    · rw [if_neg e]
      have := (pt.rows (N - k) (by omega) (by omega)).2.2
      simp only [show N - (N - k) = k by omega] at this
      have h2 := this.ints (by rw [swNeed_len]; omega) (F (N - k))
      rw [swNeed_len] at h2
      exact h2
  by_cases hlt : k < N
  · obtain ⟨p, hp⟩ : ∃ p : Nat, p + 1 + k = N := ⟨N - 1 - k, by omega⟩
    have ez : (N : Int) - 1 - k = (p : Int) := by omega
    have hge : (0 : Int) ≤ (p : Int) := by omega
    rw [ez] at t6
    have hb1 := hX.ints hb
    have hd1 := hX.ints hd
    have eqk : c.setup.length - 1 - k = p := by omega
    have snl := swNeed_len c k
    simp (config := {implicitDefEqProofs := false, maxDischargeDepth := 20}) (disch := first | omega | (simp only [lenE]; done) | (simp only [lenE]; omega) | rfl | (simp only [lenE, markR_len]; done) | (simp only [lenE, markR_len]; omega)) only [runE, mapE, listE, initT_5, initT_6, initT_7, initT_8, resV, oneV, binA, unA, reduceCtorEq, Nat.reduceEqDiff, Nat.reduceAdd, Nat.reduceLT, Nat.reduceLeDiff, Nat.reduceMul, Nat.reduceSub, ↓reduceIte, decide_true, decide_false, Bool.true_eq_false, Bool.false_eq_true, Bool.not_true, Bool.not_false, if_true, if_false, and_true, true_and, memE, celE, w64, Nat.zero_add, Nat.add_zero, Nat.mul_one, putL, and_self, ldn, tm, t1, t4, t5, t6, ge_iff_le, hge, hbx.rd, hb1.at_ p (by omega), hb1.ld p (by omega), hd1.at_ p (by omega), hd1.ld p (by omega)]
    with_reducible refine ⟨?_, ?_⟩
    · refine rcallH_rc (steadyCase_rc _ u (swNeed c k) _ _ hu (by omega)) ?_
      rintro r n2 ⟨nr2, w, hwe, hw⟩
      rw [id_eq] at hwe
      subst r
      have hC : CaseA (M ++ n2) w (swCase c k) := by unfold swCase; rw [eqk]; exact hw.now.in
      obtain ⟨w1, w2, w3, w4, rfl, ones⟩ := hw.now.agg
      obtain ⟨A, hA0⟩ : ∃ A, A = M ++ n2 := ⟨_, rfl⟩
      have hX2 := hX.app nr2
      have hbx2 := hbx.ext n2
      rw [← hA0] at hX2 hbx2 hC ⊢
      simp (config := {implicitDefEqProofs := false, maxDischargeDepth := 20}) (disch := first | omega | (simp only [lenE]; done) | (simp only [lenE]; omega) | rfl | (simp only [lenE, markR_len]; done) | (simp only [lenE, markR_len]; omega)) only [runE, mapE, listE, initT_5, initT_6, initT_7, initT_8, resV, oneV, binA, unA, reduceCtorEq, Nat.reduceEqDiff, Nat.reduceAdd, Nat.reduceLT, Nat.reduceLeDiff, Nat.reduceMul, Nat.reduceSub, ↓reduceIte, decide_true, decide_false, Bool.true_eq_false, Bool.false_eq_true, Bool.not_true, Bool.not_false, if_true, if_false, and_true, true_and, memE, celE, w64, Nat.zero_add, Nat.add_zero, Nat.mul_one, putL, and_self, ldn, stP_agg4, ones]
      obtain ⟨bid, hbid⟩ : ∃ bid, bid = A.length := ⟨_, rfl⟩
      obtain ⟨E, hE⟩ : ∃ E, E = A ++ [(⟨.own, 30, [w1, w2, w3, w4]⟩ : Blk)] := ⟨_, rfl⟩
      have b7 : OwnB E bid 30 [w1, w2, w3, w4] := by rw [hE]; exact OwnB.here hbid
      replace hX2 : Ext m E := by rw [hE]; exact hX2.one _ _
      replace hbx2 : OwnB E m.length 26 [a, b, d] := by rw [hE]; exact hbx2.ext _
      replace hC : CaseA E (.agg #[w1, w2, w3, w4]) (swCase c k) := by rw [hE]; exact hC.ext _
      have hEl : M.length ≤ E.length := by rw [hE, hA0]; simp <;> omega
      have same1 : ∀ i, i < M.length → E[i]? = M[i]? := fun i hi => by rw [hE, hA0, List.append_assoc, List.getElem?_append_left hi]
      have cc2 := pt.cells.at_ (same1 q pt.cells.lt)
      rw [← hE, ← hbid]
      have hbE := b7.lt
      refine callH_rc (implBestPeriods_rc _ _ (swCase c k) hC) ?_
      intro r n3 hA3
      obtain ⟨bid, bf, rfl, bge, bown, ble, nr3⟩ := hA3.row
      replace hX2 := hX2.app nr3
      replace hbx2 := hbx2.ext n3
      replace cc2 := cc2.ext n3
      replace hC := hC.ext n3
      replace b7 := b7.ext n3
      obtain ⟨B, hB⟩ : ∃ B, B = E ++ n3 := ⟨_, rfl⟩
      have hBl : M.length ≤ B.length := by rw [hB]; simp; omega
      have same2 : ∀ i, i < M.length → B[i]? = M[i]? := fun i hi => by rw [hB, List.getElem?_append_left (by omega)]; exact same1 i hi
      rw [← hB] at hX2 hbx2 cc2 hC b7 bown ⊢
      cases hgk : (swCase c k).good with
      | false =>
        simp (config := {implicitDefEqProofs := false, maxDischargeDepth := 20}) (disch := first | omega | (simp only [lenE]; done) | (simp only [lenE]; omega) | rfl | (simp only [lenE, markR_len]; done) | (simp only [lenE, markR_len]; omega)) only [runE, mapE, listE, initT_5, initT_6, initT_7, initT_8, resV, oneV, binA, unA, reduceCtorEq, Nat.reduceEqDiff, Nat.reduceAdd, Nat.reduceLT, Nat.reduceLeDiff, Nat.reduceMul, Nat.reduceSub, ↓reduceIte, decide_true, decide_false, Bool.true_eq_false, Bool.false_eq_true, Bool.not_true, Bool.not_false, if_true, if_false, and_true, true_and, memE, celE, w64, Nat.zero_add, Nat.add_zero, Nat.mul_one, putL, and_self, ldn, ext_2_0, ext_2_1, bsl_no]
        have e := sw_no (c := c) (k := k) (by omega) hgk
        rw [swA_no e, e]
        exact ext_noTab (f := fun v => .tuple #[v, .bool false]) hX2 rfl
      | true =>
        have gk := good_iff.1 hgk
        have hkn : (swCase c k).need = swNeed c k := rfl
        have hfo : fromOk (swCase c k) (bestL (swCase c k)) = true := by
          unfold fromOk
          rw [hgk, risB_iff.2 (bestL_rising _), bestL_cov gk]; rfl
        rw [bestPA_yes hgk] at bown ble ⊢
        simp (config := {implicitDefEqProofs := false, maxDischargeDepth := 20}) (disch := first | omega | (simp only [lenE]; done) | (simp only [lenE]; omega) | rfl | (simp only [lenE, markR_len]; done) | (simp only [lenE, markR_len]; omega)) only [runE, mapE, listE, initT_5, initT_6, initT_7, initT_8, resV, oneV, binA, unA, reduceCtorEq, Nat.reduceEqDiff, Nat.reduceAdd, Nat.reduceLT, Nat.reduceLeDiff, Nat.reduceMul, Nat.reduceSub, ↓reduceIte, decide_true, decide_false, Bool.true_eq_false, Bool.false_eq_true, Bool.not_true, Bool.not_false, if_true, if_false, and_true, true_and, memE, celE, w64, Nat.zero_add, Nat.add_zero, Nat.mul_one, putL, and_self, ldn, ext_2_0, ext_2_1, t1, t4, t5, t6, b7.rd]
        refine callH_rc (implPlanFrom_rc _ _ _ (swCase c k) (bestL (swCase c k)) hC (bown.ints (by omega) bf) ble) ?_
        rw [hfo, fromA_yes hfo]
        intro r n5 hA5
        obtain ⟨rid, rf, rfl, rge, hown, hle, nr5⟩ := hA5.row
        have hX4 := hX2.app nr5
        have hbx4 := hbx2.ext n5
        have cc4 := cc2.ext n5
        have hfl : (fromL (swCase c k).need (bestL (swCase c k))).length = c.need.length := by rw [fromL_len, hkn, swNeed_len]
        obtain ⟨D, hD⟩ : ∃ D, D = B ++ n5 := ⟨_, rfl⟩
        have hDl : B.length ≤ D.length := by rw [hD]; simp
        have same3 : ∀ i, i < M.length → D[i]? = M[i]? := fun i hi => by rw [hD, List.getElem?_append_left (by omega)]; exact same2 i hi
        rw [← hD] at hX4 hbx4 cc4 hown ⊢
        rw [hfl]
        have hown' : OwnR D rid (swNeed c (k + 1)) := hown
        have hridl := hown'.lt
        obtain ⟨CS, hCS⟩ : ∃ CS, CS = ((List.range N).map fun j => if j + k < N then (.slice none 0 0 : Value) else .slice (some ⟨R j, 0, none⟩) (swNeed c (N - j)).length (F j)).set p (.slice (some ⟨rid, 0, none⟩) c.need.length rf) := ⟨_, rfl⟩
        have z1 : stA D q p [.slice (some ⟨rid, 0, none⟩) c.need.length rf] = some (D.set q ⟨.own, 24, CS⟩) := by rw [hCS]; exact cc4.st (off := p) (vs := [.slice (some ⟨rid, 0, none⟩) c.need.length rf]) (by simp; omega) rfl
        have z2 := cc4.set_self 24 CS
        have z3 : CS[p]? = some (.slice (some ⟨rid, 0, none⟩) c.need.length rf) := by rw [hCS, List.getElem?_set_self (by simp; omega)]
        have ia : iadA 1 (.slice (some ⟨q, 0, none⟩) N 1) (.int .i64 (p : Int)) = some (.pointer (some ⟨q, p, none⟩)) := iad0 rfl (by omega)
        simp (config := {implicitDefEqProofs := false, maxDischargeDepth := 20}) (disch := first | omega | (simp only [lenE]; done) | (simp only [lenE]; omega) | rfl | (simp only [lenE, markR_len]; done) | (simp only [lenE, markR_len]; omega)) only [runE, mapE, listE, initT_5, initT_6, initT_7, initT_8, resV, oneV, binA, unA, reduceCtorEq, Nat.reduceEqDiff, Nat.reduceAdd, Nat.reduceLT, Nat.reduceLeDiff, Nat.reduceMul, Nat.reduceSub, ↓reduceIte, decide_true, decide_false, Bool.true_eq_false, Bool.false_eq_true, Bool.not_true, Bool.not_false, if_true, if_false, and_true, true_and, memE, celE, w64, Nat.zero_add, Nat.add_zero, Nat.mul_one, putL, and_self, ldn, ext_2_0, ext_2_1, t1, t4, t5, t6, ia, z1, z2.rd, z3]
        have epk : N - 1 - k = p := by omega
        have hn := pt.next (M' := D.set q ⟨.own, 24, CS⟩) (rid := rid) (fl := rf) hqM hlt (by rw [List.length_set]; omega) (fun i h1 h2 => by rw [List.getElem?_set_ne (by omega)]; exact same3 i h2) (by omega) (by rw [List.length_set]; exact hridl) (by
            simp only [show N - (N - 1 - k) = k + 1 by omega]
            exact hown'.set_ne (by omega)) (by
            rw [epk, swNeed_len, ← hCS]
            exact z2)
        refine ⟨⟨k + 1, _, _, _, by omega, rfl, hX4.put (by omega) _ _, by rw [List.length_set]; omega, hbx4.set_ne (by omega) _, hn, fun j hj => ?_, ?_, by congr 1; omega⟩, by simp [intOf]⟩
        · by_cases e : j = k
          · subst e; exact hgk
          · exact hgd j (by omega)
        · rw [if_neg (by omega)]
          simp only [show N - (k + 1) + k + 1 = N by omega, if_true]
    · try simp (config := {implicitDefEqProofs := false, maxDischargeDepth := 20}) (disch := first | omega | (simp only [lenE]; done) | (simp only [lenE]; omega) | rfl | (simp only [lenE, markR_len]; done) | (simp only [lenE, markR_len]; omega)) only [runE, mapE, listE, initT_5, initT_6, initT_7, initT_8, resV, oneV, binA, unA, reduceCtorEq, Nat.reduceEqDiff, Nat.reduceAdd, Nat.reduceLT, Nat.reduceLeDiff, Nat.reduceMul, Nat.reduceSub, ↓reduceIte, decide_true, decide_false, Bool.true_eq_false, Bool.false_eq_true, Bool.not_true, Bool.not_false, if_true, if_false, and_true, true_and, memE, celE, w64, Nat.zero_add, Nat.add_zero, Nat.mul_one, putL, and_self, ldn]
      have hu2 := hu.ext [⟨.own, 30, [.slice none 0 0, .slice none 0 0, .slice none 0 0, .slice none 0 0]⟩]
      refine rcallH_rc (steadyCase_rc _ u (swNeed c k) _ _ hu2 (by omega)) ?_
      rintro r n2 ⟨nr2, w, hwe, hw⟩
      rw [id_eq] at hwe
      subst r
      obtain ⟨w1, w2, w3, w4, rfl, ones⟩ := hw.now.agg
      obtain ⟨bid, hbid⟩ : ∃ bid, bid = M.length := ⟨_, rfl⟩
      have b7x : OwnB (M ++ [⟨.own, 30, [.slice none 0 0, .slice none 0 0, .slice none 0 0, .slice none 0 0]⟩] ++ n2) bid 30 [.slice none 0 0, .slice none 0 0, .slice none 0 0, .slice none 0 0] := (OwnB.here hbid).ext _
      have stE := b7x.st (off := 0) (vs := [w1, w2, w3, w4]) (by simp) ones
      have b7 := b7x.set_self 30 [w1, w2, w3, w4]
      have stE' : stA (M ++ [⟨.own, 30, [.slice none 0 0, .slice none 0 0, .slice none 0 0, .slice none 0 0]⟩] ++ n2) bid 0 [w1, w2, w3, w4] = some ((M ++ [(⟨.own, 30, [.slice none 0 0, .slice none 0 0, .slice none 0 0, .slice none 0 0]⟩ : Blk)] ++ n2).set bid ⟨.own, 30, [w1, w2, w3, w4]⟩) := stE
      obtain ⟨E, hE⟩ : ∃ E, E = (M ++ [(⟨.own, 30, [.slice none 0 0, .slice none 0 0, .slice none 0 0, .slice none 0 0]⟩ : Blk)] ++ n2).set bid ⟨.own, 30, [w1, w2, w3, w4]⟩ := ⟨_, rfl⟩
      have b7 : OwnB E bid 30 [w1, w2, w3, w4] := by rw [hE]; exact b7
      rw [← hE] at stE'
      have hXm := hX.len
      have hX2 : Ext m E := by rw [hE]; exact ((hX.one _ _).app nr2).put (by omega) _ _
      have hbx2 : OwnB E m.length 26 [a, b, d] := by rw [hE]; have := hbx.lt; exact ((hbx.ext _).ext _).set_ne (by omega) _
      have hC : CaseA E (.agg #[w1, w2, w3, w4]) (swCase c k) := by
        have := (hw.2.2 E fun i h1 h2 => by rw [hE, List.getElem?_set_ne (by simp at h1; omega)]).in
        unfold swCase; rw [eqk]; exact this
      have hEl : M.length ≤ E.length := by rw [hE]; simp
      have same1 : ∀ i, i < M.length → E[i]? = M[i]? := fun i hi => by rw [hE, List.getElem?_set_ne (by omega), List.append_assoc, List.getElem?_append_left hi]
      have cc2 := pt.cells.at_ (same1 q pt.cells.lt)
      rw [← hbid]
      have hbE := b7.lt
      simp (config := {implicitDefEqProofs := false, maxDischargeDepth := 20}) (disch := first | omega | (simp only [lenE]; done) | (simp only [lenE]; omega) | rfl | (simp only [lenE, markR_len]; done) | (simp only [lenE, markR_len]; omega)) only [runE, mapE, listE, initT_5, initT_6, initT_7, initT_8, resV, oneV, binA, unA, reduceCtorEq, Nat.reduceEqDiff, Nat.reduceAdd, Nat.reduceLT, Nat.reduceLeDiff, Nat.reduceMul, Nat.reduceSub, ↓reduceIte, decide_true, decide_false, Bool.true_eq_false, Bool.false_eq_true, Bool.not_true, Bool.not_false, if_true, if_false, and_true, true_and, memE, celE, w64, Nat.zero_add, Nat.add_zero, Nat.mul_one, putL, and_self, ldn, stP_agg4, stE', b7.rd]
      refine callH_rc (implBestPeriods_rc _ _ (swCase c k) hC) ?_
      intro r n3 hA3
      obtain ⟨bid, bf, rfl, bge, bown, ble, nr3⟩ := hA3.row
      replace hX2 := hX2.app nr3
      replace hbx2 := hbx2.ext n3
      replace cc2 := cc2.ext n3
      replace hC := hC.ext n3
      replace b7 := b7.ext n3
      obtain ⟨B, hB⟩ : ∃ B, B = E ++ n3 := ⟨_, rfl⟩
      have hBl : M.length ≤ B.length := by rw [hB]; simp; omega
      have same2 : ∀ i, i < M.length → B[i]? = M[i]? := fun i hi => by rw [hB, List.getElem?_append_left (by omega)]; exact same1 i hi
      rw [← hB] at hX2 hbx2 cc2 hC b7 bown ⊢
      cases hgk : (swCase c k).good with
      | false =>
        simp (config := {implicitDefEqProofs := false, maxDischargeDepth := 20}) (disch := first | omega | (simp only [lenE]; done) | (simp only [lenE]; omega) | rfl | (simp only [lenE, markR_len]; done) | (simp only [lenE, markR_len]; omega)) only [runE, mapE, listE, initT_5, initT_6, initT_7, initT_8, resV, oneV, binA, unA, reduceCtorEq, Nat.reduceEqDiff, Nat.reduceAdd, Nat.reduceLT, Nat.reduceLeDiff, Nat.reduceMul, Nat.reduceSub, ↓reduceIte, decide_true, decide_false, Bool.true_eq_false, Bool.false_eq_true, Bool.not_true, Bool.not_false, if_true, if_false, and_true, true_and, memE, celE, w64, Nat.zero_add, Nat.add_zero, Nat.mul_one, putL, and_self, ldn, ext_2_0, ext_2_1, bsl_no]
        have e := sw_no (c := c) (k := k) (by omega) hgk
        rw [swA_no e, e]
        exact ext_noTab (f := fun v => .tuple #[v, .bool false]) hX2 rfl
      | true =>
        have gk := good_iff.1 hgk
        have hkn : (swCase c k).need = swNeed c k := rfl
        have hfo : fromOk (swCase c k) (bestL (swCase c k)) = true := by
          unfold fromOk
          rw [hgk, risB_iff.2 (bestL_rising _), bestL_cov gk]; rfl
        rw [bestPA_yes hgk] at bown ble ⊢
        simp (config := {implicitDefEqProofs := false, maxDischargeDepth := 20}) (disch := first | omega | (simp only [lenE]; done) | (simp only [lenE]; omega) | rfl | (simp only [lenE, markR_len]; done) | (simp only [lenE, markR_len]; omega)) only [runE, mapE, listE, initT_5, initT_6, initT_7, initT_8, resV, oneV, binA, unA, reduceCtorEq, Nat.reduceEqDiff, Nat.reduceAdd, Nat.reduceLT, Nat.reduceLeDiff, Nat.reduceMul, Nat.reduceSub, ↓reduceIte, decide_true, decide_false, Bool.true_eq_false, Bool.false_eq_true, Bool.not_true, Bool.not_false, if_true, if_false, and_true, true_and, memE, celE, w64, Nat.zero_add, Nat.add_zero, Nat.mul_one, putL, and_self, ldn, ext_2_0, ext_2_1, t1, t4, t5, t6, b7.rd]
        refine callH_rc (implPlanFrom_rc _ _ _ (swCase c k) (bestL (swCase c k)) hC (bown.ints (by omega) bf) ble) ?_
        rw [hfo, fromA_yes hfo]
        intro r n5 hA5
        obtain ⟨rid, rf, rfl, rge, hown, hle, nr5⟩ := hA5.row
        have hX4 := hX2.app nr5
        have hbx4 := hbx2.ext n5
        have cc4 := cc2.ext n5
        have hfl : (fromL (swCase c k).need (bestL (swCase c k))).length = c.need.length := by rw [fromL_len, hkn, swNeed_len]
        obtain ⟨D, hD⟩ : ∃ D, D = B ++ n5 := ⟨_, rfl⟩
        have hDl : B.length ≤ D.length := by rw [hD]; simp
        have same3 : ∀ i, i < M.length → D[i]? = M[i]? := fun i hi => by rw [hD, List.getElem?_append_left (by omega)]; exact same2 i hi
        rw [← hD] at hX4 hbx4 cc4 hown ⊢
        rw [hfl]
        have hown' : OwnR D rid (swNeed c (k + 1)) := hown
        have hridl := hown'.lt
        obtain ⟨CS, hCS⟩ : ∃ CS, CS = ((List.range N).map fun j => if j + k < N then (.slice none 0 0 : Value) else .slice (some ⟨R j, 0, none⟩) (swNeed c (N - j)).length (F j)).set p (.slice (some ⟨rid, 0, none⟩) c.need.length rf) := ⟨_, rfl⟩
        have z1 : stA D q p [.slice (some ⟨rid, 0, none⟩) c.need.length rf] = some (D.set q ⟨.own, 24, CS⟩) := by rw [hCS]; exact cc4.st (off := p) (vs := [.slice (some ⟨rid, 0, none⟩) c.need.length rf]) (by simp; omega) rfl
        have z2 := cc4.set_self 24 CS
        have z3 : CS[p]? = some (.slice (some ⟨rid, 0, none⟩) c.need.length rf) := by rw [hCS, List.getElem?_set_self (by simp; omega)]
        have ia : iadA 1 (.slice (some ⟨q, 0, none⟩) N 1) (.int .i64 (p : Int)) = some (.pointer (some ⟨q, p, none⟩)) := iad0 rfl (by omega)
        simp (config := {implicitDefEqProofs := false, maxDischargeDepth := 20}) (disch := first | omega | (simp only [lenE]; done) | (simp only [lenE]; omega) | rfl | (simp only [lenE, markR_len]; done) | (simp only [lenE, markR_len]; omega)) only [runE, mapE, listE, initT_5, initT_6, initT_7, initT_8, resV, oneV, binA, unA, reduceCtorEq, Nat.reduceEqDiff, Nat.reduceAdd, Nat.reduceLT, Nat.reduceLeDiff, Nat.reduceMul, Nat.reduceSub, ↓reduceIte, decide_true, decide_false, Bool.true_eq_false, Bool.false_eq_true, Bool.not_true, Bool.not_false, if_true, if_false, and_true, true_and, memE, celE, w64, Nat.zero_add, Nat.add_zero, Nat.mul_one, putL, and_self, ldn, ext_2_0, ext_2_1, t1, t4, t5, t6, ia, z1, z2.rd, z3]
        have epk : N - 1 - k = p := by omega
        have hn := pt.next (M' := D.set q ⟨.own, 24, CS⟩) (rid := rid) (fl := rf) hqM hlt (by rw [List.length_set]; omega) (fun i h1 h2 => by rw [List.getElem?_set_ne (by omega)]; exact same3 i h2) (by omega) (by rw [List.length_set]; exact hridl) (by
            simp only [show N - (N - 1 - k) = k + 1 by omega]
            exact hown'.set_ne (by omega)) (by
            rw [epk, swNeed_len, ← hCS]
            exact z2)
        refine ⟨⟨k + 1, _, _, _, by omega, rfl, hX4.put (by omega) _ _, by rw [List.length_set]; omega, hbx4.set_ne (by omega) _, hn, fun j hj => ?_, ?_, by congr 1; omega⟩, by simp [intOf]⟩
        · by_cases e : j = k
          · subst e; exact hgk
          · exact hgd j (by omega)
        · rw [if_neg (by omega)]
          simp only [show N - (k + 1) + k + 1 = N by omega, if_true]
  · have e : k = N := by omega
    subst e
    have ez : ¬ ((0 : Int) ≤ (k : Int) - 1 - k) := by omega
    simp (config := {implicitDefEqProofs := false, maxDischargeDepth := 20}) (disch := first | omega | (simp only [lenE]; done) | (simp only [lenE]; omega) | rfl | (simp only [lenE, markR_len]; done) | (simp only [lenE, markR_len]; omega)) only [runE, mapE, listE, initT_5, initT_6, initT_7, initT_8, resV, oneV, binA, unA, reduceCtorEq, Nat.reduceEqDiff, Nat.reduceAdd, Nat.reduceLT, Nat.reduceLeDiff, Nat.reduceMul, Nat.reduceSub, ↓reduceIte, decide_true, decide_false, Bool.true_eq_false, Bool.false_eq_true, Bool.not_true, Bool.not_false, if_true, if_false, and_true, true_and, memE, celE, w64, Nat.zero_add, Nat.add_zero, Nat.mul_one, putL, and_self, ldn, tm, t1, t4, t5, t6, ge_iff_le, ez]
    have e : swOk c = true := by
      unfold swOk
      rw [hg, ← hN, all_range_yes hgd]; rfl
    rw [swA_yes e, e, ← hN]
    refine ext_ansO (f := fun v => .tuple #[v, .bool true]) hX fun M' hM => ?_
    exact TabO.wide _ _ _ _ _ _ _ (by omega) (Nat.le_refl _) (pt.full (swT_len c k) (fun j hj => swT_at hj) (by omega) (swT_sz (by omega) n6) fun i h1 h2 => hM i (by omega) h2)
end Go.Proofs.Ytamhhicnfpemeaa.Ab
end
section
namespace Go.Proofs.Ytamhhicnfpemeaa.Ab
open Go Go.RowKit
set_option linter.unusedVariables false
set_option linter.unusedSimpArgs false
def Adds (W : World) (ρ ρ' : Places) (m m' : Mem) : Prop := ρ <+: ρ' ∧ MRel W W.heap.size ρ' m' W ∧ ∃ new, m' = m ++ new
theorem Adds.trans {W : World} {ρ1 ρ2 ρ3 : Places} {m1 m2 m3 : Mem} (h : Adds W ρ1 ρ2 m1 m2) (h' : Adds W ρ2 ρ3 m2 m3) : Adds W ρ1 ρ3 m1 m3 := by
  obtain ⟨a, b, n1, rfl⟩ := h
  obtain ⟨c, d, n2, rfl⟩ := h'
  exact ⟨a.trans c, d, n1 ++ n2, by rw [List.append_assoc]⟩
theorem Adds.refl {W : World} {ρ : Places} {m : Mem} (h : MRel W W.heap.size ρ m W) : Adds W ρ ρ m m := ⟨List.prefix_refl _, h, [], by simp⟩
theorem argI2 {W : World} {ρ : Places} {m : Mem} (h : MRel W W.heap.size ρ m W) {v : Value} {l : List Int} (hi : IntsIn W v l) :
    ∃ ρ' m', Adds W ρ ρ' m m' ∧ ∃ x, VR ρ' x v ∧ IntsA m' x l := by
  obtain ⟨p, h1, h2⟩ := h.argInts hi
  exact ⟨_, _, ⟨pre_snoc _ _, h1, _, rfl⟩, _, h2, (RowA.arg (IntsIn.bd hi) rfl).ints 0⟩
end Go.Proofs.Ytamhhicnfpemeaa.Ab
end
section
namespace Go.Proofs.Ytamhhicnfpemeaa
open Go.RowKit Go.ChangeShapes Go.WideShapes Go.ChangeAt
open Go.WideMaps Go.WideElems
set_option linter.unusedVariables false
def ChainIn (W : World) (v : Value) (c : Ch) : Prop := ∃ a b d, v = .agg #[a, b, d] ∧ IntsIn W a c.need ∧ IntsIn W b c.setup ∧ IntsIn W d c.hold
set_option maxRecDepth 100000 in
theorem open_chain {H : Type} {enc : TypeId × Value → H} {W : World} {base : Nat} {v : Value} {d : DataW H} {ps : List MemPlace}
    (hval : Value.okWide Try.prog W .any base 41 v) (h : DataW.Trod enc Try.prog W 0 (fun _ => true) true 41 v d ps) : ∃ c, ChainIn W v c := by
  simp only [Value.okWide, Try.underlying41] at hval
  obtain ⟨cs, rfl, hsz, _⟩ := hval
  have hsz3 : cs.size = 3 := hsz.trans (by kernel_rfl)
  obtain ⟨fuel, hf⟩ := h
  obtain ⟨xs, n, _, _, _, hlen, hfield⟩ := DataW.trod_struct Try.underlying41 hf
  obtain ⟨a, b, c, rfl⟩ : ∃ a b c, cs = #[a, b, c] := by
    obtain ⟨l⟩ := cs
    match l, hsz3 with
    | [a, b, c], _ => exact ⟨a, b, c, rfl⟩
  have hcs : Try.prog.cellsOf 24 = 1 := by kernel_rfl
  match xs, hlen with
  | [y0, y1, y2], _ =>
    obtain ⟨u0, l0, k0, h0⟩ := ints_trod (cs := [a]) (by simpa [Value.cells, hcs] using hfield 0 _ rfl)
    obtain ⟨u1, l1, k1, h1⟩ := ints_trod (cs := [b]) (by simpa [Value.cells, hcs] using hfield 1 _ rfl)
    obtain ⟨u2, l2, k2, h2⟩ := ints_trod (cs := [c]) (by simpa [Value.cells, hcs] using hfield 2 _ rfl)
    cases k0; cases k1; cases k2
    exact ⟨⟨l0, l1, l2⟩, _, _, _, rfl, h0, h1, h2⟩
end Go.Proofs.Ytamhhicnfpemeaa
end
section
namespace Go.Proofs.Ytamhhicnfpemeaa.Ab
open Go Go.RowKit
set_option linter.unusedVariables false
theorem BoxA.ld3 {m : Mem} {id : Nat} {a b c : Value} (h : BoxA m id [a, b, c]) : ldA m (some 3) (.pointer (some ⟨id, 0, none⟩)) = some (.agg #[a, b, c]) := by
  obtain ⟨_, h⟩ := h
  simp [ldA, rdn, rdc, h]
theorem BoxA.but {m m' : Mem} {id lo hi : Nat} {vs : List Value} (h : BoxA m id vs) (hb : But lo hi m m') (hd : id < lo ∨ hi ≤ id) : BoxA m' id vs := by
  have hl := h.lt
  obtain ⟨e, h⟩ := h
  exact ⟨e, by rw [hb.2 id hl hd]; exact h⟩
theorem IntsA.one {m : Mem} {v : Value} {l : List Int} (h : IntsA m v l) (xs : List Value) : onesB (v :: xs) = onesB xs := by
  rcases h.form with ⟨rfl, _⟩ | ⟨id, off, fl, rfl⟩ <;> exact onesB_sl _ _ _ _
end Go.Proofs.Ytamhhicnfpemeaa.Ab
end
section
namespace Go.Proofs.Ytamhhicnfpemeaa.Ab
open Go Go.RowKit
set_option linter.unusedVariables false
theorem vr3 {ρ : Places} {a b c x y z : Value} (ha : VR ρ a x) (hb : VR ρ b y) (hc : VR ρ c z) : VR ρ (.agg #[a, b, c]) (.agg #[x, y, z]) := by
  obtain ⟨h1, h2⟩ := (VL.cons ha (VL.cons hb (VL.cons hc (VL.nil ρ)))).arr
  exact .agg h1 h2
theorem argChain {W : World} {ρ : Places} {m : Mem} (h : MRel W W.heap.size ρ m W) {v : Value} {c : Ch} (hi : ChainIn W v c) :
    ∃ ρ' m', Adds W ρ ρ' m m' ∧ ∃ x, VR ρ' x v ∧ ChA m' x c := by
  obtain ⟨u1, u2, u3, rfl, h1, h2, h3⟩ := hi
  obtain ⟨ρ1, m1, a1, x1, k1, A1⟩ := argI2 h h1
  obtain ⟨ρ2, m2, a2, x2, k2, A2⟩ := argI2 a1.2.1 h2
  obtain ⟨ρ3, m3, a3, x3, k3, A3⟩ := argI2 a2.2.1 h3
  obtain ⟨p2, q2, n2, e2⟩ := a2
  obtain ⟨p3, q3, n3, e3⟩ := a3
  refine ⟨ρ3, m3, a1.trans (Adds.trans ⟨p2, q2, n2, e2⟩ ⟨p3, q3, n3, e3⟩), _, vr3 (k1.mono (p2.trans p3)) (k2.mono p3) k3, ?_⟩
  subst e2
  subst e3
  exact ChA.mk ((A1.ext _).ext _) (A2.ext _) A3
theorem ChA.one1 {m : Mem} {c : Ch} {a b d : Value} (h : ChA m (chV a b d) c) (xs : List Value) : onesB (a :: xs) = onesB xs := by
  obtain ⟨a', b', d', e, h1, h2, h3⟩ := h
  obtain ⟨rfl, rfl, rfl⟩ : a = a' ∧ b = b' ∧ d = d' := by simpa [chV] using e
  exact h1.one xs
theorem ChA.one2 {m : Mem} {c : Ch} {a b d : Value} (h : ChA m (chV a b d) c) (xs : List Value) : onesB (b :: xs) = onesB xs := by
  obtain ⟨a', b', d', e, h1, h2, h3⟩ := h
  obtain ⟨rfl, rfl, rfl⟩ : a = a' ∧ b = b' ∧ d = d' := by simpa [chV] using e
  exact h2.one xs
theorem ChA.one3 {m : Mem} {c : Ch} {a b d : Value} (h : ChA m (chV a b d) c) (xs : List Value) : onesB (d :: xs) = onesB xs := by
  obtain ⟨a', b', d', e, h1, h2, h3⟩ := h
  obtain ⟨rfl, rfl, rfl⟩ : a = a' ∧ b = b' ∧ d = d' := by simpa [chV] using e
  exact h3.one xs
end Go.Proofs.Ytamhhicnfpemeaa.Ab
end
section
namespace Go.Proofs.Ytamhhicnfpemeaa.Ab
open Go Go.RowKit Go.Proofs
set_option maxRecDepth 100000
def c_laws_FnExactStagewisePlan : ACode := .seq (.reg [⟨(some 1), .box 41 (.tmp 0), none⟩,
  ⟨(some 2), .mv (.const (.bool false)), none⟩])
 (.seq (.reg [⟨(some 3), .mv (.const (.int .i64 1048576)), none⟩])
 (.seq (.reg [⟨(some 14), .ld (some 3) (.tmp 1), none⟩,
  ⟨(some 15), .mv (.tmp 3), none⟩,
  ⟨(some 16), .call (.func 29) [(.tmp 14), (.tmp 15)], none⟩,
  ⟨(some 3), .mv (.tmp 16), none⟩])
 (.seq (.seq (.reg [⟨(some 17), .mv (.tmp 3), none⟩,
  ⟨(some 18), .bin .lss (.tmp 17) (.const (.int .i64 0)), none⟩])
 (.cond (.tmp 18) (.seq (.reg [⟨(some 2), .mv (.const (.bool true)), none⟩])
 (.ret)) (.skip)))
 (.seq (.reg [⟨(some 20), .ld (some 3) (.tmp 1), none⟩,
  ⟨(some 21), .call (.func 31) [(.tmp 20)], none⟩,
  ⟨(some 22), .call (.func 65) [(.tmp 21)], none⟩,
  ⟨(some 19), .mv (.tmp 22), none⟩,
  ⟨(some 23), .ext 0 (.tmp 19), none⟩,
  ⟨(some 24), .ext 1 (.tmp 19), none⟩,
  ⟨(some 4), .mv (.tmp 23), none⟩,
  ⟨(some 5), .mv (.tmp 24), none⟩])
 (.seq (.reg [⟨(some 25), .ld (some 3) (.tmp 1), none⟩,
  ⟨(some 26), .call (.func 31) [(.tmp 25)], none⟩,
  ⟨(some 6), .alc 26 [(.slice none 0 0), (.slice none 0 0), (.slice none 0 0)], none⟩,
  ⟨none, .st 3 (.tmp 6) (.tmp 26), none⟩])
 (.seq (.reg [⟨(some 28), .ld (some 3) (.tmp 6), none⟩,
  ⟨(some 29), .call (.func 66) [(.tmp 28)], none⟩,
  ⟨(some 27), .mv (.tmp 29), none⟩,
  ⟨(some 30), .ext 0 (.tmp 27), none⟩,
  ⟨(some 31), .ext 1 (.tmp 27), none⟩,
  ⟨(some 7), .mv (.tmp 30), none⟩,
  ⟨(some 8), .mv (.tmp 31), none⟩])
 (.seq (.seq (.reg [⟨(some 32), .mv (.tmp 7), none⟩,
  ⟨(some 33), .mv (.tmp 4), none⟩,
  ⟨(some 34), .call (.func 38) [(.tmp 32), (.tmp 33)], none⟩,
  ⟨(some 35), .un .not (.tmp 34), none⟩,
  ⟨(some 36), .mv (.tmp 35), none⟩,
  ⟨(some 37), .mv (.tmp 8), (some (36, false))⟩,
  ⟨(some 38), .mv (.tmp 5), (some (36, false))⟩,
  ⟨(some 39), .beq true (.tmp 37) (.tmp 38), (some (36, false))⟩,
  ⟨(some 40), .pick (.tmp 36) (.const (.bool true)) (.tmp 39), none⟩])
 (.cond (.tmp 40) (.seq (.reg [⟨(some 2), .mv (.const (.bool false)), none⟩])
 (.ret)) (.skip)))
 (.seq (.seq (.reg [⟨(some 41), .ld (some 3) (.tmp 6), none⟩,
  ⟨(some 42), .ld (some 3) (.tmp 1), none⟩,
  ⟨(some 43), .rcall (.func 31) [(.tmp 42)], none⟩,
  ⟨(some 44), .rcall (.func 33) [(.tmp 41), (.tmp 43)], none⟩,
  ⟨(some 45), .un .not (.tmp 44), none⟩])
 (.cond (.tmp 45) (.seq (.reg [⟨(some 2), .mv (.const (.bool false)), none⟩])
 (.ret)) (.skip)))
 (.seq (.reg [⟨(some 9), .mv (.const (.int .i64 1)), none⟩])
 (.seq (.reg [⟨(some 46), .ld (some 3) (.tmp 6), none⟩,
  ⟨(some 47), .mv (.tmp 9), none⟩,
  ⟨(some 48), .call (.func 39) [(.tmp 46), (.tmp 47)], none⟩,
  ⟨(some 9), .mv (.tmp 48), none⟩])
 (.seq (.seq (.reg [⟨(some 49), .mv (.tmp 9), none⟩,
  ⟨(some 50), .bin .lss (.tmp 49) (.const (.int .i64 0)), none⟩,
  ⟨(some 51), .mv (.tmp 50), none⟩,
  ⟨(some 52), .mv (.tmp 7), (some (51, false))⟩,
  ⟨(some 53), .mv (.tmp 4), (some (51, false))⟩,
  ⟨(some 54), .call (.func 38) [(.tmp 52), (.tmp 53)], (some (51, false))⟩,
  ⟨(some 55), .un .not (.tmp 54), (some (51, false))⟩,
  ⟨(some 56), .pick (.tmp 51) (.const (.bool true)) (.tmp 55), none⟩,
  ⟨(some 57), .mv (.tmp 56), none⟩,
  ⟨(some 58), .mv (.tmp 8), (some (57, false))⟩,
  ⟨(some 59), .mv (.tmp 5), (some (57, false))⟩,
  ⟨(some 60), .beq true (.tmp 58) (.tmp 59), (some (57, false))⟩,
  ⟨(some 61), .pick (.tmp 57) (.const (.bool true)) (.tmp 60), none⟩])
 (.cond (.tmp 61) (.seq (.reg [⟨(some 2), .mv (.const (.bool false)), none⟩])
 (.ret)) (.skip)))
 (.seq (.reg [⟨(some 10), .mv (.const (.int .i64 1)), none⟩])
 (.seq (.reg [⟨(some 62), .mv (.tmp 7), none⟩,
  ⟨(some 63), .mv (.tmp 10), none⟩,
  ⟨(some 64), .call (.func 40) [(.tmp 62), (.tmp 63)], none⟩,
  ⟨(some 10), .mv (.tmp 64), none⟩])
 (.seq (.reg [⟨(some 11), .mv (.const (.int .i64 1)), none⟩])
 (.seq (.reg [⟨(some 65), .mv (.tmp 7), none⟩,
  ⟨(some 66), .mv (.tmp 11), none⟩,
  ⟨(some 67), .call (.func 41) [(.tmp 65), (.tmp 66)], none⟩,
  ⟨(some 11), .mv (.tmp 67), none⟩])
 (.seq (.seq (.reg [⟨(some 68), .mv (.tmp 11), none⟩,
  ⟨(some 69), .bin .lss (.tmp 68) (.const (.int .i64 0)), none⟩])
 (.cond (.tmp 69) (.seq (.reg [⟨(some 2), .mv (.const (.bool false)), none⟩])
 (.ret)) (.skip)))
 (.seq (.seq (.reg [⟨(some 70), .mv (.tmp 11), none⟩,
  ⟨(some 71), .mv (.tmp 10), none⟩,
  ⟨(some 72), .bin .neq (.tmp 70) (.tmp 71), none⟩])
 (.cond (.tmp 72) (.seq (.reg [⟨(some 2), .mv (.const (.bool false)), none⟩])
 (.ret)) (.skip)))
 (.seq (.reg [⟨(some 74), .ld (some 3) (.tmp 1), none⟩,
  ⟨(some 75), .call (.func 31) [(.tmp 74)], none⟩,
  ⟨(some 76), .call (.func 66) [(.tmp 75)], none⟩,
  ⟨(some 73), .mv (.tmp 76), none⟩,
  ⟨(some 77), .ext 0 (.tmp 73), none⟩,
  ⟨(some 78), .ext 1 (.tmp 73), none⟩,
  ⟨(some 12), .mv (.tmp 77), none⟩,
  ⟨(some 13), .mv (.tmp 78), none⟩])
 (.seq (.seq (.reg [⟨(some 79), .mv (.tmp 12), none⟩,
  ⟨(some 80), .mv (.tmp 4), none⟩,
  ⟨(some 81), .call (.func 38) [(.tmp 79), (.tmp 80)], none⟩,
  ⟨(some 82), .un .not (.tmp 81), none⟩,
  ⟨(some 83), .mv (.tmp 82), none⟩,
  ⟨(some 84), .mv (.tmp 13), (some (83, false))⟩,
  ⟨(some 85), .mv (.tmp 5), (some (83, false))⟩,
  ⟨(some 86), .beq true (.tmp 84) (.tmp 85), (some (83, false))⟩,
  ⟨(some 87), .pick (.tmp 83) (.const (.bool true)) (.tmp 86), none⟩])
 (.cond (.tmp 87) (.seq (.reg [⟨(some 2), .mv (.const (.bool false)), none⟩])
 (.ret)) (.skip)))
 (.seq (.reg [⟨(some 11), .mv (.const (.int .i64 1)), none⟩])
 (.seq (.reg [⟨(some 88), .mv (.tmp 7), none⟩,
  ⟨(some 89), .mv (.tmp 11), none⟩,
  ⟨(some 90), .call (.func 41) [(.tmp 88), (.tmp 89)], none⟩,
  ⟨(some 11), .mv (.tmp 90), none⟩])
 (.seq (.seq (.reg [⟨(some 91), .mv (.tmp 11), none⟩,
  ⟨(some 92), .bin .lss (.tmp 91) (.const (.int .i64 0)), none⟩])
 (.cond (.tmp 92) (.seq (.reg [⟨(some 2), .mv (.const (.bool false)), none⟩])
 (.ret)) (.skip)))
 (.seq (.seq (.reg [⟨(some 93), .mv (.tmp 11), none⟩,
  ⟨(some 94), .mv (.tmp 10), none⟩,
  ⟨(some 95), .bin .neq (.tmp 93) (.tmp 94), none⟩])
 (.cond (.tmp 95) (.seq (.reg [⟨(some 2), .mv (.const (.bool false)), none⟩])
 (.ret)) (.skip)))
 (.seq (.reg [⟨(some 2), .mv (.const (.bool true)), none⟩])
 (.ret)))))))))))))))))))))))))
def r_laws_FnExactStagewisePlan : List ARes := [.tmp 2]
theorem ok_laws_FnExactStagewisePlan : FnOk Try.prog 16 96 c_laws_FnExactStagewisePlan r_laws_FnExactStagewisePlan := ⟨⟨Try.f16, _, Try.func16, by kernel_rfl, rfl, rfl, by kernel_rfl, by kernel_rfl⟩⟩
end Go.Proofs.Ytamhhicnfpemeaa.Ab
end
section
namespace Go.Proofs.Ytamhhicnfpemeaa.Ab
open Go Go.RowKit
set_option linter.unusedVariables false
set_option linter.unusedSimpArgs false
set_option maxRecDepth 100000
set_option maxHeartbeats 4000000 in
theorem law_FnExactStagewisePlan (M0 : Mem) (d0 : Ch) (v0 : Value) (A0 : ChA M0 v0 d0) :
    AC Try.prog 16 [v0] M0 fun r _ => r = .bool true := by
  refine ac_of_run mixed ok_laws_FnExactStagewisePlan (by simp) (go_start _ _ _ ?_)
  have A0c := A0
  obtain ⟨u0a, u0b, u0c, rfl, -⟩ := A0c
  have C0 : Lv 0 M0.length M0 fun M => ChA M (chV u0a u0b u0c) d0 := Lv.all fun new => A0.ext new
  try simp (config := {implicitDefEqProofs := false, maxDischargeDepth := 20}) (disch := first | omega | (simp only [lenE]; done) | (simp only [lenE]; omega) | rfl | (simp only [lenE, markR_len]; done) | (simp only [lenE, markR_len]; omega)) only [runE, mapE, listE, initT_5, initT_6, initT_7, initT_8, resV, oneV, binA, unA, reduceCtorEq, Nat.reduceEqDiff, Nat.reduceAdd, Nat.reduceLT, Nat.reduceLeDiff, Nat.reduceMul, Nat.reduceSub, ↓reduceIte, decide_true, decide_false, Bool.true_eq_false, Bool.false_eq_true, Bool.not_true, Bool.not_false, if_true, if_false, and_true, true_and, memE, celE, w64, Nat.zero_add, Nat.add_zero, Nat.mul_one, putL, and_self, ldn, c_laws_FnExactStagewisePlan, r_laws_FnExactStagewisePlan, id_eq, ext_2_0, ext_2_1, ext_3_0, ext_3_1, ext_3_2, ext_4_0, ext_4_1, ext_4_2, ext_4_3, beq_self_eq_true, bne_self_eq_false, gt_iff_lt]
  obtain ⟨M1, hM1⟩ : ∃ M', M' = M0 ++ [⟨.own, 41, [u0a, u0b, u0c]⟩] := ⟨_, rfl⟩
  rw [← hM1]
  have LM1 : M1.length = M0.length + 1 := by rw [hM1, List.length_append]; rfl
  replace C0 : Lv 0 M0.length M1 fun M => ChA M (chV u0a u0b u0c) d0 := by rw [hM1]; exact C0.ext _
  have X0 : BoxA M1 M0.length [u0a, u0b, u0c] := by rw [hM1]; exact BoxA.here _ _ _ rfl
  try simp (config := {implicitDefEqProofs := false, maxDischargeDepth := 20}) (disch := first | omega | (simp only [lenE]; done) | (simp only [lenE]; omega) | rfl | (simp only [lenE, markR_len]; done) | (simp only [lenE, markR_len]; omega)) only [runE, mapE, listE, initT_5, initT_6, initT_7, initT_8, resV, oneV, binA, unA, reduceCtorEq, Nat.reduceEqDiff, Nat.reduceAdd, Nat.reduceLT, Nat.reduceLeDiff, Nat.reduceMul, Nat.reduceSub, ↓reduceIte, decide_true, decide_false, Bool.true_eq_false, Bool.false_eq_true, Bool.not_true, Bool.not_false, if_true, if_false, and_true, true_and, memE, celE, w64, Nat.zero_add, Nat.add_zero, Nat.mul_one, putL, and_self, ldn, id_eq, ext_2_0, ext_2_1, ext_3_0, ext_3_1, ext_3_2, ext_4_0, ext_4_1, ext_4_2, ext_4_3, beq_self_eq_true, bne_self_eq_false, gt_iff_lt, X0.ld3]
  refine callH_rc (szChain_rc _ _ d0 1048576 C0.now (by omega) (by omega)) ?_
  rintro r new ⟨nrn, rfl | ⟨z1, za1, zb1, rfl, hs0⟩⟩
  · simp (config := {implicitDefEqProofs := false, maxDischargeDepth := 20}) (disch := first | omega | (simp only [lenE]; done) | (simp only [lenE]; omega) | rfl | (simp only [lenE, markR_len]; done) | (simp only [lenE, markR_len]; omega)) only [runE, mapE, listE, initT_5, initT_6, initT_7, initT_8, resV, oneV, binA, unA, reduceCtorEq, Nat.reduceEqDiff, Nat.reduceAdd, Nat.reduceLT, Nat.reduceLeDiff, Nat.reduceMul, Nat.reduceSub, ↓reduceIte, decide_true, decide_false, Bool.true_eq_false, Bool.false_eq_true, Bool.not_true, Bool.not_false, if_true, if_false, and_true, true_and, memE, celE, w64, Nat.zero_add, Nat.add_zero, Nat.mul_one, putL, and_self, ldn, show ((-1 : Int) < 0) = True by simp]
  have zc1 : ¬ (z1 < 0) := by omega
  obtain ⟨M2, hM2⟩ : ∃ M', M' = M1 ++ new := ⟨_, rfl⟩
  rw [← hM2]
  have LM2 : M2.length = M1.length + new.length := by rw [hM2, List.length_append]
  replace C0 : Lv 0 M0.length M2 fun M => ChA M (chV u0a u0b u0c) d0 := by rw [hM2]; exact C0.ext _
  replace X0 : BoxA M2 M0.length [u0a, u0b, u0c] := by rw [hM2]; exact X0.ext _
  clear nrn
  try simp (config := {implicitDefEqProofs := false, maxDischargeDepth := 20}) (disch := first | omega | (simp only [lenE]; done) | (simp only [lenE]; omega) | rfl | (simp only [lenE, markR_len]; done) | (simp only [lenE, markR_len]; omega)) only [runE, mapE, listE, initT_5, initT_6, initT_7, initT_8, resV, oneV, binA, unA, reduceCtorEq, Nat.reduceEqDiff, Nat.reduceAdd, Nat.reduceLT, Nat.reduceLeDiff, Nat.reduceMul, Nat.reduceSub, ↓reduceIte, decide_true, decide_false, Bool.true_eq_false, Bool.false_eq_true, Bool.not_true, Bool.not_false, if_true, if_false, and_true, true_and, memE, celE, w64, Nat.zero_add, Nat.add_zero, Nat.mul_one, putL, and_self, ldn, id_eq, ext_2_0, ext_2_1, ext_3_0, ext_3_1, ext_3_2, ext_4_0, ext_4_1, ext_4_2, ext_4_3, beq_self_eq_true, bne_self_eq_false, gt_iff_lt, zc1, X0.ld3]
  obtain ⟨W, hW⟩ : ∃ W : List (List Int), W = (swA d0) := ⟨_, rfl⟩
  obtain ⟨q0, hq0⟩ : ∃ q : Bool, q = (swOk d0) := ⟨_, rfl⟩
  have SPC := fun m u0 => specSw_rc m u0 d0
  have IMP := fun m u0 => implSw_rc m u0 d0
  try rw [← hW] at SPC
  try rw [← hW] at IMP
  try rw [← hq0] at SPC
  try rw [← hq0] at IMP
  try simp (config := {implicitDefEqProofs := false, maxDischargeDepth := 20}) (disch := first | omega | (simp only [lenE]; done) | (simp only [lenE]; omega) | rfl | (simp only [lenE, markR_len]; done) | (simp only [lenE, markR_len]; omega)) only [runE, mapE, listE, initT_5, initT_6, initT_7, initT_8, resV, oneV, binA, unA, reduceCtorEq, Nat.reduceEqDiff, Nat.reduceAdd, Nat.reduceLT, Nat.reduceLeDiff, Nat.reduceMul, Nat.reduceSub, ↓reduceIte, decide_true, decide_false, Bool.true_eq_false, Bool.false_eq_true, Bool.not_true, Bool.not_false, if_true, if_false, and_true, true_and, memE, celE, w64, Nat.zero_add, Nat.add_zero, Nat.mul_one, putL, and_self, ldn, id_eq, ext_2_0, ext_2_1, ext_3_0, ext_3_1, ext_3_2, ext_4_0, ext_4_1, ext_4_2, ext_4_3, beq_self_eq_true, bne_self_eq_false, gt_iff_lt, X0.ld3]
  have TT := toChain_rc M2 _ d0 C0.now hs0.1 hs0.2.1 hs0.2.2
  first | refine callH_rc TT ?_ | refine rcallH_rc TT ?_
  clear TT
  rintro r new ⟨nrn, Sv0, Sv0e, S0⟩
  rw [id_eq] at Sv0e
  subst r
  obtain ⟨M3, hM3⟩ : ∃ M', M' = M2 ++ new := ⟨_, rfl⟩
  rw [← hM3]
  have LM3 : M3.length = M2.length + new.length := by rw [hM3, List.length_append]
  replace C0 : Lv 0 M0.length M3 fun M => ChA M (chV u0a u0b u0c) d0 := by rw [hM3]; exact C0.ext _
  replace X0 : BoxA M3 M0.length [u0a, u0b, u0c] := by rw [hM3]; exact X0.ext _
  clear nrn
  rw [← hM3, ← LM3] at S0
  obtain ⟨Su0a, Su0b, Su0c, rfl, -⟩ := S0.now.in
  change Lv M2.length M3.length M3 fun M => ChO d0 M2.length M3.length M (chV Su0a Su0b Su0c) at S0
  try simp (config := {implicitDefEqProofs := false, maxDischargeDepth := 20}) (disch := first | omega | (simp only [lenE]; done) | (simp only [lenE]; omega) | rfl | (simp only [lenE, markR_len]; done) | (simp only [lenE, markR_len]; omega)) only [runE, mapE, listE, initT_5, initT_6, initT_7, initT_8, resV, oneV, binA, unA, reduceCtorEq, Nat.reduceEqDiff, Nat.reduceAdd, Nat.reduceLT, Nat.reduceLeDiff, Nat.reduceMul, Nat.reduceSub, ↓reduceIte, decide_true, decide_false, Bool.true_eq_false, Bool.false_eq_true, Bool.not_true, Bool.not_false, if_true, if_false, and_true, true_and, memE, celE, w64, Nat.zero_add, Nat.add_zero, Nat.mul_one, putL, and_self, ldn, id_eq, ext_2_0, ext_2_1, ext_3_0, ext_3_1, ext_3_2, ext_4_0, ext_4_1, ext_4_2, ext_4_3, beq_self_eq_true, bne_self_eq_false, gt_iff_lt, X0.ld3]
  refine callH_rc (SPC _ _ S0.now.in) ?_
  rintro r new ⟨nrn, vw, rfl, w⟩
  obtain ⟨M4, hM4⟩ : ∃ M', M' = M3 ++ new := ⟨_, rfl⟩
  rw [← hM4]
  have LM4 : M4.length = M3.length + new.length := by rw [hM4, List.length_append]
  replace C0 : Lv 0 M0.length M4 fun M => ChA M (chV u0a u0b u0c) d0 := by rw [hM4]; exact C0.ext _
  replace X0 : BoxA M4 M0.length [u0a, u0b, u0c] := by rw [hM4]; exact X0.ext _
  replace S0 : Lv M2.length M3.length M4 fun M => ChO d0 M2.length M3.length M (chV Su0a Su0b Su0c) := by rw [hM4]; exact S0.ext _
  clear nrn
  rw [← hM4, ← LM4] at w
  clear S0
  try simp (config := {implicitDefEqProofs := false, maxDischargeDepth := 20}) (disch := first | omega | (simp only [lenE]; done) | (simp only [lenE]; omega) | rfl | (simp only [lenE, markR_len]; done) | (simp only [lenE, markR_len]; omega)) only [runE, mapE, listE, initT_5, initT_6, initT_7, initT_8, resV, oneV, binA, unA, reduceCtorEq, Nat.reduceEqDiff, Nat.reduceAdd, Nat.reduceLT, Nat.reduceLeDiff, Nat.reduceMul, Nat.reduceSub, ↓reduceIte, decide_true, decide_false, Bool.true_eq_false, Bool.false_eq_true, Bool.not_true, Bool.not_false, if_true, if_false, and_true, true_and, memE, celE, w64, Nat.zero_add, Nat.add_zero, Nat.mul_one, putL, and_self, ldn, id_eq, ext_2_0, ext_2_1, ext_3_0, ext_3_1, ext_3_2, ext_4_0, ext_4_1, ext_4_2, ext_4_3, beq_self_eq_true, bne_self_eq_false, gt_iff_lt, X0.ld3]
  have TT := toChain_rc M4 _ d0 C0.now hs0.1 hs0.2.1 hs0.2.2
  first | refine callH_rc TT ?_ | refine rcallH_rc TT ?_
  clear TT
  rintro r new ⟨nrn, Yv0, Yv0e, Y0⟩
  rw [id_eq] at Yv0e
  subst r
  obtain ⟨M5, hM5⟩ : ∃ M', M' = M4 ++ new := ⟨_, rfl⟩
  rw [← hM5]
  have LM5 : M5.length = M4.length + new.length := by rw [hM5, List.length_append]
  replace C0 : Lv 0 M0.length M5 fun M => ChA M (chV u0a u0b u0c) d0 := by rw [hM5]; exact C0.ext _
  replace X0 : BoxA M5 M0.length [u0a, u0b, u0c] := by rw [hM5]; exact X0.ext _
  replace w : Lv M3.length M4.length M5 fun M => TabO W M3.length M4.length M vw := by rw [hM5]; exact w.ext _
  clear nrn
  rw [← hM5, ← LM5] at Y0
  obtain ⟨Yu0a, Yu0b, Yu0c, rfl, -⟩ := Y0.now.in
  change Lv M4.length M5.length M5 fun M => ChO d0 M4.length M5.length M (chV Yu0a Yu0b Yu0c) at Y0
  have on00 := fun xs => ChA.one1 Y0.now.in xs
  have on01 := fun xs => ChA.one2 Y0.now.in xs
  have on02 := fun xs => ChA.one3 Y0.now.in xs
  try simp (config := {implicitDefEqProofs := false, maxDischargeDepth := 20}) (disch := first | omega | (simp only [lenE]; done) | (simp only [lenE]; omega) | rfl | (simp only [lenE, markR_len]; done) | (simp only [lenE, markR_len]; omega)) only [runE, mapE, listE, initT_5, initT_6, initT_7, initT_8, resV, oneV, binA, unA, reduceCtorEq, Nat.reduceEqDiff, Nat.reduceAdd, Nat.reduceLT, Nat.reduceLeDiff, Nat.reduceMul, Nat.reduceSub, ↓reduceIte, decide_true, decide_false, Bool.true_eq_false, Bool.false_eq_true, Bool.not_true, Bool.not_false, if_true, if_false, and_true, true_and, memE, celE, w64, Nat.zero_add, Nat.add_zero, Nat.mul_one, putL, and_self, ldn, id_eq, ext_2_0, ext_2_1, ext_3_0, ext_3_1, ext_3_2, ext_4_0, ext_4_1, ext_4_2, ext_4_3, beq_self_eq_true, bne_self_eq_false, gt_iff_lt, on00, on01, on02, X0.ld3]
  obtain ⟨M6, hM6⟩ : ∃ M', M' = M5 ++ [⟨.own, 26, [Yu0a, Yu0b, Yu0c]⟩] := ⟨_, rfl⟩
  rw [← hM6]
  have LM6 : M6.length = M5.length + 1 := by rw [hM6, List.length_append]; rfl
  replace C0 : Lv 0 M0.length M6 fun M => ChA M (chV u0a u0b u0c) d0 := by rw [hM6]; exact C0.ext _
  replace X0 : BoxA M6 M0.length [u0a, u0b, u0c] := by rw [hM6]; exact X0.ext _
  replace w : Lv M3.length M4.length M6 fun M => TabO W M3.length M4.length M vw := by rw [hM6]; exact w.ext _
  replace Y0 : Lv M4.length M5.length M6 fun M => ChO d0 M4.length M5.length M (chV Yu0a Yu0b Yu0c) := by rw [hM6]; exact Y0.ext _
  have Z0 : BoxA M6 M5.length [Yu0a, Yu0b, Yu0c] := by rw [hM6]; exact BoxA.here _ _ _ rfl
  try simp (config := {implicitDefEqProofs := false, maxDischargeDepth := 20}) (disch := first | omega | (simp only [lenE]; done) | (simp only [lenE]; omega) | rfl | (simp only [lenE, markR_len]; done) | (simp only [lenE, markR_len]; omega)) only [runE, mapE, listE, initT_5, initT_6, initT_7, initT_8, resV, oneV, binA, unA, reduceCtorEq, Nat.reduceEqDiff, Nat.reduceAdd, Nat.reduceLT, Nat.reduceLeDiff, Nat.reduceMul, Nat.reduceSub, ↓reduceIte, decide_true, decide_false, Bool.true_eq_false, Bool.false_eq_true, Bool.not_true, Bool.not_false, if_true, if_false, and_true, true_and, memE, celE, w64, Nat.zero_add, Nat.add_zero, Nat.mul_one, putL, and_self, ldn, id_eq, ext_2_0, ext_2_1, ext_3_0, ext_3_1, ext_3_2, ext_4_0, ext_4_1, ext_4_2, ext_4_3, beq_self_eq_true, bne_self_eq_false, gt_iff_lt, X0.ld3, Z0.ld3]
  refine callH_rc (IMP _ _ Y0.now.in) ?_
  rintro r new ⟨nrn, vg, rfl, g⟩
  obtain ⟨M7, hM7⟩ : ∃ M', M' = M6 ++ new := ⟨_, rfl⟩
  rw [← hM7]
  have LM7 : M7.length = M6.length + new.length := by rw [hM7, List.length_append]
  replace C0 : Lv 0 M0.length M7 fun M => ChA M (chV u0a u0b u0c) d0 := by rw [hM7]; exact C0.ext _
  replace X0 : BoxA M7 M0.length [u0a, u0b, u0c] := by rw [hM7]; exact X0.ext _
  replace w : Lv M3.length M4.length M7 fun M => TabO W M3.length M4.length M vw := by rw [hM7]; exact w.ext _
  replace Y0 : Lv M4.length M5.length M7 fun M => ChO d0 M4.length M5.length M (chV Yu0a Yu0b Yu0c) := by rw [hM7]; exact Y0.ext _
  replace Z0 : BoxA M7 M5.length [Yu0a, Yu0b, Yu0c] := by rw [hM7]; exact Z0.ext _
  clear nrn
  rw [← hM7, ← LM7] at g
  try simp (config := {implicitDefEqProofs := false, maxDischargeDepth := 20}) (disch := first | omega | (simp only [lenE]; done) | (simp only [lenE]; omega) | rfl | (simp only [lenE, markR_len]; done) | (simp only [lenE, markR_len]; omega)) only [runE, mapE, listE, initT_5, initT_6, initT_7, initT_8, resV, oneV, binA, unA, reduceCtorEq, Nat.reduceEqDiff, Nat.reduceAdd, Nat.reduceLT, Nat.reduceLeDiff, Nat.reduceMul, Nat.reduceSub, ↓reduceIte, decide_true, decide_false, Bool.true_eq_false, Bool.false_eq_true, Bool.not_true, Bool.not_false, if_true, if_false, and_true, true_and, memE, celE, w64, Nat.zero_add, Nat.add_zero, Nat.mul_one, putL, and_self, ldn, id_eq, ext_2_0, ext_2_1, ext_3_0, ext_3_1, ext_3_2, ext_4_0, ext_4_1, ext_4_2, ext_4_3, beq_self_eq_true, bne_self_eq_false, gt_iff_lt, X0.ld3, Z0.ld3]
  have TT := eqIntSS_rc M7 _ _ W g.now.in w.now.in
  refine callH_rc TT ?_
  clear TT
  rintro r new ⟨rfl, nrn⟩
  obtain ⟨M8, hM8⟩ : ∃ M', M' = M7 ++ new := ⟨_, rfl⟩
  rw [← hM8]
  have LM8 : M8.length = M7.length + new.length := by rw [hM8, List.length_append]
  replace C0 : Lv 0 M0.length M8 fun M => ChA M (chV u0a u0b u0c) d0 := by rw [hM8]; exact C0.ext _
  replace X0 : BoxA M8 M0.length [u0a, u0b, u0c] := by rw [hM8]; exact X0.ext _
  replace w : Lv M3.length M4.length M8 fun M => TabO W M3.length M4.length M vw := by rw [hM8]; exact w.ext _
  replace Y0 : Lv M4.length M5.length M8 fun M => ChO d0 M4.length M5.length M (chV Yu0a Yu0b Yu0c) := by rw [hM8]; exact Y0.ext _
  replace Z0 : BoxA M8 M5.length [Yu0a, Yu0b, Yu0c] := by rw [hM8]; exact Z0.ext _
  replace g : Lv M6.length M7.length M8 fun M => TabO W M6.length M7.length M vg := by rw [hM8]; exact g.ext _
  clear nrn
  try simp (config := {implicitDefEqProofs := false, maxDischargeDepth := 20}) (disch := first | omega | (simp only [lenE]; done) | (simp only [lenE]; omega) | rfl | (simp only [lenE, markR_len]; done) | (simp only [lenE, markR_len]; omega)) only [runE, mapE, listE, initT_5, initT_6, initT_7, initT_8, resV, oneV, binA, unA, reduceCtorEq, Nat.reduceEqDiff, Nat.reduceAdd, Nat.reduceLT, Nat.reduceLeDiff, Nat.reduceMul, Nat.reduceSub, ↓reduceIte, decide_true, decide_false, Bool.true_eq_false, Bool.false_eq_true, Bool.not_true, Bool.not_false, if_true, if_false, and_true, true_and, memE, celE, w64, Nat.zero_add, Nat.add_zero, Nat.mul_one, putL, and_self, ldn, id_eq, ext_2_0, ext_2_1, ext_3_0, ext_3_1, ext_3_2, ext_4_0, ext_4_1, ext_4_2, ext_4_3, beq_self_eq_true, bne_self_eq_false, gt_iff_lt, X0.ld3, Z0.ld3]
  try simp (config := {implicitDefEqProofs := false, maxDischargeDepth := 20}) (disch := first | omega | (simp only [lenE]; done) | (simp only [lenE]; omega) | rfl | (simp only [lenE, markR_len]; done) | (simp only [lenE, markR_len]; omega)) only [runE, mapE, listE, initT_5, initT_6, initT_7, initT_8, resV, oneV, binA, unA, reduceCtorEq, Nat.reduceEqDiff, Nat.reduceAdd, Nat.reduceLT, Nat.reduceLeDiff, Nat.reduceMul, Nat.reduceSub, ↓reduceIte, decide_true, decide_false, Bool.true_eq_false, Bool.false_eq_true, Bool.not_true, Bool.not_false, if_true, if_false, and_true, true_and, memE, celE, w64, Nat.zero_add, Nat.add_zero, Nat.mul_one, putL, and_self, ldn, id_eq, ext_2_0, ext_2_1, ext_3_0, ext_3_1, ext_3_2, ext_4_0, ext_4_1, ext_4_2, ext_4_3, beq_self_eq_true, bne_self_eq_false, gt_iff_lt, X0.ld3, Z0.ld3]
  have TT := toChain_rc M8 _ d0 C0.now hs0.1 hs0.2.1 hs0.2.2
  first | refine callH_rc TT ?_ | refine rcallH_rc TT ?_
  clear TT
  rintro r new ⟨nrn, Tv0, Tv0e, T0⟩
  rw [id_eq] at Tv0e
  subst r
  obtain ⟨M9, hM9⟩ : ∃ M', M' = M8 ++ new := ⟨_, rfl⟩
  rw [← hM9]
  have LM9 : M9.length = M8.length + new.length := by rw [hM9, List.length_append]
  replace C0 : Lv 0 M0.length M9 fun M => ChA M (chV u0a u0b u0c) d0 := by rw [hM9]; exact C0.ext _
  replace X0 : BoxA M9 M0.length [u0a, u0b, u0c] := by rw [hM9]; exact X0.ext _
  replace w : Lv M3.length M4.length M9 fun M => TabO W M3.length M4.length M vw := by rw [hM9]; exact w.ext _
  replace Y0 : Lv M4.length M5.length M9 fun M => ChO d0 M4.length M5.length M (chV Yu0a Yu0b Yu0c) := by rw [hM9]; exact Y0.ext _
  replace Z0 : BoxA M9 M5.length [Yu0a, Yu0b, Yu0c] := by rw [hM9]; exact Z0.ext _
  replace g : Lv M6.length M7.length M9 fun M => TabO W M6.length M7.length M vg := by rw [hM9]; exact g.ext _
  clear nrn
  rw [← hM9, ← LM9] at T0
  obtain ⟨Tu0a, Tu0b, Tu0c, rfl, -⟩ := T0.now.in
  change Lv M8.length M9.length M9 fun M => ChO d0 M8.length M9.length M (chV Tu0a Tu0b Tu0c) at T0
  try simp (config := {implicitDefEqProofs := false, maxDischargeDepth := 20}) (disch := first | omega | (simp only [lenE]; done) | (simp only [lenE]; omega) | rfl | (simp only [lenE, markR_len]; done) | (simp only [lenE, markR_len]; omega)) only [runE, mapE, listE, initT_5, initT_6, initT_7, initT_8, resV, oneV, binA, unA, reduceCtorEq, Nat.reduceEqDiff, Nat.reduceAdd, Nat.reduceLT, Nat.reduceLeDiff, Nat.reduceMul, Nat.reduceSub, ↓reduceIte, decide_true, decide_false, Bool.true_eq_false, Bool.false_eq_true, Bool.not_true, Bool.not_false, if_true, if_false, and_true, true_and, memE, celE, w64, Nat.zero_add, Nat.add_zero, Nat.mul_one, putL, and_self, ldn, id_eq, ext_2_0, ext_2_1, ext_3_0, ext_3_1, ext_3_2, ext_4_0, ext_4_1, ext_4_2, ext_4_3, beq_self_eq_true, bne_self_eq_false, gt_iff_lt, X0.ld3, Z0.ld3]
  have TT := eqChain_rc M9 _ _ d0 Y0.now.in T0.now.in
  first | refine callH_rc TT ?_ | refine rcallH_rc TT ?_
  clear TT
  rintro r new ⟨rfl, nrn⟩
  obtain ⟨M10, hM10⟩ : ∃ M', M' = M9 ++ new := ⟨_, rfl⟩
  rw [← hM10]
  have LM10 : M10.length = M9.length + new.length := by rw [hM10, List.length_append]
  replace C0 : Lv 0 M0.length M10 fun M => ChA M (chV u0a u0b u0c) d0 := by rw [hM10]; exact C0.ext _
  replace X0 : BoxA M10 M0.length [u0a, u0b, u0c] := by rw [hM10]; exact X0.ext _
  replace w : Lv M3.length M4.length M10 fun M => TabO W M3.length M4.length M vw := by rw [hM10]; exact w.ext _
  replace Y0 : Lv M4.length M5.length M10 fun M => ChO d0 M4.length M5.length M (chV Yu0a Yu0b Yu0c) := by rw [hM10]; exact Y0.ext _
  replace Z0 : BoxA M10 M5.length [Yu0a, Yu0b, Yu0c] := by rw [hM10]; exact Z0.ext _
  replace g : Lv M6.length M7.length M10 fun M => TabO W M6.length M7.length M vg := by rw [hM10]; exact g.ext _
  replace T0 : Lv M8.length M9.length M10 fun M => ChO d0 M8.length M9.length M (chV Tu0a Tu0b Tu0c) := by rw [hM10]; exact T0.ext _
  clear nrn
  clear T0
  try simp (config := {implicitDefEqProofs := false, maxDischargeDepth := 20}) (disch := first | omega | (simp only [lenE]; done) | (simp only [lenE]; omega) | rfl | (simp only [lenE, markR_len]; done) | (simp only [lenE, markR_len]; omega)) only [runE, mapE, listE, initT_5, initT_6, initT_7, initT_8, resV, oneV, binA, unA, reduceCtorEq, Nat.reduceEqDiff, Nat.reduceAdd, Nat.reduceLT, Nat.reduceLeDiff, Nat.reduceMul, Nat.reduceSub, ↓reduceIte, decide_true, decide_false, Bool.true_eq_false, Bool.false_eq_true, Bool.not_true, Bool.not_false, if_true, if_false, and_true, true_and, memE, celE, w64, Nat.zero_add, Nat.add_zero, Nat.mul_one, putL, and_self, ldn, id_eq, ext_2_0, ext_2_1, ext_3_0, ext_3_1, ext_3_2, ext_4_0, ext_4_1, ext_4_2, ext_4_3, beq_self_eq_true, bne_self_eq_false, gt_iff_lt, X0.ld3, Z0.ld3]
  try simp (config := {implicitDefEqProofs := false, maxDischargeDepth := 20}) (disch := first | omega | (simp only [lenE]; done) | (simp only [lenE]; omega) | rfl | (simp only [lenE, markR_len]; done) | (simp only [lenE, markR_len]; omega)) only [runE, mapE, listE, initT_5, initT_6, initT_7, initT_8, resV, oneV, binA, unA, reduceCtorEq, Nat.reduceEqDiff, Nat.reduceAdd, Nat.reduceLT, Nat.reduceLeDiff, Nat.reduceMul, Nat.reduceSub, ↓reduceIte, decide_true, decide_false, Bool.true_eq_false, Bool.false_eq_true, Bool.not_true, Bool.not_false, if_true, if_false, and_true, true_and, memE, celE, w64, Nat.zero_add, Nat.add_zero, Nat.mul_one, putL, and_self, ldn, id_eq, ext_2_0, ext_2_1, ext_3_0, ext_3_1, ext_3_2, ext_4_0, ext_4_1, ext_4_2, ext_4_3, beq_self_eq_true, bne_self_eq_false, gt_iff_lt, X0.ld3, Z0.ld3]
  refine callH_ac (markChain_ac _ M4.length M5.length _ d0 _ Y0 (by omega) (by omega)) ?_
  rintro r M11 ⟨rfl, hB⟩
  have LM11 := hB.1
  replace C0 : Lv 0 M0.length M11 fun M => ChA M (chV u0a u0b u0c) d0 := C0.but hB (by omega)
  replace X0 : BoxA M11 M0.length [u0a, u0b, u0c] := by have := X0.lt; exact X0.but hB (by omega)
  replace w : Lv M3.length M4.length M11 fun M => TabO W M3.length M4.length M vw := w.but hB (by omega)
  replace Z0 : BoxA M11 M5.length [Yu0a, Yu0b, Yu0c] := by have := Z0.lt; exact Z0.but hB (by omega)
  replace g : Lv M6.length M7.length M11 fun M => TabO W M6.length M7.length M vg := g.but hB (by omega)
  clear Y0 hB
  have hkk : ¬ (1 + ((d0.need.length : Int) + d0.setup.length + d0.hold.length) < 0) := by omega
  try simp (config := {implicitDefEqProofs := false, maxDischargeDepth := 20}) (disch := first | omega | (simp only [lenE]; done) | (simp only [lenE]; omega) | rfl | (simp only [lenE, markR_len]; done) | (simp only [lenE, markR_len]; omega)) only [runE, mapE, listE, initT_5, initT_6, initT_7, initT_8, resV, oneV, binA, unA, reduceCtorEq, Nat.reduceEqDiff, Nat.reduceAdd, Nat.reduceLT, Nat.reduceLeDiff, Nat.reduceMul, Nat.reduceSub, ↓reduceIte, decide_true, decide_false, Bool.true_eq_false, Bool.false_eq_true, Bool.not_true, Bool.not_false, if_true, if_false, and_true, true_and, memE, celE, w64, Nat.zero_add, Nat.add_zero, Nat.mul_one, putL, and_self, ldn, id_eq, ext_2_0, ext_2_1, ext_3_0, ext_3_1, ext_3_2, ext_4_0, ext_4_1, ext_4_2, ext_4_3, beq_self_eq_true, bne_self_eq_false, gt_iff_lt, hkk, X0.ld3, Z0.ld3]
  try simp (config := {implicitDefEqProofs := false, maxDischargeDepth := 20}) (disch := first | omega | (simp only [lenE]; done) | (simp only [lenE]; omega) | rfl | (simp only [lenE, markR_len]; done) | (simp only [lenE, markR_len]; omega)) only [runE, mapE, listE, initT_5, initT_6, initT_7, initT_8, resV, oneV, binA, unA, reduceCtorEq, Nat.reduceEqDiff, Nat.reduceAdd, Nat.reduceLT, Nat.reduceLeDiff, Nat.reduceMul, Nat.reduceSub, ↓reduceIte, decide_true, decide_false, Bool.true_eq_false, Bool.false_eq_true, Bool.not_true, Bool.not_false, if_true, if_false, and_true, true_and, memE, celE, w64, Nat.zero_add, Nat.add_zero, Nat.mul_one, putL, and_self, ldn, id_eq, ext_2_0, ext_2_1, ext_3_0, ext_3_1, ext_3_2, ext_4_0, ext_4_1, ext_4_2, ext_4_3, beq_self_eq_true, bne_self_eq_false, gt_iff_lt, X0.ld3, Z0.ld3]
  have TT := eqIntSS_rc M11 _ _ W g.now.in w.now.in
  refine callH_rc TT ?_
  clear TT
  rintro r new ⟨rfl, nrn⟩
  obtain ⟨M12, hM12⟩ : ∃ M', M' = M11 ++ new := ⟨_, rfl⟩
  rw [← hM12]
  have LM12 : M12.length = M11.length + new.length := by rw [hM12, List.length_append]
  replace C0 : Lv 0 M0.length M12 fun M => ChA M (chV u0a u0b u0c) d0 := by rw [hM12]; exact C0.ext _
  replace X0 : BoxA M12 M0.length [u0a, u0b, u0c] := by rw [hM12]; exact X0.ext _
  replace w : Lv M3.length M4.length M12 fun M => TabO W M3.length M4.length M vw := by rw [hM12]; exact w.ext _
  replace Z0 : BoxA M12 M5.length [Yu0a, Yu0b, Yu0c] := by rw [hM12]; exact Z0.ext _
  replace g : Lv M6.length M7.length M12 fun M => TabO W M6.length M7.length M vg := by rw [hM12]; exact g.ext _
  clear nrn
  try simp (config := {implicitDefEqProofs := false, maxDischargeDepth := 20}) (disch := first | omega | (simp only [lenE]; done) | (simp only [lenE]; omega) | rfl | (simp only [lenE, markR_len]; done) | (simp only [lenE, markR_len]; omega)) only [runE, mapE, listE, initT_5, initT_6, initT_7, initT_8, resV, oneV, binA, unA, reduceCtorEq, Nat.reduceEqDiff, Nat.reduceAdd, Nat.reduceLT, Nat.reduceLeDiff, Nat.reduceMul, Nat.reduceSub, ↓reduceIte, decide_true, decide_false, Bool.true_eq_false, Bool.false_eq_true, Bool.not_true, Bool.not_false, if_true, if_false, and_true, true_and, memE, celE, w64, Nat.zero_add, Nat.add_zero, Nat.mul_one, putL, and_self, ldn, id_eq, ext_2_0, ext_2_1, ext_3_0, ext_3_1, ext_3_2, ext_4_0, ext_4_1, ext_4_2, ext_4_3, beq_self_eq_true, bne_self_eq_false, gt_iff_lt, X0.ld3, Z0.ld3]
  refine callH_ac (markIntSS_ac _ M6.length M7.length _ W 1 g (by omega) (by omega)) ?_
  rintro r M13 ⟨rfl, hB, gm⟩
  have LM13 := hB.1
  have gsm := g.now.1
  have gsn := g.now.2.1
  have gtz := tsz_nonneg W W.length
  replace C0 : Lv 0 M0.length M13 fun M => ChA M (chV u0a u0b u0c) d0 := C0.but hB (by omega)
  replace X0 : BoxA M13 M0.length [u0a, u0b, u0c] := by have := X0.lt; exact X0.but hB (by omega)
  replace w : Lv M3.length M4.length M13 fun M => TabO W M3.length M4.length M vw := w.but hB (by omega)
  replace Z0 : BoxA M13 M5.length [Yu0a, Yu0b, Yu0c] := by have := Z0.lt; exact Z0.but hB (by omega)
  clear g hB
  have hkq : ¬ (1 + (tsz W W.length) < 0) := by omega
  try simp (config := {implicitDefEqProofs := false, maxDischargeDepth := 20}) (disch := first | omega | (simp only [lenE]; done) | (simp only [lenE]; omega) | rfl | (simp only [lenE, markR_len]; done) | (simp only [lenE, markR_len]; omega)) only [runE, mapE, listE, initT_5, initT_6, initT_7, initT_8, resV, oneV, binA, unA, reduceCtorEq, Nat.reduceEqDiff, Nat.reduceAdd, Nat.reduceLT, Nat.reduceLeDiff, Nat.reduceMul, Nat.reduceSub, ↓reduceIte, decide_true, decide_false, Bool.true_eq_false, Bool.false_eq_true, Bool.not_true, Bool.not_false, if_true, if_false, and_true, true_and, memE, celE, w64, Nat.zero_add, Nat.add_zero, Nat.mul_one, putL, and_self, ldn, id_eq, ext_2_0, ext_2_1, ext_3_0, ext_3_1, ext_3_2, ext_4_0, ext_4_1, ext_4_2, ext_4_3, beq_self_eq_true, bne_self_eq_false, gt_iff_lt, X0.ld3, Z0.ld3]
  refine callH_rc (heldIntSS_rc _ _ W 1 gm.now.in (by omega) (by omega) (by omega) (by omega)) ?_
  rintro r new ⟨rfl, nrn⟩
  obtain ⟨M14, hM14⟩ : ∃ M', M' = M13 ++ new := ⟨_, rfl⟩
  rw [← hM14]
  have LM14 : M14.length = M13.length + new.length := by rw [hM14, List.length_append]
  replace C0 : Lv 0 M0.length M14 fun M => ChA M (chV u0a u0b u0c) d0 := by rw [hM14]; exact C0.ext _
  replace X0 : BoxA M14 M0.length [u0a, u0b, u0c] := by rw [hM14]; exact X0.ext _
  replace w : Lv M3.length M4.length M14 fun M => TabO W M3.length M4.length M vw := by rw [hM14]; exact w.ext _
  replace Z0 : BoxA M14 M5.length [Yu0a, Yu0b, Yu0c] := by rw [hM14]; exact Z0.ext _
  replace gm : Lv M6.length M7.length M14 fun M => TabO (tmarks 1 W) M6.length M7.length M vg := by rw [hM14]; exact gm.ext _
  clear nrn
  try simp (config := {implicitDefEqProofs := false, maxDischargeDepth := 20}) (disch := first | omega | (simp only [lenE]; done) | (simp only [lenE]; omega) | rfl | (simp only [lenE, markR_len]; done) | (simp only [lenE, markR_len]; omega)) only [runE, mapE, listE, initT_5, initT_6, initT_7, initT_8, resV, oneV, binA, unA, reduceCtorEq, Nat.reduceEqDiff, Nat.reduceAdd, Nat.reduceLT, Nat.reduceLeDiff, Nat.reduceMul, Nat.reduceSub, ↓reduceIte, decide_true, decide_false, Bool.true_eq_false, Bool.false_eq_true, Bool.not_true, Bool.not_false, if_true, if_false, and_true, true_and, memE, celE, w64, Nat.zero_add, Nat.add_zero, Nat.mul_one, putL, and_self, ldn, id_eq, ext_2_0, ext_2_1, ext_3_0, ext_3_1, ext_3_2, ext_4_0, ext_4_1, ext_4_2, ext_4_3, beq_self_eq_true, bne_self_eq_false, gt_iff_lt, hkq, X0.ld3, Z0.ld3]
  try simp (config := {implicitDefEqProofs := false, maxDischargeDepth := 20}) (disch := first | omega | (simp only [lenE]; done) | (simp only [lenE]; omega) | rfl | (simp only [lenE, markR_len]; done) | (simp only [lenE, markR_len]; omega)) only [runE, mapE, listE, initT_5, initT_6, initT_7, initT_8, resV, oneV, binA, unA, reduceCtorEq, Nat.reduceEqDiff, Nat.reduceAdd, Nat.reduceLT, Nat.reduceLeDiff, Nat.reduceMul, Nat.reduceSub, ↓reduceIte, decide_true, decide_false, Bool.true_eq_false, Bool.false_eq_true, Bool.not_true, Bool.not_false, if_true, if_false, and_true, true_and, memE, celE, w64, Nat.zero_add, Nat.add_zero, Nat.mul_one, putL, and_self, ldn, id_eq, ext_2_0, ext_2_1, ext_3_0, ext_3_1, ext_3_2, ext_4_0, ext_4_1, ext_4_2, ext_4_3, beq_self_eq_true, bne_self_eq_false, gt_iff_lt, X0.ld3, Z0.ld3]
  have TT := toChain_rc M14 _ d0 C0.now hs0.1 hs0.2.1 hs0.2.2
  first | refine callH_rc TT ?_ | refine rcallH_rc TT ?_
  clear TT
  rintro r new ⟨nrn, Uv0, Uv0e, U0⟩
  rw [id_eq] at Uv0e
  subst r
  obtain ⟨M15, hM15⟩ : ∃ M', M' = M14 ++ new := ⟨_, rfl⟩
  rw [← hM15]
  have LM15 : M15.length = M14.length + new.length := by rw [hM15, List.length_append]
  replace C0 : Lv 0 M0.length M15 fun M => ChA M (chV u0a u0b u0c) d0 := by rw [hM15]; exact C0.ext _
  replace X0 : BoxA M15 M0.length [u0a, u0b, u0c] := by rw [hM15]; exact X0.ext _
  replace w : Lv M3.length M4.length M15 fun M => TabO W M3.length M4.length M vw := by rw [hM15]; exact w.ext _
  replace Z0 : BoxA M15 M5.length [Yu0a, Yu0b, Yu0c] := by rw [hM15]; exact Z0.ext _
  replace gm : Lv M6.length M7.length M15 fun M => TabO (tmarks 1 W) M6.length M7.length M vg := by rw [hM15]; exact gm.ext _
  clear nrn
  rw [← hM15, ← LM15] at U0
  obtain ⟨Uu0a, Uu0b, Uu0c, rfl, -⟩ := U0.now.in
  change Lv M14.length M15.length M15 fun M => ChO d0 M14.length M15.length M (chV Uu0a Uu0b Uu0c) at U0
  try simp (config := {implicitDefEqProofs := false, maxDischargeDepth := 20}) (disch := first | omega | (simp only [lenE]; done) | (simp only [lenE]; omega) | rfl | (simp only [lenE, markR_len]; done) | (simp only [lenE, markR_len]; omega)) only [runE, mapE, listE, initT_5, initT_6, initT_7, initT_8, resV, oneV, binA, unA, reduceCtorEq, Nat.reduceEqDiff, Nat.reduceAdd, Nat.reduceLT, Nat.reduceLeDiff, Nat.reduceMul, Nat.reduceSub, ↓reduceIte, decide_true, decide_false, Bool.true_eq_false, Bool.false_eq_true, Bool.not_true, Bool.not_false, if_true, if_false, and_true, true_and, memE, celE, w64, Nat.zero_add, Nat.add_zero, Nat.mul_one, putL, and_self, ldn, id_eq, ext_2_0, ext_2_1, ext_3_0, ext_3_1, ext_3_2, ext_4_0, ext_4_1, ext_4_2, ext_4_3, beq_self_eq_true, bne_self_eq_false, gt_iff_lt, X0.ld3, Z0.ld3]
  refine callH_rc (IMP _ _ U0.now.in) ?_
  rintro r new ⟨nrn, vh, rfl, h⟩
  obtain ⟨M16, hM16⟩ : ∃ M', M' = M15 ++ new := ⟨_, rfl⟩
  rw [← hM16]
  have LM16 : M16.length = M15.length + new.length := by rw [hM16, List.length_append]
  replace C0 : Lv 0 M0.length M16 fun M => ChA M (chV u0a u0b u0c) d0 := by rw [hM16]; exact C0.ext _
  replace X0 : BoxA M16 M0.length [u0a, u0b, u0c] := by rw [hM16]; exact X0.ext _
  replace w : Lv M3.length M4.length M16 fun M => TabO W M3.length M4.length M vw := by rw [hM16]; exact w.ext _
  replace Z0 : BoxA M16 M5.length [Yu0a, Yu0b, Yu0c] := by rw [hM16]; exact Z0.ext _
  replace gm : Lv M6.length M7.length M16 fun M => TabO (tmarks 1 W) M6.length M7.length M vg := by rw [hM16]; exact gm.ext _
  replace U0 : Lv M14.length M15.length M16 fun M => ChO d0 M14.length M15.length M (chV Uu0a Uu0b Uu0c) := by rw [hM16]; exact U0.ext _
  clear nrn
  rw [← hM16, ← LM16] at h
  clear U0
  try simp (config := {implicitDefEqProofs := false, maxDischargeDepth := 20}) (disch := first | omega | (simp only [lenE]; done) | (simp only [lenE]; omega) | rfl | (simp only [lenE, markR_len]; done) | (simp only [lenE, markR_len]; omega)) only [runE, mapE, listE, initT_5, initT_6, initT_7, initT_8, resV, oneV, binA, unA, reduceCtorEq, Nat.reduceEqDiff, Nat.reduceAdd, Nat.reduceLT, Nat.reduceLeDiff, Nat.reduceMul, Nat.reduceSub, ↓reduceIte, decide_true, decide_false, Bool.true_eq_false, Bool.false_eq_true, Bool.not_true, Bool.not_false, if_true, if_false, and_true, true_and, memE, celE, w64, Nat.zero_add, Nat.add_zero, Nat.mul_one, putL, and_self, ldn, id_eq, ext_2_0, ext_2_1, ext_3_0, ext_3_1, ext_3_2, ext_4_0, ext_4_1, ext_4_2, ext_4_3, beq_self_eq_true, bne_self_eq_false, gt_iff_lt, X0.ld3, Z0.ld3]
  have TT := eqIntSS_rc M16 _ _ W h.now.in w.now.in
  refine callH_rc TT ?_
  clear TT
  rintro r new ⟨rfl, nrn⟩
  obtain ⟨M17, hM17⟩ : ∃ M', M' = M16 ++ new := ⟨_, rfl⟩
  rw [← hM17]
  have LM17 : M17.length = M16.length + new.length := by rw [hM17, List.length_append]
  replace C0 : Lv 0 M0.length M17 fun M => ChA M (chV u0a u0b u0c) d0 := by rw [hM17]; exact C0.ext _
  replace X0 : BoxA M17 M0.length [u0a, u0b, u0c] := by rw [hM17]; exact X0.ext _
  replace w : Lv M3.length M4.length M17 fun M => TabO W M3.length M4.length M vw := by rw [hM17]; exact w.ext _
  replace Z0 : BoxA M17 M5.length [Yu0a, Yu0b, Yu0c] := by rw [hM17]; exact Z0.ext _
  replace gm : Lv M6.length M7.length M17 fun M => TabO (tmarks 1 W) M6.length M7.length M vg := by rw [hM17]; exact gm.ext _
  replace h : Lv M15.length M16.length M17 fun M => TabO W M15.length M16.length M vh := by rw [hM17]; exact h.ext _
  clear nrn
  try simp (config := {implicitDefEqProofs := false, maxDischargeDepth := 20}) (disch := first | omega | (simp only [lenE]; done) | (simp only [lenE]; omega) | rfl | (simp only [lenE, markR_len]; done) | (simp only [lenE, markR_len]; omega)) only [runE, mapE, listE, initT_5, initT_6, initT_7, initT_8, resV, oneV, binA, unA, reduceCtorEq, Nat.reduceEqDiff, Nat.reduceAdd, Nat.reduceLT, Nat.reduceLeDiff, Nat.reduceMul, Nat.reduceSub, ↓reduceIte, decide_true, decide_false, Bool.true_eq_false, Bool.false_eq_true, Bool.not_true, Bool.not_false, if_true, if_false, and_true, true_and, memE, celE, w64, Nat.zero_add, Nat.add_zero, Nat.mul_one, putL, and_self, ldn, id_eq, ext_2_0, ext_2_1, ext_3_0, ext_3_1, ext_3_2, ext_4_0, ext_4_1, ext_4_2, ext_4_3, beq_self_eq_true, bne_self_eq_false, gt_iff_lt, X0.ld3, Z0.ld3]
  try simp (config := {implicitDefEqProofs := false, maxDischargeDepth := 20}) (disch := first | omega | (simp only [lenE]; done) | (simp only [lenE]; omega) | rfl | (simp only [lenE, markR_len]; done) | (simp only [lenE, markR_len]; omega)) only [runE, mapE, listE, initT_5, initT_6, initT_7, initT_8, resV, oneV, binA, unA, reduceCtorEq, Nat.reduceEqDiff, Nat.reduceAdd, Nat.reduceLT, Nat.reduceLeDiff, Nat.reduceMul, Nat.reduceSub, ↓reduceIte, decide_true, decide_false, Bool.true_eq_false, Bool.false_eq_true, Bool.not_true, Bool.not_false, if_true, if_false, and_true, true_and, memE, celE, w64, Nat.zero_add, Nat.add_zero, Nat.mul_one, putL, and_self, ldn, id_eq, ext_2_0, ext_2_1, ext_3_0, ext_3_1, ext_3_2, ext_4_0, ext_4_1, ext_4_2, ext_4_3, beq_self_eq_true, bne_self_eq_false, gt_iff_lt, X0.ld3, Z0.ld3]
  refine callH_rc (heldIntSS_rc _ _ W 1 gm.now.in (by omega) (by omega) (by omega) (by omega)) ?_
  rintro r new ⟨rfl, nrn⟩
  obtain ⟨M18, hM18⟩ : ∃ M', M' = M17 ++ new := ⟨_, rfl⟩
  rw [← hM18]
  have LM18 : M18.length = M17.length + new.length := by rw [hM18, List.length_append]
  replace C0 : Lv 0 M0.length M18 fun M => ChA M (chV u0a u0b u0c) d0 := by rw [hM18]; exact C0.ext _
  replace X0 : BoxA M18 M0.length [u0a, u0b, u0c] := by rw [hM18]; exact X0.ext _
  replace w : Lv M3.length M4.length M18 fun M => TabO W M3.length M4.length M vw := by rw [hM18]; exact w.ext _
  replace Z0 : BoxA M18 M5.length [Yu0a, Yu0b, Yu0c] := by rw [hM18]; exact Z0.ext _
  replace gm : Lv M6.length M7.length M18 fun M => TabO (tmarks 1 W) M6.length M7.length M vg := by rw [hM18]; exact gm.ext _
  replace h : Lv M15.length M16.length M18 fun M => TabO W M15.length M16.length M vh := by rw [hM18]; exact h.ext _
  clear nrn
  try simp (config := {implicitDefEqProofs := false, maxDischargeDepth := 20}) (disch := first | omega | (simp only [lenE]; done) | (simp only [lenE]; omega) | rfl | (simp only [lenE, markR_len]; done) | (simp only [lenE, markR_len]; omega)) only [runE, mapE, listE, initT_5, initT_6, initT_7, initT_8, resV, oneV, binA, unA, reduceCtorEq, Nat.reduceEqDiff, Nat.reduceAdd, Nat.reduceLT, Nat.reduceLeDiff, Nat.reduceMul, Nat.reduceSub, ↓reduceIte, decide_true, decide_false, Bool.true_eq_false, Bool.false_eq_true, Bool.not_true, Bool.not_false, if_true, if_false, and_true, true_and, memE, celE, w64, Nat.zero_add, Nat.add_zero, Nat.mul_one, putL, and_self, ldn, id_eq, ext_2_0, ext_2_1, ext_3_0, ext_3_1, ext_3_2, ext_4_0, ext_4_1, ext_4_2, ext_4_3, beq_self_eq_true, bne_self_eq_false, gt_iff_lt, hkq, X0.ld3, Z0.ld3]
end Go.Proofs.Ytamhhicnfpemeaa.Ab
end
section
namespace Go.Proofs.Ytamhhicnfpemeaa.Ab
open Go Go.RowKit
set_option linter.unusedVariables false
theorem ws_word : ∀ (p r : List Char), p.all (fun c => c != ' ') = true → wordsSigns (p ++ ' ' :: r) = p :: wordsSigns r
  | [], r, _ => by rw [List.nil_append, wordsSigns]
  | c :: p, r, h => by
    rw [List.all_cons, Bool.and_eq_true] at h
    have hc : c ≠ ' ' := by simpa using h.1
    rw [List.cons_append, wordsSigns, ws_word p r h.2]
    intro e; exact hc e
def sumW : List Char := ['f', 'b', 'd', '5', '7', '7', '5', '0', '7', 'b', '4', '9', '1', '0', 'c', 'e', '0', 'f', 'c', 'b', '6', 'f', '2', '5', '2', 'b', '1', '4', 'b', '8', '3', '3', 'f', 'e', '4', '0', '6', '4', 'e', 'c', '5', 'a', '8', '2', 'd', 'd', '4', 'c', 'f', '4', '6', '1', '0', '9', 'f', '6', '2', '7', 'e', 'd', 'c', 'c', '6', '0']
def restW : List Char := ['a', 't', ' ', 'l', 'o', 'o', 'p', '.', 'e', 'x', 'a', 'm', 'p', 'l', 'e', '/', 'g', '0', '1', '1', '1', '1', '/', 'l', 'a', 'w', 's', '.', 'F', 'n', 'A', 's', 's', 'e', 'm', 'b', 'l', 'i', 'e', 's', ' ', 'l', 'o', 'o', 'p', '.', 'e', 'x', 'a', 'm', 'p', 'l', 'e', '/', 'g', '0', '1', '1', '1', '1', '/', 'l', 'a', 'w', 's', '.', 'F', 'n', 'E', 'x', 'a', 'c', 't', 'I', 's', 'C', 'h', 'a', 'i', 'n', ' ', 'l', 'o', 'o', 'p', '.', 'e', 'x', 'a', 'm', 'p', 'l', 'e', '/', 'g', '0', '1', '1', '1', '1', '/', 'l', 'a', 'w', 's', '.', 'F', 'n', 'E', 'x', 'a', 'c', 't', 'C', 'h', 'a', 'i', 'n', 'S', 't', 'o', 'c', 'k', 's', ' ', 'l', 'o', 'o', 'p', '.', 'e', 'x', 'a', 'm', 'p', 'l', 'e', '/', 'g', '0', '1', '1', '1', '1', '/', 'l', 'a', 'w', 's', '.', 'F', 'n', 'E', 'x', 'a', 'c', 't', 'I', 's', 'C', 'h', 'a', 'i', 'n', 'P', 'l', 'a', 'n', ' ', 'l', 'o', 'o', 'p', '.', 'e', 'x', 'a', 'm', 'p', 'l', 'e', '/', 'g', '0', '1', '1', '1', '1', '/', 'l', 'a', 'w', 's', '.', 'F', 'n', 'E', 'x', 'a', 'c', 't', 'C', 'h', 'a', 'i', 'n', 'C', 'o', 's', 't', ' ', 'l', 'o', 'o', 'p', '.', 'e', 'x', 'a', 'm', 'p', 'l', 'e', '/', 'g', '0', '1', '1', '1', '1', '/', 'l', 'a', 'w', 's', '.', 'F', 'n', 'E', 'x', 'a', 'c', 't', 'E', 'c', 'h', 'e', 'l', 'o', 'n', 'H', 'o', 'l', 'd', 's', ' ', 'l', 'o', 'o', 'p', '.', 'e', 'x', 'a', 'm', 'p', 'l', 'e', '/', 'g', '0', '1', '1', '1', '1', '/', 'l', 'a', 'w', 's', '.', 'F', 'n', 'E', 'x', 'a', 'c', 't', 'E', 'c', 'h', 'e', 'l', 'o', 'n', 'S', 't', 'o', 'c', 'k', 's', ' ', 'l', 'o', 'o', 'p', '.', 'e', 'x', 'a', 'm', 'p', 'l', 'e', '/', 'g', '0', '1', '1', '1', '1', '/', 'l', 'a', 'w', 's', '.', 'F', 'n', 'E', 'x', 'a', 'c', 't', 'I', 's', 'N', 'e', 's', 't', 'e', 'd', 'P', 'l', 'a', 'n', ' ', 'l', 'o', 'o', 'p', '.', 'e', 'x', 'a', 'm', 'p', 'l', 'e', '/', 'g', '0', '1', '1', '1', '1', '/', 'l', 'a', 'w', 's', '.', 'F', 'n', 'E', 'x', 'a', 'c', 't', 'N', 'e', 's', 't', 'e', 'd', 'P', 'l', 'a', 'n', ' ', 'l', 'o', 'o', 'p', '.', 'e', 'x', 'a', 'm', 'p', 'l', 'e', '/', 'g', '0', '1', '1', '1', '1', '/', 'l', 'a', 'w', 's', '.', 'F', 'n', 'E', 'x', 'a', 'c', 't', 'B', 'e', 's', 't', 'N', 'e', 's', 't', 'e', 'd', ' ', 'l', 'o', 'o', 'p', '.', 'e', 'x', 'a', 'm', 'p', 'l', 'e', '/', 'g', '0', '1', '1', '1', '1', '/', 'l', 'a', 'w', 's', '.', 'F', 'n', 'E', 'x', 'a', 'c', 't', 'B', 'e', 's', 't', 'C', 'h', 'a', 'i', 'n', 'C', 'o', 's', 't', ' ', 'l', 'o', 'o', 'p', '.', 'e', 'x', 'a', 'm', 'p', 'l', 'e', '/', 'g', '0', '1', '1', '1', '1', '/', 'l', 'a', 'w', 's', '.', 'F', 'n', 'E', 'x', 'a', 'c', 't', 'S', 't', 'a', 'g', 'e', 'C', 'a', 's', 'e', ' ', 'l', 'o', 'o', 'p', '.', 'e', 'x', 'a', 'm', 'p', 'l', 'e', '/', 'g', '0', '1', '1', '1', '1', '/', 'l', 'a', 'w', 's', '.', 'F', 'n', 'E', 'x', 'a', 'c', 't', 'C', 'h', 'a', 'i', 'n', 'B', 'o', 'u', 'n', 'd', ' ', 'l', 'o', 'o', 'p', '.', 'e', 'x', 'a', 'm', 'p', 'l', 'e', '/', 'g', '0', '1', '1', '1', '1', '/', 'l', 'a', 'w', 's', '.', 'F', 'n', 'E', 'x', 'a', 'c', 't', 'S', 't', 'a', 'g', 'e', 'w', 'i', 's', 'e', 'P', 'l', 'a', 'n', ' ', 'l', 'o', 'o', 'p', '.', 'e', 'x', 'a', 'm', 'p', 'l', 'e', '/', 'g', '0', '1', '1', '1', '1', '/', 'l', 'a', 'w', 's', '.', 'F', 'n', 'E', 'x', 'a', 'c', 't', 'B', 'e', 's', 't', 'A', 's', 's', 'e', 'm', 'b', 'l', 'y']
set_option maxRecDepth 100000 in
theorem head_is : Try.prog.initOrder = String.ofList (['h', 'a', 'r', 'n', 'e', 's', 's'] ++ ' ' :: (sumW ++ ' ' :: (['c', 'u', 't'] ++ ' ' :: restW))) := by kernel_rfl
set_option maxRecDepth 100000 in
theorem sum_ok : isSumSigns sumW = true := by kernel_rfl
theorem head_words : behindMainWord (wordsSigns Try.prog.initOrder.toList) = ['c', 'u', 't'] :: wordsSigns restW := by
  rw [head_is, String.toList_ofList, ws_word _ _ (by decide), ws_word _ _ (by decide), ws_word _ _ (by decide)]
  simp only [behindMainWord, sum_ok, Bool.and_true]
  rfl
set_option maxRecDepth 100000 in
theorem strip_cut (X : List (List Char)) : stripLifts liftWords (['c', 'u', 't'] :: X) = ([], ['c', 'u', 't'] :: X) := by kernel_rfl
theorem lifts_gen (P : Program) (X : List (List Char)) (h : behindMainWord (wordsSigns P.initOrder.toList) = ['c', 'u', 't'] :: X) : P.headLifts = [] := by
  unfold Program.headLifts
  rw [h, strip_cut]
  rfl
theorem enters_gen (P : Program) (X : List (List Char)) (h : behindMainWord (wordsSigns P.initOrder.toList) = ['c', 'u', 't'] :: X) (h1 : P.laysLater = false) (h2 : P.bearsReflect = false) (h3 : P.doorFits [] = true) : P.mayEnter = true := by
  unfold Program.mayEnter
  rw [h]
  simp only [strip_cut, h1, h2, h3]
  rfl
theorem finals_gen (P : Program) (X : List (List Char)) (h : behindMainWord (wordsSigns P.initOrder.toList) = ['c', 'u', 't'] :: X) : P.liftsFinal = false := by
  unfold Program.liftsFinal
  rw [lifts_gen P X h, h]
  rfl
theorem make_gen (P : Program) (X : List (List Char)) (h : behindMainWord (wordsSigns P.initOrder.toList) = ['c', 'u', 't'] :: X) : P.make = some .cut := by
  unfold Program.make
  rw [h]
  rfl
set_option maxRecDepth 100000 in
theorem enters : Try.prog.mayEnter = true := enters_gen _ _ head_words (by kernel_rfl) (by kernel_rfl) (by kernel_rfl)
theorem no_finals : Try.prog.liftsFinal = false := finals_gen _ _ head_words
theorem makes : Try.prog.make = some .cut := make_gen _ _ head_words
end Go.Proofs.Ytamhhicnfpemeaa.Ab
end
