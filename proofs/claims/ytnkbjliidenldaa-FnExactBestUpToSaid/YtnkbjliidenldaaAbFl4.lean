/- Costs of stocks, needs of leads, the best level. -/
import Derived.Test.YtnkbjliidenldaaAbFl1
import Derived.Test.YtnkbjliidenldaaCodMore
namespace Go.Proofs.Ytnkbjliidenldaa.Ab
open Go Go.RowKit
set_option linter.unusedVariables false
set_option linter.unusedSimpArgs false

theorem rates_rc (m : Mem) (h b : Int) : RC Try.prog 91 [.int .i64 h, .int .i64 b] m fun r new => r = .bool (inF 9 h && inF 9 b) ∧ new = [] := by
  refine rc_of_run mixed ok_impl_areStockRates (by simp) (go_start _ _ _ ?_)
  simp (config := {implicitDefEqProofs := false, maxDischargeDepth := 20}) (disch := first | omega | (simp only [lenE]; done) | (simp only [lenE]; omega) | rfl | (simp only [lenE, markR_len]; done) | (simp only [lenE, markR_len]; omega)) only [runE, mapE, listE, initT_5, initT_6, initT_7, initT_8, resV, oneV, binA, unA, reduceCtorEq, Nat.reduceEqDiff, Nat.reduceAdd, Nat.reduceLT, Nat.reduceLeDiff, Nat.reduceMul, Nat.reduceSub, ↓reduceIte, decide_true, decide_false, Bool.true_eq_false, Bool.false_eq_true, Bool.not_true, Bool.not_false, if_true, if_false, and_true, true_and, memE, celE, w64, Nat.zero_add, Nat.add_zero, Nat.mul_one, putL, and_self, ldn, c_impl_areStockRates, r_impl_areStockRates]
  refine callH_rc (within_rc _ h 9) ?_
  rintro r new ⟨rfl, rfl⟩
  rw [List.append_nil]
  cases hh : inF 9 h with
  | false =>
    simp (config := {implicitDefEqProofs := false, maxDischargeDepth := 20}) (disch := first | omega | (simp only [lenE]; done) | (simp only [lenE]; omega) | rfl | (simp only [lenE, markR_len]; done) | (simp only [lenE, markR_len]; omega)) only [runE, mapE, listE, initT_5, initT_6, initT_7, initT_8, resV, oneV, binA, unA, reduceCtorEq, Nat.reduceEqDiff, Nat.reduceAdd, Nat.reduceLT, Nat.reduceLeDiff, Nat.reduceMul, Nat.reduceSub, ↓reduceIte, decide_true, decide_false, Bool.true_eq_false, Bool.false_eq_true, Bool.not_true, Bool.not_false, if_true, if_false, and_true, true_and, memE, celE, w64, Nat.zero_add, Nat.add_zero, Nat.mul_one, putL, and_self, ldn]
    exact newQ_nil ⟨rfl, rfl⟩
  | true =>
    simp (config := {implicitDefEqProofs := false, maxDischargeDepth := 20}) (disch := first | omega | (simp only [lenE]; done) | (simp only [lenE]; omega) | rfl | (simp only [lenE, markR_len]; done) | (simp only [lenE, markR_len]; omega)) only [runE, mapE, listE, initT_5, initT_6, initT_7, initT_8, resV, oneV, binA, unA, reduceCtorEq, Nat.reduceEqDiff, Nat.reduceAdd, Nat.reduceLT, Nat.reduceLeDiff, Nat.reduceMul, Nat.reduceSub, ↓reduceIte, decide_true, decide_false, Bool.true_eq_false, Bool.false_eq_true, Bool.not_true, Bool.not_false, if_true, if_false, and_true, true_and, memE, celE, w64, Nat.zero_add, Nat.add_zero, Nat.mul_one, putL, and_self, ldn]
    refine callH_rc (within_rc _ b 9) ?_
    rintro r new ⟨rfl, rfl⟩
    simp (config := {implicitDefEqProofs := false, maxDischargeDepth := 20}) (disch := first | omega | (simp only [lenE]; done) | (simp only [lenE]; omega) | rfl | (simp only [lenE, markR_len]; done) | (simp only [lenE, markR_len]; omega)) only [runE, mapE, listE, initT_5, initT_6, initT_7, initT_8, resV, oneV, binA, unA, reduceCtorEq, Nat.reduceEqDiff, Nat.reduceAdd, Nat.reduceLT, Nat.reduceLeDiff, Nat.reduceMul, Nat.reduceSub, ↓reduceIte, decide_true, decide_false, Bool.true_eq_false, Bool.false_eq_true, Bool.not_true, Bool.not_false, if_true, if_false, and_true, true_and, memE, celE, w64, Nat.zero_add, Nat.add_zero, Nat.mul_one, putL, and_self, ldn, List.append_nil]
    exact newQ_nil ⟨by simp, rfl⟩
theorem l11Rates_rc (m : Mem) (h b : Int) : RC Try.prog 89 [.int .i64 h, .int .i64 b] m fun r new => r = .bool (inF 9 h && inF 9 b) ∧ new = [] := by
  refine rc_of_run mixed ok_spec_l11Rates (by simp) (go_start _ _ _ ?_)
  simp (config := {implicitDefEqProofs := false, maxDischargeDepth := 20}) (disch := first | omega | (simp only [lenE]; done) | (simp only [lenE]; omega) | rfl | (simp only [lenE, markR_len]; done) | (simp only [lenE, markR_len]; omega)) only [runE, mapE, listE, initT_5, initT_6, initT_7, initT_8, resV, oneV, binA, unA, reduceCtorEq, Nat.reduceEqDiff, Nat.reduceAdd, Nat.reduceLT, Nat.reduceLeDiff, Nat.reduceMul, Nat.reduceSub, ↓reduceIte, decide_true, decide_false, Bool.true_eq_false, Bool.false_eq_true, Bool.not_true, Bool.not_false, if_true, if_false, and_true, true_and, memE, celE, w64, Nat.zero_add, Nat.add_zero, Nat.mul_one, putL, and_self, ldn, c_spec_l11Rates, r_spec_l11Rates]
  refine callH_rc (inF_rc _ h 9) ?_
  rintro r new ⟨rfl, rfl⟩
  rw [List.append_nil]
  cases hh : inF 9 h with
  | false =>
    simp (config := {implicitDefEqProofs := false, maxDischargeDepth := 20}) (disch := first | omega | (simp only [lenE]; done) | (simp only [lenE]; omega) | rfl | (simp only [lenE, markR_len]; done) | (simp only [lenE, markR_len]; omega)) only [runE, mapE, listE, initT_5, initT_6, initT_7, initT_8, resV, oneV, binA, unA, reduceCtorEq, Nat.reduceEqDiff, Nat.reduceAdd, Nat.reduceLT, Nat.reduceLeDiff, Nat.reduceMul, Nat.reduceSub, ↓reduceIte, decide_true, decide_false, Bool.true_eq_false, Bool.false_eq_true, Bool.not_true, Bool.not_false, if_true, if_false, and_true, true_and, memE, celE, w64, Nat.zero_add, Nat.add_zero, Nat.mul_one, putL, and_self, ldn]
    exact newQ_nil ⟨rfl, rfl⟩
  | true =>
    simp (config := {implicitDefEqProofs := false, maxDischargeDepth := 20}) (disch := first | omega | (simp only [lenE]; done) | (simp only [lenE]; omega) | rfl | (simp only [lenE, markR_len]; done) | (simp only [lenE, markR_len]; omega)) only [runE, mapE, listE, initT_5, initT_6, initT_7, initT_8, resV, oneV, binA, unA, reduceCtorEq, Nat.reduceEqDiff, Nat.reduceAdd, Nat.reduceLT, Nat.reduceLeDiff, Nat.reduceMul, Nat.reduceSub, ↓reduceIte, decide_true, decide_false, Bool.true_eq_false, Bool.false_eq_true, Bool.not_true, Bool.not_false, if_true, if_false, and_true, true_and, memE, celE, w64, Nat.zero_add, Nat.add_zero, Nat.mul_one, putL, and_self, ldn]
    refine callH_rc (inF_rc _ b 9) ?_
    rintro r new ⟨rfl, rfl⟩
    simp (config := {implicitDefEqProofs := false, maxDischargeDepth := 20}) (disch := first | omega | (simp only [lenE]; done) | (simp only [lenE]; omega) | rfl | (simp only [lenE, markR_len]; done) | (simp only [lenE, markR_len]; omega)) only [runE, mapE, listE, initT_5, initT_6, initT_7, initT_8, resV, oneV, binA, unA, reduceCtorEq, Nat.reduceEqDiff, Nat.reduceAdd, Nat.reduceLT, Nat.reduceLeDiff, Nat.reduceMul, Nat.reduceSub, ↓reduceIte, decide_true, decide_false, Bool.true_eq_false, Bool.false_eq_true, Bool.not_true, Bool.not_false, if_true, if_false, and_true, true_and, memE, celE, w64, Nat.zero_add, Nat.add_zero, Nat.mul_one, putL, and_self, ldn, List.append_nil]
    exact newQ_nil ⟨by simp, rfl⟩
theorem l11Cost_rc (m : Mem) (x h b : Int) (hh : 0 ≤ h ∧ h ≤ 9) (hb : 0 ≤ b ∧ b ≤ 9) (hx : -10000 ≤ x ∧ x ≤ 10000) : RC Try.prog 90 [.int .i64 x, .int .i64 h, .int .i64 b] m fun r new => r = .int .i64 (scost h b x) ∧ new = [] := by
  refine rc_of_run mixed ok_spec_l11Cost (by simp) (go_start _ _ _ ?_)
  have bd := scost_bd (h := h) (b := b) (x := x) (B := 10000) hh hb hx
  unfold scost at *
  by_cases hp : 0 < x
  · rw [if_pos hp] at bd ⊢
    simp (config := {implicitDefEqProofs := false, maxDischargeDepth := 20}) (disch := first | omega | (simp only [lenE]; done) | (simp only [lenE]; omega) | rfl | (simp only [lenE, markR_len]; done) | (simp only [lenE, markR_len]; omega)) only [runE, mapE, listE, initT_5, initT_6, initT_7, initT_8, resV, oneV, binA, unA, reduceCtorEq, Nat.reduceEqDiff, Nat.reduceAdd, Nat.reduceLT, Nat.reduceLeDiff, Nat.reduceMul, Nat.reduceSub, ↓reduceIte, decide_true, decide_false, Bool.true_eq_false, Bool.false_eq_true, Bool.not_true, Bool.not_false, if_true, if_false, and_true, true_and, memE, celE, w64, Nat.zero_add, Nat.add_zero, Nat.mul_one, putL, and_self, ldn, c_spec_l11Cost, r_spec_l11Cost, gt_iff_lt, hp]
    exact newQ_nil ⟨rfl, rfl⟩
  · rw [if_neg hp] at bd ⊢
    have e : (0 - b) * x = -b * x := by rw [show (0 : Int) - b = -b by omega]
    simp (config := {implicitDefEqProofs := false, maxDischargeDepth := 20}) (disch := first | omega | (simp only [lenE]; done) | (simp only [lenE]; omega) | rfl | (simp only [lenE, markR_len]; done) | (simp only [lenE, markR_len]; omega)) only [runE, mapE, listE, initT_5, initT_6, initT_7, initT_8, resV, oneV, binA, unA, reduceCtorEq, Nat.reduceEqDiff, Nat.reduceAdd, Nat.reduceLT, Nat.reduceLeDiff, Nat.reduceMul, Nat.reduceSub, ↓reduceIte, decide_true, decide_false, Bool.true_eq_false, Bool.false_eq_true, Bool.not_true, Bool.not_false, if_true, if_false, and_true, true_and, memE, celE, w64, Nat.zero_add, Nat.add_zero, Nat.mul_one, putL, and_self, ldn, c_spec_l11Cost, r_spec_l11Cost, gt_iff_lt, hp, e]
    exact newQ_nil ⟨rfl, rfl⟩
theorem getD_mem {l : List Int} {k : Nat} (h : k < l.length) : l.getD k 0 ∈ l := by
  rw [List.getD_eq_getElem?_getD, List.getElem?_eq_getElem h]; exact List.getElem_mem h
theorem scosts_s {h b : Int} {l : List Int} {k : Nat} (hk : k < l.length) : scosts h b l (k + 1) = scosts h b l k + scost h b (l.getD k 0) := by
  unfold scosts
  rw [sumTo_s (by simpa using hk)]
  congr 1
  simp [List.getD_eq_getElem?_getD, hk]
theorem map_costs (l : List Int) (h b : Int) : (l.map (Value.int .i64)).map (fun v => scost h b (zOf v)) = l.map (scost h b) := by
  rw [List.map_map]; rfl
theorem stockCost_rc (m : Mem) (v : Value) (l : List Int) (h b : Int) (hl : IntsA m v l) (hh : 0 ≤ h ∧ h ≤ 9) (hb : 0 ≤ b ∧ b ≤ 9) (hbd : ∀ x ∈ l, -10000 ≤ x ∧ x ≤ 10000) (hlen : l.length ≤ 1000) :
    RC Try.prog 92 [v, .int .i64 h, .int .i64 b] m (AnsV (.int .i64 (scosts h b l l.length))) := by
  refine rc_of_run mixed ok_impl_stockCost (by simp) (go_start _ _ _ ?_)
  simp (config := {implicitDefEqProofs := false, maxDischargeDepth := 20}) (disch := first | omega | (simp only [lenE]; done) | (simp only [lenE]; omega) | rfl | (simp only [lenE, markR_len]; done) | (simp only [lenE, markR_len]; omega)) only [runE, mapE, listE, initT_5, initT_6, initT_7, initT_8, resV, oneV, binA, unA, reduceCtorEq, Nat.reduceEqDiff, Nat.reduceAdd, Nat.reduceLT, Nat.reduceLeDiff, Nat.reduceMul, Nat.reduceSub, ↓reduceIte, decide_true, decide_false, Bool.true_eq_false, Bool.false_eq_true, Bool.not_true, Bool.not_false, if_true, if_false, and_true, true_and, memE, celE, w64, Nat.zero_add, Nat.add_zero, Nat.mul_one, putL, and_self, ldn, c_impl_stockCost, r_impl_stockCost]
  obtain ⟨E, hE⟩ : ∃ E, E = roM m ++ [⟨.own, 3, [.int .i64 h]⟩] ++ [⟨.own, 3, [.int .i64 b]⟩] := ⟨_, rfl⟩
  rw [← hE]
  have hX : Ext m E := by rw [hE]; exact ((Ext.refl m).one _ _).one _ _
  have b1 : OwnB E m.length 3 [.int .i64 h] := by rw [hE]; exact (OwnB.here (roM_len m).symm).ext _
  have b2 : OwnB E (m.length + 1) 3 [.int .i64 b] := by rw [hE]; exact OwnB.here (by simp [roM_len])
  clear hE
  have hlE := hX.keeps.ints hl
  refine callH_rc (eachI_rc _ v _ _ (fun v => scost h b (zOf v)) hlE.el ⟨_, _, rfl, fun M hM x hx => ?_⟩ (by simpa using hlen)) ?_
  · obtain ⟨z, hz, rfl⟩ := List.mem_map.1 hx
    have zb := hbd z hz
    have r1 : rdc (roM M) m.length 0 = some (.int .i64 h) := by rw [rdc_roM]; refine hM.1 _ _ _ ?_; rw [b1.rd]; rfl
    have r2 : rdc (roM M) (m.length + 1) 0 = some (.int .i64 b) := by rw [rdc_roM]; refine hM.1 _ _ _ ?_; rw [b2.rd]; rfl
    have m1 := mul_bd (h := h) (y := max 0 z) (B := 10000) hh (by omega)
    have m2 := mul_bd (h := b) (y := max 0 (0 - z)) (B := 10000) hb (by omega)
    refine rc_of_run mixed ok_impl_stockCost_1 (by simp) (go_start _ _ _ ?_)
    simp (config := {implicitDefEqProofs := false, maxDischargeDepth := 20}) (disch := first | omega | (simp only [lenE]; done) | (simp only [lenE]; omega) | rfl | (simp only [lenE, markR_len]; done) | (simp only [lenE, markR_len]; omega)) only [runE, mapE, listE, initT_5, initT_6, initT_7, initT_8, resV, oneV, binA, unA, reduceCtorEq, Nat.reduceEqDiff, Nat.reduceAdd, Nat.reduceLT, Nat.reduceLeDiff, Nat.reduceMul, Nat.reduceSub, ↓reduceIte, decide_true, decide_false, Bool.true_eq_false, Bool.false_eq_true, Bool.not_true, Bool.not_false, if_true, if_false, and_true, true_and, memE, celE, w64, Nat.zero_add, Nat.add_zero, Nat.mul_one, putL, and_self, ldn, c_impl_stockCost_1, r_impl_stockCost_1, r1, r2]
    exact newQ_nil ⟨by simp only [zOf]; rw [scost_two], noRo_nil⟩
  · intro r new hA
    obtain ⟨id, fl, rfl, hid, hown, hle, hn⟩ := hA.row
    rw [map_costs] at hown hle
    simp only [map_costs, List.length_map] at hown hle ⊢
    have bd := fun k => scosts_bd (h := h) (b := b) (B := 10000) (l := l) (by decide) hh hb hbd k
    simp (config := {implicitDefEqProofs := false, maxDischargeDepth := 20}) (disch := first | omega | (simp only [lenE]; done) | (simp only [lenE]; omega) | rfl | (simp only [lenE, markR_len]; done) | (simp only [lenE, markR_len]; omega)) only [runE, mapE, listE, initT_5, initT_6, initT_7, initT_8, resV, oneV, binA, unA, reduceCtorEq, Nat.reduceEqDiff, Nat.reduceAdd, Nat.reduceLT, Nat.reduceLeDiff, Nat.reduceMul, Nat.reduceSub, ↓reduceIte, decide_true, decide_false, Bool.true_eq_false, Bool.false_eq_true, Bool.not_true, Bool.not_false, if_true, if_false, and_true, true_and, memE, celE, w64, Nat.zero_add, Nat.add_zero, Nat.mul_one, putL, and_self, ldn]
    refine callH_rc (sumOf_rc _ _ (l.map (scost h b)) (by have := hown.ints (by rw [List.length_map]; omega) fl; rw [List.length_map] at this; exact this) (fun k hk => ?_)) ?_
    · rw [List.length_map] at hk
      have := bd k
      unfold scosts at this
      omega
    · rintro r n2 ⟨rfl, rfl⟩
      simp (config := {implicitDefEqProofs := false, maxDischargeDepth := 20}) (disch := first | omega | (simp only [lenE]; done) | (simp only [lenE]; omega) | rfl | (simp only [lenE, markR_len]; done) | (simp only [lenE, markR_len]; omega)) only [runE, mapE, listE, initT_5, initT_6, initT_7, initT_8, resV, oneV, binA, unA, reduceCtorEq, Nat.reduceEqDiff, Nat.reduceAdd, Nat.reduceLT, Nat.reduceLeDiff, Nat.reduceMul, Nat.reduceSub, ↓reduceIte, decide_true, decide_false, Bool.true_eq_false, Bool.false_eq_true, Bool.not_true, Bool.not_false, if_true, if_false, and_true, true_and, memE, celE, w64, Nat.zero_add, Nat.add_zero, Nat.mul_one, putL, and_self, ldn, List.append_nil]
      exact ext_ansV (hX.app hn) rfl
theorem near_all {l : List Int} : l.all (nearB 200) = true ↔ ∀ x ∈ l, -200 ≤ x ∧ x ≤ 200 := by
  rw [List.all_eq_true]
  exact ⟨fun h x hx => nearB_iff.1 (h x hx), fun h x hx => nearB_iff.2 (h x hx)⟩
theorem funNear {m : Mem} {l : List Int} : FunG m (.func (.func 68) #[] #[]) (fun x : Value => [x]) (· ∈ l.map (Value.int .i64)) (fun x => .bool (nearB 200 (zOf x))) :=
  ⟨_, _, rfl, fun M _ x hx => by
    obtain ⟨z, _, rfl⟩ := List.mem_map.1 hx
    exact (isStock_rc M z).mono fun r new hA => ansV_of hA⟩
theorem all_near (l : List Int) : (l.map (Value.int .i64)).all (fun x => nearB 200 (zOf x)) = l.all (nearB 200) := by
  rw [List.all_map]; rfl
theorem implStockCost_rc (m : Mem) (v : Value) (l : List Int) (h b : Int) (hl : IntsA m v l) :
    RC Try.prog 45 [v, .int .i64 h, .int .i64 b] m (AnsV (.tuple #[.int .i64 (costA11 l h b), .bool (costOk11 l h b)])) := by
  refine rc_of_run mixed ok_impl_StockCost (by simp) (go_start _ _ _ ?_)
  simp (config := {implicitDefEqProofs := false, maxDischargeDepth := 20}) (disch := first | omega | (simp only [lenE]; done) | (simp only [lenE]; omega) | rfl | (simp only [lenE, markR_len]; done) | (simp only [lenE, markR_len]; omega)) only [runE, mapE, listE, initT_5, initT_6, initT_7, initT_8, resV, oneV, binA, unA, reduceCtorEq, Nat.reduceEqDiff, Nat.reduceAdd, Nat.reduceLT, Nat.reduceLeDiff, Nat.reduceMul, Nat.reduceSub, ↓reduceIte, decide_true, decide_false, Bool.true_eq_false, Bool.false_eq_true, Bool.not_true, Bool.not_false, if_true, if_false, and_true, true_and, memE, celE, w64, Nat.zero_add, Nat.add_zero, Nat.mul_one, putL, and_self, ldn, c_impl_StockCost, r_impl_StockCost]
  refine callH_rc (areAtMostI_rc _ v _ _ _ 20 hl.ro.el funNear) ?_
  rintro r n1 ⟨rfl, hn1⟩
  have hX := (Ext.refl m).app hn1
  rw [all_near, List.length_map]
  have e1 : decide ((l.length : Int) ≤ 20) = decide (l.length ≤ 20) := decide_eq_decide.2 (by omega)
  rw [e1]
  have no : ∀ M, Ext m M → costOk11 l h b = false → newQ m (AnsV (.tuple #[.int .i64 (costA11 l h b), .bool (costOk11 l h b)])) (.tuple #[.int .i64 0, .bool false]) M := fun M hM e => ext_ansV hM (by simp [costA11, e])
  cases hc : (decide (l.length ≤ 20) && l.all (nearB 200)) with
  | false =>
    simp (config := {implicitDefEqProofs := false, maxDischargeDepth := 20}) (disch := first | omega | (simp only [lenE]; done) | (simp only [lenE]; omega) | rfl | (simp only [lenE, markR_len]; done) | (simp only [lenE, markR_len]; omega)) only [runE, mapE, listE, initT_5, initT_6, initT_7, initT_8, resV, oneV, binA, unA, reduceCtorEq, Nat.reduceEqDiff, Nat.reduceAdd, Nat.reduceLT, Nat.reduceLeDiff, Nat.reduceMul, Nat.reduceSub, ↓reduceIte, decide_true, decide_false, Bool.true_eq_false, Bool.false_eq_true, Bool.not_true, Bool.not_false, if_true, if_false, and_true, true_and, memE, celE, w64, Nat.zero_add, Nat.add_zero, Nat.mul_one, putL, and_self, ldn]
    exact no _ hX (by unfold costOk11; rw [hc]; rfl)
  | true =>
    simp (config := {implicitDefEqProofs := false, maxDischargeDepth := 20}) (disch := first | omega | (simp only [lenE]; done) | (simp only [lenE]; omega) | rfl | (simp only [lenE, markR_len]; done) | (simp only [lenE, markR_len]; omega)) only [runE, mapE, listE, initT_5, initT_6, initT_7, initT_8, resV, oneV, binA, unA, reduceCtorEq, Nat.reduceEqDiff, Nat.reduceAdd, Nat.reduceLT, Nat.reduceLeDiff, Nat.reduceMul, Nat.reduceSub, ↓reduceIte, decide_true, decide_false, Bool.true_eq_false, Bool.false_eq_true, Bool.not_true, Bool.not_false, if_true, if_false, and_true, true_and, memE, celE, w64, Nat.zero_add, Nat.add_zero, Nat.mul_one, putL, and_self, ldn]
    refine callH_rc (rates_rc _ h b) ?_
    rintro r n2 ⟨rfl, rfl⟩
    rw [List.append_nil]
    cases hr : (inF 9 h && inF 9 b) with
    | false =>
      simp (config := {implicitDefEqProofs := false, maxDischargeDepth := 20}) (disch := first | omega | (simp only [lenE]; done) | (simp only [lenE]; omega) | rfl | (simp only [lenE, markR_len]; done) | (simp only [lenE, markR_len]; omega)) only [runE, mapE, listE, initT_5, initT_6, initT_7, initT_8, resV, oneV, binA, unA, reduceCtorEq, Nat.reduceEqDiff, Nat.reduceAdd, Nat.reduceLT, Nat.reduceLeDiff, Nat.reduceMul, Nat.reduceSub, ↓reduceIte, decide_true, decide_false, Bool.true_eq_false, Bool.false_eq_true, Bool.not_true, Bool.not_false, if_true, if_false, and_true, true_and, memE, celE, w64, Nat.zero_add, Nat.add_zero, Nat.mul_one, putL, and_self, ldn]
      exact no _ hX (by unfold costOk11; rw [hc, hr]; rfl)
    | true =>
      simp only [Bool.and_eq_true, decide_eq_true_eq] at hc hr
      have hall := near_all.1 hc.2
      have hlen := hc.1
      simp (config := {implicitDefEqProofs := false, maxDischargeDepth := 20}) (disch := first | omega | (simp only [lenE]; done) | (simp only [lenE]; omega) | rfl | (simp only [lenE, markR_len]; done) | (simp only [lenE, markR_len]; omega)) only [runE, mapE, listE, initT_5, initT_6, initT_7, initT_8, resV, oneV, binA, unA, reduceCtorEq, Nat.reduceEqDiff, Nat.reduceAdd, Nat.reduceLT, Nat.reduceLeDiff, Nat.reduceMul, Nat.reduceSub, ↓reduceIte, decide_true, decide_false, Bool.true_eq_false, Bool.false_eq_true, Bool.not_true, Bool.not_false, if_true, if_false, and_true, true_and, memE, celE, w64, Nat.zero_add, Nat.add_zero, Nat.mul_one, putL, and_self, ldn]
      refine callH_rc (stockCost_rc _ v l h b (hX.keeps.ints hl) (inF_iff.1 hr.1) (inF_iff.1 hr.2) (fun x hx => by have := hall x hx; omega) (by omega)) ?_
      rintro r n3 ⟨rfl, hn3⟩
      simp (config := {implicitDefEqProofs := false, maxDischargeDepth := 20}) (disch := first | omega | (simp only [lenE]; done) | (simp only [lenE]; omega) | rfl | (simp only [lenE, markR_len]; done) | (simp only [lenE, markR_len]; omega)) only [runE, mapE, listE, initT_5, initT_6, initT_7, initT_8, resV, oneV, binA, unA, reduceCtorEq, Nat.reduceEqDiff, Nat.reduceAdd, Nat.reduceLT, Nat.reduceLeDiff, Nat.reduceMul, Nat.reduceSub, ↓reduceIte, decide_true, decide_false, Bool.true_eq_false, Bool.false_eq_true, Bool.not_true, Bool.not_false, if_true, if_false, and_true, true_and, memE, celE, w64, Nat.zero_add, Nat.add_zero, Nat.mul_one, putL, and_self, ldn]
      have e : costOk11 l h b = true := by simp [costOk11, hc.1, hc.2, hr.1, hr.2]
      exact ext_ansV (hX.app hn3) (by simp [costA11, e])
theorem specStockCost_rc (m : Mem) (v : Value) (l : List Int) (h b : Int) (hl : IntsA m v l) :
    RC Try.prog 44 [v, .int .i64 h, .int .i64 b] m (AnsV (.tuple #[.int .i64 (costA11 l h b), .bool (costOk11 l h b)])) := by
  refine rc_of_run mixed ok_spec_StockCost (by simp) (go_start _ _ _ ?_)
  have hr := hl.ro
  have no : costOk11 l h b = false → newQ m (AnsV (.tuple #[.int .i64 (costA11 l h b), .bool (costOk11 l h b)])) (.tuple #[.int .i64 0, .bool false]) (roM m) := fun e => newQ_nil ⟨by simp [costA11, e], noRo_nil⟩
  by_cases hc : l.length ≤ 20
  · have hc' : ¬ ((l.length : Int) > 20) := by omega
    simp (config := {implicitDefEqProofs := false, maxDischargeDepth := 20}) (disch := first | omega | (simp only [lenE]; done) | (simp only [lenE]; omega) | rfl | (simp only [lenE, markR_len]; done) | (simp only [lenE, markR_len]; omega)) only [runE, mapE, listE, initT_5, initT_6, initT_7, initT_8, resV, oneV, binA, unA, reduceCtorEq, Nat.reduceEqDiff, Nat.reduceAdd, Nat.reduceLT, Nat.reduceLeDiff, Nat.reduceMul, Nat.reduceSub, ↓reduceIte, decide_true, decide_false, Bool.true_eq_false, Bool.false_eq_true, Bool.not_true, Bool.not_false, if_true, if_false, and_true, true_and, memE, celE, w64, Nat.zero_add, Nat.add_zero, Nat.mul_one, putL, and_self, ldn, c_spec_StockCost, r_spec_StockCost, hr.len, hc']
    refine callH_rc (l11Rates_rc _ h b) ?_
    rintro r n2 ⟨rfl, rfl⟩
    rw [List.append_nil]
    cases hq : (inF 9 h && inF 9 b) with
    | false =>
      simp (config := {implicitDefEqProofs := false, maxDischargeDepth := 20}) (disch := first | omega | (simp only [lenE]; done) | (simp only [lenE]; omega) | rfl | (simp only [lenE, markR_len]; done) | (simp only [lenE, markR_len]; omega)) only [runE, mapE, listE, initT_5, initT_6, initT_7, initT_8, resV, oneV, binA, unA, reduceCtorEq, Nat.reduceEqDiff, Nat.reduceAdd, Nat.reduceLT, Nat.reduceLeDiff, Nat.reduceMul, Nat.reduceSub, ↓reduceIte, decide_true, decide_false, Bool.true_eq_false, Bool.false_eq_true, Bool.not_true, Bool.not_false, if_true, if_false, and_true, true_and, memE, celE, w64, Nat.zero_add, Nat.add_zero, Nat.mul_one, putL, and_self, ldn]
      exact no (by unfold costOk11; rw [hq, Bool.and_false])
    | true =>
      have hq' := hq
      simp only [Bool.and_eq_true] at hq'
      have hh := inF_iff.1 hq'.1
      have hb := inF_iff.1 hq'.2
      simp (config := {implicitDefEqProofs := false, maxDischargeDepth := 20}) (disch := first | omega | (simp only [lenE]; done) | (simp only [lenE]; omega) | rfl | (simp only [lenE, markR_len]; done) | (simp only [lenE, markR_len]; omega)) only [runE, mapE, listE, initT_5, initT_6, initT_7, initT_8, resV, oneV, binA, unA, reduceCtorEq, Nat.reduceEqDiff, Nat.reduceAdd, Nat.reduceLT, Nat.reduceLeDiff, Nat.reduceMul, Nat.reduceSub, ↓reduceIte, decide_true, decide_false, Bool.true_eq_false, Bool.false_eq_true, Bool.not_true, Bool.not_false, if_true, if_false, and_true, true_and, memE, celE, w64, Nat.zero_add, Nat.add_zero, Nat.mul_one, putL, and_self, ldn]
      refine loop_inv mixed (fun s => ∃ k : Nat, k ≤ l.length ∧ s.m = roM m ∧ s.t 0 = v ∧ s.t 1 = .int .i64 h ∧ s.t 2 = .int .i64 b ∧ s.t 8 = .int .i64 (scosts h b l k) ∧ s.t 9 = .int .i64 k ∧ ∀ j, j < k → nearB 200 (l.getD j 0) = true) (fun s => l.length - (zOf (s.t 9)).toNat)
        ⟨0, by omega, rfl, rfl, rfl, rfl, rfl, rfl, fun j hj => absurd hj (by omega)⟩ ?_
      rintro s ⟨k, hk, tm, t0, t1, t2, t8, t9, hall⟩
      by_cases hlt : k < l.length
      · have hlt' : (k : Int) < l.length := by omega
        simp (config := {implicitDefEqProofs := false, maxDischargeDepth := 20}) (disch := first | omega | (simp only [lenE]; done) | (simp only [lenE]; omega) | rfl | (simp only [lenE, markR_len]; done) | (simp only [lenE, markR_len]; omega)) only [runE, mapE, listE, initT_5, initT_6, initT_7, initT_8, resV, oneV, binA, unA, reduceCtorEq, Nat.reduceEqDiff, Nat.reduceAdd, Nat.reduceLT, Nat.reduceLeDiff, Nat.reduceMul, Nat.reduceSub, ↓reduceIte, decide_true, decide_false, Bool.true_eq_false, Bool.false_eq_true, Bool.not_true, Bool.not_false, if_true, if_false, and_true, true_and, memE, celE, w64, Nat.zero_add, Nat.add_zero, Nat.mul_one, putL, and_self, ldn, tm, t0, t1, t2, t8, t9, hr.len, hr.at_ k hlt, hr.ld k hlt, hlt']
        refine callH_rc (in11_rc _ _) ?_
        rintro r n3 ⟨rfl, rfl⟩
        rw [List.append_nil]
        cases hn : nearB 200 (l.getD k 0) with
        | false =>
          simp (config := {implicitDefEqProofs := false, maxDischargeDepth := 20}) (disch := first | omega | (simp only [lenE]; done) | (simp only [lenE]; omega) | rfl | (simp only [lenE, markR_len]; done) | (simp only [lenE, markR_len]; omega)) only [runE, mapE, listE, initT_5, initT_6, initT_7, initT_8, resV, oneV, binA, unA, reduceCtorEq, Nat.reduceEqDiff, Nat.reduceAdd, Nat.reduceLT, Nat.reduceLeDiff, Nat.reduceMul, Nat.reduceSub, ↓reduceIte, decide_true, decide_false, Bool.true_eq_false, Bool.false_eq_true, Bool.not_true, Bool.not_false, if_true, if_false, and_true, true_and, memE, celE, w64, Nat.zero_add, Nat.add_zero, Nat.mul_one, putL, and_self, ldn, tm, t0, t1, t2, t8, t9]
          refine no ?_
          have : l.all (nearB 200) = false := by
            rw [List.all_eq_false]
            exact ⟨_, getD_mem hlt, by rw [hn]; simp⟩
          unfold costOk11; rw [this]; simp
        | true =>
          have hx := nearB_iff.1 hn
          simp (config := {implicitDefEqProofs := false, maxDischargeDepth := 20}) (disch := first | omega | (simp only [lenE]; done) | (simp only [lenE]; omega) | rfl | (simp only [lenE, markR_len]; done) | (simp only [lenE, markR_len]; omega)) only [runE, mapE, listE, initT_5, initT_6, initT_7, initT_8, resV, oneV, binA, unA, reduceCtorEq, Nat.reduceEqDiff, Nat.reduceAdd, Nat.reduceLT, Nat.reduceLeDiff, Nat.reduceMul, Nat.reduceSub, ↓reduceIte, decide_true, decide_false, Bool.true_eq_false, Bool.false_eq_true, Bool.not_true, Bool.not_false, if_true, if_false, and_true, true_and, memE, celE, w64, Nat.zero_add, Nat.add_zero, Nat.mul_one, putL, and_self, ldn, tm, t0, t1, t2, t8, t9, hr.len, hr.at_ k hlt, hr.ld k hlt]
          refine callH_rc (l11Cost_rc _ _ h b hh hb (by omega)) ?_
          rintro r n4 ⟨rfl, rfl⟩
          rw [List.append_nil]
          have b1 : 0 ≤ scosts h b l k ∧ scosts h b l k ≤ 36000 := by
            have := sumTo_bound (l := (l.take k).map (scost h b)) (m := 1800) (by decide) (fun x hx => by
              obtain ⟨y, hy, rfl⟩ := List.mem_map.1 hx
              obtain ⟨j, hj, rfl⟩ := List.getElem_of_mem hy
              rw [List.length_take] at hj
              have := nearB_iff.1 (hall j (by omega))
              rw [List.getD_eq_getElem?_getD, List.getElem?_eq_getElem (by omega)] at this
              rw [List.getElem_take]
              exact scost_bd (B := 200) hh hb this) k
            have e : sumTo ((l.take k).map (scost h b)) k = scosts h b l k := by
              unfold scosts sumTo
              rw [List.map_take, List.take_take, Nat.min_self]
            omega
          have b2 := scost_bd (B := 200) hh hb hx
          simp (config := {implicitDefEqProofs := false, maxDischargeDepth := 20}) (disch := first | omega | (simp only [lenE]; done) | (simp only [lenE]; omega) | rfl | (simp only [lenE, markR_len]; done) | (simp only [lenE, markR_len]; omega)) only [runE, mapE, listE, initT_5, initT_6, initT_7, initT_8, resV, oneV, binA, unA, reduceCtorEq, Nat.reduceEqDiff, Nat.reduceAdd, Nat.reduceLT, Nat.reduceLeDiff, Nat.reduceMul, Nat.reduceSub, ↓reduceIte, decide_true, decide_false, Bool.true_eq_false, Bool.false_eq_true, Bool.not_true, Bool.not_false, if_true, if_false, and_true, true_and, memE, celE, w64, Nat.zero_add, Nat.add_zero, Nat.mul_one, putL, and_self, ldn, tm, t0, t1, t2, t8, t9]
          refine ⟨⟨k + 1, by omega, by rw [scosts_s hlt], by simp, fun j hj => ?_⟩, ?_⟩
          · by_cases e : j = k
            · rw [e]; exact hn
            · exact hall j (by omega)
          · simp [zOf]; omega
      · have hlt' : ¬ ((k : Int) < l.length) := by omega
        obtain rfl : k = l.length := by omega
        simp (config := {implicitDefEqProofs := false, maxDischargeDepth := 20}) (disch := first | omega | (simp only [lenE]; done) | (simp only [lenE]; omega) | rfl | (simp only [lenE, markR_len]; done) | (simp only [lenE, markR_len]; omega)) only [runE, mapE, listE, initT_5, initT_6, initT_7, initT_8, resV, oneV, binA, unA, reduceCtorEq, Nat.reduceEqDiff, Nat.reduceAdd, Nat.reduceLT, Nat.reduceLeDiff, Nat.reduceMul, Nat.reduceSub, ↓reduceIte, decide_true, decide_false, Bool.true_eq_false, Bool.false_eq_true, Bool.not_true, Bool.not_false, if_true, if_false, and_true, true_and, memE, celE, w64, Nat.zero_add, Nat.add_zero, Nat.mul_one, putL, and_self, ldn, tm, t0, t1, t2, t8, t9, hr.len, hlt']
        have hal : l.all (nearB 200) = true := by
          rw [List.all_eq_true]
          intro x hx
          obtain ⟨j, hj, rfl⟩ := List.getElem_of_mem hx
          have := hall j hj
          rw [List.getD_eq_getElem?_getD, List.getElem?_eq_getElem hj] at this
          exact this
        have e : costOk11 l h b = true := by unfold costOk11; rw [hq, hal]; simp [hc]
        exact newQ_nil ⟨by simp [costA11, e], noRo_nil⟩
  · have hc' : (l.length : Int) > 20 := by omega
    simp (config := {implicitDefEqProofs := false, maxDischargeDepth := 20}) (disch := first | omega | (simp only [lenE]; done) | (simp only [lenE]; omega) | rfl | (simp only [lenE, markR_len]; done) | (simp only [lenE, markR_len]; omega)) only [runE, mapE, listE, initT_5, initT_6, initT_7, initT_8, resV, oneV, binA, unA, reduceCtorEq, Nat.reduceEqDiff, Nat.reduceAdd, Nat.reduceLT, Nat.reduceLeDiff, Nat.reduceMul, Nat.reduceSub, ↓reduceIte, decide_true, decide_false, Bool.true_eq_false, Bool.false_eq_true, Bool.not_true, Bool.not_false, if_true, if_false, and_true, true_and, memE, celE, w64, Nat.zero_add, Nat.add_zero, Nat.mul_one, putL, and_self, ldn, c_spec_StockCost, r_spec_StockCost, hr.len, hc']
    exact no (by simp [costOk11, hc])
/-! Needs of leads. -/
theorem cut_is (l : List Int) (lo hi : Nat) : cutL l lo hi = (l.take hi).drop lo := rfl
theorem asked_bd {l : List Int} (h : numsB l 20 20 = true) : l.length ≤ 20 ∧ ∀ x ∈ l, 0 ≤ x ∧ x ≤ 20 := numsB_iff.1 h
theorem cutN {l : List Int} (h : numsB l 20 20 = true) (lo hi : Nat) : ∀ k : Nat, k ≤ (cutL l lo hi).length → -4611686018427387904 ≤ sumTo (cutL l lo hi) k ∧ sumTo (cutL l lo hi) k ≤ 4611686018427387904 := fun k hk => by
  obtain ⟨h1, h2⟩ := asked_bd h
  have := sumTo_bound (l := cutL l lo hi) (m := 20) (by decide) (fun x hx => h2 x (List.mem_of_mem_take (List.mem_of_mem_drop hx))) k
  have : (cutL l lo hi).length ≤ l.length := by unfold cutL; rw [List.length_drop, List.length_take]; omega
  omega
theorem lead_is {l : List Int} {lead i : Nat} (h : i + lead < l.length) : sumTo (cutL l i (i + lead + 1)) (cutL l i (i + lead + 1)).length = leadN l lead i := by
  rw [cutL_len (by omega), show i + lead + 1 - i = lead + 1 by omega]; rfl
theorem l11Asked_rc (m : Mem) (v : Value) (l : List Int) (lead : Int) (hl : IntsA m v l) : RC Try.prog 93 [v, .int .i64 lead] m fun r new => r = .bool (leadOk l lead) ∧ new = [] := by
  refine rc_of_run mixed ok_spec_l11Asked (by simp) (go_start _ _ _ ?_)
  simp (config := {implicitDefEqProofs := false, maxDischargeDepth := 20}) (disch := first | omega | (simp only [lenE]; done) | (simp only [lenE]; omega) | rfl | (simp only [lenE, markR_len]; done) | (simp only [lenE, markR_len]; omega)) only [runE, mapE, listE, initT_5, initT_6, initT_7, initT_8, resV, oneV, binA, unA, reduceCtorEq, Nat.reduceEqDiff, Nat.reduceAdd, Nat.reduceLT, Nat.reduceLeDiff, Nat.reduceMul, Nat.reduceSub, ↓reduceIte, decide_true, decide_false, Bool.true_eq_false, Bool.false_eq_true, Bool.not_true, Bool.not_false, if_true, if_false, and_true, true_and, memE, celE, w64, Nat.zero_add, Nat.add_zero, Nat.mul_one, putL, and_self, ldn, c_spec_l11Asked, r_spec_l11Asked]
  refine callH_rc (l11Numbers_rc _ v l 20 20 20 rfl hl.ro) ?_
  rintro r new ⟨rfl, rfl⟩
  rw [List.append_nil]
  cases hh : numsB l 20 20 with
  | false =>
    simp (config := {implicitDefEqProofs := false, maxDischargeDepth := 20}) (disch := first | omega | (simp only [lenE]; done) | (simp only [lenE]; omega) | rfl | (simp only [lenE, markR_len]; done) | (simp only [lenE, markR_len]; omega)) only [runE, mapE, listE, initT_5, initT_6, initT_7, initT_8, resV, oneV, binA, unA, reduceCtorEq, Nat.reduceEqDiff, Nat.reduceAdd, Nat.reduceLT, Nat.reduceLeDiff, Nat.reduceMul, Nat.reduceSub, ↓reduceIte, decide_true, decide_false, Bool.true_eq_false, Bool.false_eq_true, Bool.not_true, Bool.not_false, if_true, if_false, and_true, true_and, memE, celE, w64, Nat.zero_add, Nat.add_zero, Nat.mul_one, putL, and_self, ldn]
    exact newQ_nil ⟨by simp [leadOk, hh], rfl⟩
  | true =>
    simp (config := {implicitDefEqProofs := false, maxDischargeDepth := 20}) (disch := first | omega | (simp only [lenE]; done) | (simp only [lenE]; omega) | rfl | (simp only [lenE, markR_len]; done) | (simp only [lenE, markR_len]; omega)) only [runE, mapE, listE, initT_5, initT_6, initT_7, initT_8, resV, oneV, binA, unA, reduceCtorEq, Nat.reduceEqDiff, Nat.reduceAdd, Nat.reduceLT, Nat.reduceLeDiff, Nat.reduceMul, Nat.reduceSub, ↓reduceIte, decide_true, decide_false, Bool.true_eq_false, Bool.false_eq_true, Bool.not_true, Bool.not_false, if_true, if_false, and_true, true_and, memE, celE, w64, Nat.zero_add, Nat.add_zero, Nat.mul_one, putL, and_self, ldn]
    refine callH_rc (inF_rc _ lead 4) ?_
    rintro r new ⟨rfl, rfl⟩
    simp (config := {implicitDefEqProofs := false, maxDischargeDepth := 20}) (disch := first | omega | (simp only [lenE]; done) | (simp only [lenE]; omega) | rfl | (simp only [lenE, markR_len]; done) | (simp only [lenE, markR_len]; omega)) only [runE, mapE, listE, initT_5, initT_6, initT_7, initT_8, resV, oneV, binA, unA, reduceCtorEq, Nat.reduceEqDiff, Nat.reduceAdd, Nat.reduceLT, Nat.reduceLeDiff, Nat.reduceMul, Nat.reduceSub, ↓reduceIte, decide_true, decide_false, Bool.true_eq_false, Bool.false_eq_true, Bool.not_true, Bool.not_false, if_true, if_false, and_true, true_and, memE, celE, w64, Nat.zero_add, Nat.add_zero, Nat.mul_one, putL, and_self, ldn, List.append_nil]
    exact newQ_nil ⟨by simp [leadOk, hh], rfl⟩
theorem l11Needs_rc (m : Mem) (v : Value) (l : List Int) (lead : Nat) (li : Int) (he : li = lead) (hl : IntsA m v l) (hg : numsB l 20 20 = true) (h4 : lead ≤ 4) :
    RC Try.prog 94 [v, .int .i64 li] m (AnsR m (needL l lead (l.length - lead))) := by
  subst he
  refine rc_of_run mixed ok_spec_l11Needs (by simp) (go_start _ _ _ ?_)
  obtain ⟨h20, hall⟩ := asked_bd hg
  simp (config := {implicitDefEqProofs := false, maxDischargeDepth := 20}) (disch := first | omega | (simp only [lenE]; done) | (simp only [lenE]; omega) | rfl | (simp only [lenE, markR_len]; done) | (simp only [lenE, markR_len]; omega)) only [runE, mapE, listE, initT_5, initT_6, initT_7, initT_8, resV, oneV, binA, unA, reduceCtorEq, Nat.reduceEqDiff, Nat.reduceAdd, Nat.reduceLT, Nat.reduceLeDiff, Nat.reduceMul, Nat.reduceSub, ↓reduceIte, decide_true, decide_false, Bool.true_eq_false, Bool.false_eq_true, Bool.not_true, Bool.not_false, if_true, if_false, and_true, true_and, memE, celE, w64, Nat.zero_add, Nat.add_zero, Nat.mul_one, putL, and_self, ldn, c_spec_l11Needs, r_spec_l11Needs, bsl_none]
  refine loop_inv mixed (fun s => ∃ (k : Nat) (M : Mem) (id : Nat), k ≤ l.length - lead ∧ s.m = M ∧ Ext m M ∧ m.length ≤ id ∧ OwnR M id (needL l lead k) ∧ s.t 0 = v ∧ s.t 1 = .int .i64 lead ∧ s.t 5 = .slice (some ⟨id, 0, none⟩) k 1 ∧ s.t 6 = .int .i64 k) (fun s => l.length - (zOf (s.t 6)).toNat)
    ⟨0, _, m.length, by omega, rfl, (Ext.refl m).one _ _, by omega, OwnR.end' (l := []) (by rw [roM_len]), rfl, rfl, rfl, rfl⟩ ?_
  rintro s ⟨k, M, id, hk, tm, hx, hid, ho, t0, t1, t5, t6⟩
  have hM := hx.keeps.ints hl
  by_cases hlt : k + lead < l.length
  · have hlt' : (k : Int) + (lead : Int) < l.length := by omega
    obtain ⟨v', hc, hcut⟩ := hM.cut (lo := k) (hi := k + lead + 1) (by omega) (by omega)
    have e1 : (((k + lead + 1 : Nat)) : Int) = (k : Int) + (lead : Int) + 1 := by omega
    rw [e1] at hc
    simp (config := {implicitDefEqProofs := false, maxDischargeDepth := 20}) (disch := first | omega | (simp only [lenE]; done) | (simp only [lenE]; omega) | rfl | (simp only [lenE, markR_len]; done) | (simp only [lenE, markR_len]; omega)) only [runE, mapE, listE, initT_5, initT_6, initT_7, initT_8, resV, oneV, binA, unA, reduceCtorEq, Nat.reduceEqDiff, Nat.reduceAdd, Nat.reduceLT, Nat.reduceLeDiff, Nat.reduceMul, Nat.reduceSub, ↓reduceIte, decide_true, decide_false, Bool.true_eq_false, Bool.false_eq_true, Bool.not_true, Bool.not_false, if_true, if_false, and_true, true_and, memE, celE, w64, Nat.zero_add, Nat.add_zero, Nat.mul_one, putL, and_self, ldn, tm, t0, t1, t5, t6, hM.len, hlt', Option.map_some, hc]
    refine callH_rc (l2Sum_rc _ v' _ hcut (cutN hg _ _)) ?_
    rintro r new ⟨rfl, rfl⟩
    rw [List.append_nil, lead_is hlt]
    have ha := app_num (x := leadN l lead k) (id2 := M.length) (n := k) ho (by rw [needL_len]; omega) rfl (by rw [needL_len])
    simp (config := {implicitDefEqProofs := false, maxDischargeDepth := 20}) (disch := first | omega | (simp only [lenE]; done) | (simp only [lenE]; omega) | rfl | (simp only [lenE, markR_len]; done) | (simp only [lenE, markR_len]; omega)) only [runE, mapE, listE, initT_5, initT_6, initT_7, initT_8, resV, oneV, binA, unA, reduceCtorEq, Nat.reduceEqDiff, Nat.reduceAdd, Nat.reduceLT, Nat.reduceLeDiff, Nat.reduceMul, Nat.reduceSub, ↓reduceIte, decide_true, decide_false, Bool.true_eq_false, Bool.false_eq_true, Bool.not_true, Bool.not_false, if_true, if_false, and_true, true_and, memE, celE, w64, Nat.zero_add, Nat.add_zero, Nat.mul_one, putL, and_self, ldn, tm, t0, t1, t5, t6, bsl_one, ha]
    refine ⟨⟨k + 1, _, M.length + 1, by omega, rfl, ((hx.dead hid).one _ _).one _ _, by have := hx.len; omega, ?_, rfl, by simp⟩, ?_⟩
    · rw [needL_s]
      exact OwnR.end' (by simp)
    · simp [zOf]; omega
  · have hlt' : ¬ ((k : Int) + (lead : Int) < l.length) := by omega
    obtain rfl : k = l.length - lead := by omega
    simp (config := {implicitDefEqProofs := false, maxDischargeDepth := 20}) (disch := first | omega | (simp only [lenE]; done) | (simp only [lenE]; omega) | rfl | (simp only [lenE, markR_len]; done) | (simp only [lenE, markR_len]; omega)) only [runE, mapE, listE, initT_5, initT_6, initT_7, initT_8, resV, oneV, binA, unA, reduceCtorEq, Nat.reduceEqDiff, Nat.reduceAdd, Nat.reduceLT, Nat.reduceLeDiff, Nat.reduceMul, Nat.reduceSub, ↓reduceIte, decide_true, decide_false, Bool.true_eq_false, Bool.false_eq_true, Bool.not_true, Bool.not_false, if_true, if_false, and_true, true_and, memE, celE, w64, Nat.zero_add, Nat.add_zero, Nat.mul_one, putL, and_self, ldn, tm, t0, t1, t5, t6, hM.len, hlt']
    exact ext_ansR hx ho hid (by rw [needL_len]) (by rw [needL_len]; omega)
theorem specLeadNeeds_rc (m : Mem) (v : Value) (l : List Int) (lead : Int) (hl : IntsA m v l) : RC Try.prog 46 [v, .int .i64 lead] m (AnsL m (needA l lead) (leadOk l lead)) := by
  refine rc_of_run mixed ok_spec_LeadNeeds (by simp) (go_start _ _ _ ?_)
  simp (config := {implicitDefEqProofs := false, maxDischargeDepth := 20}) (disch := first | omega | (simp only [lenE]; done) | (simp only [lenE]; omega) | rfl | (simp only [lenE, markR_len]; done) | (simp only [lenE, markR_len]; omega)) only [runE, mapE, listE, initT_5, initT_6, initT_7, initT_8, resV, oneV, binA, unA, reduceCtorEq, Nat.reduceEqDiff, Nat.reduceAdd, Nat.reduceLT, Nat.reduceLeDiff, Nat.reduceMul, Nat.reduceSub, ↓reduceIte, decide_true, decide_false, Bool.true_eq_false, Bool.false_eq_true, Bool.not_true, Bool.not_false, if_true, if_false, and_true, true_and, memE, celE, w64, Nat.zero_add, Nat.add_zero, Nat.mul_one, putL, and_self, ldn, c_spec_LeadNeeds, r_spec_LeadNeeds]
  refine callH_rc (l11Asked_rc _ v l lead hl.ro) ?_
  rintro r new ⟨rfl, rfl⟩
  rw [List.append_nil]
  unfold needA
  cases hg : leadOk l lead with
  | false =>
    simp (config := {implicitDefEqProofs := false, maxDischargeDepth := 20}) (disch := first | omega | (simp only [lenE]; done) | (simp only [lenE]; omega) | rfl | (simp only [lenE, markR_len]; done) | (simp only [lenE, markR_len]; omega)) only [runE, mapE, listE, initT_5, initT_6, initT_7, initT_8, resV, oneV, binA, unA, reduceCtorEq, Nat.reduceEqDiff, Nat.reduceAdd, Nat.reduceLT, Nat.reduceLeDiff, Nat.reduceMul, Nat.reduceSub, ↓reduceIte, decide_true, decide_false, Bool.true_eq_false, Bool.false_eq_true, Bool.not_true, Bool.not_false, if_true, if_false, and_true, true_and, memE, celE, w64, Nat.zero_add, Nat.add_zero, Nat.mul_one, putL, and_self, ldn, bsl_none]
    exact ext_ansL ((Ext.refl m).one _ _) (OwnR.end' (l := []) (by rw [roM_len])) (by omega) rfl (by simp)
  | true =>
    have hg' := hg
    simp only [leadOk, Bool.and_eq_true] at hg'
    have h4 := inF_iff.1 hg'.2
    simp (config := {implicitDefEqProofs := false, maxDischargeDepth := 20}) (disch := first | omega | (simp only [lenE]; done) | (simp only [lenE]; omega) | rfl | (simp only [lenE, markR_len]; done) | (simp only [lenE, markR_len]; omega)) only [runE, mapE, listE, initT_5, initT_6, initT_7, initT_8, resV, oneV, binA, unA, reduceCtorEq, Nat.reduceEqDiff, Nat.reduceAdd, Nat.reduceLT, Nat.reduceLeDiff, Nat.reduceMul, Nat.reduceSub, ↓reduceIte, decide_true, decide_false, Bool.true_eq_false, Bool.false_eq_true, Bool.not_true, Bool.not_false, if_true, if_false, and_true, true_and, memE, celE, w64, Nat.zero_add, Nat.add_zero, Nat.mul_one, putL, and_self, ldn]
    refine callH_rc (l11Needs_rc _ v l lead.toNat lead (by omega) hl.ro hg'.1 (by omega)) ?_
    intro r new hA
    obtain ⟨id, fl, rfl, hid, hown, hle, hn⟩ := hA.row
    simp (config := {implicitDefEqProofs := false, maxDischargeDepth := 20}) (disch := first | omega | (simp only [lenE]; done) | (simp only [lenE]; omega) | rfl | (simp only [lenE, markR_len]; done) | (simp only [lenE, markR_len]; omega)) only [runE, mapE, listE, initT_5, initT_6, initT_7, initT_8, resV, oneV, binA, unA, reduceCtorEq, Nat.reduceEqDiff, Nat.reduceAdd, Nat.reduceLT, Nat.reduceLeDiff, Nat.reduceMul, Nat.reduceSub, ↓reduceIte, decide_true, decide_false, Bool.true_eq_false, Bool.false_eq_true, Bool.not_true, Bool.not_false, if_true, if_false, and_true, true_and, memE, celE, w64, Nat.zero_add, Nat.add_zero, Nat.mul_one, putL, and_self, ldn]
    exact ext_ansL ((Ext.refl m).app hn) hown (by rw [roM_len] at hid; exact hid) rfl hle
theorem implLeadNeeds_rc (m : Mem) (v : Value) (l : List Int) (lead : Int) (hl : IntsA m v l) : RC Try.prog 47 [v, .int .i64 lead] m (AnsL m (needA l lead) (leadOk l lead)) := by
  refine rc_of_run mixed ok_impl_LeadNeeds (by simp) (go_start _ _ _ ?_)
  simp (config := {implicitDefEqProofs := false, maxDischargeDepth := 20}) (disch := first | omega | (simp only [lenE]; done) | (simp only [lenE]; omega) | rfl | (simp only [lenE, markR_len]; done) | (simp only [lenE, markR_len]; omega)) only [runE, mapE, listE, initT_5, initT_6, initT_7, initT_8, resV, oneV, binA, unA, reduceCtorEq, Nat.reduceEqDiff, Nat.reduceAdd, Nat.reduceLT, Nat.reduceLeDiff, Nat.reduceMul, Nat.reduceSub, ↓reduceIte, decide_true, decide_false, Bool.true_eq_false, Bool.false_eq_true, Bool.not_true, Bool.not_false, if_true, if_false, and_true, true_and, memE, celE, w64, Nat.zero_add, Nat.add_zero, Nat.mul_one, putL, and_self, ldn, c_impl_LeadNeeds, r_impl_LeadNeeds]
  refine callH_rc (areAsked_rc _ v l hl.ro) ?_
  rintro r n1 ⟨rfl, hn1⟩
  have hX := (Ext.refl m).app hn1
  unfold needA
  cases hn : numsB l 20 20 with
  | false =>
    simp (config := {implicitDefEqProofs := false, maxDischargeDepth := 20}) (disch := first | omega | (simp only [lenE]; done) | (simp only [lenE]; omega) | rfl | (simp only [lenE, markR_len]; done) | (simp only [lenE, markR_len]; omega)) only [runE, mapE, listE, initT_5, initT_6, initT_7, initT_8, resV, oneV, binA, unA, reduceCtorEq, Nat.reduceEqDiff, Nat.reduceAdd, Nat.reduceLT, Nat.reduceLeDiff, Nat.reduceMul, Nat.reduceSub, ↓reduceIte, decide_true, decide_false, Bool.true_eq_false, Bool.false_eq_true, Bool.not_true, Bool.not_false, if_true, if_false, and_true, true_and, memE, celE, w64, Nat.zero_add, Nat.add_zero, Nat.mul_one, putL, and_self, ldn, bsl_none]
    have e : leadOk l lead = false := by simp [leadOk, hn]
    rw [e]
    exact ext_ansL (hX.one _ _) (OwnR.end' (l := []) (by simp [roM_len])) (by omega) rfl (by simp)
  | true =>
    simp (config := {implicitDefEqProofs := false, maxDischargeDepth := 20}) (disch := first | omega | (simp only [lenE]; done) | (simp only [lenE]; omega) | rfl | (simp only [lenE, markR_len]; done) | (simp only [lenE, markR_len]; omega)) only [runE, mapE, listE, initT_5, initT_6, initT_7, initT_8, resV, oneV, binA, unA, reduceCtorEq, Nat.reduceEqDiff, Nat.reduceAdd, Nat.reduceLT, Nat.reduceLeDiff, Nat.reduceMul, Nat.reduceSub, ↓reduceIte, decide_true, decide_false, Bool.true_eq_false, Bool.false_eq_true, Bool.not_true, Bool.not_false, if_true, if_false, and_true, true_and, memE, celE, w64, Nat.zero_add, Nat.add_zero, Nat.mul_one, putL, and_self, ldn]
    refine callH_rc (within_rc _ lead 4) ?_
    rintro r n2 ⟨rfl, rfl⟩
    rw [List.append_nil]
    cases hf : inF 4 lead with
    | false =>
      simp (config := {implicitDefEqProofs := false, maxDischargeDepth := 20}) (disch := first | omega | (simp only [lenE]; done) | (simp only [lenE]; omega) | rfl | (simp only [lenE, markR_len]; done) | (simp only [lenE, markR_len]; omega)) only [runE, mapE, listE, initT_5, initT_6, initT_7, initT_8, resV, oneV, binA, unA, reduceCtorEq, Nat.reduceEqDiff, Nat.reduceAdd, Nat.reduceLT, Nat.reduceLeDiff, Nat.reduceMul, Nat.reduceSub, ↓reduceIte, decide_true, decide_false, Bool.true_eq_false, Bool.false_eq_true, Bool.not_true, Bool.not_false, if_true, if_false, and_true, true_and, memE, celE, w64, Nat.zero_add, Nat.add_zero, Nat.mul_one, putL, and_self, ldn, bsl_none]
      have e : leadOk l lead = false := by simp [leadOk, hf]
      rw [e]
      exact ext_ansL (hX.one _ _) (OwnR.end' (l := []) (by simp [roM_len])) (by omega) rfl (by simp)
    | true =>
      have e : leadOk l lead = true := by simp [leadOk, hn, hf]
      rw [e, if_pos rfl]
      have h4 := inF_iff.1 hf
      obtain ⟨ld, rfl⟩ : ∃ ld : Nat, lead = ld := ⟨lead.toNat, by omega⟩
      simp only [Int.toNat_natCast]
      obtain ⟨h20, hall⟩ := asked_bd hn
      simp (config := {implicitDefEqProofs := false, maxDischargeDepth := 20}) (disch := first | omega | (simp only [lenE]; done) | (simp only [lenE]; omega) | rfl | (simp only [lenE, markR_len]; done) | (simp only [lenE, markR_len]; omega)) only [runE, mapE, listE, initT_5, initT_6, initT_7, initT_8, resV, oneV, binA, unA, reduceCtorEq, Nat.reduceEqDiff, Nat.reduceAdd, Nat.reduceLT, Nat.reduceLeDiff, Nat.reduceMul, Nat.reduceSub, ↓reduceIte, decide_true, decide_false, Bool.true_eq_false, Bool.false_eq_true, Bool.not_true, Bool.not_false, if_true, if_false, and_true, true_and, memE, celE, w64, Nat.zero_add, Nat.add_zero, Nat.mul_one, putL, and_self, ldn, bsl_none]
      obtain ⟨M0, hM0⟩ : ∃ M0, M0 = roM m ++ n1 := ⟨_, rfl⟩
      have hL0 : M0.length = m.length + n1.length := by rw [hM0, List.length_append, roM_len]
      rw [← hM0] at hX ⊢
      clear hM0
      refine loop_inv mixed (fun s => ∃ (k : Nat) (M : Mem) (id : Nat), (k ≤ l.length - ld) ∧ s.m = M ∧ Ext m M ∧ m.length ≤ id ∧ OwnR M id (needL l ld k) ∧ s.t 0 = v ∧ s.t 1 = .int .i64 ld ∧ s.t 6 = .slice (some ⟨id, 0, none⟩) k 1 ∧ s.t 7 = .int .i64 ((k : Int) + ld)) (fun s => l.length - (zOf (s.t 7)).toNat)
        ⟨0, _, M0.length, by omega, rfl, hX.one _ _, hX.len, OwnR.end' (l := []) rfl, rfl, rfl, by rw [hL0]; rfl, by simp only [put_t, put_t', put_m, putT_t, putT_t', putT_m, init_t, init_m, initT_0, initT_1, initT_2, initT_3, initT_4, initT_5, initT_6, initT_7, initT_8, Nat.reduceEqDiff, ↓reduceIte]; simp⟩ ?_
      rintro s ⟨k, M, id, hk, tm, hx, hid, ho, t0, t1, t6, t7⟩
      have hM := hx.keeps.ints hl
      by_cases hlt : k + ld < l.length
      · have hlt' : (k : Int) + (ld : Int) < l.length := by omega
        obtain ⟨v', hc, hcut⟩ := hM.cut (lo := k) (hi := k + ld + 1) (by omega) (by omega)
        have e1 : (((k + ld + 1 : Nat)) : Int) = (k : Int) + (ld : Int) + 1 := by omega
        rw [e1] at hc
        have e2 : (k : Int) + (ld : Int) - (ld : Int) = k := by omega
        simp (config := {implicitDefEqProofs := false, maxDischargeDepth := 20}) (disch := first | omega | (simp only [lenE]; done) | (simp only [lenE]; omega) | rfl | (simp only [lenE, markR_len]; done) | (simp only [lenE, markR_len]; omega)) only [runE, mapE, listE, initT_5, initT_6, initT_7, initT_8, resV, oneV, binA, unA, reduceCtorEq, Nat.reduceEqDiff, Nat.reduceAdd, Nat.reduceLT, Nat.reduceLeDiff, Nat.reduceMul, Nat.reduceSub, ↓reduceIte, decide_true, decide_false, Bool.true_eq_false, Bool.false_eq_true, Bool.not_true, Bool.not_false, if_true, if_false, and_true, true_and, memE, celE, w64, Nat.zero_add, Nat.add_zero, Nat.mul_one, putL, and_self, ldn, tm, t0, t1, t6, t7, hM.len, hlt', e2, Option.map_some, hc]
        refine callH_rc (sumOf_rc _ v' _ hcut (cutN hn _ _)) ?_
        rintro r new ⟨rfl, rfl⟩
        rw [List.append_nil, lead_is hlt]
        have ha := app_num (x := leadN l ld k) (id2 := M.length) (n := k) ho (by rw [needL_len]; omega) rfl (by rw [needL_len])
        simp (config := {implicitDefEqProofs := false, maxDischargeDepth := 20}) (disch := first | omega | (simp only [lenE]; done) | (simp only [lenE]; omega) | rfl | (simp only [lenE, markR_len]; done) | (simp only [lenE, markR_len]; omega)) only [runE, mapE, listE, initT_5, initT_6, initT_7, initT_8, resV, oneV, binA, unA, reduceCtorEq, Nat.reduceEqDiff, Nat.reduceAdd, Nat.reduceLT, Nat.reduceLeDiff, Nat.reduceMul, Nat.reduceSub, ↓reduceIte, decide_true, decide_false, Bool.true_eq_false, Bool.false_eq_true, Bool.not_true, Bool.not_false, if_true, if_false, and_true, true_and, memE, celE, w64, Nat.zero_add, Nat.add_zero, Nat.mul_one, putL, and_self, ldn, tm, t0, t1, t6, t7, bsl_one, ha]
        refine ⟨⟨k + 1, _, M.length + 1, by omega, rfl, ((hx.dead hid).one _ _).one _ _, by have := hx.len; omega, ?_, rfl, by congr 1; push_cast; omega⟩, ?_⟩
        · rw [needL_s]
          exact OwnR.end' (by simp)
        · simp [zOf]; omega
      · have hlt' : ¬ ((k : Int) + (ld : Int) < l.length) := by omega
        have hkk : k = l.length - ld := by omega
        simp (config := {implicitDefEqProofs := false, maxDischargeDepth := 20}) (disch := first | omega | (simp only [lenE]; done) | (simp only [lenE]; omega) | rfl | (simp only [lenE, markR_len]; done) | (simp only [lenE, markR_len]; omega)) only [runE, mapE, listE, initT_5, initT_6, initT_7, initT_8, resV, oneV, binA, unA, reduceCtorEq, Nat.reduceEqDiff, Nat.reduceAdd, Nat.reduceLT, Nat.reduceLeDiff, Nat.reduceMul, Nat.reduceSub, ↓reduceIte, decide_true, decide_false, Bool.true_eq_false, Bool.false_eq_true, Bool.not_true, Bool.not_false, if_true, if_false, and_true, true_and, memE, celE, w64, Nat.zero_add, Nat.add_zero, Nat.mul_one, putL, and_self, ldn, tm, t0, t1, t6, t7, hM.len, hlt']
        rw [← hkk]
        exact ext_ansL hx ho hid (by rw [needL_len]) (by rw [needL_len]; omega)
theorem specNeedsO_rc (m : Mem) (v : Value) (l : List Int) (lead : Int) (hl : IntsA m v l) : RC Try.prog 46 [v, .int .i64 lead] m (AnsO m (IntsO (needA l lead)) (fun v => .tuple #[v, .bool (leadOk l lead)])) := (specLeadNeeds_rc m v l lead hl).mono fun r new h => h.obj
theorem implNeedsO_rc (m : Mem) (v : Value) (l : List Int) (lead : Int) (hl : IntsA m v l) : RC Try.prog 47 [v, .int .i64 lead] m (AnsO m (IntsO (needA l lead)) (fun v => .tuple #[v, .bool (leadOk l lead)])) := (implLeadNeeds_rc m v l lead hl).mono fun r new h => h.obj
/-! The best level. -/
theorem idx11_rc (m : Mem) (v : Value) (l : List Int) (a : Nat) (x : Int) (h : IntsA m v l) (ha : a < l.length) (hx : x = l.getD a 0) (hf : ∀ j, j < a → l.getD j 0 ≠ l.getD a 0) :
    RC Try.prog 100 [v, .int .i64 x] m fun r new => r = .int .i64 a ∧ new = [] := by
  refine rc_of_run mixed ok_slices_Index (by simp) (go_start _ _ _ ?_)
  have i := h.ro
  simp (config := {implicitDefEqProofs := false, maxDischargeDepth := 20}) (disch := first | omega | (simp only [lenE]; done) | (simp only [lenE]; omega) | rfl | (simp only [lenE, markR_len]; done) | (simp only [lenE, markR_len]; omega)) only [runE, mapE, listE, initT_5, initT_6, initT_7, initT_8, resV, oneV, binA, unA, reduceCtorEq, Nat.reduceEqDiff, Nat.reduceAdd, Nat.reduceLT, Nat.reduceLeDiff, Nat.reduceMul, Nat.reduceSub, ↓reduceIte, decide_true, decide_false, Bool.true_eq_false, Bool.false_eq_true, Bool.not_true, Bool.not_false, if_true, if_false, and_true, true_and, memE, celE, w64, Nat.zero_add, Nat.add_zero, Nat.mul_one, putL, and_self, ldn, c_slices_Index, r_slices_Index, i.len]
  refine loop_inv mixed (fun s => ∃ j : Nat, j ≤ a ∧ s.t 0 = v ∧ s.t 1 = .int .i64 x ∧ s.t 7 = .int .i64 l.length ∧ s.t 8 = .int .i64 j ∧ s.m = roM m) (fun s => l.length - (zOf (s.t 8)).toNat)
    ⟨0, by omega, rfl, rfl, rfl, rfl, rfl⟩ ?_
  rintro s ⟨j, hj, t0, t1, t7, t8, tm⟩
  have bd := i.bd
  have hlt : j < l.length := by omega
  have hlt' : (j : Int) < l.length := by omega
  by_cases e : j = a
  · subst e
    have hb : (x == l.getD j 0) = true := by rw [hx]; exact beq_self_eq_true _
    simp (config := {implicitDefEqProofs := false, maxDischargeDepth := 20}) (disch := first | omega | (simp only [lenE]; done) | (simp only [lenE]; omega) | rfl | (simp only [lenE, markR_len]; done) | (simp only [lenE, markR_len]; omega)) only [runE, mapE, listE, initT_5, initT_6, initT_7, initT_8, resV, oneV, binA, unA, reduceCtorEq, Nat.reduceEqDiff, Nat.reduceAdd, Nat.reduceLT, Nat.reduceLeDiff, Nat.reduceMul, Nat.reduceSub, ↓reduceIte, decide_true, decide_false, Bool.true_eq_false, Bool.false_eq_true, Bool.not_true, Bool.not_false, if_true, if_false, and_true, true_and, memE, celE, w64, Nat.zero_add, Nat.add_zero, Nat.mul_one, putL, and_self, ldn, tm, t0, t1, t7, t8, hlt', i.at_ j hlt, i.ld j hlt, hb]
    exact newQ_nil ⟨rfl, rfl⟩
  · have hs := hf j (by omega)
    have hb : (x == l.getD j 0) = false := by rw [beq_eq_false_iff_ne, hx]; exact fun h => hs h.symm
    simp (config := {implicitDefEqProofs := false, maxDischargeDepth := 20}) (disch := first | omega | (simp only [lenE]; done) | (simp only [lenE]; omega) | rfl | (simp only [lenE, markR_len]; done) | (simp only [lenE, markR_len]; omega)) only [runE, mapE, listE, initT_5, initT_6, initT_7, initT_8, resV, oneV, binA, unA, reduceCtorEq, Nat.reduceEqDiff, Nat.reduceAdd, Nat.reduceLT, Nat.reduceLeDiff, Nat.reduceMul, Nat.reduceSub, ↓reduceIte, decide_true, decide_false, Bool.true_eq_false, Bool.false_eq_true, Bool.not_true, Bool.not_false, if_true, if_false, and_true, true_and, memE, celE, w64, Nat.zero_add, Nat.add_zero, Nat.mul_one, putL, and_self, ldn, tm, t0, t1, t7, t8, hlt', i.at_ j hlt, i.ld j hlt, hb]
    exact ⟨⟨j + 1, by omega, by simp⟩, by simp [zOf]; omega⟩
/-- The values of the first numbers. -/
def upL (C : Nat → Int) (n : Nat) : List Int := (List.range n).map C
theorem upL_len (C : Nat → Int) (n : Nat) : (upL C n).length = n := by simp [upL]
theorem upL_s (C : Nat → Int) (n : Nat) : upL C (n + 1) = upL C n ++ [C n] := by simp [upL, List.range_succ]
theorem upL_at {C : Nat → Int} {n k : Nat} (h : k < n) : (upL C n).getD k 0 = C k := by simp [upL, List.getD_eq_getElem?_getD, h]
theorem min11_rc (m : Mem) (v : Value) (C : Nat → Int) (n : Nat) (h : IntsA m v (upL C (n + 1))) :
    RC Try.prog 99 [v] m fun r new => r = .int .i64 (C (bestS C n)) ∧ new = [] := by
  refine rc_of_run mixed ok_slices_Min (by simp) (go_start _ _ _ ?_)
  have i := h.ro
  have hbd := i.bd
  have hl := upL_len C (n + 1)
  have i1 := i.len
  have i2 := i.at_
  have i3 := i.ld
  rw [hl] at i1 i2 i3 hbd
  have e0 : ¬ (((n + 1 : Nat) : Int) < 1) := by omega
  have z3 := i3 0 (by omega)
  rw [upL_at (by omega)] at z3
  simp (config := {implicitDefEqProofs := false, maxDischargeDepth := 20}) (disch := first | omega | (simp only [lenE]; done) | (simp only [lenE]; omega) | rfl | (simp only [lenE, markR_len]; done) | (simp only [lenE, markR_len]; omega)) only [runE, mapE, listE, initT_5, initT_6, initT_7, initT_8, resV, oneV, binA, unA, reduceCtorEq, Nat.reduceEqDiff, Nat.reduceAdd, Nat.reduceLT, Nat.reduceLeDiff, Nat.reduceMul, Nat.reduceSub, ↓reduceIte, decide_true, decide_false, Bool.true_eq_false, Bool.false_eq_true, Bool.not_true, Bool.not_false, if_true, if_false, and_true, true_and, memE, celE, w64, Nat.zero_add, Nat.add_zero, Nat.mul_one, putL, and_self, ldn, c_slices_Min, r_slices_Min, i1, e0, show (0 : Int) = ((0 : Nat) : Int) from rfl, i2 0 (by omega), z3]
  refine loop_inv mixed (fun s => ∃ j : Nat, j ≤ n ∧ s.t 0 = v ∧ s.t 3 = .int .i64 (C (bestS C j)) ∧ s.t 4 = .int .i64 ((j + 1 : Nat) : Int) ∧ s.m = roM m) (fun s => n + 1 - (zOf (s.t 4)).toNat)
    ⟨0, by omega, rfl, rfl, rfl, rfl⟩ ?_
  rintro s ⟨j, hj, t0, t3, t4, tm⟩
  by_cases hlt : j < n
  · have hlt' : ((j + 1 : Nat) : Int) < ((n + 1 : Nat) : Int) := by omega
    have z4 := i3 (j + 1) (by omega)
    rw [upL_at (by omega)] at z4
    simp (config := {implicitDefEqProofs := false, maxDischargeDepth := 20}) (disch := first | omega | (simp only [lenE]; done) | (simp only [lenE]; omega) | rfl | (simp only [lenE, markR_len]; done) | (simp only [lenE, markR_len]; omega)) only [runE, mapE, listE, initT_5, initT_6, initT_7, initT_8, resV, oneV, binA, unA, reduceCtorEq, Nat.reduceEqDiff, Nat.reduceAdd, Nat.reduceLT, Nat.reduceLeDiff, Nat.reduceMul, Nat.reduceSub, ↓reduceIte, decide_true, decide_false, Bool.true_eq_false, Bool.false_eq_true, Bool.not_true, Bool.not_false, if_true, if_false, and_true, true_and, memE, celE, w64, Nat.zero_add, Nat.add_zero, Nat.mul_one, putL, and_self, ldn, tm, t0, t3, t4, i1, hlt', i2 (j + 1) (by omega), z4]
    refine ⟨⟨j + 1, by omega, ?_, by first | (simp; done) | (congr 1; push_cast; omega)⟩, ?_⟩
    · have e : bestS C (j + 1) = if C (j + 1) < C (bestS C j) then j + 1 else bestS C j := rfl
      rw [e]
      congr 1
      split <;> omega
    · simp [zOf]; omega
  · have hlt' : ¬ (((j + 1 : Nat) : Int) < ((n + 1 : Nat) : Int)) := by omega
    obtain rfl : j = n := by omega
    simp (config := {implicitDefEqProofs := false, maxDischargeDepth := 20}) (disch := first | omega | (simp only [lenE]; done) | (simp only [lenE]; omega) | rfl | (simp only [lenE, markR_len]; done) | (simp only [lenE, markR_len]; omega)) only [runE, mapE, listE, initT_5, initT_6, initT_7, initT_8, resV, oneV, binA, unA, reduceCtorEq, Nat.reduceEqDiff, Nat.reduceAdd, Nat.reduceLT, Nat.reduceLeDiff, Nat.reduceMul, Nat.reduceSub, ↓reduceIte, decide_true, decide_false, Bool.true_eq_false, Bool.false_eq_true, Bool.not_true, Bool.not_false, if_true, if_false, and_true, true_and, memE, celE, w64, Nat.zero_add, Nat.add_zero, Nat.mul_one, putL, and_self, ldn, tm, t0, t3, t4, i1, hlt']
    exact newQ_nil ⟨rfl, rfl⟩
end Go.Proofs.Ytnkbjliidenldaa.Ab
