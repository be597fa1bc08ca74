/- Days on which orders are given or told: RunRule, ServiceOf, and the specification. -/
import Derived.Test.YtnkbjliidenldaaAbFl8
namespace Go.Proofs.Ytnkbjliidenldaa.Ab
open Go Go.RowKit
set_option linter.unusedVariables false
set_option linter.unusedSimpArgs false

theorem getD_mem11 {l : List Int} {k : Nat} (h : k < l.length) : l.getD k 0 ∈ l := by
  rw [List.getD_eq_getElem?_getD, List.getElem?_eq_getElem h]; exact List.getElem_mem h
theorem told_is (r : Rl) (f : Fl) (k : Nat) : (toldO r f k).getD 0 = ruleA f r ∧ (toldO r f k).isSome = ruleOk f r := by
  unfold toldO ruleA
  cases ruleOk f r <;> exact ⟨rfl, rfl⟩
theorem toldA (m : Mem) (b : Nat) (r : Rl) (n : Nat) (h1 : rdc m b 0 = some (.int .i64 r.kind)) (h2 : rdc m b 1 = some (.int .i64 r.low)) (h3 : rdc m b 2 = some (.int .i64 r.high)) : OrdA m (.func (.func 86) #[] #[.pointer (some ⟨b, 0, none⟩)]) n (toldO r) := by
  refine ⟨_, _, rfl, fun M hM f A j c k hg hk hu => ?_⟩
  refine rc_of_run mixed ok_impl_RunRule_1 (by simp) (go_start _ _ _ ?_)
  have k1 := hM.1 _ _ _ h1
  have k2 := hM.1 _ _ _ h2
  have k3 := hM.1 _ _ _ h3
  have l1 := rdc_blk2 k1
  simp (config := {implicitDefEqProofs := false, maxDischargeDepth := 20}) (disch := first | omega | (simp only [lenE]; done) | (simp only [lenE]; omega) | rfl | (simp only [lenE, markR_len]; done) | (simp only [lenE, markR_len]; omega)) only [runE, mapE, listE, initT_5, initT_6, initT_7, initT_8, resV, oneV, binA, unA, reduceCtorEq, Nat.reduceEqDiff, Nat.reduceAdd, Nat.reduceLT, Nat.reduceLeDiff, Nat.reduceMul, Nat.reduceSub, ↓reduceIte, decide_true, decide_false, Bool.true_eq_false, Bool.false_eq_true, Bool.not_true, Bool.not_false, if_true, if_false, and_true, true_and, memE, celE, w64, Nat.zero_add, Nat.add_zero, Nat.mul_one, putL, and_self, ldn, c_impl_RunRule_1, r_impl_RunRule_1, rdc_roM, k1, k2, k3]
  refine callH_rc (implRuleOrder_rc _ _ f r ⟨_, rfl, hu.ro.ext _⟩) ?_
  rintro r1 new ⟨rfl, hn⟩
  simp (config := {implicitDefEqProofs := false, maxDischargeDepth := 20}) (disch := first | omega | (simp only [lenE]; done) | (simp only [lenE]; omega) | rfl | (simp only [lenE, markR_len]; done) | (simp only [lenE, markR_len]; omega)) only [runE, mapE, listE, initT_5, initT_6, initT_7, initT_8, resV, oneV, binA, unA, reduceCtorEq, Nat.reduceEqDiff, Nat.reduceAdd, Nat.reduceLT, Nat.reduceLeDiff, Nat.reduceMul, Nat.reduceSub, ↓reduceIte, decide_true, decide_false, Bool.true_eq_false, Bool.false_eq_true, Bool.not_true, Bool.not_false, if_true, if_false, and_true, true_and, memE, celE, w64, Nat.zero_add, Nat.add_zero, Nat.mul_one, putL, and_self, ldn, ext_2_0, ext_2_1]
  exact ext_ansV (((Ext.refl M).one _ _).app hn) (by rw [(told_is r f k).1, (told_is r f k).2])
theorem traceC_eq (f : Fl) (r : Rl) (asked : List Int) : traceC f r asked = if r.good = true then daysR (toldO r) f asked else none := by
  unfold traceC daysR
  cases f.good <;> cases r.good <;> simp
theorem implRunRule_rc (m : Mem) (v av : Value) (f : Fl) (r : Rl) (asked : List Int) (h : FlA m v f) (hA : IntsA m av asked) :
    RC Try.prog 41 [v, rlV r, av] m (AnsO2 m True (IntsO (trOrders f r asked)) (IntsO (trStocks f r asked)) (fun a b => .tuple #[a, b, .bool (trOk f r asked)])) := by
  refine rc_of_run mixed ok_impl_RunRule (by simp) (go_start _ _ _ ?_)
  obtain ⟨u, rfl, hu⟩ := h
  obtain ⟨A, j, c, rfl⟩ := hu.sl
  simp (config := {implicitDefEqProofs := false, maxDischargeDepth := 20}) (disch := first | omega | (simp only [lenE]; done) | (simp only [lenE]; omega) | rfl | (simp only [lenE, markR_len]; done) | (simp only [lenE, markR_len]; omega)) only [runE, mapE, listE, initT_5, initT_6, initT_7, initT_8, resV, oneV, binA, unA, reduceCtorEq, Nat.reduceEqDiff, Nat.reduceAdd, Nat.reduceLT, Nat.reduceLeDiff, Nat.reduceMul, Nat.reduceSub, ↓reduceIte, decide_true, decide_false, Bool.true_eq_false, Bool.false_eq_true, Bool.not_true, Bool.not_false, if_true, if_false, and_true, true_and, memE, celE, w64, Nat.zero_add, Nat.add_zero, Nat.mul_one, putL, and_self, ldn, c_impl_RunRule, r_impl_RunRule, rlV]
  obtain ⟨E, hE⟩ : ∃ E, E = roM m ++ [⟨.own, FT, [.int .i64 f.stock, .slice A j c]⟩] ++ [⟨.own, 40, [.int .i64 r.kind, .int .i64 r.low, .int .i64 r.high]⟩] := ⟨_, rfl⟩
  have hX : Ext m E := by rw [hE]; exact ((Ext.refl m).one _ _).one _ _
  have LE : E.length = m.length + 2 := by rw [hE]; simp [roM_len]
  have b1 : OwnB E m.length FT [.int .i64 f.stock, .slice A j c] := by rw [hE]; exact (OwnB.here (roM_len m).symm).ext _
  have b2 : OwnB E (m.length + 1) 40 [.int .i64 r.kind, .int .i64 r.low, .int .i64 r.high] := by rw [hE]; exact OwnB.here (by simp [roM_len])
  try rw [← hE]
  clear hE
  try simp (config := {implicitDefEqProofs := false, maxDischargeDepth := 20}) (disch := first | omega | (simp only [lenE]; done) | (simp only [lenE]; omega) | rfl | (simp only [lenE, markR_len]; done) | (simp only [lenE, markR_len]; omega)) only [runE, mapE, listE, initT_5, initT_6, initT_7, initT_8, resV, oneV, binA, unA, reduceCtorEq, Nat.reduceEqDiff, Nat.reduceAdd, Nat.reduceLT, Nat.reduceLeDiff, Nat.reduceMul, Nat.reduceSub, ↓reduceIte, decide_true, decide_false, Bool.true_eq_false, Bool.false_eq_true, Bool.not_true, Bool.not_false, if_true, if_false, and_true, true_and, memE, celE, w64, Nat.zero_add, Nat.add_zero, Nat.mul_one, putL, and_self, ldn, b2.mk3']
  have no : ∀ (M : Mem), Ext m M → traceC f r asked = none → newQ m (AnsO2 m True (IntsO (trOrders f r asked)) (IntsO (trStocks f r asked)) (fun a b => .tuple #[a, b, .bool (trOk f r asked)])) (.tuple #[.slice (some ⟨M.length, 0, none⟩) 0 1, .slice (some ⟨M.length + 1, 0, none⟩) 0 1, .bool false]) (M ++ [⟨.own, 3, []⟩] ++ [⟨.own, 3, []⟩]) := fun M hM hr => by
    have e1 : trOrders f r asked = [] := by unfold trOrders; rw [hr]
    have e2 : trStocks f r asked = [] := by unfold trStocks; rw [hr]
    have e3 : trOk f r asked = false := by unfold trOk; rw [hr]; rfl
    rw [e1, e2, e3]
    have hl := hM.len
    exact ext_o2 (f := fun a b => .tuple #[a, b, .bool false]) ((hM.one _ _).one _ _) M.length (M.length + 1) (M.length + 1) (M.length + 2) hl (by omega) (by simp) (by omega) (by omega) (by simp) (fun _ => .inl (Nat.le_refl _))
      (IntsO.of ((OwnR.end' (l := []) rfl).ext _) rfl (by simp) (Nat.le_refl _) (by omega)) (IntsO.of (OwnR.end' (l := []) (by simp)) rfl (by simp) (Nat.le_refl _) (by omega))
  refine callH_rc (implIsRule_rc _ r) ?_
  rintro r1 n1 ⟨rfl, hn1⟩
  have hX1 := hX.app hn1
  have c1 := b1.ext n1
  have c2 := b2.ext n1
  have L1 : (E ++ n1).length = E.length + n1.length := List.length_append
  obtain ⟨M1, hM1⟩ : ∃ M1, M1 = E ++ n1 := ⟨_, rfl⟩
  rw [← hM1] at hX1 c1 c2 L1 ⊢
  clear hM1
  cases hg : r.good with
  | false =>
    simp (config := {implicitDefEqProofs := false, maxDischargeDepth := 20}) (disch := first | omega | (simp only [lenE]; done) | (simp only [lenE]; omega) | rfl | (simp only [lenE, markR_len]; done) | (simp only [lenE, markR_len]; omega)) only [runE, mapE, listE, initT_5, initT_6, initT_7, initT_8, resV, oneV, binA, unA, reduceCtorEq, Nat.reduceEqDiff, Nat.reduceAdd, Nat.reduceLT, Nat.reduceLeDiff, Nat.reduceMul, Nat.reduceSub, ↓reduceIte, decide_true, decide_false, Bool.true_eq_false, Bool.false_eq_true, Bool.not_true, Bool.not_false, if_true, if_false, and_true, true_and, memE, celE, w64, Nat.zero_add, Nat.add_zero, Nat.mul_one, putL, and_self, ldn, bsl_none]
    have hno := no _ hX1 (by rw [traceC_eq]; simp [hg])
    first | exact hno | (simp only [L1, LE] at hno ⊢; exact hno)
  | true =>
    simp (config := {implicitDefEqProofs := false, maxDischargeDepth := 20}) (disch := first | omega | (simp only [lenE]; done) | (simp only [lenE]; omega) | rfl | (simp only [lenE, markR_len]; done) | (simp only [lenE, markR_len]; omega)) only [runE, mapE, listE, initT_5, initT_6, initT_7, initT_8, resV, oneV, binA, unA, reduceCtorEq, Nat.reduceEqDiff, Nat.reduceAdd, Nat.reduceLT, Nat.reduceLeDiff, Nat.reduceMul, Nat.reduceSub, ↓reduceIte, decide_true, decide_false, Bool.true_eq_false, Bool.false_eq_true, Bool.not_true, Bool.not_false, if_true, if_false, and_true, true_and, memE, celE, w64, Nat.zero_add, Nat.add_zero, Nat.mul_one, putL, and_self, ldn, c1.mk2']
    have hK1 := hX1.keeps
    refine callH_rc (daysOf_rc _ _ av _ f asked (toldO r) ⟨_, rfl, hK1.ints hu⟩ (hK1.ints hA) (toldA M1 (m.length + 1) r asked.length c2.mk3'.2.1 c2.mk3'.2.2.1 c2.mk3'.2.2.2)) ?_
    rintro r1 n2 ⟨hn2, id, n, fl, rfl, hdays⟩
    have hX2 := hX1.app hn2
    have hLl : M1.length + n2.length = (M1 ++ n2).length := by rw [List.length_append]
    rw [hLl] at hdays
    obtain ⟨M, hM⟩ : ∃ M, M = M1 ++ n2 := ⟨_, rfl⟩
    rw [← hM] at hX2 hdays hLl ⊢
    clear hM
    have eR : traceC f r asked = daysR (toldO r) f asked := by rw [traceC_eq, if_pos hg]
    cases hr : daysR (toldO r) f asked with
    | none =>
      simp only [Option.isSome_none]
      simp (config := {implicitDefEqProofs := false, maxDischargeDepth := 20}) (disch := first | omega | (simp only [lenE]; done) | (simp only [lenE]; omega) | rfl | (simp only [lenE, markR_len]; done) | (simp only [lenE, markR_len]; omega)) only [runE, mapE, listE, initT_5, initT_6, initT_7, initT_8, resV, oneV, binA, unA, reduceCtorEq, Nat.reduceEqDiff, Nat.reduceAdd, Nat.reduceLT, Nat.reduceLeDiff, Nat.reduceMul, Nat.reduceSub, ↓reduceIte, decide_true, decide_false, Bool.true_eq_false, Bool.false_eq_true, Bool.not_true, Bool.not_false, if_true, if_false, and_true, true_and, memE, celE, w64, Nat.zero_add, Nat.add_zero, Nat.mul_one, putL, and_self, ldn, ext_2_0, ext_2_1, bsl_none]
      have hno := no _ hX2 (by rw [eR, hr])
      first | exact hno | (rw [← hLl] at hno ⊢; exact hno)
    | some C =>
      obtain ⟨X, hXC, rfl, hid, ho, hP⟩ := hdays C hr
      obtain ⟨hCl, h20, hcr, hgf⟩ := daysR_len hr
      have hXl : X.length = asked.length + 1 := by rw [← hCl, ← hXC, List.length_map]
      have hsl : ∀ x ∈ X.drop 1, ∃ A n c, x.2.2 = .slice A n c := fun x hx => (hP x (List.mem_of_mem_drop hx)).in.sl
      simp only [Option.isSome_some]
      have hel := own_el ho (by omega) 1 (by omega)
      rw [Nat.one_mul] at hel
      simp (config := {implicitDefEqProofs := false, maxDischargeDepth := 20}) (disch := first | omega | (simp only [lenE]; done) | (simp only [lenE]; omega) | rfl | (simp only [lenE, markR_len]; done) | (simp only [lenE, markR_len]; omega)) only [runE, mapE, listE, initT_5, initT_6, initT_7, initT_8, resV, oneV, binA, unA, reduceCtorEq, Nat.reduceEqDiff, Nat.reduceAdd, Nat.reduceLT, Nat.reduceLeDiff, Nat.reduceMul, Nat.reduceSub, ↓reduceIte, decide_true, decide_false, Bool.true_eq_false, Bool.false_eq_true, Bool.not_true, Bool.not_false, if_true, if_false, and_true, true_and, memE, celE, w64, Nat.zero_add, Nat.add_zero, Nat.mul_one, putL, and_self, ldn, ext_2_0, ext_2_1, slc3 (id := id) (fl := fl) (show 1 ≤ X.length by omega), Option.map_none]
      refine rcallH_rc (eachD_rc _ _ _ _ orOf (xs3 hsl) hel (funOr hsl) (by rw [List.length_map, List.length_drop]; omega)) ?_
      intro r2 n3 hA2
      obtain ⟨i2, f2, rfl, hi2, ho2, hl2, hn3⟩ := hA2.row
      rw [xs_or, hXC] at ho2 hl2
      simp only [xs_or, hXC]
      simp (config := {implicitDefEqProofs := false, maxDischargeDepth := 20}) (disch := first | omega | (simp only [lenE]; done) | (simp only [lenE]; omega) | rfl | (simp only [lenE, markR_len]; done) | (simp only [lenE, markR_len]; omega)) only [runE, mapE, listE, initT_5, initT_6, initT_7, initT_8, resV, oneV, binA, unA, reduceCtorEq, Nat.reduceEqDiff, Nat.reduceAdd, Nat.reduceLT, Nat.reduceLeDiff, Nat.reduceMul, Nat.reduceSub, ↓reduceIte, decide_true, decide_false, Bool.true_eq_false, Bool.false_eq_true, Bool.not_true, Bool.not_false, if_true, if_false, and_true, true_and, memE, celE, w64, Nat.zero_add, Nat.add_zero, Nat.mul_one, putL, and_self, ldn]
      refine rcallH_rc (eachD_rc _ _ _ _ stOf (xs3 hsl) (hel.keeps (Keeps.app _ _)) (funSt hsl) (by rw [List.length_map, List.length_drop]; omega)) ?_
      intro r3 n4 hA3
      obtain ⟨i3, f3, rfl, hi3, ho3, hl3, hn4⟩ := hA3.row
      rw [xs_st, hXC] at ho3 hl3
      simp only [xs_st, hXC]
      simp (config := {implicitDefEqProofs := false, maxDischargeDepth := 20}) (disch := first | omega | (simp only [lenE]; done) | (simp only [lenE]; omega) | rfl | (simp only [lenE, markR_len]; done) | (simp only [lenE, markR_len]; omega)) only [runE, mapE, listE, initT_5, initT_6, initT_7, initT_8, resV, oneV, binA, unA, reduceCtorEq, Nat.reduceEqDiff, Nat.reduceAdd, Nat.reduceLT, Nat.reduceLeDiff, Nat.reduceMul, Nat.reduceSub, ↓reduceIte, decide_true, decide_false, Bool.true_eq_false, Bool.false_eq_true, Bool.not_true, Bool.not_false, if_true, if_false, and_true, true_and, memE, celE, w64, Nat.zero_add, Nat.add_zero, Nat.mul_one, putL, and_self, ldn]
      have e1 : trOrders f r asked = ordersC C := by unfold trOrders; rw [eR, hr]
      have e2 : trStocks f r asked = stocksC C := by unfold trStocks; rw [eR, hr]
      have e3 : trOk f r asked = true := by unfold trOk; rw [eR, hr]; rfl
      rw [e1, e2, e3]
      have hmM := hX2.len
      have l2 := ho2.lt
      have l3 := ho3.lt
      exact ext_o2 (f := fun a b => .tuple #[a, b, .bool true]) ((hX2.app hn3).app hn4) M.length (M ++ n3).length (M ++ n3).length (M ++ n3 ++ n4).length hmM (by simp) (by simp) (by simp; omega) (by simp) (Nat.le_refl _) (fun _ => .inl (Nat.le_refl _))
        (IntsO.of (ho2.ext n4) rfl hl2 hi2 l2) (IntsO.of ho3 rfl hl3 hi3 l3)
theorem sum_asked {asked : List Int} (h : ∀ x ∈ asked, 0 ≤ x ∧ x ≤ 20) (hl : asked.length ≤ 20) : ∀ k : Nat, k ≤ asked.length → -4611686018427387904 ≤ sumTo asked k ∧ sumTo asked k ≤ 4611686018427387904 := fun k hk => by
  have := sumTo_bound (by decide) h k
  omega
theorem stocks_at {C : List (Int × Fl)} {k : Nat} (h : k + 1 < C.length) : (stocksC C).getD k 0 = (C.getD (k + 1) DayF).2.stock := by
  unfold stocksC
  simp only [List.getD_eq_getElem?_getD, List.getElem?_map, List.getElem?_drop]
  rw [show 1 + k = k + 1 by omega, List.getElem?_eq_getElem h]; rfl
theorem stocks_len (C : List (Int × Fl)) : (stocksC C).length = C.length - 1 := by simp [stocksC]
theorem orders_len (C : List (Int × Fl)) : (ordersC C).length = C.length - 1 := by simp [ordersC]
theorem stocks_s {C : List (Int × Fl)} (d : Int × Fl) (h : 0 < C.length) : stocksC (C ++ [d]) = stocksC C ++ [d.2.stock] := by
  unfold stocksC
  rw [List.drop_append_of_le_length (by omega), List.map_append]; rfl
theorem orders_s {C : List (Int × Fl)} (d : Int × Fl) (h : 0 < C.length) : ordersC (C ++ [d]) = ordersC C ++ [d.1] := by
  unfold ordersC
  rw [List.drop_append_of_le_length (by omega), List.map_append]; rfl
theorem srv_bd {C : List (Int × Fl)} {asked : List Int} (h : ∀ x ∈ asked, 0 ≤ x ∧ x ≤ 20) : ∀ k, k ≤ asked.length → 0 ≤ srvC C asked k ∧ srvC C asked k ≤ 20 * k
  | 0, _ => ⟨by simp [srvC], by simp [srvC]⟩
  | k + 1, hk => by
    have ih := srv_bd (C := C) h k (by omega)
    have hx := h _ (getD_mem11 (show k < asked.length by omega))
    simp only [srvC]
    omega
theorem trace_parts {f : Fl} {r : Rl} {asked : List Int} {C : List (Int × Fl)} (h : traceC f r asked = some C) : C.length = asked.length + 1 ∧ asked.length ≤ 20 ∧ crs (toldO r) asked f asked.length = some C ∧ f.good = true ∧ r.good = true ∧ ∀ x ∈ asked, 0 ≤ x ∧ x ≤ 20 := by
  unfold traceC at h
  split at h
  · rename_i hc
    simp only [Bool.and_eq_true] at hc
    exact ⟨crs_len _ h, (numsB_iff.1 hc.2).1, h, hc.1.1, hc.1.2, (numsB_iff.1 hc.2).2⟩
  · cases h
theorem good_st {f : Fl} (h : f.good = true) : -200 ≤ f.stock ∧ f.stock ≤ 200 := (goodF_iff.1 h).st
theorem implServiceOf_rc (m : Mem) (v av : Value) (f : Fl) (r : Rl) (asked : List Int) (h : FlA m v f) (hA : IntsA m av asked) :
    RC Try.prog 43 [v, rlV r, av] m (AnsV (.tuple #[.int .i64 (trSrv f r asked), .int .i64 (trSum f r asked), .bool (trOk f r asked)])) := by
  refine rc_of_run mixed ok_impl_ServiceOf (by simp) (go_start _ _ _ ?_)
  obtain ⟨u, rfl, hu⟩ := h
  obtain ⟨A, j, c, rfl⟩ := hu.sl
  simp (config := {implicitDefEqProofs := false, maxDischargeDepth := 20}) (disch := first | omega | (simp only [lenE]; done) | (simp only [lenE]; omega) | rfl | (simp only [lenE, markR_len]; done) | (simp only [lenE, markR_len]; omega)) only [runE, mapE, listE, initT_5, initT_6, initT_7, initT_8, resV, oneV, binA, unA, reduceCtorEq, Nat.reduceEqDiff, Nat.reduceAdd, Nat.reduceLT, Nat.reduceLeDiff, Nat.reduceMul, Nat.reduceSub, ↓reduceIte, decide_true, decide_false, Bool.true_eq_false, Bool.false_eq_true, Bool.not_true, Bool.not_false, if_true, if_false, and_true, true_and, memE, celE, w64, Nat.zero_add, Nat.add_zero, Nat.mul_one, putL, and_self, ldn, c_impl_ServiceOf, r_impl_ServiceOf, rlV]
  have hX : Ext m (roM m ++ [⟨.own, FT, [.int .i64 f.stock, .slice A j c]⟩] ++ [⟨.own, 40, [.int .i64 r.kind, .int .i64 r.low, .int .i64 r.high]⟩]) := ((Ext.refl m).one _ _).one _ _
  have hK := hX.keeps
  refine callH_rc (implRunRule_rc _ _ av f r asked ⟨_, rfl, hK.ints hu⟩ (hK.ints hA)) ?_
  rintro r1 n1 ⟨hn1, v1, v2, a, b, c1, d, rfl, ha, hb, hc, hd, _, h1, h2⟩
  have hX1 := hX.app hn1
  have hs := h2.now.in
  obtain ⟨M, hM⟩ : ∃ M, M = roM m ++ [⟨.own, FT, [.int .i64 f.stock, .slice A j c]⟩] ++ [⟨.own, 40, [.int .i64 r.kind, .int .i64 r.low, .int .i64 r.high]⟩] ++ n1 := ⟨_, rfl⟩
  rw [← hM] at hX1 hs ⊢
  clear hM h1 h2 ha hb hc hd
  cases ht : traceC f r asked with
  | none =>
    have e1 : trSrv f r asked = 0 := by unfold trSrv; rw [ht]
    have e3 : trOk f r asked = false := by unfold trOk; rw [ht]; rfl
    have e2 : trSum f r asked = 0 := by unfold trSum; rw [e3]; rfl
    rw [e1, e2, e3]
    simp (config := {implicitDefEqProofs := false, maxDischargeDepth := 20}) (disch := first | omega | (simp only [lenE]; done) | (simp only [lenE]; omega) | rfl | (simp only [lenE, markR_len]; done) | (simp only [lenE, markR_len]; omega)) only [runE, mapE, listE, initT_5, initT_6, initT_7, initT_8, resV, oneV, binA, unA, reduceCtorEq, Nat.reduceEqDiff, Nat.reduceAdd, Nat.reduceLT, Nat.reduceLeDiff, Nat.reduceMul, Nat.reduceSub, ↓reduceIte, decide_true, decide_false, Bool.true_eq_false, Bool.false_eq_true, Bool.not_true, Bool.not_false, if_true, if_false, and_true, true_and, memE, celE, w64, Nat.zero_add, Nat.add_zero, Nat.mul_one, putL, and_self, ldn, ext_3_0, ext_3_1, ext_3_2]
    exact ext_ansV hX1 rfl
  | some C =>
    obtain ⟨hCl, h20, hcr, hgf, hgr, hask⟩ := trace_parts ht
    have e1 : trSrv f r asked = srvC C asked asked.length := by unfold trSrv; rw [ht]
    have e3 : trOk f r asked = true := by unfold trOk; rw [ht]; rfl
    have e2 : trSum f r asked = sumTo asked asked.length := by unfold trSum; rw [e3]; rfl
    have e4 : trStocks f r asked = stocksC C := by unfold trStocks; rw [ht]
    rw [e4] at hs
    rw [e1, e2, e3]
    have hsl : (stocksC C).length = asked.length := by rw [stocks_len]; omega
    have hAM := hX1.keeps.ints hA
    simp (config := {implicitDefEqProofs := false, maxDischargeDepth := 20}) (disch := first | omega | (simp only [lenE]; done) | (simp only [lenE]; omega) | rfl | (simp only [lenE, markR_len]; done) | (simp only [lenE, markR_len]; omega)) only [runE, mapE, listE, initT_5, initT_6, initT_7, initT_8, resV, oneV, binA, unA, reduceCtorEq, Nat.reduceEqDiff, Nat.reduceAdd, Nat.reduceLT, Nat.reduceLeDiff, Nat.reduceMul, Nat.reduceSub, ↓reduceIte, decide_true, decide_false, Bool.true_eq_false, Bool.false_eq_true, Bool.not_true, Bool.not_false, if_true, if_false, and_true, true_and, memE, celE, w64, Nat.zero_add, Nat.add_zero, Nat.mul_one, putL, and_self, ldn, ext_3_0, ext_3_1, ext_3_2, hAM.len]
    refine loop_inv mixed (fun s => ∃ k : Nat, k ≤ asked.length ∧ s.m = M ∧ s.t 2 = av ∧ s.t 10 = v2 ∧ s.t 12 = .int .i64 (srvC C asked k) ∧ s.t 25 = av ∧ s.t 26 = .int .i64 asked.length ∧ s.t 27 = .int .i64 k) (fun s => asked.length - (zOf (s.t 27)).toNat)
      ⟨0, by omega, rfl, rfl, rfl, rfl, rfl, rfl, rfl⟩ ?_
    rintro s ⟨k, hk, tm, t2, t10, t12, t25, t26, t27⟩
    by_cases hlt : k < asked.length
    · have hlt' : (k : Int) < asked.length := by omega
      have s1 := hs.at_ k (by omega)
      have s2 := hs.ld k (by omega)
      rw [stocks_at (by omega)] at s2
      have gst := good_st (crs_good hgf hcr (k + 1) (by omega))
      have ab := hask _ (getD_mem11 hlt)
      have sb := srv_bd (C := C) hask k (by omega)
      have em : max (0 : Int) (min (asked.getD k 0) ((C.getD (k + 1) DayF).2.stock + asked.getD k 0)) = max (min (asked.getD k 0) ((C.getD (k + 1) DayF).2.stock + asked.getD k 0)) 0 := by omega
      simp (config := {implicitDefEqProofs := false, maxDischargeDepth := 20}) (disch := first | omega | (simp only [lenE]; done) | (simp only [lenE]; omega) | rfl | (simp only [lenE, markR_len]; done) | (simp only [lenE, markR_len]; omega)) only [runE, mapE, listE, initT_5, initT_6, initT_7, initT_8, resV, oneV, binA, unA, reduceCtorEq, Nat.reduceEqDiff, Nat.reduceAdd, Nat.reduceLT, Nat.reduceLeDiff, Nat.reduceMul, Nat.reduceSub, ↓reduceIte, decide_true, decide_false, Bool.true_eq_false, Bool.false_eq_true, Bool.not_true, Bool.not_false, if_true, if_false, and_true, true_and, memE, celE, w64, Nat.zero_add, Nat.add_zero, Nat.mul_one, putL, and_self, ldn, tm, t2, t10, t12, t25, t26, t27, hlt', hAM.at_ k hlt, hAM.ld k hlt, s1, s2, em]
      refine ⟨⟨k + 1, by omega, by simp only [srvC], by simp⟩, ?_⟩
      simp [zOf]; omega
    · have hlt' : ¬ ((k : Int) < asked.length) := by omega
      obtain rfl : k = asked.length := by omega
      simp (config := {implicitDefEqProofs := false, maxDischargeDepth := 20}) (disch := first | omega | (simp only [lenE]; done) | (simp only [lenE]; omega) | rfl | (simp only [lenE, markR_len]; done) | (simp only [lenE, markR_len]; omega)) only [runE, mapE, listE, initT_5, initT_6, initT_7, initT_8, resV, oneV, binA, unA, reduceCtorEq, Nat.reduceEqDiff, Nat.reduceAdd, Nat.reduceLT, Nat.reduceLeDiff, Nat.reduceMul, Nat.reduceSub, ↓reduceIte, decide_true, decide_false, Bool.true_eq_false, Bool.false_eq_true, Bool.not_true, Bool.not_false, if_true, if_false, and_true, true_and, memE, celE, w64, Nat.zero_add, Nat.add_zero, Nat.mul_one, putL, and_self, ldn, tm, t2, t10, t12, t25, t26, t27, hlt']
      refine callH_rc (sumOf_rc _ av asked hAM (sum_asked hask h20)) ?_
      rintro r2 n2 ⟨rfl, rfl⟩
      rw [List.append_nil]
      simp (config := {implicitDefEqProofs := false, maxDischargeDepth := 20}) (disch := first | omega | (simp only [lenE]; done) | (simp only [lenE]; omega) | rfl | (simp only [lenE, markR_len]; done) | (simp only [lenE, markR_len]; omega)) only [runE, mapE, listE, initT_5, initT_6, initT_7, initT_8, resV, oneV, binA, unA, reduceCtorEq, Nat.reduceEqDiff, Nat.reduceAdd, Nat.reduceLT, Nat.reduceLeDiff, Nat.reduceMul, Nat.reduceSub, ↓reduceIte, decide_true, decide_false, Bool.true_eq_false, Bool.false_eq_true, Bool.not_true, Bool.not_false, if_true, if_false, and_true, true_and, memE, celE, w64, Nat.zero_add, Nat.add_zero, Nat.mul_one, putL, and_self, ldn, tm, t2, t12]
      exact ext_ansV hX1 rfl
end Go.Proofs.Ytnkbjliidenldaa.Ab
