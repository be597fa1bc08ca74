/- Days on which orders are given or told: the specification. -/
import Derived.Test.YtnkbjliidenldaaAbFl9
namespace Go.Proofs.Ytnkbjliidenldaa.Ab
open Go Go.RowKit
set_option linter.unusedVariables false
set_option linter.unusedSimpArgs false

theorem el_ne {M : Mem} {id i : Nat} {e : TypeId} {cs : List Value} {l : List Int} (ho : OwnB M id e cs) (he : e ≠ 3) (hr : OwnR M i l) : id ≠ i := fun h => by
  subst h
  unfold OwnR at hr; unfold OwnB at ho
  rw [hr] at ho
  have := congrArg (fun b => b.map Blk.el) ho
  simp only [Option.map_some, rowB, Option.some.injEq] at this
  exact he this.symm
theorem OwnR.kept {M : Mem} {id i : Nat} {e : TypeId} {cs : List Value} {l : List Int} (hr : OwnR M i l) (ho : OwnB M id e cs) (he : e ≠ 3) (b : Blk) : OwnR (M.set id b) i l := hr.set_ne (el_ne ho he hr)
theorem OwnB.kept {M : Mem} {id i : Nat} {e : TypeId} {cs : List Value} {l : List Int} (ho : OwnB M id e cs) (hr : OwnR M i l) (he : e ≠ 3) (b : Blk) : OwnB (M.set i b) id e cs := ho.set_ne (Ne.symm (el_ne ho he hr)) _
theorem IntsP.dead {l : List Int} {lo hi id : Nat} {M : Mem} {v : Value} (h : IntsP l lo hi M v) (hd : id < lo ∨ hi ≤ id) (b : Blk) : IntsP l lo hi (M.set id b) v :=
  h.at_ fun i h1 h2 => List.getElem?_set_ne (by omega)
theorem drop1_len {C : List (Int × Fl)} {k : Nat} (h : C.length = k + 1) : (stocksC C).length = k ∧ (ordersC C).length = k := by
  rw [stocks_len, orders_len]; omega
theorem last_get {C : List (Int × Fl)} {k : Nat} (d : Int × Fl) (h : C.length = k + 1) : ((C ++ [d]).getD (k + 1) DayF) = d := by
  rw [List.getD_eq_getElem?_getD, List.getElem?_append_right (by omega), h, Nat.sub_self]; rfl
theorem givC_parts {f : Fl} {ords asked : List Int} (h1 : f.good = true) (h2 : ords.length = asked.length) (h3 : asked.length ≤ 20) : givC f ords asked = crs (givenO ords) asked f asked.length := by
  unfold givC
  rw [if_pos (by simp [h1, h2, h3])]
theorem specRunOrders_rc (m : Mem) (v ov av : Value) (f : Fl) (ords asked : List Int) (h : FlA m v f) (hO : IntsA m ov ords) (hA : IntsA m av asked) :
    RC Try.prog 34 [v, ov, av] m (AnsO2 m False (IntsO (runStocks f ords asked)) (FlO (runLast f ords asked)) (fun a b => .tuple #[a, b, .bool (runOk f ords asked)])) := by
  refine rc_of_run mixed ok_spec_RunOrders (by simp) (go_start _ _ _ ?_)
  obtain ⟨u, rfl, hu⟩ := h
  obtain ⟨A0, j0, c0, rfl⟩ := hu.sl
  have hol := hO.len
  have hal := hA.len
  have hobd := hO.bd
  have habd := hA.bd
  simp (config := {implicitDefEqProofs := false, maxDischargeDepth := 20}) (disch := first | omega | (simp only [lenE]; done) | (simp only [lenE]; omega) | rfl | (simp only [lenE, markR_len]; done) | (simp only [lenE, markR_len]; omega)) only [runE, mapE, listE, initT_5, initT_6, initT_7, initT_8, resV, oneV, binA, unA, reduceCtorEq, Nat.reduceEqDiff, Nat.reduceAdd, Nat.reduceLT, Nat.reduceLeDiff, Nat.reduceMul, Nat.reduceSub, ↓reduceIte, decide_true, decide_false, Bool.true_eq_false, Bool.false_eq_true, Bool.not_true, Bool.not_false, if_true, if_false, and_true, true_and, memE, celE, w64, Nat.zero_add, Nat.add_zero, Nat.mul_one, putL, and_self, ldn, c_spec_RunOrders, r_spec_RunOrders, bsl_none]
  obtain ⟨E, hE⟩ : ∃ E, E = roM m ++ [⟨.own, FT, [.int .i64 f.stock, .slice A0 j0 c0]⟩] ++ [⟨.own, FT, [.int .i64 0, .slice none 0 0]⟩] ++ [⟨.own, 3, []⟩] := ⟨_, rfl⟩
  have hX : Ext m E := by rw [hE]; exact (((Ext.refl m).one _ _).one _ _).one _ _
  have LE : E.length = m.length + 3 := by rw [hE]; simp [roM_len]
  have b1 : OwnB E m.length FT [.int .i64 f.stock, .slice A0 j0 c0] := by rw [hE]; exact ((OwnB.here (roM_len m).symm).ext _).ext _
  have b2 : OwnB E (m.length + 1) FT [.int .i64 0, .slice none 0 0] := by rw [hE]; exact (OwnB.here (by simp [roM_len])).ext _
  have b3 : OwnR E (m.length + 2) [] := by rw [hE]; exact OwnR.end' (l := []) (by simp [roM_len])
  try rw [← hE]
  clear hE
  try simp (config := {implicitDefEqProofs := false, maxDischargeDepth := 20}) (disch := first | omega | (simp only [lenE]; done) | (simp only [lenE]; omega) | rfl | (simp only [lenE, markR_len]; done) | (simp only [lenE, markR_len]; omega)) only [runE, mapE, listE, initT_5, initT_6, initT_7, initT_8, resV, oneV, binA, unA, reduceCtorEq, Nat.reduceEqDiff, Nat.reduceAdd, Nat.reduceLT, Nat.reduceLeDiff, Nat.reduceMul, Nat.reduceSub, ↓reduceIte, decide_true, decide_false, Bool.true_eq_false, Bool.false_eq_true, Bool.not_true, Bool.not_false, if_true, if_false, and_true, true_and, memE, celE, w64, Nat.zero_add, Nat.add_zero, Nat.mul_one, putL, and_self, ldn, b1.mk2']
  have no : ∀ (M : Mem) (id fl : Nat), Ext m M → givC f ords asked = none → m.length ≤ id → OwnR M id [] → newQ m (AnsO2 m False (IntsO (runStocks f ords asked)) (FlO (runLast f ords asked)) (fun a b => .tuple #[a, b, .bool (runOk f ords asked)])) (.tuple #[.slice (some ⟨id, 0, none⟩) 0 fl, .agg #[.int .i64 0, .slice none 0 0], .bool false]) M := fun M id fl hM hr hid ho => by
    have e1 : runStocks f ords asked = [] := by unfold runStocks; rw [hr]
    have e2 : runLast f ords asked = Fl0 := by unfold runLast; rw [hr]
    have e3 : runOk f ords asked = false := by unfold runOk; rw [hr]; rfl
    rw [e1, e2, e3]
    have := hM.len
    exact ext_o2 (f := fun a b => .tuple #[a, b, .bool false]) hM m.length M.length m.length m.length (Nat.le_refl _) this (Nat.le_refl _) (Nat.le_refl _) (Nat.le_refl _) this (fun h => h.elim) (IntsO.of ho rfl (by simp) hid ho.lt) (fun M' _ => FlO.zero _ _ _)
  have f3 : ∀ M : Mem, OwnB M (m.length + 1) FT [.int .i64 0, .slice none 0 0] → stA M (m.length + 1) 0 [.int .i64 0, .slice none 0 0] = some (M.set (m.length + 1) ⟨.own, FT, [.int .i64 0, .slice none 0 0]⟩) := fun M hb => hb.st (by simp) rfl
  have hKE := hX.keeps
  refine callH_rc (l11Flow_rc _ _ f ⟨_, rfl, hKE.ints hu⟩) ?_
  rintro r n1 ⟨rfl, hn1⟩
  have hX1 := hX.app hn1
  have c1 := b1.ext n1
  have c2 := b2.ext n1
  have c3 := b3.ext n1
  have L1 : m.length + 3 ≤ (E ++ n1).length := by rw [List.length_append]; omega
  obtain ⟨M1, hM1⟩ : ∃ M1, M1 = E ++ n1 := ⟨_, rfl⟩
  rw [← hM1] at hX1 c1 c2 c3 L1 ⊢
  clear hM1
  have put0 : OwnB (M1.set (m.length + 1) ⟨.own, FT, [.int .i64 0, .slice none 0 0]⟩) (m.length + 1) FT [.int .i64 0, .slice none 0 0] := c2.set_self _ _
  have fail1 : givC f ords asked = none → newQ m (AnsO2 m False (IntsO (runStocks f ords asked)) (FlO (runLast f ords asked)) (fun a b => .tuple #[a, b, .bool (runOk f ords asked)])) (.tuple #[.slice (some ⟨m.length + 2, 0, none⟩) 0 1, .agg #[.int .i64 0, .slice none 0 0], .bool false]) (M1.set (m.length + 1) ⟨.own, FT, [.int .i64 0, .slice none 0 0]⟩) := fun hr =>
    no _ _ 1 (hX1.put (by omega) _ _) hr (by omega) (c3.set_ne (by omega))
  cases hf : f.good with
  | false =>
    simp (config := {implicitDefEqProofs := false, maxDischargeDepth := 20}) (disch := first | omega | (simp only [lenE]; done) | (simp only [lenE]; omega) | rfl | (simp only [lenE, markR_len]; done) | (simp only [lenE, markR_len]; omega)) only [runE, mapE, listE, initT_5, initT_6, initT_7, initT_8, resV, oneV, binA, unA, reduceCtorEq, Nat.reduceEqDiff, Nat.reduceAdd, Nat.reduceLT, Nat.reduceLeDiff, Nat.reduceMul, Nat.reduceSub, ↓reduceIte, decide_true, decide_false, Bool.true_eq_false, Bool.false_eq_true, Bool.not_true, Bool.not_false, if_true, if_false, and_true, true_and, memE, celE, w64, Nat.zero_add, Nat.add_zero, Nat.mul_one, putL, and_self, ldn, bld_fl0, stP_agg2f, putL, f3 _ c2, put0.mk2']
    exact fail1 (by simp [givC, hf])
  | true =>
    by_cases hl : ords.length = asked.length
    · have hl' : ((ords.length : Int) != asked.length) = false := by rw [hl]; exact bne_self_eq_false _
      by_cases h20 : asked.length ≤ 20
      · have h20' : ¬ ((asked.length : Int) > 20) := by omega
        have hF := goodF_iff.1 hf
        have hl4 := hF.l4
        have eR := givC_parts (ords := ords) hf hl h20
        have hu1 := hX1.keeps.ints hu
        simp (config := {implicitDefEqProofs := false, maxDischargeDepth := 20}) (disch := first | omega | (simp only [lenE]; done) | (simp only [lenE]; omega) | rfl | (simp only [lenE, markR_len]; done) | (simp only [lenE, markR_len]; omega)) only [runE, mapE, listE, initT_5, initT_6, initT_7, initT_8, resV, oneV, binA, unA, reduceCtorEq, Nat.reduceEqDiff, Nat.reduceAdd, Nat.reduceLT, Nat.reduceLeDiff, Nat.reduceMul, Nat.reduceSub, ↓reduceIte, decide_true, decide_false, Bool.true_eq_false, Bool.false_eq_true, Bool.not_true, Bool.not_false, if_true, if_false, and_true, true_and, memE, celE, w64, Nat.zero_add, Nat.add_zero, Nat.mul_one, putL, and_self, ldn, hol, hal, hl', h20', c1.mk2']
        with_reducible refine ⟨?_, ?_⟩
        · refine rcallH_rc (own11_rc _ _ f.under hu1 (by omega)) ?_
          intro r n2 hA2
          obtain ⟨i2, rfl, hi2g, hi2, hi2l, hn2⟩ := hA2.row
          obtain ⟨E2, hE2⟩ : ∃ E2, E2 = M1 ++ n2 := ⟨_, rfl⟩
          have hXE : Ext m E2 := by rw [hE2]; exact hX1.app hn2
          have z2 : OwnB E2 (m.length + 1) FT [.int .i64 0, .slice none 0 0] := by rw [hE2]; exact c2.ext _
          have z3 : OwnR E2 (m.length + 2) [] := by rw [hE2]; exact c3.ext _
          have LE2 : M1.length ≤ E2.length := by rw [hE2]; simp
          rw [← hE2] at hi2 ⊢
          clear hE2
          simp (config := {implicitDefEqProofs := false, maxDischargeDepth := 20}) (disch := first | omega | (simp only [lenE]; done) | (simp only [lenE]; omega) | rfl | (simp only [lenE, markR_len]; done) | (simp only [lenE, markR_len]; omega)) only [runE, mapE, listE, initT_5, initT_6, initT_7, initT_8, resV, oneV, binA, unA, reduceCtorEq, Nat.reduceEqDiff, Nat.reduceAdd, Nat.reduceLT, Nat.reduceLeDiff, Nat.reduceMul, Nat.reduceSub, ↓reduceIte, decide_true, decide_false, Bool.true_eq_false, Bool.false_eq_true, Bool.not_true, Bool.not_false, if_true, if_false, and_true, true_and, memE, celE, w64, Nat.zero_add, Nat.add_zero, Nat.mul_one, putL, and_self, ldn, bld_fl, stP_agg2f, onesB_sl]
          obtain ⟨M2, hM2⟩ : ∃ M2, M2 = E2 ++ [⟨.own, FT, [.int .i64 f.stock, .slice (some ⟨i2, 0, none⟩) f.under.length 1]⟩] := ⟨_, rfl⟩
          obtain ⟨c10, hc10⟩ : ∃ c10, c10 = E2.length := ⟨_, rfl⟩
          have hX2 : Ext m M2 := by rw [hM2]; exact hXE.one _ _
          have w2 : OwnB M2 (m.length + 1) FT [.int .i64 0, .slice none 0 0] := by rw [hM2]; exact z2.ext _
          have w3 : OwnR M2 (m.length + 2) [] := by rw [hM2]; exact z3.ext _
          have w10 : OwnB M2 c10 FT [.int .i64 f.stock, .slice (some ⟨i2, 0, none⟩) f.under.length 1] := by rw [hM2]; exact OwnB.here hc10
          have hc10g : m.length + 2 < c10 := by omega
          replace hi2 : OwnR M2 i2 f.under := by rw [hM2]; exact hi2.ext _
          have hlM2 : m.length + 3 < M2.length := by have := w10.lt; omega
          try rw [← hM2]
          clear hM2
          have hst : OwnB M2 c10 FT [.int .i64 f.stock, .slice (some ⟨i2, 0, none⟩) f.under.length 1] := w10
          refine loop_inv mixed (fun st => ∃ (k : Nat) (M : Mem) (id lo hi : Nat) (A : Option Addr) (j c : Nat) (C : List (Int × Fl)), k ≤ asked.length ∧ st.m = M ∧ Ext m M ∧ m.length + 2 ≤ id ∧ OwnR M id (stocksC C) ∧ crs (givenO ords) asked f k = some C ∧ OwnB M (m.length + 1) FT [.int .i64 0, .slice none 0 0] ∧ OwnB M c10 FT [.int .i64 (C.getD k DayF).2.stock, .slice A j c] ∧ IntsP (C.getD k DayF).2.under lo hi M (.slice A j c) ∧ m.length ≤ lo ∧ hi ≤ M.length ∧ (id < lo ∨ hi ≤ id) ∧
              st.t 1 = ov ∧ st.t 2 = av ∧ st.t 7 = .pointer (some ⟨m.length + 1, 0, none⟩) ∧ st.t 9 = .slice (some ⟨id, 0, none⟩) k 1 ∧ st.t 10 = .pointer (some ⟨c10, 0, none⟩) ∧ st.t 11 = .int .i64 k) (fun st => asked.length - (zOf (st.t 11)).toNat)
            ⟨0, _, m.length + 2, m.length + 3, M2.length, _, _, _, [(0, f)], by omega, rfl, hX2, by omega, w3, rfl, w2, hst, ⟨by show f.under.length ≤ _; omega, .inr ⟨i2, [], 1, rfl, by omega, hi2.lt, hi2⟩⟩, by omega, Nat.le_refl _, .inl (by omega), rfl, rfl, rfl, rfl, by first | rfl | (rw [hc10]; rfl), rfl⟩ ?_
          rintro st ⟨k, M, id, lo, hi, A, j, c, C, hk, tm, hx, hid, ho, hC, q2, q10, hP, hlo, hhi, hd, t1, t2, t7, t9, t10, t11⟩
          have hCl := crs_len k hC
          have hsl := (drop1_len hCl).1
          have hKM := hx.keeps
          have hOM := hKM.ints hO
          have hAM := hKM.ints hA
          have hlM := hx.len
          by_cases hlt : k < asked.length
          · have hlt' : (k : Int) < ords.length := by omega
            have g1 := hOM.ld k (by omega)
            have g2 := hAM.ld k hlt
            obtain ⟨oo, hoo⟩ : ∃ oo, oo = ords.getD k 0 := ⟨_, rfl⟩
            obtain ⟨aa, haa⟩ : ∃ aa, aa = asked.getD k 0 := ⟨_, rfl⟩
            obtain ⟨nf, hnf⟩ : ∃ nf, nf = (C.getD k DayF).2 := ⟨_, rfl⟩
            rw [← hoo] at g1
            rw [← haa] at g2
            rw [← hnf] at q10 hP
            have hord : givenO ords (C.getD k DayF).2 k = some oo := by rw [hoo]; rfl
            simp (config := {implicitDefEqProofs := false, maxDischargeDepth := 20}) (disch := first | omega | (simp only [lenE]; done) | (simp only [lenE]; omega) | rfl | (simp only [lenE, markR_len]; done) | (simp only [lenE, markR_len]; omega)) only [runE, mapE, listE, initT_5, initT_6, initT_7, initT_8, resV, oneV, binA, unA, reduceCtorEq, Nat.reduceEqDiff, Nat.reduceAdd, Nat.reduceLT, Nat.reduceLeDiff, Nat.reduceMul, Nat.reduceSub, ↓reduceIte, decide_true, decide_false, Bool.true_eq_false, Bool.false_eq_true, Bool.not_true, Bool.not_false, if_true, if_false, and_true, true_and, memE, celE, w64, Nat.zero_add, Nat.add_zero, Nat.mul_one, putL, and_self, ldn, tm, t1, t2, t7, t9, t10, t11, hOM.len, hlt', hOM.at_ k (by omega), g1, hAM.at_ k hlt, g2, q10.mk2']
            with_reducible refine ⟨?_, ?_⟩
            · refine rcallH_rc (specDayOf_rc _ _ nf oo aa ⟨_, rfl, hP.in⟩) ?_
              rintro r nn ⟨hnn, w, rfl, hw⟩
              obtain ⟨uw, rfl, hw2⟩ := hw.now
              obtain ⟨B, kk, dd, rfl⟩ := hw2.in.sl
              obtain ⟨E2, hE2⟩ : ∃ E2, E2 = M ++ nn := ⟨_, rfl⟩
              have hXE : Ext m E2 := by rw [hE2]; exact hx.app hnn
              have LE2 : E2.length = M.length + nn.length := by rw [hE2, List.length_append]
              have z2 : OwnB E2 (m.length + 1) FT [.int .i64 0, .slice none 0 0] := by rw [hE2]; exact q2.ext _
              have z10 : OwnB E2 c10 FT [.int .i64 nf.stock, .slice A j c] := by rw [hE2]; exact q10.ext _
              have zo : OwnR E2 id (stocksC C) := by rw [hE2]; exact ho.ext _
              rw [← LE2, ← hE2] at hw2
              rw [← hE2]
              clear hE2 hw
              simp (config := {implicitDefEqProofs := false, maxDischargeDepth := 20}) (disch := first | omega | (simp only [lenE]; done) | (simp only [lenE]; omega) | rfl | (simp only [lenE, markR_len]; done) | (simp only [lenE, markR_len]; omega)) only [runE, mapE, listE, initT_5, initT_6, initT_7, initT_8, resV, oneV, binA, unA, reduceCtorEq, Nat.reduceEqDiff, Nat.reduceAdd, Nat.reduceLT, Nat.reduceLeDiff, Nat.reduceMul, Nat.reduceSub, ↓reduceIte, decide_true, decide_false, Bool.true_eq_false, Bool.false_eq_true, Bool.not_true, Bool.not_false, if_true, if_false, and_true, true_and, memE, celE, w64, Nat.zero_add, Nat.add_zero, Nat.mul_one, putL, and_self, ldn, ext_2_0, ext_2_1, stP_agg2f, onesB_sl]
              obtain ⟨E3, hE3⟩ : ∃ E3, E3 = E2 ++ [⟨.own, FT, [.int .i64 (dayA nf oo aa).stock, .slice B kk dd]⟩] := ⟨_, rfl⟩
              obtain ⟨c12, hc12⟩ : ∃ c12, c12 = E2.length := ⟨_, rfl⟩
              have hXE3 : Ext m E3 := by rw [hE3]; exact hXE.one _ _
              have y2 : OwnB E3 (m.length + 1) FT [.int .i64 0, .slice none 0 0] := by rw [hE3]; exact z2.ext _
              have y10 : OwnB E3 c10 FT [.int .i64 nf.stock, .slice A j c] := by rw [hE3]; exact z10.ext _
              have y12 : OwnB E3 c12 FT [.int .i64 (dayA nf oo aa).stock, .slice B kk dd] := by rw [hE3]; exact OwnB.here hc12
              have yo : OwnR E3 id (stocksC C) := by rw [hE3]; exact zo.ext _
              have yP : IntsP (dayA nf oo aa).under M.length E2.length E3 (.slice B kk dd) := by rw [hE3]; exact hw2.ext (Nat.le_refl _) _
              have LE3 : E3.length = E2.length + 1 := by rw [hE3]; simp
              try rw [← hE3]
              try rw [← hc12]
              clear hE3
              have hMl : M.length ≤ E2.length := by omega
              cases hdk : dayOk nf oo aa with
              | false =>
                have hnone : crs (givenO ords) asked f (k + 1) = none := crs_stop hC hord (by rw [← haa, ← hnf]; exact hdk)
                have hno : givC f ords asked = none := by rw [eR]; exact crs_none hnone (by omega)
                have v2 := y2.ext [⟨.own, 3, []⟩]
                have p2 : OwnB ((E3 ++ [(⟨.own, 3, []⟩ : Blk)]).set (m.length + 1) ⟨.own, FT, [.int .i64 0, .slice none 0 0]⟩) (m.length + 1) FT [.int .i64 0, .slice none 0 0] := v2.set_self _ _
                simp (config := {implicitDefEqProofs := false, maxDischargeDepth := 20}) (disch := first | omega | (simp only [lenE]; done) | (simp only [lenE]; omega) | rfl | (simp only [lenE, markR_len]; done) | (simp only [lenE, markR_len]; omega)) only [runE, mapE, listE, initT_5, initT_6, initT_7, initT_8, resV, oneV, binA, unA, reduceCtorEq, Nat.reduceEqDiff, Nat.reduceAdd, Nat.reduceLT, Nat.reduceLeDiff, Nat.reduceMul, Nat.reduceSub, ↓reduceIte, decide_true, decide_false, Bool.true_eq_false, Bool.false_eq_true, Bool.not_true, Bool.not_false, if_true, if_false, and_true, true_and, memE, celE, w64, Nat.zero_add, Nat.add_zero, Nat.mul_one, putL, and_self, ldn, tm, t1, t2, t7, t9, t10, t11, bsl_none, bld_fl0, stP_agg2f, putL, f3 _ v2, p2.mk2']
                exact no _ _ 1 ((hXE3.one _ _).put (by omega) _ _) hno hXE3.len ((OwnR.end' (l := []) rfl).kept v2 (by decide) _)
              | true =>
                have hsome := crs_step hC hord (by rw [← haa, ← hnf]; exact hdk)
                rw [← haa, ← hnf] at hsome
                rw [dayA_yes hdk] at y12 yP
                have ha := app_num (x := (dayL nf oo aa).stock) (id2 := E3.length) (n := k) yo (by omega) rfl hsl.symm
                have hidl := yo.lt
                have hn1 := el_ne y2 (by decide) yo
                have hn2 := el_ne y10 (by decide) yo
                have hn3 := el_ne y12 (by decide) yo
                have l12 := y12.lt
                have l10 := y10.lt
                have y12d : OwnB (E3.set id deadB) c12 FT [.int .i64 (dayL nf oo aa).stock, .slice B kk dd] := y12.set_ne (Ne.symm hn3) _
                have y10d : OwnB (E3.set id deadB) c10 FT [.int .i64 nf.stock, .slice A j c] := y10.set_ne (Ne.symm hn2) _
                have tl : (E3.set id deadB).length = E3.length := by simp
                have y10e := (y10d.ext [⟨.own, 3, [.int .i64 (dayL nf oo aa).stock]⟩]).ext [⟨.own, 3, (stocksC C ++ [(dayL nf oo aa).stock]).map (Value.int .i64)⟩]
                have s10 := y10e.st (off := 0) (vs := [.int .i64 (dayL nf oo aa).stock, .slice B kk dd]) (by simp) rfl
                simp (config := {implicitDefEqProofs := false, maxDischargeDepth := 20}) (disch := first | omega | (simp only [lenE]; done) | (simp only [lenE]; omega) | rfl | (simp only [lenE, markR_len]; done) | (simp only [lenE, markR_len]; omega)) only [runE, mapE, listE, initT_5, initT_6, initT_7, initT_8, resV, oneV, binA, unA, reduceCtorEq, Nat.reduceEqDiff, Nat.reduceAdd, Nat.reduceLT, Nat.reduceLeDiff, Nat.reduceMul, Nat.reduceSub, ↓reduceIte, decide_true, decide_false, Bool.true_eq_false, Bool.false_eq_true, Bool.not_true, Bool.not_false, if_true, if_false, and_true, true_and, memE, celE, w64, Nat.zero_add, Nat.add_zero, Nat.mul_one, putL, and_self, ldn, tm, t1, t2, t7, t9, t10, t11, bsl_one, y12.mk2', ha, y12d.mk2', stP_agg2f, putL, s10]
                have hxl := hXE3.len
                refine ⟨⟨k + 1, _, E3.length + 1, M.length, E2.length, B, kk, dd, _, by omega, rfl, (((hXE3.dead (by omega)).one _ _).one _ _).put (by have := hst.lt; have := hX2.len; omega) _ _, by omega, ?_, hsome, ?_, ?_, ?_, by omega, by simp; omega, .inr (by omega), rfl, by simp⟩, ?_⟩
                · rw [stocks_s _ (by omega)]
                  exact OwnR.kept (OwnR.end' (by simp)) y10e (by decide) _
                · exact (((y2.set_ne (Ne.symm hn1) _).ext _).ext _).set_ne (by omega) _
                · rw [last_get _ hCl]
                  exact y10e.set_self _ _
                · rw [last_get _ hCl]
                  have h1 := ((yP.dead (id := id) (by have := ho.lt; omega) deadB).ext (by simp; omega) [(⟨.own, 3, [.int .i64 (dayL nf oo aa).stock]⟩ : Blk)]).ext (by simp; omega) [(⟨.own, 3, (stocksC C ++ [(dayL nf oo aa).stock]).map (Value.int .i64)⟩ : Blk)]
                  exact h1.other y10e (by decide) _
                · simp [zOf]; omega
            · have hXc : Ext m (M ++ [⟨.own, FT, [.int .i64 0, .slice none 0 0]⟩]) := hx.one _ _
              refine rcallH_rc (specDayOf_rc _ _ nf oo aa ⟨_, rfl, (hP.in).ext _⟩) ?_
              rintro r nn ⟨hnn, w, rfl, hw⟩
              obtain ⟨uw, rfl, hw2⟩ := hw.now
              obtain ⟨B, kk, dd, rfl⟩ := hw2.in.sl
              obtain ⟨E2, hE2⟩ : ∃ E2, E2 = M ++ [⟨.own, FT, [.int .i64 0, .slice none 0 0]⟩] ++ nn := ⟨_, rfl⟩
              have hXE : Ext m E2 := by rw [hE2]; exact hXc.app hnn
              have LE2 : E2.length = M.length + 1 + nn.length := by rw [hE2]; simp; omega
              have z2 : OwnB E2 (m.length + 1) FT [.int .i64 0, .slice none 0 0] := by rw [hE2]; exact (q2.ext _).ext _
              have z10 : OwnB E2 c10 FT [.int .i64 nf.stock, .slice A j c] := by rw [hE2]; exact (q10.ext _).ext _
              have zo : OwnR E2 id (stocksC C) := by rw [hE2]; exact (ho.ext _).ext _
              have z12 : OwnB E2 M.length FT [.int .i64 0, .slice none 0 0] := by rw [hE2]; exact (OwnB.here rfl).ext _
              have e3l : (M ++ [(⟨.own, FT, [.int .i64 0, .slice none 0 0]⟩ : Blk)]).length + nn.length = E2.length := by rw [LE2]; simp
              rw [e3l, ← hE2] at hw2
              have hw3 : IntsP (dayA nf oo aa).under M.length E2.length E2 (.slice B kk dd) := IntsP.wide _ _ _ _ _ _ _ (by simp) (Nat.le_refl _) hw2
              rw [← hE2]
              clear hE2 hw hw2
              have s12 := z12.st (off := 0) (vs := [.int .i64 (dayA nf oo aa).stock, .slice B kk dd]) (by simp) rfl
              have hmc : c10 < M.length := q10.lt
              simp (config := {implicitDefEqProofs := false, maxDischargeDepth := 20}) (disch := first | omega | (simp only [lenE]; done) | (simp only [lenE]; omega) | rfl | (simp only [lenE, markR_len]; done) | (simp only [lenE, markR_len]; omega)) only [runE, mapE, listE, initT_5, initT_6, initT_7, initT_8, resV, oneV, binA, unA, reduceCtorEq, Nat.reduceEqDiff, Nat.reduceAdd, Nat.reduceLT, Nat.reduceLeDiff, Nat.reduceMul, Nat.reduceSub, ↓reduceIte, decide_true, decide_false, Bool.true_eq_false, Bool.false_eq_true, Bool.not_true, Bool.not_false, if_true, if_false, and_true, true_and, memE, celE, w64, Nat.zero_add, Nat.add_zero, Nat.mul_one, putL, and_self, ldn, ext_2_0, ext_2_1, stP_agg2f, putL, s12]
              obtain ⟨E3, hE3⟩ : ∃ E3, E3 = E2.set M.length ⟨.own, FT, [.int .i64 (dayA nf oo aa).stock, .slice B kk dd]⟩ := ⟨_, rfl⟩
              obtain ⟨c12, hc12⟩ : ∃ c12, c12 = M.length := ⟨_, rfl⟩
              have hXE3 : Ext m E3 := by rw [hE3]; exact hXE.put (by omega) _ _
              have hid2 := ho.lt
              have y2 : OwnB E3 (m.length + 1) FT [.int .i64 0, .slice none 0 0] := by rw [hE3]; exact z2.set_ne (by omega) _
              have y10 : OwnB E3 c10 FT [.int .i64 nf.stock, .slice A j c] := by rw [hE3]; exact z10.set_ne (by omega) _
              have y12 : OwnB E3 c12 FT [.int .i64 (dayA nf oo aa).stock, .slice B kk dd] := by rw [hE3, hc12]; exact z12.set_self _ _
              have yo : OwnR E3 id (stocksC C) := by rw [hE3]; exact zo.kept z12 (by decide) _
              have yP : IntsP (dayA nf oo aa).under M.length E2.length E3 (.slice B kk dd) := by rw [hE3]; exact hw3.other z12 (by decide) _
              have LE3 : E3.length = E2.length := by rw [hE3, List.length_set]
              try rw [← hE3]
              try rw [← hc12]
              clear hE3
              have hMl : M.length ≤ E2.length := by omega
              cases hdk : dayOk nf oo aa with
              | false =>
                have hnone : crs (givenO ords) asked f (k + 1) = none := crs_stop hC hord (by rw [← haa, ← hnf]; exact hdk)
                have hno : givC f ords asked = none := by rw [eR]; exact crs_none hnone (by omega)
                have v2 := y2.ext [⟨.own, 3, []⟩]
                have p2 : OwnB ((E3 ++ [(⟨.own, 3, []⟩ : Blk)]).set (m.length + 1) ⟨.own, FT, [.int .i64 0, .slice none 0 0]⟩) (m.length + 1) FT [.int .i64 0, .slice none 0 0] := v2.set_self _ _
                simp (config := {implicitDefEqProofs := false, maxDischargeDepth := 20}) (disch := first | omega | (simp only [lenE]; done) | (simp only [lenE]; omega) | rfl | (simp only [lenE, markR_len]; done) | (simp only [lenE, markR_len]; omega)) only [runE, mapE, listE, initT_5, initT_6, initT_7, initT_8, resV, oneV, binA, unA, reduceCtorEq, Nat.reduceEqDiff, Nat.reduceAdd, Nat.reduceLT, Nat.reduceLeDiff, Nat.reduceMul, Nat.reduceSub, ↓reduceIte, decide_true, decide_false, Bool.true_eq_false, Bool.false_eq_true, Bool.not_true, Bool.not_false, if_true, if_false, and_true, true_and, memE, celE, w64, Nat.zero_add, Nat.add_zero, Nat.mul_one, putL, and_self, ldn, tm, t1, t2, t7, t9, t10, t11, bsl_none, bld_fl0, stP_agg2f, putL, f3 _ v2, p2.mk2']
                exact no _ _ 1 ((hXE3.one _ _).put (by omega) _ _) hno hXE3.len ((OwnR.end' (l := []) rfl).kept v2 (by decide) _)
              | true =>
                have hsome := crs_step hC hord (by rw [← haa, ← hnf]; exact hdk)
                rw [← haa, ← hnf] at hsome
                rw [dayA_yes hdk] at y12 yP
                have ha := app_num (x := (dayL nf oo aa).stock) (id2 := E3.length) (n := k) yo (by omega) rfl hsl.symm
                have hidl := yo.lt
                have hn1 := el_ne y2 (by decide) yo
                have hn2 := el_ne y10 (by decide) yo
                have hn3 := el_ne y12 (by decide) yo
                have l12 := y12.lt
                have l10 := y10.lt
                have y12d : OwnB (E3.set id deadB) c12 FT [.int .i64 (dayL nf oo aa).stock, .slice B kk dd] := y12.set_ne (Ne.symm hn3) _
                have y10d : OwnB (E3.set id deadB) c10 FT [.int .i64 nf.stock, .slice A j c] := y10.set_ne (Ne.symm hn2) _
                have tl : (E3.set id deadB).length = E3.length := by simp
                have y10e := (y10d.ext [⟨.own, 3, [.int .i64 (dayL nf oo aa).stock]⟩]).ext [⟨.own, 3, (stocksC C ++ [(dayL nf oo aa).stock]).map (Value.int .i64)⟩]
                have s10 := y10e.st (off := 0) (vs := [.int .i64 (dayL nf oo aa).stock, .slice B kk dd]) (by simp) rfl
                simp (config := {implicitDefEqProofs := false, maxDischargeDepth := 20}) (disch := first | omega | (simp only [lenE]; done) | (simp only [lenE]; omega) | rfl | (simp only [lenE, markR_len]; done) | (simp only [lenE, markR_len]; omega)) only [runE, mapE, listE, initT_5, initT_6, initT_7, initT_8, resV, oneV, binA, unA, reduceCtorEq, Nat.reduceEqDiff, Nat.reduceAdd, Nat.reduceLT, Nat.reduceLeDiff, Nat.reduceMul, Nat.reduceSub, ↓reduceIte, decide_true, decide_false, Bool.true_eq_false, Bool.false_eq_true, Bool.not_true, Bool.not_false, if_true, if_false, and_true, true_and, memE, celE, w64, Nat.zero_add, Nat.add_zero, Nat.mul_one, putL, and_self, ldn, tm, t1, t2, t7, t9, t10, t11, bsl_one, y12.mk2', ha, y12d.mk2', stP_agg2f, putL, s10]
                have hxl := hXE3.len
                refine ⟨⟨k + 1, _, E3.length + 1, M.length, E2.length, B, kk, dd, _, by omega, rfl, (((hXE3.dead (by omega)).one _ _).one _ _).put (by have := hst.lt; have := hX2.len; omega) _ _, by omega, ?_, hsome, ?_, ?_, ?_, by omega, by simp; omega, .inr (by omega), rfl, by simp⟩, ?_⟩
                · rw [stocks_s _ (by omega)]
                  exact OwnR.kept (OwnR.end' (by simp)) y10e (by decide) _
                · exact (((y2.set_ne (Ne.symm hn1) _).ext _).ext _).set_ne (by omega) _
                · rw [last_get _ hCl]
                  exact y10e.set_self _ _
                · rw [last_get _ hCl]
                  have h1 := ((yP.dead (id := id) (by have := ho.lt; omega) deadB).ext (by simp; omega) [(⟨.own, 3, [.int .i64 (dayL nf oo aa).stock]⟩ : Blk)]).ext (by simp; omega) [(⟨.own, 3, (stocksC C ++ [(dayL nf oo aa).stock]).map (Value.int .i64)⟩ : Blk)]
                  exact h1.other y10e (by decide) _
                · simp [zOf]; omega
          · have hlt' : ¬ ((k : Int) < ords.length) := by omega
            obtain rfl : k = asked.length := by omega
            have s7 := q2.st (off := 0) (vs := [.int .i64 (C.getD asked.length DayF).2.stock, .slice A j c]) (by simp) rfl
            have p7 : OwnB (M.set (m.length + 1) ⟨.own, FT, [.int .i64 (C.getD asked.length DayF).2.stock, .slice A j c]⟩) (m.length + 1) FT [.int .i64 (C.getD asked.length DayF).2.stock, .slice A j c] := q2.set_self _ _
            simp (config := {implicitDefEqProofs := false, maxDischargeDepth := 20}) (disch := first | omega | (simp only [lenE]; done) | (simp only [lenE]; omega) | rfl | (simp only [lenE, markR_len]; done) | (simp only [lenE, markR_len]; omega)) only [runE, mapE, listE, initT_5, initT_6, initT_7, initT_8, resV, oneV, binA, unA, reduceCtorEq, Nat.reduceEqDiff, Nat.reduceAdd, Nat.reduceLT, Nat.reduceLeDiff, Nat.reduceMul, Nat.reduceSub, ↓reduceIte, decide_true, decide_false, Bool.true_eq_false, Bool.false_eq_true, Bool.not_true, Bool.not_false, if_true, if_false, and_true, true_and, memE, celE, w64, Nat.zero_add, Nat.add_zero, Nat.mul_one, putL, and_self, ldn, tm, t1, t2, t7, t9, t10, t11, hOM.len, hlt', q10.mk2', stP_agg2f, putL, s7, p7.mk2']
            have e0 : givC f ords asked = some C := by rw [eR]; exact hC
            have e1 : runStocks f ords asked = stocksC C := by unfold runStocks; rw [e0]
            have e2 : runLast f ords asked = (C.getD asked.length DayF).2 := by unfold runLast; rw [e0]
            have e3 : runOk f ords asked = true := by unfold runOk; rw [e0]; rfl
            rw [e1, e2, e3]
            have hidl := ho.lt
            exact ext_o2 (f := fun a b => .tuple #[a, b, .bool true]) (hx.put (by omega) _ _) m.length M.length m.length M.length (Nat.le_refl _) hlM (by rw [List.length_set]; exact Nat.le_refl _) (Nat.le_refl _) hlM (by rw [List.length_set]; exact Nat.le_refl _) (fun h => h.elim)
              (IntsO.of (ho.kept q2 (by decide) _) hsl.symm (by omega) (by omega) hidl) (FlO.of (IntsP.wide _ _ _ _ _ _ _ (by omega) (by omega) (hP.other q2 (by decide) _)))
        · have hXc : Ext m (M1 ++ [⟨.own, FT, [.int .i64 0, .slice none 0 0]⟩]) := hX1.one _ _
          refine rcallH_rc (own11_rc _ _ f.under (hu1.ext _) (by omega)) ?_
          intro r n2 hA2
          obtain ⟨i2, rfl, hi2g, hi2, hi2l, hn2⟩ := hA2.row
          have hi2g' : M1.length < i2 := by have := hi2g; simp at this; omega
          obtain ⟨E2, hE2⟩ : ∃ E2, E2 = M1 ++ [⟨.own, FT, [.int .i64 0, .slice none 0 0]⟩] ++ n2 := ⟨_, rfl⟩
          have hXE : Ext m E2 := by rw [hE2]; exact hXc.app hn2
          have z2 : OwnB E2 (m.length + 1) FT [.int .i64 0, .slice none 0 0] := by rw [hE2]; exact (c2.ext _).ext _
          have z3 : OwnR E2 (m.length + 2) [] := by rw [hE2]; exact (c3.ext _).ext _
          have z10 : OwnB E2 M1.length FT [.int .i64 0, .slice none 0 0] := by rw [hE2]; exact (OwnB.here rfl).ext _
          rw [← hE2] at hi2 ⊢
          clear hE2
          have s10 := z10.st (off := 0) (vs := [.int .i64 f.stock, .slice (some ⟨i2, 0, none⟩) f.under.length 1]) (by simp) rfl
          simp (config := {implicitDefEqProofs := false, maxDischargeDepth := 20}) (disch := first | omega | (simp only [lenE]; done) | (simp only [lenE]; omega) | rfl | (simp only [lenE, markR_len]; done) | (simp only [lenE, markR_len]; omega)) only [runE, mapE, listE, initT_5, initT_6, initT_7, initT_8, resV, oneV, binA, unA, reduceCtorEq, Nat.reduceEqDiff, Nat.reduceAdd, Nat.reduceLT, Nat.reduceLeDiff, Nat.reduceMul, Nat.reduceSub, ↓reduceIte, decide_true, decide_false, Bool.true_eq_false, Bool.false_eq_true, Bool.not_true, Bool.not_false, if_true, if_false, and_true, true_and, memE, celE, w64, Nat.zero_add, Nat.add_zero, Nat.mul_one, putL, and_self, ldn, bld_fl, stP_agg2f, putL, s10]
          obtain ⟨M2, hM2⟩ : ∃ M2, M2 = E2.set M1.length ⟨.own, FT, [.int .i64 f.stock, .slice (some ⟨i2, 0, none⟩) f.under.length 1]⟩ := ⟨_, rfl⟩
          obtain ⟨c10, hc10⟩ : ∃ c10, c10 = M1.length := ⟨_, rfl⟩
          have hX2 : Ext m M2 := by rw [hM2]; exact hXE.put (by omega) _ _
          have w2 : OwnB M2 (m.length + 1) FT [.int .i64 0, .slice none 0 0] := by rw [hM2]; exact z2.set_ne (by omega) _
          have w3 : OwnR M2 (m.length + 2) [] := by rw [hM2]; exact z3.set_ne (by omega)
          have w10 : OwnB M2 c10 FT [.int .i64 f.stock, .slice (some ⟨i2, 0, none⟩) f.under.length 1] := by rw [hM2, hc10]; exact z10.set_self _ _
          have hc10g : m.length + 2 < c10 := by omega
          replace hi2 : OwnR M2 i2 f.under := by rw [hM2]; exact hi2.set_ne (by omega)
          have hlM2 : m.length + 3 < M2.length := by have := hi2.lt; omega
          try rw [← hM2]
          clear hM2
          have hst : OwnB M2 c10 FT [.int .i64 f.stock, .slice (some ⟨i2, 0, none⟩) f.under.length 1] := w10
          refine loop_inv mixed (fun st => ∃ (k : Nat) (M : Mem) (id lo hi : Nat) (A : Option Addr) (j c : Nat) (C : List (Int × Fl)), k ≤ asked.length ∧ st.m = M ∧ Ext m M ∧ m.length + 2 ≤ id ∧ OwnR M id (stocksC C) ∧ crs (givenO ords) asked f k = some C ∧ OwnB M (m.length + 1) FT [.int .i64 0, .slice none 0 0] ∧ OwnB M c10 FT [.int .i64 (C.getD k DayF).2.stock, .slice A j c] ∧ IntsP (C.getD k DayF).2.under lo hi M (.slice A j c) ∧ m.length ≤ lo ∧ hi ≤ M.length ∧ (id < lo ∨ hi ≤ id) ∧
              st.t 1 = ov ∧ st.t 2 = av ∧ st.t 7 = .pointer (some ⟨m.length + 1, 0, none⟩) ∧ st.t 9 = .slice (some ⟨id, 0, none⟩) k 1 ∧ st.t 10 = .pointer (some ⟨c10, 0, none⟩) ∧ st.t 11 = .int .i64 k) (fun st => asked.length - (zOf (st.t 11)).toNat)
            ⟨0, _, m.length + 2, m.length + 3, M2.length, _, _, _, [(0, f)], by omega, rfl, hX2, by omega, w3, rfl, w2, hst, ⟨by show f.under.length ≤ _; omega, .inr ⟨i2, [], 1, rfl, by omega, hi2.lt, hi2⟩⟩, by omega, Nat.le_refl _, .inl (by omega), rfl, rfl, rfl, rfl, by first | rfl | (rw [hc10]; rfl), rfl⟩ ?_
          rintro st ⟨k, M, id, lo, hi, A, j, c, C, hk, tm, hx, hid, ho, hC, q2, q10, hP, hlo, hhi, hd, t1, t2, t7, t9, t10, t11⟩
          have hCl := crs_len k hC
          have hsl := (drop1_len hCl).1
          have hKM := hx.keeps
          have hOM := hKM.ints hO
          have hAM := hKM.ints hA
          have hlM := hx.len
          by_cases hlt : k < asked.length
          · have hlt' : (k : Int) < ords.length := by omega
            have g1 := hOM.ld k (by omega)
            have g2 := hAM.ld k hlt
            obtain ⟨oo, hoo⟩ : ∃ oo, oo = ords.getD k 0 := ⟨_, rfl⟩
            obtain ⟨aa, haa⟩ : ∃ aa, aa = asked.getD k 0 := ⟨_, rfl⟩
            obtain ⟨nf, hnf⟩ : ∃ nf, nf = (C.getD k DayF).2 := ⟨_, rfl⟩
            rw [← hoo] at g1
            rw [← haa] at g2
            rw [← hnf] at q10 hP
            have hord : givenO ords (C.getD k DayF).2 k = some oo := by rw [hoo]; rfl
            simp (config := {implicitDefEqProofs := false, maxDischargeDepth := 20}) (disch := first | omega | (simp only [lenE]; done) | (simp only [lenE]; omega) | rfl | (simp only [lenE, markR_len]; done) | (simp only [lenE, markR_len]; omega)) only [runE, mapE, listE, initT_5, initT_6, initT_7, initT_8, resV, oneV, binA, unA, reduceCtorEq, Nat.reduceEqDiff, Nat.reduceAdd, Nat.reduceLT, Nat.reduceLeDiff, Nat.reduceMul, Nat.reduceSub, ↓reduceIte, decide_true, decide_false, Bool.true_eq_false, Bool.false_eq_true, Bool.not_true, Bool.not_false, if_true, if_false, and_true, true_and, memE, celE, w64, Nat.zero_add, Nat.add_zero, Nat.mul_one, putL, and_self, ldn, tm, t1, t2, t7, t9, t10, t11, hOM.len, hlt', hOM.at_ k (by omega), g1, hAM.at_ k hlt, g2, q10.mk2']
            with_reducible refine ⟨?_, ?_⟩
            · refine rcallH_rc (specDayOf_rc _ _ nf oo aa ⟨_, rfl, hP.in⟩) ?_
              rintro r nn ⟨hnn, w, rfl, hw⟩
              obtain ⟨uw, rfl, hw2⟩ := hw.now
              obtain ⟨B, kk, dd, rfl⟩ := hw2.in.sl
              obtain ⟨E2, hE2⟩ : ∃ E2, E2 = M ++ nn := ⟨_, rfl⟩
              have hXE : Ext m E2 := by rw [hE2]; exact hx.app hnn
              have LE2 : E2.length = M.length + nn.length := by rw [hE2, List.length_append]
              have z2 : OwnB E2 (m.length + 1) FT [.int .i64 0, .slice none 0 0] := by rw [hE2]; exact q2.ext _
              have z10 : OwnB E2 c10 FT [.int .i64 nf.stock, .slice A j c] := by rw [hE2]; exact q10.ext _
              have zo : OwnR E2 id (stocksC C) := by rw [hE2]; exact ho.ext _
              rw [← LE2, ← hE2] at hw2
              rw [← hE2]
              clear hE2 hw
              simp (config := {implicitDefEqProofs := false, maxDischargeDepth := 20}) (disch := first | omega | (simp only [lenE]; done) | (simp only [lenE]; omega) | rfl | (simp only [lenE, markR_len]; done) | (simp only [lenE, markR_len]; omega)) only [runE, mapE, listE, initT_5, initT_6, initT_7, initT_8, resV, oneV, binA, unA, reduceCtorEq, Nat.reduceEqDiff, Nat.reduceAdd, Nat.reduceLT, Nat.reduceLeDiff, Nat.reduceMul, Nat.reduceSub, ↓reduceIte, decide_true, decide_false, Bool.true_eq_false, Bool.false_eq_true, Bool.not_true, Bool.not_false, if_true, if_false, and_true, true_and, memE, celE, w64, Nat.zero_add, Nat.add_zero, Nat.mul_one, putL, and_self, ldn, ext_2_0, ext_2_1, stP_agg2f, onesB_sl]
              obtain ⟨E3, hE3⟩ : ∃ E3, E3 = E2 ++ [⟨.own, FT, [.int .i64 (dayA nf oo aa).stock, .slice B kk dd]⟩] := ⟨_, rfl⟩
              obtain ⟨c12, hc12⟩ : ∃ c12, c12 = E2.length := ⟨_, rfl⟩
              have hXE3 : Ext m E3 := by rw [hE3]; exact hXE.one _ _
              have y2 : OwnB E3 (m.length + 1) FT [.int .i64 0, .slice none 0 0] := by rw [hE3]; exact z2.ext _
              have y10 : OwnB E3 c10 FT [.int .i64 nf.stock, .slice A j c] := by rw [hE3]; exact z10.ext _
              have y12 : OwnB E3 c12 FT [.int .i64 (dayA nf oo aa).stock, .slice B kk dd] := by rw [hE3]; exact OwnB.here hc12
              have yo : OwnR E3 id (stocksC C) := by rw [hE3]; exact zo.ext _
              have yP : IntsP (dayA nf oo aa).under M.length E2.length E3 (.slice B kk dd) := by rw [hE3]; exact hw2.ext (Nat.le_refl _) _
              have LE3 : E3.length = E2.length + 1 := by rw [hE3]; simp
              try rw [← hE3]
              try rw [← hc12]
              clear hE3
              have hMl : M.length ≤ E2.length := by omega
              cases hdk : dayOk nf oo aa with
              | false =>
                have hnone : crs (givenO ords) asked f (k + 1) = none := crs_stop hC hord (by rw [← haa, ← hnf]; exact hdk)
                have hno : givC f ords asked = none := by rw [eR]; exact crs_none hnone (by omega)
                have v2 := y2.ext [⟨.own, 3, []⟩]
                have p2 : OwnB ((E3 ++ [(⟨.own, 3, []⟩ : Blk)]).set (m.length + 1) ⟨.own, FT, [.int .i64 0, .slice none 0 0]⟩) (m.length + 1) FT [.int .i64 0, .slice none 0 0] := v2.set_self _ _
                simp (config := {implicitDefEqProofs := false, maxDischargeDepth := 20}) (disch := first | omega | (simp only [lenE]; done) | (simp only [lenE]; omega) | rfl | (simp only [lenE, markR_len]; done) | (simp only [lenE, markR_len]; omega)) only [runE, mapE, listE, initT_5, initT_6, initT_7, initT_8, resV, oneV, binA, unA, reduceCtorEq, Nat.reduceEqDiff, Nat.reduceAdd, Nat.reduceLT, Nat.reduceLeDiff, Nat.reduceMul, Nat.reduceSub, ↓reduceIte, decide_true, decide_false, Bool.true_eq_false, Bool.false_eq_true, Bool.not_true, Bool.not_false, if_true, if_false, and_true, true_and, memE, celE, w64, Nat.zero_add, Nat.add_zero, Nat.mul_one, putL, and_self, ldn, tm, t1, t2, t7, t9, t10, t11, bsl_none, bld_fl0, stP_agg2f, putL, f3 _ v2, p2.mk2']
                exact no _ _ 1 ((hXE3.one _ _).put (by omega) _ _) hno hXE3.len ((OwnR.end' (l := []) rfl).kept v2 (by decide) _)
              | true =>
                have hsome := crs_step hC hord (by rw [← haa, ← hnf]; exact hdk)
                rw [← haa, ← hnf] at hsome
                rw [dayA_yes hdk] at y12 yP
                have ha := app_num (x := (dayL nf oo aa).stock) (id2 := E3.length) (n := k) yo (by omega) rfl hsl.symm
                have hidl := yo.lt
                have hn1 := el_ne y2 (by decide) yo
                have hn2 := el_ne y10 (by decide) yo
                have hn3 := el_ne y12 (by decide) yo
                have l12 := y12.lt
                have l10 := y10.lt
                have y12d : OwnB (E3.set id deadB) c12 FT [.int .i64 (dayL nf oo aa).stock, .slice B kk dd] := y12.set_ne (Ne.symm hn3) _
                have y10d : OwnB (E3.set id deadB) c10 FT [.int .i64 nf.stock, .slice A j c] := y10.set_ne (Ne.symm hn2) _
                have tl : (E3.set id deadB).length = E3.length := by simp
                have y10e := (y10d.ext [⟨.own, 3, [.int .i64 (dayL nf oo aa).stock]⟩]).ext [⟨.own, 3, (stocksC C ++ [(dayL nf oo aa).stock]).map (Value.int .i64)⟩]
                have s10 := y10e.st (off := 0) (vs := [.int .i64 (dayL nf oo aa).stock, .slice B kk dd]) (by simp) rfl
                simp (config := {implicitDefEqProofs := false, maxDischargeDepth := 20}) (disch := first | omega | (simp only [lenE]; done) | (simp only [lenE]; omega) | rfl | (simp only [lenE, markR_len]; done) | (simp only [lenE, markR_len]; omega)) only [runE, mapE, listE, initT_5, initT_6, initT_7, initT_8, resV, oneV, binA, unA, reduceCtorEq, Nat.reduceEqDiff, Nat.reduceAdd, Nat.reduceLT, Nat.reduceLeDiff, Nat.reduceMul, Nat.reduceSub, ↓reduceIte, decide_true, decide_false, Bool.true_eq_false, Bool.false_eq_true, Bool.not_true, Bool.not_false, if_true, if_false, and_true, true_and, memE, celE, w64, Nat.zero_add, Nat.add_zero, Nat.mul_one, putL, and_self, ldn, tm, t1, t2, t7, t9, t10, t11, bsl_one, y12.mk2', ha, y12d.mk2', stP_agg2f, putL, s10]
                have hxl := hXE3.len
                refine ⟨⟨k + 1, _, E3.length + 1, M.length, E2.length, B, kk, dd, _, by omega, rfl, (((hXE3.dead (by omega)).one _ _).one _ _).put (by have := hst.lt; have := hX2.len; omega) _ _, by omega, ?_, hsome, ?_, ?_, ?_, by omega, by simp; omega, .inr (by omega), rfl, by simp⟩, ?_⟩
                · rw [stocks_s _ (by omega)]
                  exact OwnR.kept (OwnR.end' (by simp)) y10e (by decide) _
                · exact (((y2.set_ne (Ne.symm hn1) _).ext _).ext _).set_ne (by omega) _
                · rw [last_get _ hCl]
                  exact y10e.set_self _ _
                · rw [last_get _ hCl]
                  have h1 := ((yP.dead (id := id) (by have := ho.lt; omega) deadB).ext (by simp; omega) [(⟨.own, 3, [.int .i64 (dayL nf oo aa).stock]⟩ : Blk)]).ext (by simp; omega) [(⟨.own, 3, (stocksC C ++ [(dayL nf oo aa).stock]).map (Value.int .i64)⟩ : Blk)]
                  exact h1.other y10e (by decide) _
                · simp [zOf]; omega
            · have hXc : Ext m (M ++ [⟨.own, FT, [.int .i64 0, .slice none 0 0]⟩]) := hx.one _ _
              refine rcallH_rc (specDayOf_rc _ _ nf oo aa ⟨_, rfl, (hP.in).ext _⟩) ?_
              rintro r nn ⟨hnn, w, rfl, hw⟩
              obtain ⟨uw, rfl, hw2⟩ := hw.now
              obtain ⟨B, kk, dd, rfl⟩ := hw2.in.sl
              obtain ⟨E2, hE2⟩ : ∃ E2, E2 = M ++ [⟨.own, FT, [.int .i64 0, .slice none 0 0]⟩] ++ nn := ⟨_, rfl⟩
              have hXE : Ext m E2 := by rw [hE2]; exact hXc.app hnn
              have LE2 : E2.length = M.length + 1 + nn.length := by rw [hE2]; simp; omega
              have z2 : OwnB E2 (m.length + 1) FT [.int .i64 0, .slice none 0 0] := by rw [hE2]; exact (q2.ext _).ext _
              have z10 : OwnB E2 c10 FT [.int .i64 nf.stock, .slice A j c] := by rw [hE2]; exact (q10.ext _).ext _
              have zo : OwnR E2 id (stocksC C) := by rw [hE2]; exact (ho.ext _).ext _
              have z12 : OwnB E2 M.length FT [.int .i64 0, .slice none 0 0] := by rw [hE2]; exact (OwnB.here rfl).ext _
              have e3l : (M ++ [(⟨.own, FT, [.int .i64 0, .slice none 0 0]⟩ : Blk)]).length + nn.length = E2.length := by rw [LE2]; simp
              rw [e3l, ← hE2] at hw2
              have hw3 : IntsP (dayA nf oo aa).under M.length E2.length E2 (.slice B kk dd) := IntsP.wide _ _ _ _ _ _ _ (by simp) (Nat.le_refl _) hw2
              rw [← hE2]
              clear hE2 hw hw2
              have s12 := z12.st (off := 0) (vs := [.int .i64 (dayA nf oo aa).stock, .slice B kk dd]) (by simp) rfl
              have hmc : c10 < M.length := q10.lt
              simp (config := {implicitDefEqProofs := false, maxDischargeDepth := 20}) (disch := first | omega | (simp only [lenE]; done) | (simp only [lenE]; omega) | rfl | (simp only [lenE, markR_len]; done) | (simp only [lenE, markR_len]; omega)) only [runE, mapE, listE, initT_5, initT_6, initT_7, initT_8, resV, oneV, binA, unA, reduceCtorEq, Nat.reduceEqDiff, Nat.reduceAdd, Nat.reduceLT, Nat.reduceLeDiff, Nat.reduceMul, Nat.reduceSub, ↓reduceIte, decide_true, decide_false, Bool.true_eq_false, Bool.false_eq_true, Bool.not_true, Bool.not_false, if_true, if_false, and_true, true_and, memE, celE, w64, Nat.zero_add, Nat.add_zero, Nat.mul_one, putL, and_self, ldn, ext_2_0, ext_2_1, stP_agg2f, putL, s12]
              obtain ⟨E3, hE3⟩ : ∃ E3, E3 = E2.set M.length ⟨.own, FT, [.int .i64 (dayA nf oo aa).stock, .slice B kk dd]⟩ := ⟨_, rfl⟩
              obtain ⟨c12, hc12⟩ : ∃ c12, c12 = M.length := ⟨_, rfl⟩
              have hXE3 : Ext m E3 := by rw [hE3]; exact hXE.put (by omega) _ _
              have hid2 := ho.lt
              have y2 : OwnB E3 (m.length + 1) FT [.int .i64 0, .slice none 0 0] := by rw [hE3]; exact z2.set_ne (by omega) _
              have y10 : OwnB E3 c10 FT [.int .i64 nf.stock, .slice A j c] := by rw [hE3]; exact z10.set_ne (by omega) _
              have y12 : OwnB E3 c12 FT [.int .i64 (dayA nf oo aa).stock, .slice B kk dd] := by rw [hE3, hc12]; exact z12.set_self _ _
              have yo : OwnR E3 id (stocksC C) := by rw [hE3]; exact zo.kept z12 (by decide) _
              have yP : IntsP (dayA nf oo aa).under M.length E2.length E3 (.slice B kk dd) := by rw [hE3]; exact hw3.other z12 (by decide) _
              have LE3 : E3.length = E2.length := by rw [hE3, List.length_set]
              try rw [← hE3]
              try rw [← hc12]
              clear hE3
              have hMl : M.length ≤ E2.length := by omega
              cases hdk : dayOk nf oo aa with
              | false =>
                have hnone : crs (givenO ords) asked f (k + 1) = none := crs_stop hC hord (by rw [← haa, ← hnf]; exact hdk)
                have hno : givC f ords asked = none := by rw [eR]; exact crs_none hnone (by omega)
                have v2 := y2.ext [⟨.own, 3, []⟩]
                have p2 : OwnB ((E3 ++ [(⟨.own, 3, []⟩ : Blk)]).set (m.length + 1) ⟨.own, FT, [.int .i64 0, .slice none 0 0]⟩) (m.length + 1) FT [.int .i64 0, .slice none 0 0] := v2.set_self _ _
                simp (config := {implicitDefEqProofs := false, maxDischargeDepth := 20}) (disch := first | omega | (simp only [lenE]; done) | (simp only [lenE]; omega) | rfl | (simp only [lenE, markR_len]; done) | (simp only [lenE, markR_len]; omega)) only [runE, mapE, listE, initT_5, initT_6, initT_7, initT_8, resV, oneV, binA, unA, reduceCtorEq, Nat.reduceEqDiff, Nat.reduceAdd, Nat.reduceLT, Nat.reduceLeDiff, Nat.reduceMul, Nat.reduceSub, ↓reduceIte, decide_true, decide_false, Bool.true_eq_false, Bool.false_eq_true, Bool.not_true, Bool.not_false, if_true, if_false, and_true, true_and, memE, celE, w64, Nat.zero_add, Nat.add_zero, Nat.mul_one, putL, and_self, ldn, tm, t1, t2, t7, t9, t10, t11, bsl_none, bld_fl0, stP_agg2f, putL, f3 _ v2, p2.mk2']
                exact no _ _ 1 ((hXE3.one _ _).put (by omega) _ _) hno hXE3.len ((OwnR.end' (l := []) rfl).kept v2 (by decide) _)
              | true =>
                have hsome := crs_step hC hord (by rw [← haa, ← hnf]; exact hdk)
                rw [← haa, ← hnf] at hsome
                rw [dayA_yes hdk] at y12 yP
                have ha := app_num (x := (dayL nf oo aa).stock) (id2 := E3.length) (n := k) yo (by omega) rfl hsl.symm
                have hidl := yo.lt
                have hn1 := el_ne y2 (by decide) yo
                have hn2 := el_ne y10 (by decide) yo
                have hn3 := el_ne y12 (by decide) yo
                have l12 := y12.lt
                have l10 := y10.lt
                have y12d : OwnB (E3.set id deadB) c12 FT [.int .i64 (dayL nf oo aa).stock, .slice B kk dd] := y12.set_ne (Ne.symm hn3) _
                have y10d : OwnB (E3.set id deadB) c10 FT [.int .i64 nf.stock, .slice A j c] := y10.set_ne (Ne.symm hn2) _
                have tl : (E3.set id deadB).length = E3.length := by simp
                have y10e := (y10d.ext [⟨.own, 3, [.int .i64 (dayL nf oo aa).stock]⟩]).ext [⟨.own, 3, (stocksC C ++ [(dayL nf oo aa).stock]).map (Value.int .i64)⟩]
                have s10 := y10e.st (off := 0) (vs := [.int .i64 (dayL nf oo aa).stock, .slice B kk dd]) (by simp) rfl
                simp (config := {implicitDefEqProofs := false, maxDischargeDepth := 20}) (disch := first | omega | (simp only [lenE]; done) | (simp only [lenE]; omega) | rfl | (simp only [lenE, markR_len]; done) | (simp only [lenE, markR_len]; omega)) only [runE, mapE, listE, initT_5, initT_6, initT_7, initT_8, resV, oneV, binA, unA, reduceCtorEq, Nat.reduceEqDiff, Nat.reduceAdd, Nat.reduceLT, Nat.reduceLeDiff, Nat.reduceMul, Nat.reduceSub, ↓reduceIte, decide_true, decide_false, Bool.true_eq_false, Bool.false_eq_true, Bool.not_true, Bool.not_false, if_true, if_false, and_true, true_and, memE, celE, w64, Nat.zero_add, Nat.add_zero, Nat.mul_one, putL, and_self, ldn, tm, t1, t2, t7, t9, t10, t11, bsl_one, y12.mk2', ha, y12d.mk2', stP_agg2f, putL, s10]
                have hxl := hXE3.len
                refine ⟨⟨k + 1, _, E3.length + 1, M.length, E2.length, B, kk, dd, _, by omega, rfl, (((hXE3.dead (by omega)).one _ _).one _ _).put (by have := hst.lt; have := hX2.len; omega) _ _, by omega, ?_, hsome, ?_, ?_, ?_, by omega, by simp; omega, .inr (by omega), rfl, by simp⟩, ?_⟩
                · rw [stocks_s _ (by omega)]
                  exact OwnR.kept (OwnR.end' (by simp)) y10e (by decide) _
                · exact (((y2.set_ne (Ne.symm hn1) _).ext _).ext _).set_ne (by omega) _
                · rw [last_get _ hCl]
                  exact y10e.set_self _ _
                · rw [last_get _ hCl]
                  have h1 := ((yP.dead (id := id) (by have := ho.lt; omega) deadB).ext (by simp; omega) [(⟨.own, 3, [.int .i64 (dayL nf oo aa).stock]⟩ : Blk)]).ext (by simp; omega) [(⟨.own, 3, (stocksC C ++ [(dayL nf oo aa).stock]).map (Value.int .i64)⟩ : Blk)]
                  exact h1.other y10e (by decide) _
                · simp [zOf]; omega
          · have hlt' : ¬ ((k : Int) < ords.length) := by omega
            obtain rfl : k = asked.length := by omega
            have s7 := q2.st (off := 0) (vs := [.int .i64 (C.getD asked.length DayF).2.stock, .slice A j c]) (by simp) rfl
            have p7 : OwnB (M.set (m.length + 1) ⟨.own, FT, [.int .i64 (C.getD asked.length DayF).2.stock, .slice A j c]⟩) (m.length + 1) FT [.int .i64 (C.getD asked.length DayF).2.stock, .slice A j c] := q2.set_self _ _
            simp (config := {implicitDefEqProofs := false, maxDischargeDepth := 20}) (disch := first | omega | (simp only [lenE]; done) | (simp only [lenE]; omega) | rfl | (simp only [lenE, markR_len]; done) | (simp only [lenE, markR_len]; omega)) only [runE, mapE, listE, initT_5, initT_6, initT_7, initT_8, resV, oneV, binA, unA, reduceCtorEq, Nat.reduceEqDiff, Nat.reduceAdd, Nat.reduceLT, Nat.reduceLeDiff, Nat.reduceMul, Nat.reduceSub, ↓reduceIte, decide_true, decide_false, Bool.true_eq_false, Bool.false_eq_true, Bool.not_true, Bool.not_false, if_true, if_false, and_true, true_and, memE, celE, w64, Nat.zero_add, Nat.add_zero, Nat.mul_one, putL, and_self, ldn, tm, t1, t2, t7, t9, t10, t11, hOM.len, hlt', q10.mk2', stP_agg2f, putL, s7, p7.mk2']
            have e0 : givC f ords asked = some C := by rw [eR]; exact hC
            have e1 : runStocks f ords asked = stocksC C := by unfold runStocks; rw [e0]
            have e2 : runLast f ords asked = (C.getD asked.length DayF).2 := by unfold runLast; rw [e0]
            have e3 : runOk f ords asked = true := by unfold runOk; rw [e0]; rfl
            rw [e1, e2, e3]
            have hidl := ho.lt
            exact ext_o2 (f := fun a b => .tuple #[a, b, .bool true]) (hx.put (by omega) _ _) m.length M.length m.length M.length (Nat.le_refl _) hlM (by rw [List.length_set]; exact Nat.le_refl _) (Nat.le_refl _) hlM (by rw [List.length_set]; exact Nat.le_refl _) (fun h => h.elim)
              (IntsO.of (ho.kept q2 (by decide) _) hsl.symm (by omega) (by omega) hidl) (FlO.of (IntsP.wide _ _ _ _ _ _ _ (by omega) (by omega) (hP.other q2 (by decide) _)))
      · have h20' : (asked.length : Int) > 20 := by omega
        simp (config := {implicitDefEqProofs := false, maxDischargeDepth := 20}) (disch := first | omega | (simp only [lenE]; done) | (simp only [lenE]; omega) | rfl | (simp only [lenE, markR_len]; done) | (simp only [lenE, markR_len]; omega)) only [runE, mapE, listE, initT_5, initT_6, initT_7, initT_8, resV, oneV, binA, unA, reduceCtorEq, Nat.reduceEqDiff, Nat.reduceAdd, Nat.reduceLT, Nat.reduceLeDiff, Nat.reduceMul, Nat.reduceSub, ↓reduceIte, decide_true, decide_false, Bool.true_eq_false, Bool.false_eq_true, Bool.not_true, Bool.not_false, if_true, if_false, and_true, true_and, memE, celE, w64, Nat.zero_add, Nat.add_zero, Nat.mul_one, putL, and_self, ldn, hol, hal, hl', h20', bld_fl0, stP_agg2f, putL, f3 _ c2, put0.mk2']
        exact fail1 (by simp [givC, h20])
    · have hl' : ((ords.length : Int) != asked.length) = true := by rw [bne_iff_ne]; omega
      simp (config := {implicitDefEqProofs := false, maxDischargeDepth := 20}) (disch := first | omega | (simp only [lenE]; done) | (simp only [lenE]; omega) | rfl | (simp only [lenE, markR_len]; done) | (simp only [lenE, markR_len]; omega)) only [runE, mapE, listE, initT_5, initT_6, initT_7, initT_8, resV, oneV, binA, unA, reduceCtorEq, Nat.reduceEqDiff, Nat.reduceAdd, Nat.reduceLT, Nat.reduceLeDiff, Nat.reduceMul, Nat.reduceSub, ↓reduceIte, decide_true, decide_false, Bool.true_eq_false, Bool.false_eq_true, Bool.not_true, Bool.not_false, if_true, if_false, and_true, true_and, memE, celE, w64, Nat.zero_add, Nat.add_zero, Nat.mul_one, putL, and_self, ldn, hol, hal, hl', bld_fl0, stP_agg2f, putL, f3 _ c2, put0.mk2']
      exact fail1 (by simp [givC, hl])
end Go.Proofs.Ytnkbjliidenldaa.Ab
