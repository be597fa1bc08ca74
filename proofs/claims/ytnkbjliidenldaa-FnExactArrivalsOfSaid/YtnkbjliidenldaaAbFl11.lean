/- Days on which a rule tells the orders: the specification. -/
import Derived.Test.YtnkbjliidenldaaAbFl10
namespace Go.Proofs.Ytnkbjliidenldaa.Ab
open Go Go.RowKit
set_option linter.unusedVariables false
set_option linter.unusedSimpArgs false

abbrev TR : TypeId := 101
abbrev RT : TypeId := 40
theorem srv_app {C : List (Int × Fl)} (d : Int × Fl) (asked : List Int) : ∀ k, k < C.length → srvC (C ++ [d]) asked k = srvC C asked k
  | 0, _ => rfl
  | k + 1, h => by
    simp only [srvC]
    rw [srv_app d asked k (by omega)]
    have e : (C ++ [d]).getD (k + 1) DayF = C.getD (k + 1) DayF := by
      rw [List.getD_eq_getElem?_getD, List.getElem?_append_left h, ← List.getD_eq_getElem?_getD]
    rw [e]
def trO : Option (List (Int × Fl)) → List Int
  | some C => ordersC C
  | none => []
def trS : Option (List (Int × Fl)) → List Int
  | some C => stocksC C
  | none => []
def trV (asked : List Int) : Option (List (Int × Fl)) → Int
  | some C => srvC C asked asked.length
  | none => 0
/-- What a rule does. -/
def AnsRun (m : Mem) (asked : List Int) (q : Option (List (Int × Fl))) (v : Value) (new : Mem) : Prop :=
  NoRo new ∧ ∃ i1 i2 n, v = .tuple #[.agg #[.slice (some ⟨i1, 0, none⟩) n 1, .slice (some ⟨i2, 0, none⟩) n 1, .int .i64 (trV asked q)], .bool q.isSome] ∧ m.length ≤ i1 ∧ m.length ≤ i2 ∧ OwnR (m ++ new) i1 (trO q) ∧ OwnR (m ++ new) i2 (trS q) ∧ n = (trO q).length ∧ n = (trS q).length ∧ n ≤ 20
theorem OwnR.back {m n0 : Mem} {id : Nat} {l : List Int} (h : OwnR (roM m ++ n0) id l) (hid : m.length ≤ id) : OwnR (m ++ n0) id l :=
  h.at_ (by rw [List.getElem?_append_right hid, List.getElem?_append_right (by rw [roM_len]; exact hid), roM_len])
theorem ext_run {m M : Mem} {asked : List Int} {q : Option (List (Int × Fl))} {i1 i2 n1 n2 : Nat} {s : Int} {b : Bool} (h : Ext m M) (hb : b = q.isSome) (hs : s = trV asked q) (h1 : m.length ≤ i1) (h2 : m.length ≤ i2) (o1 : OwnR M i1 (trO q)) (o2 : OwnR M i2 (trS q)) (e1 : n1 = (trO q).length) (e2 : n2 = (trS q).length) (e3 : n1 = n2) (h20 : n1 ≤ 20) :
    newQ m (AnsRun m asked q) (.tuple #[.agg #[.slice (some ⟨i1, 0, none⟩) n1 1, .slice (some ⟨i2, 0, none⟩) n2 1, .int .i64 s], .bool b]) M := by
  subst hb hs e3
  obtain ⟨n0, rfl, h0⟩ := h
  exact ⟨n0, rfl, h0, h0, i1, i2, n1, rfl, h1, h2, o1.back h1, o2.back h2, e1, e2, h20⟩
theorem bld_tr {A B : Option Addr} {n c k d : Nat} : bldA [.slice none 0 0, .slice none 0 0, .int .i64 0] [(0, 1, .slice A n c), (1, 1, .slice B k d)] = some (.agg #[.slice A n c, .slice B k d, .int .i64 0]) := rfl
theorem l1Least11_rc (m : Mem) (a b : Int) : RC Try.prog 128 [.int .i64 a, .int .i64 b] m fun r new => r = .int .i64 (min a b) ∧ new = [] := by
  refine rc_of_run mixed ok_spec_l1Least (by simp) (go_start _ _ _ ?_)
  by_cases h : a < b
  · simp (config := {implicitDefEqProofs := false, maxDischargeDepth := 20}) (disch := first | omega | (simp only [lenE]; done) | (simp only [lenE]; omega) | rfl | (simp only [lenE, markR_len]; done) | (simp only [lenE, markR_len]; omega)) only [runE, mapE, listE, initT_5, initT_6, initT_7, initT_8, resV, oneV, binA, unA, reduceCtorEq, Nat.reduceEqDiff, Nat.reduceAdd, Nat.reduceLT, Nat.reduceLeDiff, Nat.reduceMul, Nat.reduceSub, ↓reduceIte, decide_true, decide_false, Bool.true_eq_false, Bool.false_eq_true, Bool.not_true, Bool.not_false, if_true, if_false, and_true, true_and, memE, celE, w64, Nat.zero_add, Nat.add_zero, Nat.mul_one, putL, and_self, ldn, c_spec_l1Least, r_spec_l1Least, h]
    exact newQ_nil ⟨by congr 1; omega, rfl⟩
  · simp (config := {implicitDefEqProofs := false, maxDischargeDepth := 20}) (disch := first | omega | (simp only [lenE]; done) | (simp only [lenE]; omega) | rfl | (simp only [lenE, markR_len]; done) | (simp only [lenE, markR_len]; omega)) only [runE, mapE, listE, initT_5, initT_6, initT_7, initT_8, resV, oneV, binA, unA, reduceCtorEq, Nat.reduceEqDiff, Nat.reduceAdd, Nat.reduceLT, Nat.reduceLeDiff, Nat.reduceMul, Nat.reduceSub, ↓reduceIte, decide_true, decide_false, Bool.true_eq_false, Bool.false_eq_true, Bool.not_true, Bool.not_false, if_true, if_false, and_true, true_and, memE, celE, w64, Nat.zero_add, Nat.add_zero, Nat.mul_one, putL, and_self, ldn, c_spec_l1Least, r_spec_l1Least, h]
    exact newQ_nil ⟨by congr 1; omega, rfl⟩
theorem ruleA_yes {f : Fl} {r : Rl} (h : ruleOk f r = true) : ruleA f r = ordR r f.pos ∧ toldO r f 0 = some (ordR r f.pos) ∧ f.good = true ∧ r.good = true ∧ 0 ≤ ordR r f.pos ∧ ordR r f.pos ≤ 40 := by
  have h' := h
  simp only [ruleOk, Bool.and_eq_true, decide_eq_true_eq] at h'
  exact ⟨by unfold ruleA; rw [if_pos h], by unfold toldO; rw [if_pos h], h'.1.1, h'.1.2, ordR_nonneg (goodR_iff.1 h'.1.2) _, h'.2⟩
theorem l11Run_rc (m : Mem) (v av : Value) (f : Fl) (r : Rl) (asked : List Int) (h : FlA m v f) (hA : IntsA m av asked) :
    RC Try.prog 85 [v, rlV r, av] m (AnsRun m asked (traceC f r asked)) := by
  refine rc_of_run mixed ok_spec_l11Run (by simp) (go_start _ _ _ ?_)
  obtain ⟨u, rfl, hu⟩ := h
  obtain ⟨A0, j0, c0, rfl⟩ := hu.sl
  have hal := hA.len
  have habd := hA.bd
  simp (config := {implicitDefEqProofs := false, maxDischargeDepth := 20}) (disch := first | omega | (simp only [lenE]; done) | (simp only [lenE]; omega) | rfl | (simp only [lenE, markR_len]; done) | (simp only [lenE, markR_len]; omega)) only [runE, mapE, listE, initT_5, initT_6, initT_7, initT_8, resV, oneV, binA, unA, reduceCtorEq, Nat.reduceEqDiff, Nat.reduceAdd, Nat.reduceLT, Nat.reduceLeDiff, Nat.reduceMul, Nat.reduceSub, ↓reduceIte, decide_true, decide_false, Bool.true_eq_false, Bool.false_eq_true, Bool.not_true, Bool.not_false, if_true, if_false, and_true, true_and, memE, celE, w64, Nat.zero_add, Nat.add_zero, Nat.mul_one, putL, and_self, ldn, c_spec_l11Run, r_spec_l11Run, rlV, bsl_none, bld_tr, stP_agg3p, onesB_sl]
  obtain ⟨E, hE⟩ : ∃ E, E = roM m ++ [⟨.own, FT, [.int .i64 f.stock, .slice A0 j0 c0]⟩] ++ [⟨.own, RT, [.int .i64 r.kind, .int .i64 r.low, .int .i64 r.high]⟩] ++ [⟨.own, TR, [.slice none 0 0, .slice none 0 0, .int .i64 0]⟩] ++ [⟨.own, 3, []⟩] ++ [⟨.own, 3, []⟩] ++ [⟨.own, TR, [.slice (some ⟨m.length + 3, 0, none⟩) 0 1, .slice (some ⟨m.length + 4, 0, none⟩) 0 1, .int .i64 0]⟩] := ⟨_, rfl⟩
  have hX : Ext m E := by rw [hE]; exact ((((((Ext.refl m).one _ _).one _ _).one _ _).one _ _).one _ _).one _ _
  have LE : E.length = m.length + 6 := by rw [hE]; simp [roM_len]
  have b1 : OwnB E m.length FT [.int .i64 f.stock, .slice A0 j0 c0] := by rw [hE]; exact (((((OwnB.here (roM_len m).symm).ext _).ext _).ext _).ext _).ext _
  have b2 : OwnB E (m.length + 1) RT [.int .i64 r.kind, .int .i64 r.low, .int .i64 r.high] := by rw [hE]; exact ((((OwnB.here (by simp [roM_len])).ext _).ext _).ext _).ext _
  have b3 : OwnB E (m.length + 2) TR [.slice none 0 0, .slice none 0 0, .int .i64 0] := by rw [hE]; exact (((OwnB.here (by simp [roM_len])).ext _).ext _).ext _
  have b4 : OwnR E (m.length + 3) [] := by rw [hE]; exact ((OwnR.end' (l := []) (by simp [roM_len])).ext _).ext _
  have b5 : OwnR E (m.length + 4) [] := by rw [hE]; exact (OwnR.end' (l := []) (by simp [roM_len])).ext _
  have b6 : OwnB E (m.length + 5) TR [.slice (some ⟨m.length + 3, 0, none⟩) 0 1, .slice (some ⟨m.length + 4, 0, none⟩) 0 1, .int .i64 0] := by rw [hE]; exact OwnB.here (by simp [roM_len])
  try rw [← hE]
  clear hE
  try simp (config := {implicitDefEqProofs := false, maxDischargeDepth := 20}) (disch := first | omega | (simp only [lenE]; done) | (simp only [lenE]; omega) | rfl | (simp only [lenE, markR_len]; done) | (simp only [lenE, markR_len]; omega)) only [runE, mapE, listE, initT_5, initT_6, initT_7, initT_8, resV, oneV, binA, unA, reduceCtorEq, Nat.reduceEqDiff, Nat.reduceAdd, Nat.reduceLT, Nat.reduceLeDiff, Nat.reduceMul, Nat.reduceSub, ↓reduceIte, decide_true, decide_false, Bool.true_eq_false, Bool.false_eq_true, Bool.not_true, Bool.not_false, if_true, if_false, and_true, true_and, memE, celE, w64, Nat.zero_add, Nat.add_zero, Nat.mul_one, putL, and_self, ldn, b1.mk2']
  have no : ∀ (M : Mem) (i1 i2 : Nat), Ext m M → traceC f r asked = none → m.length ≤ i1 → m.length ≤ i2 → OwnR M i1 [] → OwnR M i2 [] → newQ m (AnsRun m asked (traceC f r asked)) (.tuple #[.agg #[.slice (some ⟨i1, 0, none⟩) 0 1, .slice (some ⟨i2, 0, none⟩) 0 1, .int .i64 0], .bool false]) M := fun M i1 i2 hM hr h1 h2 o1 o2 => by
    rw [hr]
    exact ext_run hM rfl rfl h1 h2 o1 o2 rfl rfl rfl (by omega)
  have hKE := hX.keeps
  have stF : ∀ (M : Mem), OwnB M (m.length + 2) TR [.slice none 0 0, .slice none 0 0, .int .i64 0] → stA M (m.length + 2) 0 [.slice (some ⟨m.length + 3, 0, none⟩) 0 1, .slice (some ⟨m.length + 4, 0, none⟩) 0 1, .int .i64 0] = some (M.set (m.length + 2) ⟨.own, TR, [.slice (some ⟨m.length + 3, 0, none⟩) 0 1, .slice (some ⟨m.length + 4, 0, none⟩) 0 1, .int .i64 0]⟩) := fun M hb => hb.st (by simp) rfl
  have fail0 : ∀ (M : Mem), Ext m M → OwnB M (m.length + 2) TR [.slice none 0 0, .slice none 0 0, .int .i64 0] → OwnR M (m.length + 3) [] → OwnR M (m.length + 4) [] → traceC f r asked = none → newQ m (AnsRun m asked (traceC f r asked)) (.tuple #[.agg #[.slice (some ⟨m.length + 3, 0, none⟩) 0 1, .slice (some ⟨m.length + 4, 0, none⟩) 0 1, .int .i64 0], .bool false]) (M.set (m.length + 2) ⟨.own, TR, [.slice (some ⟨m.length + 3, 0, none⟩) 0 1, .slice (some ⟨m.length + 4, 0, none⟩) 0 1, .int .i64 0]⟩) := fun M hM hb h3 h4 hr =>
    no _ _ _ (hM.put (by omega) _ _) hr (by omega) (by omega) (h3.kept hb (by decide) _) (h4.kept hb (by decide) _)
  refine callH_rc (l11Flow_rc _ _ f ⟨_, rfl, hKE.ints hu⟩) ?_
  rintro r1 n1 ⟨rfl, hn1⟩
  have hX1 := hX.app hn1
  obtain ⟨M1, hM1⟩ : ∃ M1, M1 = E ++ n1 := ⟨_, rfl⟩
  have hXX : Ext m M1 := by rw [hM1]; exact hX1
  have c1 : OwnB M1 m.length FT [.int .i64 f.stock, .slice A0 j0 c0] := by rw [hM1]; exact b1.ext _
  have c2 : OwnB M1 (m.length + 1) RT [.int .i64 r.kind, .int .i64 r.low, .int .i64 r.high] := by rw [hM1]; exact b2.ext _
  have c3 : OwnB M1 (m.length + 2) TR [.slice none 0 0, .slice none 0 0, .int .i64 0] := by rw [hM1]; exact b3.ext _
  have c4 : OwnR M1 (m.length + 3) [] := by rw [hM1]; exact b4.ext _
  have c5 : OwnR M1 (m.length + 4) [] := by rw [hM1]; exact b5.ext _
  have c6 : OwnB M1 (m.length + 5) TR [.slice (some ⟨m.length + 3, 0, none⟩) 0 1, .slice (some ⟨m.length + 4, 0, none⟩) 0 1, .int .i64 0] := by rw [hM1]; exact b6.ext _
  rw [← hM1]
  clear hM1 hX1
  cases hf : f.good with
  | false =>
    have p2 : OwnB (M1.set (m.length + 2) ⟨.own, TR, [.slice (some ⟨m.length + 3, 0, none⟩) 0 1, .slice (some ⟨m.length + 4, 0, none⟩) 0 1, .int .i64 0]⟩) (m.length + 2) TR [.slice (some ⟨m.length + 3, 0, none⟩) 0 1, .slice (some ⟨m.length + 4, 0, none⟩) 0 1, .int .i64 0] := c3.set_self _ _
    simp (config := {implicitDefEqProofs := false, maxDischargeDepth := 20}) (disch := first | omega | (simp only [lenE]; done) | (simp only [lenE]; omega) | rfl | (simp only [lenE, markR_len]; done) | (simp only [lenE, markR_len]; omega)) only [runE, mapE, listE, initT_5, initT_6, initT_7, initT_8, resV, oneV, binA, unA, reduceCtorEq, Nat.reduceEqDiff, Nat.reduceAdd, Nat.reduceLT, Nat.reduceLeDiff, Nat.reduceMul, Nat.reduceSub, ↓reduceIte, decide_true, decide_false, Bool.true_eq_false, Bool.false_eq_true, Bool.not_true, Bool.not_false, if_true, if_false, and_true, true_and, memE, celE, w64, Nat.zero_add, Nat.add_zero, Nat.mul_one, putL, and_self, ldn, c6.mk3', stP_agg3p, putL, stF _ c3, p2.mk3']
    exact fail0 _ hXX c3 c4 c5 (by unfold traceC; simp [hf])
  | true =>
    simp (config := {implicitDefEqProofs := false, maxDischargeDepth := 20}) (disch := first | omega | (simp only [lenE]; done) | (simp only [lenE]; omega) | rfl | (simp only [lenE, markR_len]; done) | (simp only [lenE, markR_len]; omega)) only [runE, mapE, listE, initT_5, initT_6, initT_7, initT_8, resV, oneV, binA, unA, reduceCtorEq, Nat.reduceEqDiff, Nat.reduceAdd, Nat.reduceLT, Nat.reduceLeDiff, Nat.reduceMul, Nat.reduceSub, ↓reduceIte, decide_true, decide_false, Bool.true_eq_false, Bool.false_eq_true, Bool.not_true, Bool.not_false, if_true, if_false, and_true, true_and, memE, celE, w64, Nat.zero_add, Nat.add_zero, Nat.mul_one, putL, and_self, ldn, c2.mk3']
    refine callH_rc (l11Rule_rc _ r) ?_
    rintro r1 n2 ⟨rfl, hn2⟩
    obtain ⟨M2, hM2⟩ : ∃ M2, M2 = M1 ++ n2 := ⟨_, rfl⟩
    replace hXX : Ext m M2 := by rw [hM2]; exact hXX.app hn2
    replace c1 : OwnB M2 m.length FT [.int .i64 f.stock, .slice A0 j0 c0] := by rw [hM2]; exact c1.ext _
    replace c2 : OwnB M2 (m.length + 1) RT [.int .i64 r.kind, .int .i64 r.low, .int .i64 r.high] := by rw [hM2]; exact c2.ext _
    replace c3 : OwnB M2 (m.length + 2) TR [.slice none 0 0, .slice none 0 0, .int .i64 0] := by rw [hM2]; exact c3.ext _
    replace c4 : OwnR M2 (m.length + 3) [] := by rw [hM2]; exact c4.ext _
    replace c5 : OwnR M2 (m.length + 4) [] := by rw [hM2]; exact c5.ext _
    replace c6 : OwnB M2 (m.length + 5) TR [.slice (some ⟨m.length + 3, 0, none⟩) 0 1, .slice (some ⟨m.length + 4, 0, none⟩) 0 1, .int .i64 0] := by rw [hM2]; exact c6.ext _
    rw [← hM2]
    clear hM2
    cases hg : r.good with
    | false =>
      have p2 : OwnB (M2.set (m.length + 2) ⟨.own, TR, [.slice (some ⟨m.length + 3, 0, none⟩) 0 1, .slice (some ⟨m.length + 4, 0, none⟩) 0 1, .int .i64 0]⟩) (m.length + 2) TR [.slice (some ⟨m.length + 3, 0, none⟩) 0 1, .slice (some ⟨m.length + 4, 0, none⟩) 0 1, .int .i64 0] := c3.set_self _ _
      simp (config := {implicitDefEqProofs := false, maxDischargeDepth := 20}) (disch := first | omega | (simp only [lenE]; done) | (simp only [lenE]; omega) | rfl | (simp only [lenE, markR_len]; done) | (simp only [lenE, markR_len]; omega)) only [runE, mapE, listE, initT_5, initT_6, initT_7, initT_8, resV, oneV, binA, unA, reduceCtorEq, Nat.reduceEqDiff, Nat.reduceAdd, Nat.reduceLT, Nat.reduceLeDiff, Nat.reduceMul, Nat.reduceSub, ↓reduceIte, decide_true, decide_false, Bool.true_eq_false, Bool.false_eq_true, Bool.not_true, Bool.not_false, if_true, if_false, and_true, true_and, memE, celE, w64, Nat.zero_add, Nat.add_zero, Nat.mul_one, putL, and_self, ldn, c6.mk3', stP_agg3p, putL, stF _ c3, p2.mk3']
      exact fail0 _ hXX c3 c4 c5 (by unfold traceC; simp [hg])
    | true =>
      simp (config := {implicitDefEqProofs := false, maxDischargeDepth := 20}) (disch := first | omega | (simp only [lenE]; done) | (simp only [lenE]; omega) | rfl | (simp only [lenE, markR_len]; done) | (simp only [lenE, markR_len]; omega)) only [runE, mapE, listE, initT_5, initT_6, initT_7, initT_8, resV, oneV, binA, unA, reduceCtorEq, Nat.reduceEqDiff, Nat.reduceAdd, Nat.reduceLT, Nat.reduceLeDiff, Nat.reduceMul, Nat.reduceSub, ↓reduceIte, decide_true, decide_false, Bool.true_eq_false, Bool.false_eq_true, Bool.not_true, Bool.not_false, if_true, if_false, and_true, true_and, memE, celE, w64, Nat.zero_add, Nat.add_zero, Nat.mul_one, putL, and_self, ldn]
      refine callH_rc (l11Numbers_rc _ av asked 20 20 20 rfl (hXX.keeps.ints hA)) ?_
      rintro r1 n3 ⟨rfl, rfl⟩
      rw [List.append_nil]
      cases hq : numsB asked 20 20 with
      | false =>
        have p2 : OwnB (M2.set (m.length + 2) ⟨.own, TR, [.slice (some ⟨m.length + 3, 0, none⟩) 0 1, .slice (some ⟨m.length + 4, 0, none⟩) 0 1, .int .i64 0]⟩) (m.length + 2) TR [.slice (some ⟨m.length + 3, 0, none⟩) 0 1, .slice (some ⟨m.length + 4, 0, none⟩) 0 1, .int .i64 0] := c3.set_self _ _
        simp (config := {implicitDefEqProofs := false, maxDischargeDepth := 20}) (disch := first | omega | (simp only [lenE]; done) | (simp only [lenE]; omega) | rfl | (simp only [lenE, markR_len]; done) | (simp only [lenE, markR_len]; omega)) only [runE, mapE, listE, initT_5, initT_6, initT_7, initT_8, resV, oneV, binA, unA, reduceCtorEq, Nat.reduceEqDiff, Nat.reduceAdd, Nat.reduceLT, Nat.reduceLeDiff, Nat.reduceMul, Nat.reduceSub, ↓reduceIte, decide_true, decide_false, Bool.true_eq_false, Bool.false_eq_true, Bool.not_true, Bool.not_false, if_true, if_false, and_true, true_and, memE, celE, w64, Nat.zero_add, Nat.add_zero, Nat.mul_one, putL, and_self, ldn, c6.mk3', stP_agg3p, putL, stF _ c3, p2.mk3']
        exact fail0 _ hXX c3 c4 c5 (by unfold traceC; simp [hq])
      | true =>
        obtain ⟨h20, hask⟩ := numsB_iff.1 hq
        have eR : traceC f r asked = crs (toldO r) asked f asked.length := by unfold traceC; rw [if_pos (by simp [hf, hg, hq])]
        have l1 := c1.lt
        have l6 := c6.lt
        simp (config := {implicitDefEqProofs := false, maxDischargeDepth := 20}) (disch := first | omega | (simp only [lenE]; done) | (simp only [lenE]; omega) | rfl | (simp only [lenE, markR_len]; done) | (simp only [lenE, markR_len]; omega)) only [runE, mapE, listE, initT_5, initT_6, initT_7, initT_8, resV, oneV, binA, unA, reduceCtorEq, Nat.reduceEqDiff, Nat.reduceAdd, Nat.reduceLT, Nat.reduceLeDiff, Nat.reduceMul, Nat.reduceSub, ↓reduceIte, decide_true, decide_false, Bool.true_eq_false, Bool.false_eq_true, Bool.not_true, Bool.not_false, if_true, if_false, and_true, true_and, memE, celE, w64, Nat.zero_add, Nat.add_zero, Nat.mul_one, putL, and_self, ldn, c1.mk2', stP_agg2f, (hXX.keeps.ints hu).one]
        obtain ⟨M, hM⟩ : ∃ M, M = M2 ++ [⟨.own, FT, [.int .i64 f.stock, .slice A0 j0 c0]⟩] := ⟨_, rfl⟩
        obtain ⟨c9, hc9⟩ : ∃ c9, c9 = M2.length := ⟨_, rfl⟩
        have hXM : Ext m M := by rw [hM]; exact hXX.one _ _
        have w2 : OwnB M (m.length + 1) RT [.int .i64 r.kind, .int .i64 r.low, .int .i64 r.high] := by rw [hM]; exact c2.ext _
        have w3 : OwnB M (m.length + 2) TR [.slice none 0 0, .slice none 0 0, .int .i64 0] := by rw [hM]; exact c3.ext _
        have w4 : OwnR M (m.length + 3) [] := by rw [hM]; exact c4.ext _
        have w5 : OwnR M (m.length + 4) [] := by rw [hM]; exact c5.ext _
        have w6 : OwnB M (m.length + 5) TR [.slice (some ⟨m.length + 3, 0, none⟩) 0 1, .slice (some ⟨m.length + 4, 0, none⟩) 0 1, .int .i64 0] := by rw [hM]; exact c6.ext _
        have w9 : OwnB M c9 FT [.int .i64 f.stock, .slice A0 j0 c0] := by rw [hM]; exact OwnB.here hc9
        have hc9g : m.length + 5 < c9 := by omega
        try rw [← hM]
        clear hM
        refine loop_inv mixed (fun st => ∃ (k : Nat) (M : Mem) (i1 i2 : Nat) (A : Option Addr) (j c : Nat) (C : List (Int × Fl)), k ≤ asked.length ∧ st.m = M ∧ Ext m M ∧ m.length + 3 ≤ i1 ∧ m.length + 3 ≤ i2 ∧ i1 ≠ i2 ∧ OwnR M i1 (ordersC C) ∧ OwnR M i2 (stocksC C) ∧ crs (toldO r) asked f k = some C ∧ OwnB M (m.length + 1) RT [.int .i64 r.kind, .int .i64 r.low, .int .i64 r.high] ∧ OwnB M (m.length + 2) TR [.slice none 0 0, .slice none 0 0, .int .i64 0] ∧ OwnB M (m.length + 5) TR [.slice (some ⟨i1, 0, none⟩) k 1, .slice (some ⟨i2, 0, none⟩) k 1, .int .i64 (srvC C asked k)] ∧ OwnB M c9 FT [.int .i64 (C.getD k DayF).2.stock, .slice A j c] ∧
            ((∃ lo hi, IntsP (C.getD k DayF).2.under lo hi M (.slice A j c) ∧ m.length ≤ lo ∧ hi ≤ M.length ∧ (i1 < lo ∨ hi ≤ i1) ∧ (i2 < lo ∨ hi ≤ i2)) ∨ IntsA m (.slice A j c) (C.getD k DayF).2.under) ∧
            st.t 2 = av ∧ st.t 4 = .pointer (some ⟨m.length + 1, 0, none⟩) ∧ st.t 6 = .pointer (some ⟨m.length + 2, 0, none⟩) ∧ st.t 8 = .pointer (some ⟨m.length + 5, 0, none⟩) ∧ st.t 9 = .pointer (some ⟨c9, 0, none⟩) ∧ st.t 10 = .int .i64 k) (fun st => asked.length - (zOf (st.t 10)).toNat)
          ⟨0, _, m.length + 3, m.length + 4, _, _, _, [(0, f)], by omega, rfl, hXM, by omega, by omega, by omega, w4, w5, rfl, w2, w3, w6, w9, .inr hu, rfl, rfl, rfl, rfl, by first | rfl | (rw [hc9]; rfl), rfl⟩ ?_
        rintro st ⟨k, M, i1, i2, A, j, c, C, hk, tm, hx, g1, g2, g12, o1, o2, hC, q2, q3, q6, q9, hU, t2, t4, t6, t8, t9, t10⟩
        have hCl := crs_len k hC
        obtain ⟨hsl, hol⟩ := drop1_len hCl
        have hAM := hx.keeps.ints hA
        have hlM := hx.len
        have hUM : IntsA M (.slice A j c) (C.getD k DayF).2.under := by
          rcases hU with ⟨_, _, h, _⟩ | h
          · exact h.in
          · exact hx.keeps.ints h
        by_cases hlt : k < asked.length
        · have hlt' : (k : Int) < asked.length := by omega
          have gd2 := hAM.ld k hlt
          obtain ⟨aa, haa⟩ : ∃ aa, aa = asked.getD k 0 := ⟨_, rfl⟩
          obtain ⟨nf, hnf⟩ : ∃ nf, nf = (C.getD k DayF).2 := ⟨_, rfl⟩
          have haab := hask _ (getD_mem11 hlt)
          rw [← haa] at gd2 haab
          rw [← hnf] at q9 hUM
          simp (config := {implicitDefEqProofs := false, maxDischargeDepth := 20}) (disch := first | omega | (simp only [lenE]; done) | (simp only [lenE]; omega) | rfl | (simp only [lenE, markR_len]; done) | (simp only [lenE, markR_len]; omega)) only [runE, mapE, listE, initT_5, initT_6, initT_7, initT_8, resV, oneV, binA, unA, reduceCtorEq, Nat.reduceEqDiff, Nat.reduceAdd, Nat.reduceLT, Nat.reduceLeDiff, Nat.reduceMul, Nat.reduceSub, ↓reduceIte, decide_true, decide_false, Bool.true_eq_false, Bool.false_eq_true, Bool.not_true, Bool.not_false, if_true, if_false, and_true, true_and, memE, celE, w64, Nat.zero_add, Nat.add_zero, Nat.mul_one, putL, and_self, ldn, tm, t2, t4, t6, t8, t9, t10, hAM.len, hlt', q9.mk2', q2.mk3']
          refine callH_rc (specRuleOrder_rc _ _ nf r ⟨_, rfl, hUM⟩) ?_
          rintro r1 n5 ⟨rfl, hn5⟩
          obtain ⟨N, hN⟩ : ∃ N, N = M ++ n5 := ⟨_, rfl⟩
          have hxN : Ext m N := by rw [hN]; exact hx.app hn5
          have LN : M.length ≤ N.length := by rw [hN]; simp
          have r1' : OwnR N i1 (ordersC C) := by rw [hN]; exact o1.ext _
          have r2' : OwnR N i2 (stocksC C) := by rw [hN]; exact o2.ext _
          have s2 : OwnB N (m.length + 1) RT [.int .i64 r.kind, .int .i64 r.low, .int .i64 r.high] := by rw [hN]; exact q2.ext _
          have s3 : OwnB N (m.length + 2) TR [.slice none 0 0, .slice none 0 0, .int .i64 0] := by rw [hN]; exact q3.ext _
          have s6 : OwnB N (m.length + 5) TR [.slice (some ⟨i1, 0, none⟩) k 1, .slice (some ⟨i2, 0, none⟩) k 1, .int .i64 (srvC C asked k)] := by rw [hN]; exact q6.ext _
          have s9 : OwnB N c9 FT [.int .i64 nf.stock, .slice A j c] := by rw [hN]; exact q9.ext _
          have hUN : IntsA N (.slice A j c) nf.under := by rw [hN]; exact hUM.ext _
          have hAN := hxN.keeps.ints hA
          have hl1 := o1.lt
          have hl2 := o2.lt
          have hl9 := q9.lt
          have hl6 := q6.lt
          rw [← hN]
          clear hN
          have failN : ∀ (N : Mem), Ext m N → OwnB N (m.length + 2) TR [.slice none 0 0, .slice none 0 0, .int .i64 0] → traceC f r asked = none → newQ m (AnsRun m asked (traceC f r asked)) (.tuple #[.agg #[.slice (some ⟨N.length, 0, none⟩) 0 1, .slice (some ⟨N.length + 1, 0, none⟩) 0 1, .int .i64 0], .bool false]) ((N ++ [(⟨.own, 3, []⟩ : Blk)] ++ [(⟨.own, 3, []⟩ : Blk)]).set (m.length + 2) ⟨.own, TR, [.slice (some ⟨N.length, 0, none⟩) 0 1, .slice (some ⟨N.length + 1, 0, none⟩) 0 1, .int .i64 0]⟩) := fun N hxN s3 hno => by
            have y3 := (s3.ext [(⟨.own, 3, []⟩ : Blk)]).ext [(⟨.own, 3, []⟩ : Blk)]
            have hln := hxN.len
            exact no _ N.length (N.length + 1) (((hxN.one _ _).one _ _).put (by omega) _ _) hno hln (by omega) (OwnR.kept ((OwnR.end' (l := []) rfl).ext _) y3 (by decide) _) (OwnR.kept (OwnR.end' (l := []) (by simp)) y3 (by decide) _)
          cases hro : ruleOk nf r with
          | false =>
            have hto : toldO r (C.getD k DayF).2 k = none := by unfold toldO; rw [← hnf, hro]; rfl
            have hno : traceC f r asked = none := by rw [eR]; exact crs_none (crs_stop' hC hto) (by omega)
            have y3 := (s3.ext [(⟨.own, 3, []⟩ : Blk)]).ext [(⟨.own, 3, []⟩ : Blk)]
            have sy := y3.st (off := 0) (vs := [.slice (some ⟨N.length, 0, none⟩) 0 1, .slice (some ⟨N.length + 1, 0, none⟩) 0 1, .int .i64 0]) (by simp) rfl
            have py : OwnB ((N ++ [(⟨.own, 3, []⟩ : Blk)] ++ [(⟨.own, 3, []⟩ : Blk)]).set (m.length + 2) ⟨.own, TR, [.slice (some ⟨N.length, 0, none⟩) 0 1, .slice (some ⟨N.length + 1, 0, none⟩) 0 1, .int .i64 0]⟩) (m.length + 2) TR [.slice (some ⟨N.length, 0, none⟩) 0 1, .slice (some ⟨N.length + 1, 0, none⟩) 0 1, .int .i64 0] := y3.set_self _ _
            simp (config := {implicitDefEqProofs := false, maxDischargeDepth := 20}) (disch := first | omega | (simp only [lenE]; done) | (simp only [lenE]; omega) | rfl | (simp only [lenE, markR_len]; done) | (simp only [lenE, markR_len]; omega)) only [runE, mapE, listE, initT_5, initT_6, initT_7, initT_8, resV, oneV, binA, unA, reduceCtorEq, Nat.reduceEqDiff, Nat.reduceAdd, Nat.reduceLT, Nat.reduceLeDiff, Nat.reduceMul, Nat.reduceSub, ↓reduceIte, decide_true, decide_false, Bool.true_eq_false, Bool.false_eq_true, Bool.not_true, Bool.not_false, if_true, if_false, and_true, true_and, memE, celE, w64, Nat.zero_add, Nat.add_zero, Nat.mul_one, putL, and_self, ldn, tm, t2, t4, t6, t8, t9, t10, ext_2_0, ext_2_1, bsl_none, bld_tr, stP_agg3p, putL, sy, py.mk3']
            exact failN N hxN s3 hno
          | true =>
            obtain ⟨hra, -, hgn, hgr, ho0, ho40⟩ := ruleA_yes hro
            obtain ⟨oo, hoo⟩ : ∃ oo, oo = ordR r nf.pos := ⟨_, rfl⟩
            rw [← hoo] at hra ho0 ho40
            have hto : toldO r (C.getD k DayF).2 k = some oo := by unfold toldO; rw [← hnf, hro, hoo]; rfl
            rw [hra]
            have hF := goodF_iff.1 hgn
            have hdst := dayL_st hF ⟨ho0, ho40⟩ haab
            have hun := under_bd hF ⟨ho0, ho40⟩ 0
            have hfs := hF.st
            obtain ⟨bf, hbf⟩ : ∃ bf, bf = nf.stock + (nf.under ++ [oo]).getD 0 0 := ⟨_, rfl⟩
            have hbs : (dayL nf oo aa).stock = bf - aa := by rw [hbf]; rfl
            simp (config := {implicitDefEqProofs := false, maxDischargeDepth := 20}) (disch := first | omega | (simp only [lenE]; done) | (simp only [lenE]; omega) | rfl | (simp only [lenE, markR_len]; done) | (simp only [lenE, markR_len]; omega)) only [runE, mapE, listE, initT_5, initT_6, initT_7, initT_8, resV, oneV, binA, unA, reduceCtorEq, Nat.reduceEqDiff, Nat.reduceAdd, Nat.reduceLT, Nat.reduceLeDiff, Nat.reduceMul, Nat.reduceSub, ↓reduceIte, decide_true, decide_false, Bool.true_eq_false, Bool.false_eq_true, Bool.not_true, Bool.not_false, if_true, if_false, and_true, true_and, memE, celE, w64, Nat.zero_add, Nat.add_zero, Nat.mul_one, putL, and_self, ldn, tm, t2, t4, t6, t8, t9, t10, ext_2_0, ext_2_1, s9.mk2', hAN.at_ k hlt, hAN.ld k hlt, ← haa]
            with_reducible refine ⟨?_, ?_⟩
            · refine rcallH_rc (l11Day_rc _ _ nf oo aa ⟨_, rfl, hUN⟩ hF ⟨ho0, ho40⟩ haab) ?_
              rintro r1 nn ⟨hnn, w, rfl, hw⟩
              rw [← hbf]
              obtain ⟨uw, rfl, hw2⟩ := hw.now
              obtain ⟨B, kk, dd, rfl⟩ := hw2.in.sl
              obtain ⟨E2, hE2⟩ : ∃ E2, E2 = N ++ nn := ⟨_, rfl⟩
              have hXE : Ext m E2 := by rw [hE2]; exact hxN.app hnn
              have z1 : OwnR E2 i1 (ordersC C) := by rw [hE2]; exact r1'.ext _
              have z2 : OwnR E2 i2 (stocksC C) := by rw [hE2]; exact r2'.ext _
              have zr : OwnB E2 (m.length + 1) RT [.int .i64 r.kind, .int .i64 r.low, .int .i64 r.high] := by rw [hE2]; exact s2.ext _
              have z3 : OwnB E2 (m.length + 2) TR [.slice none 0 0, .slice none 0 0, .int .i64 0] := by rw [hE2]; exact s3.ext _
              have z6 : OwnB E2 (m.length + 5) TR [.slice (some ⟨i1, 0, none⟩) k 1, .slice (some ⟨i2, 0, none⟩) k 1, .int .i64 (srvC C asked k)] := by rw [hE2]; exact s6.ext _
              have z9 : OwnB E2 c9 FT [.int .i64 nf.stock, .slice A j c] := by rw [hE2]; exact s9.ext _
              have LE2 : E2.length = N.length + nn.length := by rw [hE2, List.length_append]
              rw [← LE2, ← hE2] at hw2
              have hw3 : IntsP (dayL nf oo aa).under N.length E2.length E2 (.slice B kk dd) := hw2
              rw [← hE2]
              clear hE2 hw hw2
              simp (config := {implicitDefEqProofs := false, maxDischargeDepth := 20}) (disch := first | omega | (simp only [lenE]; done) | (simp only [lenE]; omega) | rfl | (simp only [lenE, markR_len]; done) | (simp only [lenE, markR_len]; omega)) only [runE, mapE, listE, initT_5, initT_6, initT_7, initT_8, resV, oneV, binA, unA, reduceCtorEq, Nat.reduceEqDiff, Nat.reduceAdd, Nat.reduceLT, Nat.reduceLeDiff, Nat.reduceMul, Nat.reduceSub, ↓reduceIte, decide_true, decide_false, Bool.true_eq_false, Bool.false_eq_true, Bool.not_true, Bool.not_false, if_true, if_false, and_true, true_and, memE, celE, w64, Nat.zero_add, Nat.add_zero, Nat.mul_one, putL, and_self, ldn, ext_2_0, ext_2_1, stP_agg2f, onesB_sl]
              obtain ⟨E3, hE3⟩ : ∃ E3, E3 = E2 ++ [⟨.own, FT, [.int .i64 (dayL nf oo aa).stock, .slice B kk dd]⟩] := ⟨_, rfl⟩
              obtain ⟨c13, hc13⟩ : ∃ c13, c13 = E2.length := ⟨_, rfl⟩
              have hXE3 : Ext m E3 := by rw [hE3]; exact hXE.one _ _
              replace z1 : OwnR E3 i1 (ordersC C) := by rw [hE3]; exact z1.ext _
              replace z2 : OwnR E3 i2 (stocksC C) := by rw [hE3]; exact z2.ext _
              replace zr : OwnB E3 (m.length + 1) RT [.int .i64 r.kind, .int .i64 r.low, .int .i64 r.high] := by rw [hE3]; exact zr.ext _
              replace z3 : OwnB E3 (m.length + 2) TR [.slice none 0 0, .slice none 0 0, .int .i64 0] := by rw [hE3]; exact z3.ext _
              replace z6 : OwnB E3 (m.length + 5) TR [.slice (some ⟨i1, 0, none⟩) k 1, .slice (some ⟨i2, 0, none⟩) k 1, .int .i64 (srvC C asked k)] := by rw [hE3]; exact z6.ext _
              replace z9 : OwnB E3 c9 FT [.int .i64 nf.stock, .slice A j c] := by rw [hE3]; exact z9.ext _
              have z13 : OwnB E3 c13 FT [.int .i64 (dayL nf oo aa).stock, .slice B kk dd] := by rw [hE3]; exact OwnB.here hc13
              have zP : IntsP (dayL nf oo aa).under N.length E2.length E3 (.slice B kk dd) := by rw [hE3]; exact hw3.ext (Nat.le_refl _) _
              have LE3 : E2.length ≤ E3.length := by rw [hE3]; simp
              have hg13 : c9 < c13 := by omega
              try rw [← hE3]
              try rw [← hc13]
              clear hE3
              have hNE : N.length ≤ E2.length := by omega
              try simp (config := {implicitDefEqProofs := false, maxDischargeDepth := 20}) (disch := first | omega | (simp only [lenE]; done) | (simp only [lenE]; omega) | rfl | (simp only [lenE, markR_len]; done) | (simp only [lenE, markR_len]; omega)) only [runE, mapE, listE, initT_5, initT_6, initT_7, initT_8, resV, oneV, binA, unA, reduceCtorEq, Nat.reduceEqDiff, Nat.reduceAdd, Nat.reduceLT, Nat.reduceLeDiff, Nat.reduceMul, Nat.reduceSub, ↓reduceIte, decide_true, decide_false, Bool.true_eq_false, Bool.false_eq_true, Bool.not_true, Bool.not_false, if_true, if_false, and_true, true_and, memE, celE, w64, Nat.zero_add, Nat.add_zero, Nat.mul_one, putL, and_self, ldn, tm, t2, t4, t6, t8, t9, t10, z13.mk2']
              refine callH_rc (l11Flow_rc _ _ (dayL nf oo aa) ⟨_, rfl, zP.in⟩) ?_
              rintro r1 n6 ⟨rfl, hn6⟩
              obtain ⟨Q, hQ⟩ : ∃ Q, Q = E3 ++ n6 := ⟨_, rfl⟩
              have hXQ : Ext m Q := by rw [hQ]; exact hXE3.app hn6
              replace z1 : OwnR Q i1 (ordersC C) := by rw [hQ]; exact z1.ext _
              replace z2 : OwnR Q i2 (stocksC C) := by rw [hQ]; exact z2.ext _
              replace zr : OwnB Q (m.length + 1) RT [.int .i64 r.kind, .int .i64 r.low, .int .i64 r.high] := by rw [hQ]; exact zr.ext _
              replace z3 : OwnB Q (m.length + 2) TR [.slice none 0 0, .slice none 0 0, .int .i64 0] := by rw [hQ]; exact z3.ext _
              replace z6 : OwnB Q (m.length + 5) TR [.slice (some ⟨i1, 0, none⟩) k 1, .slice (some ⟨i2, 0, none⟩) k 1, .int .i64 (srvC C asked k)] := by rw [hQ]; exact z6.ext _
              replace z9 : OwnB Q c9 FT [.int .i64 nf.stock, .slice A j c] := by rw [hQ]; exact z9.ext _
              replace z13 : OwnB Q c13 FT [.int .i64 (dayL nf oo aa).stock, .slice B kk dd] := by rw [hQ]; exact z13.ext _
              replace zP : IntsP (dayL nf oo aa).under N.length E2.length Q (.slice B kk dd) := by rw [hQ]; exact zP.ext LE3 _
              have LQ : E3.length ≤ Q.length := by rw [hQ]; simp
              rw [← hQ]
              clear hQ
              cases hdk : (dayL nf oo aa).good with
              | false =>
                have hdn : dayOk (C.getD k DayF).2 oo (asked.getD k 0) = false := by rw [← hnf, ← haa]; simp [dayOk, hdk]
                have hno : traceC f r asked = none := by rw [eR]; exact crs_none (crs_stop hC hto hdn) (by omega)
                have y3 := (z3.ext [(⟨.own, 3, []⟩ : Blk)]).ext [(⟨.own, 3, []⟩ : Blk)]
                have sy := y3.st (off := 0) (vs := [.slice (some ⟨Q.length, 0, none⟩) 0 1, .slice (some ⟨Q.length + 1, 0, none⟩) 0 1, .int .i64 0]) (by simp) rfl
                have py : OwnB ((Q ++ [(⟨.own, 3, []⟩ : Blk)] ++ [(⟨.own, 3, []⟩ : Blk)]).set (m.length + 2) ⟨.own, TR, [.slice (some ⟨Q.length, 0, none⟩) 0 1, .slice (some ⟨Q.length + 1, 0, none⟩) 0 1, .int .i64 0]⟩) (m.length + 2) TR [.slice (some ⟨Q.length, 0, none⟩) 0 1, .slice (some ⟨Q.length + 1, 0, none⟩) 0 1, .int .i64 0] := y3.set_self _ _
                simp (config := {implicitDefEqProofs := false, maxDischargeDepth := 20}) (disch := first | omega | (simp only [lenE]; done) | (simp only [lenE]; omega) | rfl | (simp only [lenE, markR_len]; done) | (simp only [lenE, markR_len]; omega)) only [runE, mapE, listE, initT_5, initT_6, initT_7, initT_8, resV, oneV, binA, unA, reduceCtorEq, Nat.reduceEqDiff, Nat.reduceAdd, Nat.reduceLT, Nat.reduceLeDiff, Nat.reduceMul, Nat.reduceSub, ↓reduceIte, decide_true, decide_false, Bool.true_eq_false, Bool.false_eq_true, Bool.not_true, Bool.not_false, if_true, if_false, and_true, true_and, memE, celE, w64, Nat.zero_add, Nat.add_zero, Nat.mul_one, putL, and_self, ldn, tm, t2, t4, t6, t8, t9, t10, bsl_none, bld_tr, stP_agg3p, putL, sy, py.mk3']
                exact failN Q hXQ z3 hno
              | true =>
                have hdy : dayOk (C.getD k DayF).2 oo (asked.getD k 0) = true := by
                  rw [← hnf, ← haa]
                  simp only [dayOk, hgn, hdk, Bool.true_and, Bool.and_true, Bool.and_eq_true, inF_iff]
                  exact ⟨⟨ho0, ho40⟩, haab⟩
                have hsome := crs_step hC hto hdy
                rw [← haa, ← hnf] at hsome
                have d16 := el_ne z6 (by decide) z1
                have d26 := el_ne z6 (by decide) z2
                have lq1 := z1.lt
                have lq2 := z2.lt
                have lq13 := z13.lt
                have hlq := hXQ.len
                -- the order goes behind the orders
                have ha := app_num (x := oo) (id2 := Q.length) (n := k) z1 (by omega) rfl hol.symm
                obtain ⟨R0, hR0⟩ : ∃ R0, R0 = Q.set i1 deadB ++ [⟨.own, 3, [.int .i64 oo]⟩] ++ [⟨.own, 3, (ordersC C ++ [oo]).map (Value.int .i64)⟩] := ⟨_, rfl⟩
                have k6 : OwnB R0 (m.length + 5) TR [.slice (some ⟨i1, 0, none⟩) k 1, .slice (some ⟨i2, 0, none⟩) k 1, .int .i64 (srvC C asked k)] := by rw [hR0]; exact ((z6.set_ne (Ne.symm d16) _).ext _).ext _
                have st6 := k6.st (off := 0) (vs := [.slice (some ⟨Q.length + 1, 0, none⟩) (k + 1) 1]) (by simp) rfl
                have LR0 : R0.length = Q.length + 2 := by rw [hR0]; simp
                simp (config := {implicitDefEqProofs := false, maxDischargeDepth := 20}) (disch := first | omega | (simp only [lenE]; done) | (simp only [lenE]; omega) | rfl | (simp only [lenE, markR_len]; done) | (simp only [lenE, markR_len]; omega)) only [runE, mapE, listE, initT_5, initT_6, initT_7, initT_8, resV, oneV, binA, unA, reduceCtorEq, Nat.reduceEqDiff, Nat.reduceAdd, Nat.reduceLT, Nat.reduceLeDiff, Nat.reduceMul, Nat.reduceSub, ↓reduceIte, decide_true, decide_false, Bool.true_eq_false, Bool.false_eq_true, Bool.not_true, Bool.not_false, if_true, if_false, and_true, true_and, memE, celE, w64, Nat.zero_add, Nat.add_zero, Nat.mul_one, putL, and_self, ldn, tm, t2, t4, t6, t8, t9, t10, z6.mk3', bsl_one, ha, ← hR0, putL, st6]
                obtain ⟨R, hR⟩ : ∃ R, R = R0.set (m.length + 5) ⟨.own, TR, [.slice (some ⟨Q.length + 1, 0, none⟩) (k + 1) 1, .slice (some ⟨i2, 0, none⟩) k 1, .int .i64 (srvC C asked k)]⟩ := ⟨_, rfl⟩
                have hXR : Ext m R := by rw [hR, hR0]; exact (((hXQ.dead (by omega)).one _ _).one _ _).put (by omega) _ _
                have LR : R.length = Q.length + 2 := by rw [hR, List.length_set, LR0]
                have x1 : OwnR R (Q.length + 1) (ordersC C ++ [oo]) := by
                  rw [hR]
                  refine OwnR.kept ?_ k6 (by decide) _
                  rw [hR0]; exact OwnR.end' (by simp)
                have x2 : OwnR R i2 (stocksC C) := by
                  rw [hR]
                  refine OwnR.kept ?_ k6 (by decide) _
                  rw [hR0]; exact ((z2.dead g12).ext _).ext _
                have xr : OwnB R (m.length + 1) RT [.int .i64 r.kind, .int .i64 r.low, .int .i64 r.high] := by rw [hR, hR0]; exact (((zr.set_ne (by omega) _).ext _).ext _).set_ne (by omega) _
                have x3 : OwnB R (m.length + 2) TR [.slice none 0 0, .slice none 0 0, .int .i64 0] := by rw [hR, hR0]; exact (((z3.set_ne (by omega) _).ext _).ext _).set_ne (by omega) _
                have x6 : OwnB R (m.length + 5) TR [.slice (some ⟨Q.length + 1, 0, none⟩) (k + 1) 1, .slice (some ⟨i2, 0, none⟩) k 1, .int .i64 (srvC C asked k)] := by rw [hR]; exact k6.set_self _ _
                have x9 : OwnB R c9 FT [.int .i64 nf.stock, .slice A j c] := by rw [hR, hR0]; exact (((z9.set_ne (Ne.symm (el_ne z9 (by decide) z1)) _).ext _).ext _).set_ne (by omega) _
                have x13 : OwnB R c13 FT [.int .i64 (dayL nf oo aa).stock, .slice B kk dd] := by rw [hR, hR0]; exact (((z13.set_ne (Ne.symm (el_ne z13 (by decide) z1)) _).ext _).ext _).set_ne (by omega) _
                have xP : IntsP (dayL nf oo aa).under N.length E2.length R (.slice B kk dd) := by
                  rw [hR]
                  refine IntsP.other ?_ k6 (by decide) _
                  rw [hR0]
                  exact ((zP.dead (.inl (by omega)) deadB).ext (by simp; omega) _).ext (by simp; omega) _
                try rw [← hR]
                clear hR hR0 ha st6
                -- the stock behind the day goes behind the stocks
                have hb := app_num (x := (dayL nf oo aa).stock) (id2 := R.length) (n := k) x2 (by omega) rfl hsl.symm
                obtain ⟨S0, hS0⟩ : ∃ S0, S0 = R.set i2 deadB ++ [⟨.own, 3, [.int .i64 (dayL nf oo aa).stock]⟩] ++ [⟨.own, 3, (stocksC C ++ [(dayL nf oo aa).stock]).map (Value.int .i64)⟩] := ⟨_, rfl⟩
                have v6 : OwnB S0 (m.length + 5) TR [.slice (some ⟨Q.length + 1, 0, none⟩) (k + 1) 1, .slice (some ⟨i2, 0, none⟩) k 1, .int .i64 (srvC C asked k)] := by rw [hS0]; exact ((x6.set_ne (Ne.symm d26) _).ext _).ext _
                have st7 := v6.st (off := 1) (vs := [.slice (some ⟨R.length + 1, 0, none⟩) (k + 1) 1]) (by simp) rfl
                have LS0 : S0.length = R.length + 2 := by rw [hS0]; simp
                simp (config := {implicitDefEqProofs := false, maxDischargeDepth := 20}) (disch := first | omega | (simp only [lenE]; done) | (simp only [lenE]; omega) | rfl | (simp only [lenE, markR_len]; done) | (simp only [lenE, markR_len]; omega)) only [runE, mapE, listE, initT_5, initT_6, initT_7, initT_8, resV, oneV, binA, unA, reduceCtorEq, Nat.reduceEqDiff, Nat.reduceAdd, Nat.reduceLT, Nat.reduceLeDiff, Nat.reduceMul, Nat.reduceSub, ↓reduceIte, decide_true, decide_false, Bool.true_eq_false, Bool.false_eq_true, Bool.not_true, Bool.not_false, if_true, if_false, and_true, true_and, memE, celE, w64, Nat.zero_add, Nat.add_zero, Nat.mul_one, putL, and_self, ldn, tm, t2, t4, t6, t8, t9, t10, x6.mk3', x13.mk2', bsl_one, hb, ← hS0, putL, st7]
                obtain ⟨S, hS⟩ : ∃ S, S = S0.set (m.length + 5) ⟨.own, TR, [.slice (some ⟨Q.length + 1, 0, none⟩) (k + 1) 1, .slice (some ⟨R.length + 1, 0, none⟩) (k + 1) 1, .int .i64 (srvC C asked k)]⟩ := ⟨_, rfl⟩
                have hXS : Ext m S := by rw [hS, hS0]; exact (((hXR.dead (by omega)).one _ _).one _ _).put (by omega) _ _
                have LS : S.length = R.length + 2 := by rw [hS, List.length_set, LS0]
                have y1 : OwnR S (Q.length + 1) (ordersC C ++ [oo]) := by
                  rw [hS]
                  refine OwnR.kept ?_ v6 (by decide) _
                  rw [hS0]; exact ((x1.dead (by omega)).ext _).ext _
                have y2 : OwnR S (R.length + 1) (stocksC C ++ [(dayL nf oo aa).stock]) := by
                  rw [hS]
                  refine OwnR.kept ?_ v6 (by decide) _
                  rw [hS0]; exact OwnR.end' (by simp)
                have yr : OwnB S (m.length + 1) RT [.int .i64 r.kind, .int .i64 r.low, .int .i64 r.high] := by rw [hS, hS0]; exact (((xr.set_ne (by omega) _).ext _).ext _).set_ne (by omega) _
                have y3 : OwnB S (m.length + 2) TR [.slice none 0 0, .slice none 0 0, .int .i64 0] := by rw [hS, hS0]; exact (((x3.set_ne (by omega) _).ext _).ext _).set_ne (by omega) _
                have y6 : OwnB S (m.length + 5) TR [.slice (some ⟨Q.length + 1, 0, none⟩) (k + 1) 1, .slice (some ⟨R.length + 1, 0, none⟩) (k + 1) 1, .int .i64 (srvC C asked k)] := by rw [hS]; exact v6.set_self _ _
                have y9 : OwnB S c9 FT [.int .i64 nf.stock, .slice A j c] := by rw [hS, hS0]; exact (((x9.set_ne (Ne.symm (el_ne x9 (by decide) x2)) _).ext _).ext _).set_ne (by omega) _
                have y13 : OwnB S c13 FT [.int .i64 (dayL nf oo aa).stock, .slice B kk dd] := by rw [hS, hS0]; exact (((x13.set_ne (Ne.symm (el_ne x13 (by decide) x2)) _).ext _).ext _).set_ne (by omega) _
                have yP : IntsP (dayL nf oo aa).under N.length E2.length S (.slice B kk dd) := by
                  rw [hS]
                  refine IntsP.other ?_ v6 (by decide) _
                  rw [hS0]
                  exact ((xP.dead (.inl (by omega)) deadB).ext (by simp; omega) _).ext (by simp; omega) _
                try rw [← hS]
                clear hS hS0 hb st7
                -- what is served
                have hAS := hXS.keeps.ints hA
                have gS := hAS.ld k hlt
                rw [← haa] at gS
                have sb := srv_bd (C := C) hask k (by omega)
                try simp (config := {implicitDefEqProofs := false, maxDischargeDepth := 20}) (disch := first | omega | (simp only [lenE]; done) | (simp only [lenE]; omega) | rfl | (simp only [lenE, markR_len]; done) | (simp only [lenE, markR_len]; omega)) only [runE, mapE, listE, initT_5, initT_6, initT_7, initT_8, resV, oneV, binA, unA, reduceCtorEq, Nat.reduceEqDiff, Nat.reduceAdd, Nat.reduceLT, Nat.reduceLeDiff, Nat.reduceMul, Nat.reduceSub, ↓reduceIte, decide_true, decide_false, Bool.true_eq_false, Bool.false_eq_true, Bool.not_true, Bool.not_false, if_true, if_false, and_true, true_and, memE, celE, w64, Nat.zero_add, Nat.add_zero, Nat.mul_one, putL, and_self, ldn, tm, t2, t4, t6, t8, t9, t10, y6.mk3', hAS.at_ k hlt, gS]
                first | refine callH_rc (l1Least11_rc _ _ _) ?_ | refine rcallH_rc (l1Least11_rc _ _ _) ?_
                rintro r1 n7 ⟨rfl, rfl⟩
                rw [List.append_nil]
                simp (config := {implicitDefEqProofs := false, maxDischargeDepth := 20}) (disch := first | omega | (simp only [lenE]; done) | (simp only [lenE]; omega) | rfl | (simp only [lenE, markR_len]; done) | (simp only [lenE, markR_len]; omega)) only [runE, mapE, listE, initT_5, initT_6, initT_7, initT_8, resV, oneV, binA, unA, reduceCtorEq, Nat.reduceEqDiff, Nat.reduceAdd, Nat.reduceLT, Nat.reduceLeDiff, Nat.reduceMul, Nat.reduceSub, ↓reduceIte, decide_true, decide_false, Bool.true_eq_false, Bool.false_eq_true, Bool.not_true, Bool.not_false, if_true, if_false, and_true, true_and, memE, celE, w64, Nat.zero_add, Nat.add_zero, Nat.mul_one, putL, and_self, ldn]
                first | refine callH_rc (l1Most11_rc _ _ _) ?_ | refine rcallH_rc (l1Most11_rc _ _ _) ?_
                rintro r1 n8 ⟨rfl, rfl⟩
                rw [List.append_nil]
                have st8 := y6.st (off := 2) (vs := [.int .i64 (srvC C asked k + max (min aa bf) 0)]) (by simp) rfl
                have yz : OwnB (S.set (m.length + 5) ⟨.own, TR, [.slice (some ⟨Q.length + 1, 0, none⟩) (k + 1) 1, .slice (some ⟨R.length + 1, 0, none⟩) (k + 1) 1, .int .i64 (srvC C asked k + max (min aa bf) 0)]⟩) (m.length + 5) TR [.slice (some ⟨Q.length + 1, 0, none⟩) (k + 1) 1, .slice (some ⟨R.length + 1, 0, none⟩) (k + 1) 1, .int .i64 (srvC C asked k + max (min aa bf) 0)] := y6.set_self _ _
                have y13z : OwnB (S.set (m.length + 5) ⟨.own, TR, [.slice (some ⟨Q.length + 1, 0, none⟩) (k + 1) 1, .slice (some ⟨R.length + 1, 0, none⟩) (k + 1) 1, .int .i64 (srvC C asked k + max (min aa bf) 0)]⟩) c13 FT [.int .i64 (dayL nf oo aa).stock, .slice B kk dd] := y13.set_ne (by omega) _
                have y9z : OwnB (S.set (m.length + 5) ⟨.own, TR, [.slice (some ⟨Q.length + 1, 0, none⟩) (k + 1) 1, .slice (some ⟨R.length + 1, 0, none⟩) (k + 1) 1, .int .i64 (srvC C asked k + max (min aa bf) 0)]⟩) c9 FT [.int .i64 nf.stock, .slice A j c] := y9.set_ne (by omega) _
                have st9 := y9z.st (off := 0) (vs := [.int .i64 (dayL nf oo aa).stock, .slice B kk dd]) (by simp) rfl
                simp (config := {implicitDefEqProofs := false, maxDischargeDepth := 20}) (disch := first | omega | (simp only [lenE]; done) | (simp only [lenE]; omega) | rfl | (simp only [lenE, markR_len]; done) | (simp only [lenE, markR_len]; omega)) only [runE, mapE, listE, initT_5, initT_6, initT_7, initT_8, resV, oneV, binA, unA, reduceCtorEq, Nat.reduceEqDiff, Nat.reduceAdd, Nat.reduceLT, Nat.reduceLeDiff, Nat.reduceMul, Nat.reduceSub, ↓reduceIte, decide_true, decide_false, Bool.true_eq_false, Bool.false_eq_true, Bool.not_true, Bool.not_false, if_true, if_false, and_true, true_and, memE, celE, w64, Nat.zero_add, Nat.add_zero, Nat.mul_one, putL, and_self, ldn, tm, t2, t4, t6, t8, t9, t10, y6.mk3', putL, st8, y13z.mk2', stP_agg2f, st9]
                have esrv : srvC (C ++ [(oo, dayL nf oo aa)]) asked (k + 1) = srvC C asked k + max (min aa bf) 0 := by
                  simp only [srvC]
                  rw [srv_app _ _ _ (by omega), last_get _ hCl, ← haa]
                  show _ + max (min aa ((dayL nf oo aa).stock + aa)) 0 = _
                  rw [hbs]
                  congr 3; omega
                refine ⟨⟨k + 1, _, Q.length + 1, R.length + 1, B, kk, dd, _, by omega, rfl, (hXS.put (by omega) _ _).put (by omega) _ _, by omega, by omega, by omega, ?_, ?_, hsome, ?_, ?_, ?_, ?_, ?_, by simp⟩, ?_⟩
                · rw [orders_s _ (by omega)]
                  exact OwnR.kept (OwnR.kept y1 y6 (by decide) _) y9z (by decide) _
                · rw [stocks_s _ (by omega)]
                  exact OwnR.kept (OwnR.kept y2 y6 (by decide) _) y9z (by decide) _
                · exact (yr.set_ne (by omega) _).set_ne (by omega) _
                · exact (y3.set_ne (by omega) _).set_ne (by omega) _
                · rw [esrv]
                  exact yz.set_ne (by omega) _
                · rw [last_get _ hCl]
                  exact y9z.set_self _ _
                · rw [last_get _ hCl]
                  exact .inl ⟨N.length, E2.length, (yP.other y6 (by decide) _).other y9z (by decide) _, by omega, by rw [List.length_set, List.length_set]; omega, .inr (by omega), .inr (by omega)⟩
                · simp [zOf]; omega
            · refine rcallH_rc (l11Day_rc _ _ nf oo aa ⟨_, rfl, (hUN.ext _)⟩ hF ⟨ho0, ho40⟩ haab) ?_
              rintro r1 nn ⟨hnn, w, rfl, hw⟩
              rw [← hbf]
              obtain ⟨uw, rfl, hw2⟩ := hw.now
              obtain ⟨B, kk, dd, rfl⟩ := hw2.in.sl
              obtain ⟨E2, hE2⟩ : ∃ E2, E2 = N ++ [⟨.own, FT, [.int .i64 0, .slice none 0 0]⟩] ++ nn := ⟨_, rfl⟩
              have hXE : Ext m E2 := by rw [hE2]; exact (hxN.one _ _).app hnn
              have z1 : OwnR E2 i1 (ordersC C) := by rw [hE2]; exact (r1'.ext _).ext _
              have z2 : OwnR E2 i2 (stocksC C) := by rw [hE2]; exact (r2'.ext _).ext _
              have zr : OwnB E2 (m.length + 1) RT [.int .i64 r.kind, .int .i64 r.low, .int .i64 r.high] := by rw [hE2]; exact (s2.ext _).ext _
              have z3 : OwnB E2 (m.length + 2) TR [.slice none 0 0, .slice none 0 0, .int .i64 0] := by rw [hE2]; exact (s3.ext _).ext _
              have z6 : OwnB E2 (m.length + 5) TR [.slice (some ⟨i1, 0, none⟩) k 1, .slice (some ⟨i2, 0, none⟩) k 1, .int .i64 (srvC C asked k)] := by rw [hE2]; exact (s6.ext _).ext _
              have z9 : OwnB E2 c9 FT [.int .i64 nf.stock, .slice A j c] := by rw [hE2]; exact (s9.ext _).ext _
              have y13 : OwnB E2 N.length FT [.int .i64 0, .slice none 0 0] := by rw [hE2]; exact (OwnB.here rfl).ext _
              have LE2 : E2.length = N.length + 1 + nn.length := by rw [hE2]; simp; omega
              have e3l : (N ++ [(⟨.own, FT, [.int .i64 0, .slice none 0 0]⟩ : Blk)]).length + nn.length = E2.length := by rw [LE2]; simp
              rw [e3l, ← hE2] at hw2
              have hw3 : IntsP (dayL nf oo aa).under N.length E2.length E2 (.slice B kk dd) := IntsP.wide _ _ _ _ _ _ _ (by simp) (Nat.le_refl _) hw2
              rw [← hE2]
              clear hE2 hw hw2
              have s13 := y13.st (off := 0) (vs := [.int .i64 (dayL nf oo aa).stock, .slice B kk dd]) (by simp) rfl
              simp (config := {implicitDefEqProofs := false, maxDischargeDepth := 20}) (disch := first | omega | (simp only [lenE]; done) | (simp only [lenE]; omega) | rfl | (simp only [lenE, markR_len]; done) | (simp only [lenE, markR_len]; omega)) only [runE, mapE, listE, initT_5, initT_6, initT_7, initT_8, resV, oneV, binA, unA, reduceCtorEq, Nat.reduceEqDiff, Nat.reduceAdd, Nat.reduceLT, Nat.reduceLeDiff, Nat.reduceMul, Nat.reduceSub, ↓reduceIte, decide_true, decide_false, Bool.true_eq_false, Bool.false_eq_true, Bool.not_true, Bool.not_false, if_true, if_false, and_true, true_and, memE, celE, w64, Nat.zero_add, Nat.add_zero, Nat.mul_one, putL, and_self, ldn, ext_2_0, ext_2_1, stP_agg2f, putL, s13]
              obtain ⟨E3, hE3⟩ : ∃ E3, E3 = E2.set N.length ⟨.own, FT, [.int .i64 (dayL nf oo aa).stock, .slice B kk dd]⟩ := ⟨_, rfl⟩
              obtain ⟨c13, hc13⟩ : ∃ c13, c13 = N.length := ⟨_, rfl⟩
              have hXE3 : Ext m E3 := by rw [hE3]; exact hXE.put (by omega) _ _
              replace z1 : OwnR E3 i1 (ordersC C) := by rw [hE3]; exact z1.kept y13 (by decide) _
              replace z2 : OwnR E3 i2 (stocksC C) := by rw [hE3]; exact z2.kept y13 (by decide) _
              replace zr : OwnB E3 (m.length + 1) RT [.int .i64 r.kind, .int .i64 r.low, .int .i64 r.high] := by rw [hE3]; exact zr.set_ne (by omega) _
              replace z3 : OwnB E3 (m.length + 2) TR [.slice none 0 0, .slice none 0 0, .int .i64 0] := by rw [hE3]; exact z3.set_ne (by omega) _
              replace z6 : OwnB E3 (m.length + 5) TR [.slice (some ⟨i1, 0, none⟩) k 1, .slice (some ⟨i2, 0, none⟩) k 1, .int .i64 (srvC C asked k)] := by rw [hE3]; exact z6.set_ne (by omega) _
              replace z9 : OwnB E3 c9 FT [.int .i64 nf.stock, .slice A j c] := by rw [hE3]; exact z9.set_ne (by omega) _
              have z13 : OwnB E3 c13 FT [.int .i64 (dayL nf oo aa).stock, .slice B kk dd] := by rw [hE3, hc13]; exact y13.set_self _ _
              have zP : IntsP (dayL nf oo aa).under N.length E2.length E3 (.slice B kk dd) := by rw [hE3]; exact hw3.other y13 (by decide) _
              have LE3 : E2.length ≤ E3.length := by rw [hE3, List.length_set]; exact Nat.le_refl _
              have hg13 : c9 < c13 := by omega
              try rw [← hE3]
              try rw [← hc13]
              clear hE3
              have hNE : N.length ≤ E2.length := by omega
              try simp (config := {implicitDefEqProofs := false, maxDischargeDepth := 20}) (disch := first | omega | (simp only [lenE]; done) | (simp only [lenE]; omega) | rfl | (simp only [lenE, markR_len]; done) | (simp only [lenE, markR_len]; omega)) only [runE, mapE, listE, initT_5, initT_6, initT_7, initT_8, resV, oneV, binA, unA, reduceCtorEq, Nat.reduceEqDiff, Nat.reduceAdd, Nat.reduceLT, Nat.reduceLeDiff, Nat.reduceMul, Nat.reduceSub, ↓reduceIte, decide_true, decide_false, Bool.true_eq_false, Bool.false_eq_true, Bool.not_true, Bool.not_false, if_true, if_false, and_true, true_and, memE, celE, w64, Nat.zero_add, Nat.add_zero, Nat.mul_one, putL, and_self, ldn, tm, t2, t4, t6, t8, t9, t10, z13.mk2']
              refine callH_rc (l11Flow_rc _ _ (dayL nf oo aa) ⟨_, rfl, zP.in⟩) ?_
              rintro r1 n6 ⟨rfl, hn6⟩
              obtain ⟨Q, hQ⟩ : ∃ Q, Q = E3 ++ n6 := ⟨_, rfl⟩
              have hXQ : Ext m Q := by rw [hQ]; exact hXE3.app hn6
              replace z1 : OwnR Q i1 (ordersC C) := by rw [hQ]; exact z1.ext _
              replace z2 : OwnR Q i2 (stocksC C) := by rw [hQ]; exact z2.ext _
              replace zr : OwnB Q (m.length + 1) RT [.int .i64 r.kind, .int .i64 r.low, .int .i64 r.high] := by rw [hQ]; exact zr.ext _
              replace z3 : OwnB Q (m.length + 2) TR [.slice none 0 0, .slice none 0 0, .int .i64 0] := by rw [hQ]; exact z3.ext _
              replace z6 : OwnB Q (m.length + 5) TR [.slice (some ⟨i1, 0, none⟩) k 1, .slice (some ⟨i2, 0, none⟩) k 1, .int .i64 (srvC C asked k)] := by rw [hQ]; exact z6.ext _
              replace z9 : OwnB Q c9 FT [.int .i64 nf.stock, .slice A j c] := by rw [hQ]; exact z9.ext _
              replace z13 : OwnB Q c13 FT [.int .i64 (dayL nf oo aa).stock, .slice B kk dd] := by rw [hQ]; exact z13.ext _
              replace zP : IntsP (dayL nf oo aa).under N.length E2.length Q (.slice B kk dd) := by rw [hQ]; exact zP.ext LE3 _
              have LQ : E3.length ≤ Q.length := by rw [hQ]; simp
              rw [← hQ]
              clear hQ
              cases hdk : (dayL nf oo aa).good with
              | false =>
                have hdn : dayOk (C.getD k DayF).2 oo (asked.getD k 0) = false := by rw [← hnf, ← haa]; simp [dayOk, hdk]
                have hno : traceC f r asked = none := by rw [eR]; exact crs_none (crs_stop hC hto hdn) (by omega)
                have y3 := (z3.ext [(⟨.own, 3, []⟩ : Blk)]).ext [(⟨.own, 3, []⟩ : Blk)]
                have sy := y3.st (off := 0) (vs := [.slice (some ⟨Q.length, 0, none⟩) 0 1, .slice (some ⟨Q.length + 1, 0, none⟩) 0 1, .int .i64 0]) (by simp) rfl
                have py : OwnB ((Q ++ [(⟨.own, 3, []⟩ : Blk)] ++ [(⟨.own, 3, []⟩ : Blk)]).set (m.length + 2) ⟨.own, TR, [.slice (some ⟨Q.length, 0, none⟩) 0 1, .slice (some ⟨Q.length + 1, 0, none⟩) 0 1, .int .i64 0]⟩) (m.length + 2) TR [.slice (some ⟨Q.length, 0, none⟩) 0 1, .slice (some ⟨Q.length + 1, 0, none⟩) 0 1, .int .i64 0] := y3.set_self _ _
                simp (config := {implicitDefEqProofs := false, maxDischargeDepth := 20}) (disch := first | omega | (simp only [lenE]; done) | (simp only [lenE]; omega) | rfl | (simp only [lenE, markR_len]; done) | (simp only [lenE, markR_len]; omega)) only [runE, mapE, listE, initT_5, initT_6, initT_7, initT_8, resV, oneV, binA, unA, reduceCtorEq, Nat.reduceEqDiff, Nat.reduceAdd, Nat.reduceLT, Nat.reduceLeDiff, Nat.reduceMul, Nat.reduceSub, ↓reduceIte, decide_true, decide_false, Bool.true_eq_false, Bool.false_eq_true, Bool.not_true, Bool.not_false, if_true, if_false, and_true, true_and, memE, celE, w64, Nat.zero_add, Nat.add_zero, Nat.mul_one, putL, and_self, ldn, tm, t2, t4, t6, t8, t9, t10, bsl_none, bld_tr, stP_agg3p, putL, sy, py.mk3']
                exact failN Q hXQ z3 hno
              | true =>
                have hdy : dayOk (C.getD k DayF).2 oo (asked.getD k 0) = true := by
                  rw [← hnf, ← haa]
                  simp only [dayOk, hgn, hdk, Bool.true_and, Bool.and_true, Bool.and_eq_true, inF_iff]
                  exact ⟨⟨ho0, ho40⟩, haab⟩
                have hsome := crs_step hC hto hdy
                rw [← haa, ← hnf] at hsome
                have d16 := el_ne z6 (by decide) z1
                have d26 := el_ne z6 (by decide) z2
                have lq1 := z1.lt
                have lq2 := z2.lt
                have lq13 := z13.lt
                have hlq := hXQ.len
                -- the order goes behind the orders
                have ha := app_num (x := oo) (id2 := Q.length) (n := k) z1 (by omega) rfl hol.symm
                obtain ⟨R0, hR0⟩ : ∃ R0, R0 = Q.set i1 deadB ++ [⟨.own, 3, [.int .i64 oo]⟩] ++ [⟨.own, 3, (ordersC C ++ [oo]).map (Value.int .i64)⟩] := ⟨_, rfl⟩
                have k6 : OwnB R0 (m.length + 5) TR [.slice (some ⟨i1, 0, none⟩) k 1, .slice (some ⟨i2, 0, none⟩) k 1, .int .i64 (srvC C asked k)] := by rw [hR0]; exact ((z6.set_ne (Ne.symm d16) _).ext _).ext _
                have st6 := k6.st (off := 0) (vs := [.slice (some ⟨Q.length + 1, 0, none⟩) (k + 1) 1]) (by simp) rfl
                have LR0 : R0.length = Q.length + 2 := by rw [hR0]; simp
                simp (config := {implicitDefEqProofs := false, maxDischargeDepth := 20}) (disch := first | omega | (simp only [lenE]; done) | (simp only [lenE]; omega) | rfl | (simp only [lenE, markR_len]; done) | (simp only [lenE, markR_len]; omega)) only [runE, mapE, listE, initT_5, initT_6, initT_7, initT_8, resV, oneV, binA, unA, reduceCtorEq, Nat.reduceEqDiff, Nat.reduceAdd, Nat.reduceLT, Nat.reduceLeDiff, Nat.reduceMul, Nat.reduceSub, ↓reduceIte, decide_true, decide_false, Bool.true_eq_false, Bool.false_eq_true, Bool.not_true, Bool.not_false, if_true, if_false, and_true, true_and, memE, celE, w64, Nat.zero_add, Nat.add_zero, Nat.mul_one, putL, and_self, ldn, tm, t2, t4, t6, t8, t9, t10, z6.mk3', bsl_one, ha, ← hR0, putL, st6]
                obtain ⟨R, hR⟩ : ∃ R, R = R0.set (m.length + 5) ⟨.own, TR, [.slice (some ⟨Q.length + 1, 0, none⟩) (k + 1) 1, .slice (some ⟨i2, 0, none⟩) k 1, .int .i64 (srvC C asked k)]⟩ := ⟨_, rfl⟩
                have hXR : Ext m R := by rw [hR, hR0]; exact (((hXQ.dead (by omega)).one _ _).one _ _).put (by omega) _ _
                have LR : R.length = Q.length + 2 := by rw [hR, List.length_set, LR0]
                have x1 : OwnR R (Q.length + 1) (ordersC C ++ [oo]) := by
                  rw [hR]
                  refine OwnR.kept ?_ k6 (by decide) _
                  rw [hR0]; exact OwnR.end' (by simp)
                have x2 : OwnR R i2 (stocksC C) := by
                  rw [hR]
                  refine OwnR.kept ?_ k6 (by decide) _
                  rw [hR0]; exact ((z2.dead g12).ext _).ext _
                have xr : OwnB R (m.length + 1) RT [.int .i64 r.kind, .int .i64 r.low, .int .i64 r.high] := by rw [hR, hR0]; exact (((zr.set_ne (by omega) _).ext _).ext _).set_ne (by omega) _
                have x3 : OwnB R (m.length + 2) TR [.slice none 0 0, .slice none 0 0, .int .i64 0] := by rw [hR, hR0]; exact (((z3.set_ne (by omega) _).ext _).ext _).set_ne (by omega) _
                have x6 : OwnB R (m.length + 5) TR [.slice (some ⟨Q.length + 1, 0, none⟩) (k + 1) 1, .slice (some ⟨i2, 0, none⟩) k 1, .int .i64 (srvC C asked k)] := by rw [hR]; exact k6.set_self _ _
                have x9 : OwnB R c9 FT [.int .i64 nf.stock, .slice A j c] := by rw [hR, hR0]; exact (((z9.set_ne (Ne.symm (el_ne z9 (by decide) z1)) _).ext _).ext _).set_ne (by omega) _
                have x13 : OwnB R c13 FT [.int .i64 (dayL nf oo aa).stock, .slice B kk dd] := by rw [hR, hR0]; exact (((z13.set_ne (Ne.symm (el_ne z13 (by decide) z1)) _).ext _).ext _).set_ne (by omega) _
                have xP : IntsP (dayL nf oo aa).under N.length E2.length R (.slice B kk dd) := by
                  rw [hR]
                  refine IntsP.other ?_ k6 (by decide) _
                  rw [hR0]
                  exact ((zP.dead (.inl (by omega)) deadB).ext (by simp; omega) _).ext (by simp; omega) _
                try rw [← hR]
                clear hR hR0 ha st6
                -- the stock behind the day goes behind the stocks
                have hb := app_num (x := (dayL nf oo aa).stock) (id2 := R.length) (n := k) x2 (by omega) rfl hsl.symm
                obtain ⟨S0, hS0⟩ : ∃ S0, S0 = R.set i2 deadB ++ [⟨.own, 3, [.int .i64 (dayL nf oo aa).stock]⟩] ++ [⟨.own, 3, (stocksC C ++ [(dayL nf oo aa).stock]).map (Value.int .i64)⟩] := ⟨_, rfl⟩
                have v6 : OwnB S0 (m.length + 5) TR [.slice (some ⟨Q.length + 1, 0, none⟩) (k + 1) 1, .slice (some ⟨i2, 0, none⟩) k 1, .int .i64 (srvC C asked k)] := by rw [hS0]; exact ((x6.set_ne (Ne.symm d26) _).ext _).ext _
                have st7 := v6.st (off := 1) (vs := [.slice (some ⟨R.length + 1, 0, none⟩) (k + 1) 1]) (by simp) rfl
                have LS0 : S0.length = R.length + 2 := by rw [hS0]; simp
                simp (config := {implicitDefEqProofs := false, maxDischargeDepth := 20}) (disch := first | omega | (simp only [lenE]; done) | (simp only [lenE]; omega) | rfl | (simp only [lenE, markR_len]; done) | (simp only [lenE, markR_len]; omega)) only [runE, mapE, listE, initT_5, initT_6, initT_7, initT_8, resV, oneV, binA, unA, reduceCtorEq, Nat.reduceEqDiff, Nat.reduceAdd, Nat.reduceLT, Nat.reduceLeDiff, Nat.reduceMul, Nat.reduceSub, ↓reduceIte, decide_true, decide_false, Bool.true_eq_false, Bool.false_eq_true, Bool.not_true, Bool.not_false, if_true, if_false, and_true, true_and, memE, celE, w64, Nat.zero_add, Nat.add_zero, Nat.mul_one, putL, and_self, ldn, tm, t2, t4, t6, t8, t9, t10, x6.mk3', x13.mk2', bsl_one, hb, ← hS0, putL, st7]
                obtain ⟨S, hS⟩ : ∃ S, S = S0.set (m.length + 5) ⟨.own, TR, [.slice (some ⟨Q.length + 1, 0, none⟩) (k + 1) 1, .slice (some ⟨R.length + 1, 0, none⟩) (k + 1) 1, .int .i64 (srvC C asked k)]⟩ := ⟨_, rfl⟩
                have hXS : Ext m S := by rw [hS, hS0]; exact (((hXR.dead (by omega)).one _ _).one _ _).put (by omega) _ _
                have LS : S.length = R.length + 2 := by rw [hS, List.length_set, LS0]
                have y1 : OwnR S (Q.length + 1) (ordersC C ++ [oo]) := by
                  rw [hS]
                  refine OwnR.kept ?_ v6 (by decide) _
                  rw [hS0]; exact ((x1.dead (by omega)).ext _).ext _
                have y2 : OwnR S (R.length + 1) (stocksC C ++ [(dayL nf oo aa).stock]) := by
                  rw [hS]
                  refine OwnR.kept ?_ v6 (by decide) _
                  rw [hS0]; exact OwnR.end' (by simp)
                have yr : OwnB S (m.length + 1) RT [.int .i64 r.kind, .int .i64 r.low, .int .i64 r.high] := by rw [hS, hS0]; exact (((xr.set_ne (by omega) _).ext _).ext _).set_ne (by omega) _
                have y3 : OwnB S (m.length + 2) TR [.slice none 0 0, .slice none 0 0, .int .i64 0] := by rw [hS, hS0]; exact (((x3.set_ne (by omega) _).ext _).ext _).set_ne (by omega) _
                have y6 : OwnB S (m.length + 5) TR [.slice (some ⟨Q.length + 1, 0, none⟩) (k + 1) 1, .slice (some ⟨R.length + 1, 0, none⟩) (k + 1) 1, .int .i64 (srvC C asked k)] := by rw [hS]; exact v6.set_self _ _
                have y9 : OwnB S c9 FT [.int .i64 nf.stock, .slice A j c] := by rw [hS, hS0]; exact (((x9.set_ne (Ne.symm (el_ne x9 (by decide) x2)) _).ext _).ext _).set_ne (by omega) _
                have y13 : OwnB S c13 FT [.int .i64 (dayL nf oo aa).stock, .slice B kk dd] := by rw [hS, hS0]; exact (((x13.set_ne (Ne.symm (el_ne x13 (by decide) x2)) _).ext _).ext _).set_ne (by omega) _
                have yP : IntsP (dayL nf oo aa).under N.length E2.length S (.slice B kk dd) := by
                  rw [hS]
                  refine IntsP.other ?_ v6 (by decide) _
                  rw [hS0]
                  exact ((xP.dead (.inl (by omega)) deadB).ext (by simp; omega) _).ext (by simp; omega) _
                try rw [← hS]
                clear hS hS0 hb st7
                -- what is served
                have hAS := hXS.keeps.ints hA
                have gS := hAS.ld k hlt
                rw [← haa] at gS
                have sb := srv_bd (C := C) hask k (by omega)
                try simp (config := {implicitDefEqProofs := false, maxDischargeDepth := 20}) (disch := first | omega | (simp only [lenE]; done) | (simp only [lenE]; omega) | rfl | (simp only [lenE, markR_len]; done) | (simp only [lenE, markR_len]; omega)) only [runE, mapE, listE, initT_5, initT_6, initT_7, initT_8, resV, oneV, binA, unA, reduceCtorEq, Nat.reduceEqDiff, Nat.reduceAdd, Nat.reduceLT, Nat.reduceLeDiff, Nat.reduceMul, Nat.reduceSub, ↓reduceIte, decide_true, decide_false, Bool.true_eq_false, Bool.false_eq_true, Bool.not_true, Bool.not_false, if_true, if_false, and_true, true_and, memE, celE, w64, Nat.zero_add, Nat.add_zero, Nat.mul_one, putL, and_self, ldn, tm, t2, t4, t6, t8, t9, t10, y6.mk3', hAS.at_ k hlt, gS]
                first | refine callH_rc (l1Least11_rc _ _ _) ?_ | refine rcallH_rc (l1Least11_rc _ _ _) ?_
                rintro r1 n7 ⟨rfl, rfl⟩
                rw [List.append_nil]
                simp (config := {implicitDefEqProofs := false, maxDischargeDepth := 20}) (disch := first | omega | (simp only [lenE]; done) | (simp only [lenE]; omega) | rfl | (simp only [lenE, markR_len]; done) | (simp only [lenE, markR_len]; omega)) only [runE, mapE, listE, initT_5, initT_6, initT_7, initT_8, resV, oneV, binA, unA, reduceCtorEq, Nat.reduceEqDiff, Nat.reduceAdd, Nat.reduceLT, Nat.reduceLeDiff, Nat.reduceMul, Nat.reduceSub, ↓reduceIte, decide_true, decide_false, Bool.true_eq_false, Bool.false_eq_true, Bool.not_true, Bool.not_false, if_true, if_false, and_true, true_and, memE, celE, w64, Nat.zero_add, Nat.add_zero, Nat.mul_one, putL, and_self, ldn]
                first | refine callH_rc (l1Most11_rc _ _ _) ?_ | refine rcallH_rc (l1Most11_rc _ _ _) ?_
                rintro r1 n8 ⟨rfl, rfl⟩
                rw [List.append_nil]
                have st8 := y6.st (off := 2) (vs := [.int .i64 (srvC C asked k + max (min aa bf) 0)]) (by simp) rfl
                have yz : OwnB (S.set (m.length + 5) ⟨.own, TR, [.slice (some ⟨Q.length + 1, 0, none⟩) (k + 1) 1, .slice (some ⟨R.length + 1, 0, none⟩) (k + 1) 1, .int .i64 (srvC C asked k + max (min aa bf) 0)]⟩) (m.length + 5) TR [.slice (some ⟨Q.length + 1, 0, none⟩) (k + 1) 1, .slice (some ⟨R.length + 1, 0, none⟩) (k + 1) 1, .int .i64 (srvC C asked k + max (min aa bf) 0)] := y6.set_self _ _
                have y13z : OwnB (S.set (m.length + 5) ⟨.own, TR, [.slice (some ⟨Q.length + 1, 0, none⟩) (k + 1) 1, .slice (some ⟨R.length + 1, 0, none⟩) (k + 1) 1, .int .i64 (srvC C asked k + max (min aa bf) 0)]⟩) c13 FT [.int .i64 (dayL nf oo aa).stock, .slice B kk dd] := y13.set_ne (by omega) _
                have y9z : OwnB (S.set (m.length + 5) ⟨.own, TR, [.slice (some ⟨Q.length + 1, 0, none⟩) (k + 1) 1, .slice (some ⟨R.length + 1, 0, none⟩) (k + 1) 1, .int .i64 (srvC C asked k + max (min aa bf) 0)]⟩) c9 FT [.int .i64 nf.stock, .slice A j c] := y9.set_ne (by omega) _
                have st9 := y9z.st (off := 0) (vs := [.int .i64 (dayL nf oo aa).stock, .slice B kk dd]) (by simp) rfl
                simp (config := {implicitDefEqProofs := false, maxDischargeDepth := 20}) (disch := first | omega | (simp only [lenE]; done) | (simp only [lenE]; omega) | rfl | (simp only [lenE, markR_len]; done) | (simp only [lenE, markR_len]; omega)) only [runE, mapE, listE, initT_5, initT_6, initT_7, initT_8, resV, oneV, binA, unA, reduceCtorEq, Nat.reduceEqDiff, Nat.reduceAdd, Nat.reduceLT, Nat.reduceLeDiff, Nat.reduceMul, Nat.reduceSub, ↓reduceIte, decide_true, decide_false, Bool.true_eq_false, Bool.false_eq_true, Bool.not_true, Bool.not_false, if_true, if_false, and_true, true_and, memE, celE, w64, Nat.zero_add, Nat.add_zero, Nat.mul_one, putL, and_self, ldn, tm, t2, t4, t6, t8, t9, t10, y6.mk3', putL, st8, y13z.mk2', stP_agg2f, st9]
                have esrv : srvC (C ++ [(oo, dayL nf oo aa)]) asked (k + 1) = srvC C asked k + max (min aa bf) 0 := by
                  simp only [srvC]
                  rw [srv_app _ _ _ (by omega), last_get _ hCl, ← haa]
                  show _ + max (min aa ((dayL nf oo aa).stock + aa)) 0 = _
                  rw [hbs]
                  congr 3; omega
                refine ⟨⟨k + 1, _, Q.length + 1, R.length + 1, B, kk, dd, _, by omega, rfl, (hXS.put (by omega) _ _).put (by omega) _ _, by omega, by omega, by omega, ?_, ?_, hsome, ?_, ?_, ?_, ?_, ?_, by simp⟩, ?_⟩
                · rw [orders_s _ (by omega)]
                  exact OwnR.kept (OwnR.kept y1 y6 (by decide) _) y9z (by decide) _
                · rw [stocks_s _ (by omega)]
                  exact OwnR.kept (OwnR.kept y2 y6 (by decide) _) y9z (by decide) _
                · exact (yr.set_ne (by omega) _).set_ne (by omega) _
                · exact (y3.set_ne (by omega) _).set_ne (by omega) _
                · rw [esrv]
                  exact yz.set_ne (by omega) _
                · rw [last_get _ hCl]
                  exact y9z.set_self _ _
                · rw [last_get _ hCl]
                  exact .inl ⟨N.length, E2.length, (yP.other y6 (by decide) _).other y9z (by decide) _, by omega, by rw [List.length_set, List.length_set]; omega, .inr (by omega), .inr (by omega)⟩
                · simp [zOf]; omega
        · have hlt' : ¬ ((k : Int) < asked.length) := by omega
          obtain rfl : k = asked.length := by omega
          have s7 := q3.st (off := 0) (vs := [.slice (some ⟨i1, 0, none⟩) asked.length 1, .slice (some ⟨i2, 0, none⟩) asked.length 1, .int .i64 (srvC C asked asked.length)]) (by simp) rfl
          have p7 : OwnB (M.set (m.length + 2) ⟨.own, TR, [.slice (some ⟨i1, 0, none⟩) asked.length 1, .slice (some ⟨i2, 0, none⟩) asked.length 1, .int .i64 (srvC C asked asked.length)]⟩) (m.length + 2) TR [.slice (some ⟨i1, 0, none⟩) asked.length 1, .slice (some ⟨i2, 0, none⟩) asked.length 1, .int .i64 (srvC C asked asked.length)] := q3.set_self _ _
          simp (config := {implicitDefEqProofs := false, maxDischargeDepth := 20}) (disch := first | omega | (simp only [lenE]; done) | (simp only [lenE]; omega) | rfl | (simp only [lenE, markR_len]; done) | (simp only [lenE, markR_len]; omega)) only [runE, mapE, listE, initT_5, initT_6, initT_7, initT_8, resV, oneV, binA, unA, reduceCtorEq, Nat.reduceEqDiff, Nat.reduceAdd, Nat.reduceLT, Nat.reduceLeDiff, Nat.reduceMul, Nat.reduceSub, ↓reduceIte, decide_true, decide_false, Bool.true_eq_false, Bool.false_eq_true, Bool.not_true, Bool.not_false, if_true, if_false, and_true, true_and, memE, celE, w64, Nat.zero_add, Nat.add_zero, Nat.mul_one, putL, and_self, ldn, tm, t2, t4, t6, t8, t9, t10, hAM.len, hlt', q6.mk3', stP_agg3p, putL, s7, p7.mk3']
          have e0 : traceC f r asked = some C := by rw [eR]; exact hC
          rw [e0]
          exact ext_run (hx.put (by omega) _ _) rfl rfl (by omega) (by omega) (o1.kept q3 (by decide) _) (o2.kept q3 (by decide) _) hol.symm hsl.symm rfl h20
theorem tr_is (f : Fl) (r : Rl) (asked : List Int) : trO (traceC f r asked) = trOrders f r asked ∧ trS (traceC f r asked) = trStocks f r asked ∧ trV asked (traceC f r asked) = trSrv f r asked ∧ (traceC f r asked).isSome = trOk f r asked := by
  unfold trOrders trStocks trSrv trOk
  cases traceC f r asked <;> exact ⟨rfl, rfl, rfl, rfl⟩
theorem specRunRule_rc (m : Mem) (v av : Value) (f : Fl) (r : Rl) (asked : List Int) (h : FlA m v f) (hA : IntsA m av asked) :
    RC Try.prog 40 [v, rlV r, av] m (AnsO2 m False (IntsO (trOrders f r asked)) (IntsO (trStocks f r asked)) (fun a b => .tuple #[a, b, .bool (trOk f r asked)])) := by
  refine rc_of_run mixed ok_spec_RunRule (by simp) (go_start _ _ _ ?_)
  obtain ⟨u, rfl, hu⟩ := h.ro
  simp (config := {implicitDefEqProofs := false, maxDischargeDepth := 20}) (disch := first | omega | (simp only [lenE]; done) | (simp only [lenE]; omega) | rfl | (simp only [lenE, markR_len]; done) | (simp only [lenE, markR_len]; omega)) only [runE, mapE, listE, initT_5, initT_6, initT_7, initT_8, resV, oneV, binA, unA, reduceCtorEq, Nat.reduceEqDiff, Nat.reduceAdd, Nat.reduceLT, Nat.reduceLeDiff, Nat.reduceMul, Nat.reduceSub, ↓reduceIte, decide_true, decide_false, Bool.true_eq_false, Bool.false_eq_true, Bool.not_true, Bool.not_false, if_true, if_false, and_true, true_and, memE, celE, w64, Nat.zero_add, Nat.add_zero, Nat.mul_one, putL, and_self, ldn, c_spec_RunRule, r_spec_RunRule, rlV]
  refine callH_rc (l11Run_rc _ _ av f r asked ⟨_, rfl, (hu.ext _).ext _⟩ ((hA.ro.ext _).ext _)) ?_
  rintro r1 n1 ⟨hn1, i1, i2, n, rfl, h1, h2, o1, o2, e1, e2, h20⟩
  have hX := (((Ext.refl m).one FT [.int .i64 f.stock, u]).one RT [.int .i64 r.kind, .int .i64 r.low, .int .i64 r.high]).app hn1
  obtain ⟨M, hM⟩ : ∃ M, M = roM m ++ [⟨.own, FT, [.int .i64 f.stock, u]⟩] ++ [⟨.own, RT, [.int .i64 r.kind, .int .i64 r.low, .int .i64 r.high]⟩] ++ n1 := ⟨_, rfl⟩
  rw [← hM] at hX o1 o2 ⊢
  clear hM
  obtain ⟨q1, q2, q3, q4⟩ := tr_is f r asked
  rw [q3, q4]
  rw [q1] at o1 e1
  rw [q2] at o2 e2
  have g1 : m.length ≤ i1 := by simp [roM_len] at h1; omega
  have g2 : m.length ≤ i2 := by simp [roM_len] at h2; omega
  simp (config := {implicitDefEqProofs := false, maxDischargeDepth := 20}) (disch := first | omega | (simp only [lenE]; done) | (simp only [lenE]; omega) | rfl | (simp only [lenE, markR_len]; done) | (simp only [lenE, markR_len]; omega)) only [runE, mapE, listE, initT_5, initT_6, initT_7, initT_8, resV, oneV, binA, unA, reduceCtorEq, Nat.reduceEqDiff, Nat.reduceAdd, Nat.reduceLT, Nat.reduceLeDiff, Nat.reduceMul, Nat.reduceSub, ↓reduceIte, decide_true, decide_false, Bool.true_eq_false, Bool.false_eq_true, Bool.not_true, Bool.not_false, if_true, if_false, and_true, true_and, memE, celE, w64, Nat.zero_add, Nat.add_zero, Nat.mul_one, putL, and_self, ldn, ext_2_0, ext_2_1, stP_agg3p, onesB_sl]
  have l1 := o1.lt
  have l2 := o2.lt
  have hl := hX.len
  exact ext_o2 (f := fun a b => .tuple #[a, b, .bool (trOk f r asked)]) (hX.one _ _) m.length M.length m.length M.length (Nat.le_refl _) hl (by simp) (Nat.le_refl _) hl (by simp) (fun h => h.elim)
    (IntsO.of (o1.ext _) e1 (by omega) g1 l1) (IntsO.of (o2.ext _) e2 (by omega) g2 l2)
theorem specServiceOf_rc (m : Mem) (v av : Value) (f : Fl) (r : Rl) (asked : List Int) (h : FlA m v f) (hA : IntsA m av asked) :
    RC Try.prog 42 [v, rlV r, av] m (AnsV (.tuple #[.int .i64 (trSrv f r asked), .int .i64 (trSum f r asked), .bool (trOk f r asked)])) := by
  refine rc_of_run mixed ok_spec_ServiceOf (by simp) (go_start _ _ _ ?_)
  obtain ⟨u, rfl, hu⟩ := h.ro
  simp (config := {implicitDefEqProofs := false, maxDischargeDepth := 20}) (disch := first | omega | (simp only [lenE]; done) | (simp only [lenE]; omega) | rfl | (simp only [lenE, markR_len]; done) | (simp only [lenE, markR_len]; omega)) only [runE, mapE, listE, initT_5, initT_6, initT_7, initT_8, resV, oneV, binA, unA, reduceCtorEq, Nat.reduceEqDiff, Nat.reduceAdd, Nat.reduceLT, Nat.reduceLeDiff, Nat.reduceMul, Nat.reduceSub, ↓reduceIte, decide_true, decide_false, Bool.true_eq_false, Bool.false_eq_true, Bool.not_true, Bool.not_false, if_true, if_false, and_true, true_and, memE, celE, w64, Nat.zero_add, Nat.add_zero, Nat.mul_one, putL, and_self, ldn, c_spec_ServiceOf, r_spec_ServiceOf, rlV]
  refine callH_rc (l11Run_rc _ _ av f r asked ⟨_, rfl, (hu.ext _).ext _⟩ ((hA.ro.ext _).ext _)) ?_
  rintro r1 n1 ⟨hn1, i1, i2, n, rfl, -⟩
  have hX := (((Ext.refl m).one FT [.int .i64 f.stock, u]).one RT [.int .i64 r.kind, .int .i64 r.low, .int .i64 r.high]).app hn1
  obtain ⟨M, hM⟩ : ∃ M, M = roM m ++ [⟨.own, FT, [.int .i64 f.stock, u]⟩] ++ [⟨.own, RT, [.int .i64 r.kind, .int .i64 r.low, .int .i64 r.high]⟩] ++ n1 := ⟨_, rfl⟩
  rw [← hM] at hX ⊢
  clear hM
  obtain ⟨q1, q2, q3, q4⟩ := tr_is f r asked
  rw [q3, q4]
  cases ht : traceC f r asked with
  | none =>
    have e1 : trSrv f r asked = 0 := by unfold trSrv; rw [ht]
    have e3 : trOk f r asked = false := by unfold trOk; rw [ht]; rfl
    have e2 : trSum f r asked = 0 := by unfold trSum; rw [e3]; rfl
    rw [e1, e2, e3]
    simp (config := {implicitDefEqProofs := false, maxDischargeDepth := 20}) (disch := first | omega | (simp only [lenE]; done) | (simp only [lenE]; omega) | rfl | (simp only [lenE, markR_len]; done) | (simp only [lenE, markR_len]; omega)) only [runE, mapE, listE, initT_5, initT_6, initT_7, initT_8, resV, oneV, binA, unA, reduceCtorEq, Nat.reduceEqDiff, Nat.reduceAdd, Nat.reduceLT, Nat.reduceLeDiff, Nat.reduceMul, Nat.reduceSub, ↓reduceIte, decide_true, decide_false, Bool.true_eq_false, Bool.false_eq_true, Bool.not_true, Bool.not_false, if_true, if_false, and_true, true_and, memE, celE, w64, Nat.zero_add, Nat.add_zero, Nat.mul_one, putL, and_self, ldn, ext_2_0, ext_2_1, stP_agg3p, onesB_sl]
    exact ext_ansV (hX.one _ _) rfl
  | some C =>
    obtain ⟨hCl, h20, hcr, hgf, hgr, hask⟩ := trace_parts ht
    have e3 : trOk f r asked = true := by unfold trOk; rw [ht]; rfl
    have e2 : trSum f r asked = sumTo asked asked.length := by unfold trSum; rw [e3]; rfl
    rw [e2, e3]
    simp (config := {implicitDefEqProofs := false, maxDischargeDepth := 20}) (disch := first | omega | (simp only [lenE]; done) | (simp only [lenE]; omega) | rfl | (simp only [lenE, markR_len]; done) | (simp only [lenE, markR_len]; omega)) only [runE, mapE, listE, initT_5, initT_6, initT_7, initT_8, resV, oneV, binA, unA, reduceCtorEq, Nat.reduceEqDiff, Nat.reduceAdd, Nat.reduceLT, Nat.reduceLeDiff, Nat.reduceMul, Nat.reduceSub, ↓reduceIte, decide_true, decide_false, Bool.true_eq_false, Bool.false_eq_true, Bool.not_true, Bool.not_false, if_true, if_false, and_true, true_and, memE, celE, w64, Nat.zero_add, Nat.add_zero, Nat.mul_one, putL, and_self, ldn, ext_2_0, ext_2_1, stP_agg3p, onesB_sl]
    have hX2 := hX.one TR [.slice (some ⟨i1, 0, none⟩) n 1, .slice (some ⟨i2, 0, none⟩) n 1, .int .i64 (trSrv f r asked)]
    first | refine callH_rc (l2Sum_rc _ av asked (hX2.keeps.ints hA) (sum_asked hask h20)) ?_ | refine rcallH_rc (l2Sum_rc _ av asked (hX2.keeps.ints hA) (sum_asked hask h20)) ?_
    rintro r2 n2 ⟨rfl, rfl⟩
    rw [List.append_nil]
    simp (config := {implicitDefEqProofs := false, maxDischargeDepth := 20}) (disch := first | omega | (simp only [lenE]; done) | (simp only [lenE]; omega) | rfl | (simp only [lenE, markR_len]; done) | (simp only [lenE, markR_len]; omega)) only [runE, mapE, listE, initT_5, initT_6, initT_7, initT_8, resV, oneV, binA, unA, reduceCtorEq, Nat.reduceEqDiff, Nat.reduceAdd, Nat.reduceLT, Nat.reduceLeDiff, Nat.reduceMul, Nat.reduceSub, ↓reduceIte, decide_true, decide_false, Bool.true_eq_false, Bool.false_eq_true, Bool.not_true, Bool.not_false, if_true, if_false, and_true, true_and, memE, celE, w64, Nat.zero_add, Nat.add_zero, Nat.mul_one, putL, and_self, ldn]
    exact ext_ansV hX2 rfl
end Go.Proofs.Ytnkbjliidenldaa.Ab
