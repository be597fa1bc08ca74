/- Days on which orders are given or told: the implementation. -/
import Derived.Test.YtnkbjliidenldaaAbFl6
namespace Go.Proofs.Ytnkbjliidenldaa.Ab
open Go Go.RowKit
set_option linter.unusedVariables false
set_option linter.unusedSimpArgs false

/-- The orders of days, told by a function that was handed over. -/
def OrdA (m : Mem) (fv : Value) (n : Nat) (ord : Fl → Nat → Option Int) : Prop :=
  ∃ g cap, fv = .func (.func g) #[] cap ∧ ∀ M, Keeps m M → ∀ (f : Fl) (A : Option Addr) (j c k : Nat), f.good = true → k < n → IntsA M (.slice A j c) f.under → RC Try.prog g ([.agg #[.int .i64 f.stock, .slice A j c], .int .i64 k] ++ cap.toList) M (AnsV (.tuple #[.int .i64 ((ord f k).getD 0), .bool (ord f k).isSome]))
theorem ext_day {M M' : Mem} {r : Option (Int × Fl)} {o s : Int} {f : Fl} {A : Option Addr} {j c : Nat} {b : Bool} (h : Ext M M') (hb : b = r.isSome) (hs : s = f.stock) (hP : IntsP f.under M.length M'.length M' (.slice A j c)) (hd : ∀ d, r = some d → d = (o, f)) :
    newQ M (AnsDay M r) (.tuple #[.agg #[.int .i64 o, .int .i64 s, .slice A j c], .bool b]) M' := by
  subst hb hs
  obtain ⟨n0, rfl, h0⟩ := h
  refine ⟨n0, rfl, h0, h0, (o, f, .slice A j c), rfl, ?_, fun d h => hd d h⟩
  rw [List.length_append, roM_len] at hP
  exact hP.back
theorem bld_day {o s : Int} {A : Option Addr} {j c : Nat} : bldA [.int .i64 0, .int .i64 0, .slice none 0 0] [(0, 1, .int .i64 o), (1, 2, .agg #[.int .i64 s, .slice A j c])] = some (.agg #[.int .i64 o, .int .i64 s, .slice A j c]) := rfl
theorem bld_day1 {s : Int} {A : Option Addr} {j c : Nat} : bldA [.int .i64 0, .int .i64 0, .slice none 0 0] [(1, 2, .agg #[.int .i64 s, .slice A j c])] = some (.agg #[.int .i64 0, .int .i64 s, .slice A j c]) := rfl
theorem daysOf1_step (m : Mem) (b1 b2 : Nat) (fo av : Value) (n : Nat) (ord : Fl → Nat → Option Int) (asked : List Int) (h1 : rdc m b1 0 = some fo) (h2 : rdc m b2 0 = some av) (ha : IntsA m av asked) (hn : n ≤ asked.length) (ho : OrdA m fo n ord) :
    StepA m (.func (.func 127) #[] #[.pointer (some ⟨b1, 0, none⟩), .pointer (some ⟨b2, 0, none⟩)]) n (stepO ord asked) := by
  obtain ⟨g, cap, rfl, hg⟩ := ho
  refine ⟨_, _, rfl, fun M hM x k hgood hk hi => ?_⟩
  obtain ⟨ox, f, u⟩ := x
  simp only [] at hgood hi
  obtain ⟨A, nn, c, rfl⟩ := hi.sl
  refine rc_of_run mixed ok_impl_daysOf_1 (by simp) (go_start _ _ _ ?_)
  have k1 := hM.1 _ _ _ h1
  have k2 := hM.1 _ _ _ h2
  have haM := hM.ints ha
  have l1 := rdc_blk2 k1
  have l2 := rdc_blk2 k2
  have hka : k < asked.length := by omega
  simp (config := {implicitDefEqProofs := false, maxDischargeDepth := 20}) (disch := first | omega | (simp only [lenE]; done) | (simp only [lenE]; omega) | rfl | (simp only [lenE, markR_len]; done) | (simp only [lenE, markR_len]; omega)) only [runE, mapE, listE, initT_5, initT_6, initT_7, initT_8, resV, oneV, binA, unA, reduceCtorEq, Nat.reduceEqDiff, Nat.reduceAdd, Nat.reduceLT, Nat.reduceLeDiff, Nat.reduceMul, Nat.reduceSub, ↓reduceIte, decide_true, decide_false, Bool.true_eq_false, Bool.false_eq_true, Bool.not_true, Bool.not_false, if_true, if_false, and_true, true_and, memE, celE, w64, Nat.zero_add, Nat.add_zero, Nat.mul_one, putL, and_self, ldn, c_impl_daysOf_1, r_impl_daysOf_1, xV, rdc_roM, k1, k2]
  obtain ⟨E, hE⟩ : ∃ E, E = roM M ++ [⟨.own, DT, [.int .i64 ox, .int .i64 f.stock, .slice A nn c]⟩] ++ [⟨.own, DT, [.int .i64 0, .int .i64 0, .slice none 0 0]⟩] := ⟨_, rfl⟩
  have hX : Ext M E := by rw [hE]; exact ((Ext.refl M).one _ _).one _ _
  have LE : E.length = M.length + 2 := by rw [hE]; simp [roM_len]
  have d1 : OwnB E M.length DT [.int .i64 ox, .int .i64 f.stock, .slice A nn c] := by rw [hE]; exact (OwnB.here (roM_len M).symm).ext _
  have d2 : OwnB E (M.length + 1) DT [.int .i64 0, .int .i64 0, .slice none 0 0] := by rw [hE]; exact OwnB.here (by simp [roM_len])
  rw [← hE]
  clear hE
  have kE := hX.keeps
  refine callH_rc (hg E (hM.trans kE) f _ _ _ k hgood hk (kE.ints hi)) ?_
  intro r n1 hA
  obtain ⟨hr, hn1⟩ : r = .tuple #[.int .i64 ((ord f k).getD 0), .bool (ord f k).isSome] ∧ NoRo n1 := hA
  subst hr
  obtain ⟨E1, hE1⟩ : ∃ E1, E1 = E ++ n1 := ⟨_, rfl⟩
  have hX1 : Ext M E1 := by rw [hE1]; exact hX.app hn1
  have L1 : M.length + 2 ≤ E1.length := by rw [hE1, List.length_append]; omega
  have e1 : OwnB E1 M.length DT [.int .i64 ox, .int .i64 f.stock, .slice A nn c] := by rw [hE1]; exact d1.ext _
  have e2 : OwnB E1 (M.length + 1) DT [.int .i64 0, .int .i64 0, .slice none 0 0] := by rw [hE1]; exact d2.ext _
  rw [← hE1]
  clear hE1 d1 d2
  have kE1 := hX1.keeps
  have q2 := kE1.1 _ _ _ k2
  have hi1 := kE1.ints hi
  have ha1 := kE1.ints haM
  obtain ⟨aa, haa⟩ : ∃ aa, aa = asked.getD k 0 := ⟨_, rfl⟩
  have lda := ha1.ld k hka
  rw [← haa] at lda
  have hsO : stepO ord asked f k = match ord f k with
    | none => none
    | some o => if dayOk f o aa then some (o, dayL f o aa) else none := by rw [haa]; rfl
  rw [hsO]
  cases hof : ord f k with
  | none =>
    simp only [Option.getD_none, Option.isSome_none]
    simp (config := {implicitDefEqProofs := false, maxDischargeDepth := 20}) (disch := first | omega | (simp only [lenE]; done) | (simp only [lenE]; omega) | rfl | (simp only [lenE, markR_len]; done) | (simp only [lenE, markR_len]; omega)) only [runE, mapE, listE, initT_5, initT_6, initT_7, initT_8, resV, oneV, binA, unA, reduceCtorEq, Nat.reduceEqDiff, Nat.reduceAdd, Nat.reduceLT, Nat.reduceLeDiff, Nat.reduceMul, Nat.reduceSub, ↓reduceIte, decide_true, decide_false, Bool.true_eq_false, Bool.false_eq_true, Bool.not_true, Bool.not_false, if_true, if_false, and_true, true_and, memE, celE, w64, Nat.zero_add, Nat.add_zero, Nat.mul_one, putL, and_self, ldn, ext_2_0, ext_2_1, e1.mk3', q2, ha1.at_ k hka, lda]
    with_reducible refine ⟨?_, ?_⟩
    · refine rcallH_rc (implDayOf_rc _ _ f 0 aa ⟨_, rfl, hi1⟩) ?_
      rintro r n2 ⟨hn2, w, rfl, hw⟩
      obtain ⟨uw, rfl, hw2⟩ := hw.now
      obtain ⟨B, kk, dd, rfl⟩ := hw2.in.sl
      obtain ⟨E2, hE2⟩ : ∃ E2, E2 = E1 ++ n2 := ⟨_, rfl⟩
      have hX2 : Ext M E2 := by rw [hE2]; exact hX1.app hn2
      have L2 : E2.length = E1.length + n2.length := by rw [hE2, List.length_append]
      have c2 : OwnB E2 (M.length + 1) DT [.int .i64 0, .int .i64 0, .slice none 0 0] := by rw [hE2]; exact e2.ext _
      rw [← L2, ← hE2] at hw2
      have P2 : IntsP (dayA f 0 aa).under M.length E2.length E2 (.slice B kk dd) := IntsP.wide _ _ _ _ _ _ _ (by omega) (Nat.le_refl _) hw2
      rw [← hE2]
      clear hE2 hw hw2
      simp (config := {implicitDefEqProofs := false, maxDischargeDepth := 20}) (disch := first | omega | (simp only [lenE]; done) | (simp only [lenE]; omega) | rfl | (simp only [lenE, markR_len]; done) | (simp only [lenE, markR_len]; omega)) only [runE, mapE, listE, initT_5, initT_6, initT_7, initT_8, resV, oneV, binA, unA, reduceCtorEq, Nat.reduceEqDiff, Nat.reduceAdd, Nat.reduceLT, Nat.reduceLeDiff, Nat.reduceMul, Nat.reduceSub, ↓reduceIte, decide_true, decide_false, Bool.true_eq_false, Bool.false_eq_true, Bool.not_true, Bool.not_false, if_true, if_false, and_true, true_and, memE, celE, w64, Nat.zero_add, Nat.add_zero, Nat.mul_one, putL, and_self, ldn, ext_2_0, ext_2_1, stP_agg2f, onesB_sl]
      obtain ⟨E3, hE3⟩ : ∃ E3, E3 = E2 ++ [⟨.own, FT, [.int .i64 (dayA f 0 aa).stock, .slice B kk dd]⟩] := ⟨_, rfl⟩
      have hX3 : Ext M E3 := by rw [hE3]; exact hX2.one _ _
      have L3 : E3.length = E2.length + 1 := by rw [hE3]; simp
      have bz : OwnB E3 E2.length FT [.int .i64 (dayA f 0 aa).stock, .slice B kk dd] := by rw [hE3]; exact OwnB.here rfl
      have c3 : OwnB E3 (M.length + 1) DT [.int .i64 0, .int .i64 0, .slice none 0 0] := by rw [hE3]; exact c2.ext _
      have P3 : IntsP (dayA f 0 aa).under M.length E3.length E3 (.slice B kk dd) := IntsP.wide _ M.length E2.length _ _ _ _ (Nat.le_refl _) (by omega) (by rw [hE3]; exact P2.ext (Nat.le_refl _) _)
      try rw [← hE3]
      clear hE3
      have s3 := c3.st (off := 0) (vs := [.int .i64 0, .int .i64 (dayA f 0 aa).stock, .slice B kk dd]) (by simp) rfl
      have p3 : OwnB (E3.set (M.length + 1) ⟨.own, DT, [.int .i64 0, .int .i64 (dayA f 0 aa).stock, .slice B kk dd]⟩) (M.length + 1) DT [.int .i64 0, .int .i64 (dayA f 0 aa).stock, .slice B kk dd] := c3.set_self _ _
      have P4 : IntsP (dayA f 0 aa).under M.length (E3.set (M.length + 1) ⟨.own, DT, [.int .i64 0, .int .i64 (dayA f 0 aa).stock, .slice B kk dd]⟩).length (E3.set (M.length + 1) ⟨.own, DT, [.int .i64 0, .int .i64 (dayA f 0 aa).stock, .slice B kk dd]⟩) (.slice B kk dd) := by
        rw [List.length_set]
        exact P3.other c3 (by decide) _
      simp (config := {implicitDefEqProofs := false, maxDischargeDepth := 20}) (disch := first | omega | (simp only [lenE]; done) | (simp only [lenE]; omega) | rfl | (simp only [lenE, markR_len]; done) | (simp only [lenE, markR_len]; omega)) only [runE, mapE, listE, initT_5, initT_6, initT_7, initT_8, resV, oneV, binA, unA, reduceCtorEq, Nat.reduceEqDiff, Nat.reduceAdd, Nat.reduceLT, Nat.reduceLeDiff, Nat.reduceMul, Nat.reduceSub, ↓reduceIte, decide_true, decide_false, Bool.true_eq_false, Bool.false_eq_true, Bool.not_true, Bool.not_false, if_true, if_false, and_true, true_and, memE, celE, w64, Nat.zero_add, Nat.add_zero, Nat.mul_one, putL, and_self, ldn, bz.mk2', bld_day, stP_agg3p, putL, s3, p3.mk3']
      exact ext_day (f := dayA f 0 aa) (hX3.put (by omega) _ _) rfl rfl P4 (fun d h => by cases h)
    · have hXc : Ext M (E1 ++ [⟨.own, FT, [.int .i64 0, .slice none 0 0]⟩]) := hX1.one _ _
      refine rcallH_rc (implDayOf_rc _ _ f 0 aa ⟨_, rfl, hi1.ext _⟩) ?_
      rintro r n2 ⟨hn2, w, rfl, hw⟩
      obtain ⟨uw, rfl, hw2⟩ := hw.now
      obtain ⟨B, kk, dd, rfl⟩ := hw2.in.sl
      obtain ⟨E2, hE2⟩ : ∃ E2, E2 = E1 ++ [⟨.own, FT, [.int .i64 0, .slice none 0 0]⟩] ++ n2 := ⟨_, rfl⟩
      have hX2 : Ext M E2 := by rw [hE2]; exact hXc.app hn2
      have L2 : E2.length = E1.length + 1 + n2.length := by rw [hE2]; simp; omega
      have c2 : OwnB E2 (M.length + 1) DT [.int .i64 0, .int .i64 0, .slice none 0 0] := by rw [hE2]; exact (e2.ext _).ext _
      have y2 : OwnB E2 E1.length FT [.int .i64 0, .slice none 0 0] := by rw [hE2]; exact (OwnB.here rfl).ext _
      have e3l : (E1 ++ [(⟨.own, FT, [.int .i64 0, .slice none 0 0]⟩ : Blk)]).length + n2.length = E2.length := by rw [L2]; simp
      rw [e3l, ← hE2] at hw2
      have P2 : IntsP (dayA f 0 aa).under M.length E2.length E2 (.slice B kk dd) := IntsP.wide _ _ _ _ _ _ _ (by simp; omega) (Nat.le_refl _) hw2
      rw [← hE2]
      clear hE2 hw hw2
      have s2 := y2.st (off := 0) (vs := [.int .i64 (dayA f 0 aa).stock, .slice B kk dd]) (by simp) rfl
      simp (config := {implicitDefEqProofs := false, maxDischargeDepth := 20}) (disch := first | omega | (simp only [lenE]; done) | (simp only [lenE]; omega) | rfl | (simp only [lenE, markR_len]; done) | (simp only [lenE, markR_len]; omega)) only [runE, mapE, listE, initT_5, initT_6, initT_7, initT_8, resV, oneV, binA, unA, reduceCtorEq, Nat.reduceEqDiff, Nat.reduceAdd, Nat.reduceLT, Nat.reduceLeDiff, Nat.reduceMul, Nat.reduceSub, ↓reduceIte, decide_true, decide_false, Bool.true_eq_false, Bool.false_eq_true, Bool.not_true, Bool.not_false, if_true, if_false, and_true, true_and, memE, celE, w64, Nat.zero_add, Nat.add_zero, Nat.mul_one, putL, and_self, ldn, ext_2_0, ext_2_1, stP_agg2f, putL, s2]
      obtain ⟨E3, hE3⟩ : ∃ E3, E3 = E2.set E1.length ⟨.own, FT, [.int .i64 (dayA f 0 aa).stock, .slice B kk dd]⟩ := ⟨_, rfl⟩
      have hX3 : Ext M E3 := by rw [hE3]; exact hX2.put (by omega) _ _
      have L3 : E3.length = E2.length := by rw [hE3, List.length_set]
      have bz : OwnB E3 E1.length FT [.int .i64 (dayA f 0 aa).stock, .slice B kk dd] := by rw [hE3]; exact y2.set_self _ _
      have c3 : OwnB E3 (M.length + 1) DT [.int .i64 0, .int .i64 0, .slice none 0 0] := by rw [hE3]; exact c2.set_ne (by omega) _
      have P3 : IntsP (dayA f 0 aa).under M.length E3.length E3 (.slice B kk dd) := by rw [L3, hE3]; exact P2.other y2 (by decide) _
      try rw [← hE3]
      clear hE3
      have s3 := c3.st (off := 0) (vs := [.int .i64 0, .int .i64 (dayA f 0 aa).stock, .slice B kk dd]) (by simp) rfl
      have p3 : OwnB (E3.set (M.length + 1) ⟨.own, DT, [.int .i64 0, .int .i64 (dayA f 0 aa).stock, .slice B kk dd]⟩) (M.length + 1) DT [.int .i64 0, .int .i64 (dayA f 0 aa).stock, .slice B kk dd] := c3.set_self _ _
      have P4 : IntsP (dayA f 0 aa).under M.length (E3.set (M.length + 1) ⟨.own, DT, [.int .i64 0, .int .i64 (dayA f 0 aa).stock, .slice B kk dd]⟩).length (E3.set (M.length + 1) ⟨.own, DT, [.int .i64 0, .int .i64 (dayA f 0 aa).stock, .slice B kk dd]⟩) (.slice B kk dd) := by
        rw [List.length_set]
        exact P3.other c3 (by decide) _
      simp (config := {implicitDefEqProofs := false, maxDischargeDepth := 20}) (disch := first | omega | (simp only [lenE]; done) | (simp only [lenE]; omega) | rfl | (simp only [lenE, markR_len]; done) | (simp only [lenE, markR_len]; omega)) only [runE, mapE, listE, initT_5, initT_6, initT_7, initT_8, resV, oneV, binA, unA, reduceCtorEq, Nat.reduceEqDiff, Nat.reduceAdd, Nat.reduceLT, Nat.reduceLeDiff, Nat.reduceMul, Nat.reduceSub, ↓reduceIte, decide_true, decide_false, Bool.true_eq_false, Bool.false_eq_true, Bool.not_true, Bool.not_false, if_true, if_false, and_true, true_and, memE, celE, w64, Nat.zero_add, Nat.add_zero, Nat.mul_one, putL, and_self, ldn, bz.mk2', bld_day, stP_agg3p, putL, s3, p3.mk3']
      exact ext_day (f := dayA f 0 aa) (hX3.put (by omega) _ _) rfl rfl P4 (fun d h => by cases h)
  | some oo =>
    simp only [Option.getD_some, Option.isSome_some]
    simp (config := {implicitDefEqProofs := false, maxDischargeDepth := 20}) (disch := first | omega | (simp only [lenE]; done) | (simp only [lenE]; omega) | rfl | (simp only [lenE, markR_len]; done) | (simp only [lenE, markR_len]; omega)) only [runE, mapE, listE, initT_5, initT_6, initT_7, initT_8, resV, oneV, binA, unA, reduceCtorEq, Nat.reduceEqDiff, Nat.reduceAdd, Nat.reduceLT, Nat.reduceLeDiff, Nat.reduceMul, Nat.reduceSub, ↓reduceIte, decide_true, decide_false, Bool.true_eq_false, Bool.false_eq_true, Bool.not_true, Bool.not_false, if_true, if_false, and_true, true_and, memE, celE, w64, Nat.zero_add, Nat.add_zero, Nat.mul_one, putL, and_self, ldn, ext_2_0, ext_2_1, e1.mk3', q2, ha1.at_ k hka, lda]
    with_reducible refine ⟨?_, ?_⟩
    · refine rcallH_rc (implDayOf_rc _ _ f oo aa ⟨_, rfl, hi1⟩) ?_
      rintro r n2 ⟨hn2, w, rfl, hw⟩
      obtain ⟨uw, rfl, hw2⟩ := hw.now
      obtain ⟨B, kk, dd, rfl⟩ := hw2.in.sl
      obtain ⟨E2, hE2⟩ : ∃ E2, E2 = E1 ++ n2 := ⟨_, rfl⟩
      have hX2 : Ext M E2 := by rw [hE2]; exact hX1.app hn2
      have L2 : E2.length = E1.length + n2.length := by rw [hE2, List.length_append]
      have c2 : OwnB E2 (M.length + 1) DT [.int .i64 0, .int .i64 0, .slice none 0 0] := by rw [hE2]; exact e2.ext _
      rw [← L2, ← hE2] at hw2
      have P2 : IntsP (dayA f oo aa).under M.length E2.length E2 (.slice B kk dd) := IntsP.wide _ _ _ _ _ _ _ (by omega) (Nat.le_refl _) hw2
      rw [← hE2]
      clear hE2 hw hw2
      simp (config := {implicitDefEqProofs := false, maxDischargeDepth := 20}) (disch := first | omega | (simp only [lenE]; done) | (simp only [lenE]; omega) | rfl | (simp only [lenE, markR_len]; done) | (simp only [lenE, markR_len]; omega)) only [runE, mapE, listE, initT_5, initT_6, initT_7, initT_8, resV, oneV, binA, unA, reduceCtorEq, Nat.reduceEqDiff, Nat.reduceAdd, Nat.reduceLT, Nat.reduceLeDiff, Nat.reduceMul, Nat.reduceSub, ↓reduceIte, decide_true, decide_false, Bool.true_eq_false, Bool.false_eq_true, Bool.not_true, Bool.not_false, if_true, if_false, and_true, true_and, memE, celE, w64, Nat.zero_add, Nat.add_zero, Nat.mul_one, putL, and_self, ldn, ext_2_0, ext_2_1, stP_agg2f, onesB_sl]
      obtain ⟨E3, hE3⟩ : ∃ E3, E3 = E2 ++ [⟨.own, FT, [.int .i64 (dayA f oo aa).stock, .slice B kk dd]⟩] := ⟨_, rfl⟩
      have hX3 : Ext M E3 := by rw [hE3]; exact hX2.one _ _
      have L3 : E3.length = E2.length + 1 := by rw [hE3]; simp
      have bz : OwnB E3 E2.length FT [.int .i64 (dayA f oo aa).stock, .slice B kk dd] := by rw [hE3]; exact OwnB.here rfl
      have c3 : OwnB E3 (M.length + 1) DT [.int .i64 0, .int .i64 0, .slice none 0 0] := by rw [hE3]; exact c2.ext _
      have P3 : IntsP (dayA f oo aa).under M.length E3.length E3 (.slice B kk dd) := IntsP.wide _ M.length E2.length _ _ _ _ (Nat.le_refl _) (by omega) (by rw [hE3]; exact P2.ext (Nat.le_refl _) _)
      try rw [← hE3]
      clear hE3
      have s3 := c3.st (off := 0) (vs := [.int .i64 oo, .int .i64 (dayA f oo aa).stock, .slice B kk dd]) (by simp) rfl
      have p3 : OwnB (E3.set (M.length + 1) ⟨.own, DT, [.int .i64 oo, .int .i64 (dayA f oo aa).stock, .slice B kk dd]⟩) (M.length + 1) DT [.int .i64 oo, .int .i64 (dayA f oo aa).stock, .slice B kk dd] := c3.set_self _ _
      have P4 : IntsP (dayA f oo aa).under M.length (E3.set (M.length + 1) ⟨.own, DT, [.int .i64 oo, .int .i64 (dayA f oo aa).stock, .slice B kk dd]⟩).length (E3.set (M.length + 1) ⟨.own, DT, [.int .i64 oo, .int .i64 (dayA f oo aa).stock, .slice B kk dd]⟩) (.slice B kk dd) := by
        rw [List.length_set]
        exact P3.other c3 (by decide) _
      simp (config := {implicitDefEqProofs := false, maxDischargeDepth := 20}) (disch := first | omega | (simp only [lenE]; done) | (simp only [lenE]; omega) | rfl | (simp only [lenE, markR_len]; done) | (simp only [lenE, markR_len]; omega)) only [runE, mapE, listE, initT_5, initT_6, initT_7, initT_8, resV, oneV, binA, unA, reduceCtorEq, Nat.reduceEqDiff, Nat.reduceAdd, Nat.reduceLT, Nat.reduceLeDiff, Nat.reduceMul, Nat.reduceSub, ↓reduceIte, decide_true, decide_false, Bool.true_eq_false, Bool.false_eq_true, Bool.not_true, Bool.not_false, if_true, if_false, and_true, true_and, memE, celE, w64, Nat.zero_add, Nat.add_zero, Nat.mul_one, putL, and_self, ldn, bz.mk2', bld_day, stP_agg3p, putL, s3, p3.mk3']
      refine ext_day (f := dayA f oo aa) (hX3.put (by omega) _ _) ?_ rfl P4 (fun d h => ?_)
      · cases dayOk f oo aa <;> rfl
      · cases hdk : dayOk f oo aa with
        | false => rw [hdk] at h; cases h
        | true => rw [hdk] at h; cases h; rw [dayA_yes hdk]
    · have hXc : Ext M (E1 ++ [⟨.own, FT, [.int .i64 0, .slice none 0 0]⟩]) := hX1.one _ _
      refine rcallH_rc (implDayOf_rc _ _ f oo aa ⟨_, rfl, hi1.ext _⟩) ?_
      rintro r n2 ⟨hn2, w, rfl, hw⟩
      obtain ⟨uw, rfl, hw2⟩ := hw.now
      obtain ⟨B, kk, dd, rfl⟩ := hw2.in.sl
      obtain ⟨E2, hE2⟩ : ∃ E2, E2 = E1 ++ [⟨.own, FT, [.int .i64 0, .slice none 0 0]⟩] ++ n2 := ⟨_, rfl⟩
      have hX2 : Ext M E2 := by rw [hE2]; exact hXc.app hn2
      have L2 : E2.length = E1.length + 1 + n2.length := by rw [hE2]; simp; omega
      have c2 : OwnB E2 (M.length + 1) DT [.int .i64 0, .int .i64 0, .slice none 0 0] := by rw [hE2]; exact (e2.ext _).ext _
      have y2 : OwnB E2 E1.length FT [.int .i64 0, .slice none 0 0] := by rw [hE2]; exact (OwnB.here rfl).ext _
      have e3l : (E1 ++ [(⟨.own, FT, [.int .i64 0, .slice none 0 0]⟩ : Blk)]).length + n2.length = E2.length := by rw [L2]; simp
      rw [e3l, ← hE2] at hw2
      have P2 : IntsP (dayA f oo aa).under M.length E2.length E2 (.slice B kk dd) := IntsP.wide _ _ _ _ _ _ _ (by simp; omega) (Nat.le_refl _) hw2
      rw [← hE2]
      clear hE2 hw hw2
      have s2 := y2.st (off := 0) (vs := [.int .i64 (dayA f oo aa).stock, .slice B kk dd]) (by simp) rfl
      simp (config := {implicitDefEqProofs := false, maxDischargeDepth := 20}) (disch := first | omega | (simp only [lenE]; done) | (simp only [lenE]; omega) | rfl | (simp only [lenE, markR_len]; done) | (simp only [lenE, markR_len]; omega)) only [runE, mapE, listE, initT_5, initT_6, initT_7, initT_8, resV, oneV, binA, unA, reduceCtorEq, Nat.reduceEqDiff, Nat.reduceAdd, Nat.reduceLT, Nat.reduceLeDiff, Nat.reduceMul, Nat.reduceSub, ↓reduceIte, decide_true, decide_false, Bool.true_eq_false, Bool.false_eq_true, Bool.not_true, Bool.not_false, if_true, if_false, and_true, true_and, memE, celE, w64, Nat.zero_add, Nat.add_zero, Nat.mul_one, putL, and_self, ldn, ext_2_0, ext_2_1, stP_agg2f, putL, s2]
      obtain ⟨E3, hE3⟩ : ∃ E3, E3 = E2.set E1.length ⟨.own, FT, [.int .i64 (dayA f oo aa).stock, .slice B kk dd]⟩ := ⟨_, rfl⟩
      have hX3 : Ext M E3 := by rw [hE3]; exact hX2.put (by omega) _ _
      have L3 : E3.length = E2.length := by rw [hE3, List.length_set]
      have bz : OwnB E3 E1.length FT [.int .i64 (dayA f oo aa).stock, .slice B kk dd] := by rw [hE3]; exact y2.set_self _ _
      have c3 : OwnB E3 (M.length + 1) DT [.int .i64 0, .int .i64 0, .slice none 0 0] := by rw [hE3]; exact c2.set_ne (by omega) _
      have P3 : IntsP (dayA f oo aa).under M.length E3.length E3 (.slice B kk dd) := by rw [L3, hE3]; exact P2.other y2 (by decide) _
      try rw [← hE3]
      clear hE3
      have s3 := c3.st (off := 0) (vs := [.int .i64 oo, .int .i64 (dayA f oo aa).stock, .slice B kk dd]) (by simp) rfl
      have p3 : OwnB (E3.set (M.length + 1) ⟨.own, DT, [.int .i64 oo, .int .i64 (dayA f oo aa).stock, .slice B kk dd]⟩) (M.length + 1) DT [.int .i64 oo, .int .i64 (dayA f oo aa).stock, .slice B kk dd] := c3.set_self _ _
      have P4 : IntsP (dayA f oo aa).under M.length (E3.set (M.length + 1) ⟨.own, DT, [.int .i64 oo, .int .i64 (dayA f oo aa).stock, .slice B kk dd]⟩).length (E3.set (M.length + 1) ⟨.own, DT, [.int .i64 oo, .int .i64 (dayA f oo aa).stock, .slice B kk dd]⟩) (.slice B kk dd) := by
        rw [List.length_set]
        exact P3.other c3 (by decide) _
      simp (config := {implicitDefEqProofs := false, maxDischargeDepth := 20}) (disch := first | omega | (simp only [lenE]; done) | (simp only [lenE]; omega) | rfl | (simp only [lenE, markR_len]; done) | (simp only [lenE, markR_len]; omega)) only [runE, mapE, listE, initT_5, initT_6, initT_7, initT_8, resV, oneV, binA, unA, reduceCtorEq, Nat.reduceEqDiff, Nat.reduceAdd, Nat.reduceLT, Nat.reduceLeDiff, Nat.reduceMul, Nat.reduceSub, ↓reduceIte, decide_true, decide_false, Bool.true_eq_false, Bool.false_eq_true, Bool.not_true, Bool.not_false, if_true, if_false, and_true, true_and, memE, celE, w64, Nat.zero_add, Nat.add_zero, Nat.mul_one, putL, and_self, ldn, bz.mk2', bld_day, stP_agg3p, putL, s3, p3.mk3']
      refine ext_day (f := dayA f oo aa) (hX3.put (by omega) _ _) ?_ rfl P4 (fun d h => ?_)
      · cases dayOk f oo aa <;> rfl
      · cases hdk : dayOk f oo aa with
        | false => rw [hdk] at h; cases h
        | true => rw [hdk] at h; cases h; rw [dayA_yes hdk]
/-- Days behind each other. -/
def AnsDays (m : Mem) (r : Option (List (Int × Fl))) (v : Value) (new : Mem) : Prop :=
  NoRo new ∧ ∃ (id n fl : Nat), v = .tuple #[.slice (some ⟨id, 0, none⟩) n fl, .bool r.isSome] ∧ ∀ C, r = some C → ∃ X : List Xd, X.map xP = C ∧ n = X.length ∧ m.length ≤ id ∧ OwnB (m ++ new) id DT (xsC X) ∧ ∀ x ∈ X, IntsP x.2.1.under m.length (m.length + new.length) (m ++ new) x.2.2
theorem ext_days {m M : Mem} {r : Option (List (Int × Fl))} {id n fl : Nat} {b : Bool} (h : Ext m M) (hb : b = r.isSome) (hr : ∀ C, r = some C → ∃ X : List Xd, X.map xP = C ∧ n = X.length ∧ m.length ≤ id ∧ OwnB M id DT (xsC X) ∧ ∀ x ∈ X, IntsP x.2.1.under m.length M.length M x.2.2) :
    newQ m (AnsDays m r) (.tuple #[.slice (some ⟨id, 0, none⟩) n fl, .bool b]) M := by
  subst hb
  obtain ⟨n0, rfl, h0⟩ := h
  refine ⟨n0, rfl, h0, h0, id, n, fl, rfl, fun C hC => ?_⟩
  obtain ⟨X, h1, h2, h3, h4, h5⟩ := hr C hC
  refine ⟨X, h1, h2, h3, h4.back h3, fun x hx => ?_⟩
  have := h5 x hx
  rw [List.length_append, roM_len] at this
  exact this.back
def daysR (ord : Fl → Nat → Option Int) (f : Fl) (asked : List Int) : Option (List (Int × Fl)) := if f.good && numsB asked 20 20 then crs ord asked f asked.length else none
theorem daysOf_rc (m : Mem) (v av fv : Value) (f : Fl) (asked : List Int) (ord : Fl → Nat → Option Int) (h : FlA m v f) (ha : IntsA m av asked) (ho : OrdA m fv asked.length ord) :
    RC Try.prog 81 [v, av, fv] m (AnsDays m (daysR ord f asked)) := by
  refine rc_of_run mixed ok_impl_daysOf (by simp) (go_start _ _ _ ?_)
  obtain ⟨u, rfl, hu⟩ := h
  obtain ⟨A, j, c, rfl⟩ := hu.sl
  obtain ⟨B, ja, ca, rfl⟩ := ha.sl
  obtain ⟨g, cap, rfl, hg⟩ := ho
  simp (config := {implicitDefEqProofs := false, maxDischargeDepth := 20}) (disch := first | omega | (simp only [lenE]; done) | (simp only [lenE]; omega) | rfl | (simp only [lenE, markR_len]; done) | (simp only [lenE, markR_len]; omega)) only [runE, mapE, listE, initT_5, initT_6, initT_7, initT_8, resV, oneV, binA, unA, reduceCtorEq, Nat.reduceEqDiff, Nat.reduceAdd, Nat.reduceLT, Nat.reduceLeDiff, Nat.reduceMul, Nat.reduceSub, ↓reduceIte, decide_true, decide_false, Bool.true_eq_false, Bool.false_eq_true, Bool.not_true, Bool.not_false, if_true, if_false, and_true, true_and, memE, celE, w64, Nat.zero_add, Nat.add_zero, Nat.mul_one, putL, and_self, ldn, c_impl_daysOf, r_impl_daysOf]
  obtain ⟨E, hE⟩ : ∃ E, E = roM m ++ [⟨.own, FT, [.int .i64 f.stock, .slice A j c]⟩] ++ [⟨.own, 22, [.slice B ja ca]⟩] ++ [⟨.own, 95, [.func (.func g) #[] cap]⟩] := ⟨_, rfl⟩
  have hX : Ext m E := by rw [hE]; exact (((Ext.refl m).one _ _).one _ _).one _ _
  have LE : E.length = m.length + 3 := by rw [hE]; simp [roM_len]
  have b1 : OwnB E m.length FT [.int .i64 f.stock, .slice A j c] := by rw [hE]; exact ((OwnB.here (roM_len m).symm).ext _).ext _
  have b2 : OwnB E (m.length + 1) 22 [.slice B ja ca] := by rw [hE]; exact (OwnB.here (by simp [roM_len])).ext _
  have b3 : OwnB E (m.length + 2) 95 [.func (.func g) #[] cap] := by rw [hE]; exact OwnB.here (by simp [roM_len])
  try rw [← hE]
  clear hE
  try simp (config := {implicitDefEqProofs := false, maxDischargeDepth := 20}) (disch := first | omega | (simp only [lenE]; done) | (simp only [lenE]; omega) | rfl | (simp only [lenE, markR_len]; done) | (simp only [lenE, markR_len]; omega)) only [runE, mapE, listE, initT_5, initT_6, initT_7, initT_8, resV, oneV, binA, unA, reduceCtorEq, Nat.reduceEqDiff, Nat.reduceAdd, Nat.reduceLT, Nat.reduceLeDiff, Nat.reduceMul, Nat.reduceSub, ↓reduceIte, decide_true, decide_false, Bool.true_eq_false, Bool.false_eq_true, Bool.not_true, Bool.not_false, if_true, if_false, and_true, true_and, memE, celE, w64, Nat.zero_add, Nat.add_zero, Nat.mul_one, putL, and_self, ldn, b1.mk2']
  have hKE := hX.keeps
  refine callH_rc (IsFlow_rc _ _ f ⟨_, rfl, hKE.ints hu⟩) ?_
  rintro r n1 ⟨rfl, hn1⟩
  have hX1 := hX.app hn1
  cases hf : f.good with
  | false =>
    simp (config := {implicitDefEqProofs := false, maxDischargeDepth := 20}) (disch := first | omega | (simp only [lenE]; done) | (simp only [lenE]; omega) | rfl | (simp only [lenE, markR_len]; done) | (simp only [lenE, markR_len]; omega)) only [runE, mapE, listE, initT_5, initT_6, initT_7, initT_8, resV, oneV, binA, unA, reduceCtorEq, Nat.reduceEqDiff, Nat.reduceAdd, Nat.reduceLT, Nat.reduceLeDiff, Nat.reduceMul, Nat.reduceSub, ↓reduceIte, decide_true, decide_false, Bool.true_eq_false, Bool.false_eq_true, Bool.not_true, Bool.not_false, if_true, if_false, and_true, true_and, memE, celE, w64, Nat.zero_add, Nat.add_zero, Nat.mul_one, putL, and_self, ldn, bsl_no]
    have e : daysR ord f asked = none := by simp [daysR, hf]
    rw [e]
    exact ext_days (hX1.one _ _) rfl fun C hC => by cases hC
  | true =>
    simp (config := {implicitDefEqProofs := false, maxDischargeDepth := 20}) (disch := first | omega | (simp only [lenE]; done) | (simp only [lenE]; omega) | rfl | (simp only [lenE, markR_len]; done) | (simp only [lenE, markR_len]; omega)) only [runE, mapE, listE, initT_5, initT_6, initT_7, initT_8, resV, oneV, binA, unA, reduceCtorEq, Nat.reduceEqDiff, Nat.reduceAdd, Nat.reduceLT, Nat.reduceLeDiff, Nat.reduceMul, Nat.reduceSub, ↓reduceIte, decide_true, decide_false, Bool.true_eq_false, Bool.false_eq_true, Bool.not_true, Bool.not_false, if_true, if_false, and_true, true_and, memE, celE, w64, Nat.zero_add, Nat.add_zero, Nat.mul_one, putL, and_self, ldn, (b2.ext n1).mk1']
    refine callH_rc (areAsked_rc _ _ asked ((hKE.ints ha).ext n1)) ?_
    rintro r n2 ⟨rfl, hn2⟩
    have hX2 := hX1.app hn2
    have c1 := (b1.ext n1).ext n2
    have c2 := (b2.ext n1).ext n2
    have c3 := (b3.ext n1).ext n2
    have L2 : m.length + 3 ≤ (E ++ n1 ++ n2).length := by simp; omega
    obtain ⟨M, hM⟩ : ∃ M, M = E ++ n1 ++ n2 := ⟨_, rfl⟩
    rw [← hM] at hX2 c1 c2 c3 L2 ⊢
    clear hM
    cases hq : numsB asked 20 20 with
    | false =>
      simp (config := {implicitDefEqProofs := false, maxDischargeDepth := 20}) (disch := first | omega | (simp only [lenE]; done) | (simp only [lenE]; omega) | rfl | (simp only [lenE, markR_len]; done) | (simp only [lenE, markR_len]; omega)) only [runE, mapE, listE, initT_5, initT_6, initT_7, initT_8, resV, oneV, binA, unA, reduceCtorEq, Nat.reduceEqDiff, Nat.reduceAdd, Nat.reduceLT, Nat.reduceLeDiff, Nat.reduceMul, Nat.reduceSub, ↓reduceIte, decide_true, decide_false, Bool.true_eq_false, Bool.false_eq_true, Bool.not_true, Bool.not_false, if_true, if_false, and_true, true_and, memE, celE, w64, Nat.zero_add, Nat.add_zero, Nat.mul_one, putL, and_self, ldn, bsl_no]
      have e : daysR ord f asked = none := by simp [daysR, hq]
      rw [e]
      exact ext_days (hX2.one _ _) rfl fun C hC => by cases hC
    | true =>
      have hF := goodF_iff.1 hf
      have hl4 := hF.l4
      obtain ⟨h20, hall⟩ := numsB_iff.1 hq
      have hKM := hX2.keeps
      have huM := hKM.ints hu
      have eR : daysR ord f asked = crs ord asked f asked.length := by simp [daysR, hf, hq]
      rw [eR]
      have hlen := (hKM.ints ha).len
      simp (config := {implicitDefEqProofs := false, maxDischargeDepth := 20}) (disch := first | omega | (simp only [lenE]; done) | (simp only [lenE]; omega) | rfl | (simp only [lenE, markR_len]; done) | (simp only [lenE, markR_len]; omega)) only [runE, mapE, listE, initT_5, initT_6, initT_7, initT_8, resV, oneV, binA, unA, reduceCtorEq, Nat.reduceEqDiff, Nat.reduceAdd, Nat.reduceLT, Nat.reduceLeDiff, Nat.reduceMul, Nat.reduceSub, ↓reduceIte, decide_true, decide_false, Bool.true_eq_false, Bool.false_eq_true, Bool.not_true, Bool.not_false, if_true, if_false, and_true, true_and, memE, celE, w64, Nat.zero_add, Nat.add_zero, Nat.mul_one, putL, and_self, ldn, c1.mk2']
      with_reducible refine ⟨?_, ?_⟩
      · refine rcallH_rc (clone_rc _ _ f.under huM (by omega)) ?_
        intro r n3 hA3
        obtain ⟨cid, fl, rfl, hcid, hco, hcl, hn3⟩ := hA3.row
        obtain ⟨M2, hM2⟩ : ∃ M2, M2 = M ++ n3 := ⟨_, rfl⟩
        have hXM2 : Ext m M2 := by rw [hM2]; exact hX2.app hn3
        have y2 : OwnB M2 (m.length + 1) 22 [.slice B ja ca] := by rw [hM2]; exact c2.ext _
        have y3 : OwnB M2 (m.length + 2) 95 [.func (.func g) #[] cap] := by rw [hM2]; exact c3.ext _
        rw [← hM2] at hco ⊢
        clear hM2
        simp (config := {implicitDefEqProofs := false, maxDischargeDepth := 20}) (disch := first | omega | (simp only [lenE]; done) | (simp only [lenE]; omega) | rfl | (simp only [lenE, markR_len]; done) | (simp only [lenE, markR_len]; omega)) only [runE, mapE, listE, initT_5, initT_6, initT_7, initT_8, resV, oneV, binA, unA, reduceCtorEq, Nat.reduceEqDiff, Nat.reduceAdd, Nat.reduceLT, Nat.reduceLeDiff, Nat.reduceMul, Nat.reduceSub, ↓reduceIte, decide_true, decide_false, Bool.true_eq_false, Bool.false_eq_true, Bool.not_true, Bool.not_false, if_true, if_false, and_true, true_and, memE, celE, w64, Nat.zero_add, Nat.add_zero, Nat.mul_one, putL, and_self, ldn, bld_fl, bld_day1, stP_agg3p, onesB_sl]
        obtain ⟨M3, hM3⟩ : ∃ M3, M3 = M2 ++ [⟨.own, DT, [.int .i64 0, .int .i64 f.stock, .slice (some ⟨cid, 0, none⟩) f.under.length fl]⟩] := ⟨_, rfl⟩
        have hX3 : Ext m M3 := by rw [hM3]; exact hXM2.one _ _
        have w2 : OwnB M3 (m.length + 1) 22 [.slice B ja ca] := by rw [hM3]; exact y2.ext _
        have w3 : OwnB M3 (m.length + 2) 95 [.func (.func g) #[] cap] := by rw [hM3]; exact y3.ext _
        have wz : OwnB M3 M2.length DT [.int .i64 0, .int .i64 f.stock, .slice (some ⟨cid, 0, none⟩) f.under.length fl] := by rw [hM3]; exact OwnB.here rfl
        have hco3 : OwnR M3 cid f.under := by rw [hM3]; exact hco.ext _
        try rw [← hM3]
        clear hM3
        have hK3 := hX3.keeps
        have ha3 := hK3.ints ha
        try simp (config := {implicitDefEqProofs := false, maxDischargeDepth := 20}) (disch := first | omega | (simp only [lenE]; done) | (simp only [lenE]; omega) | rfl | (simp only [lenE, markR_len]; done) | (simp only [lenE, markR_len]; omega)) only [runE, mapE, listE, initT_5, initT_6, initT_7, initT_8, resV, oneV, binA, unA, reduceCtorEq, Nat.reduceEqDiff, Nat.reduceAdd, Nat.reduceLT, Nat.reduceLeDiff, Nat.reduceMul, Nat.reduceSub, ↓reduceIte, decide_true, decide_false, Bool.true_eq_false, Bool.false_eq_true, Bool.not_true, Bool.not_false, if_true, if_false, and_true, true_and, memE, celE, w64, Nat.zero_add, Nat.add_zero, Nat.mul_one, putL, and_self, ldn, wz.mk3', w2.mk1', hlen]
        have hst : StepA M3 (.func (.func 127) #[] #[.pointer (some ⟨m.length + 2, 0, none⟩), .pointer (some ⟨m.length + 1, 0, none⟩)]) asked.length (stepO ord asked) :=
          daysOf1_step M3 (m.length + 2) (m.length + 1) _ _ asked.length ord asked w3.mk1' w2.mk1' ha3 (Nat.le_refl _) ⟨g, cap, rfl, fun M' hM' => hg M' (hK3.trans hM')⟩
        refine callH_rc (courseD_rc M3 _ f (some ⟨cid, 0, none⟩) f.under.length fl asked.length ord asked hf (hco3.ints (by omega) fl) hst h20) ?_
        rintro r n4 ⟨hn4, id, n, fl2, rfl, hcrs⟩
        have hX4 := hX3.app hn4
        simp (config := {implicitDefEqProofs := false, maxDischargeDepth := 20}) (disch := first | omega | (simp only [lenE]; done) | (simp only [lenE]; omega) | rfl | (simp only [lenE, markR_len]; done) | (simp only [lenE, markR_len]; omega)) only [runE, mapE, listE, initT_5, initT_6, initT_7, initT_8, resV, oneV, binA, unA, reduceCtorEq, Nat.reduceEqDiff, Nat.reduceAdd, Nat.reduceLT, Nat.reduceLeDiff, Nat.reduceMul, Nat.reduceSub, ↓reduceIte, decide_true, decide_false, Bool.true_eq_false, Bool.false_eq_true, Bool.not_true, Bool.not_false, if_true, if_false, and_true, true_and, memE, celE, w64, Nat.zero_add, Nat.add_zero, Nat.mul_one, putL, and_self, ldn, ext_2_0, ext_2_1]
        refine ext_days hX4 rfl fun C hC => ?_
        obtain ⟨R, h1, h2, h3, h4, h5⟩ := hcrs C hC
        have l3 := hX3.len
        have lc := hco3.lt
        refine ⟨_, h1, by simp [h2], by omega, h4, fun x hx => ?_⟩
        rcases List.mem_cons.1 hx with rfl | hx
        · exact ⟨by show f.under.length ≤ _; omega, .inr ⟨cid, [], fl, rfl, by first | omega | (have := hX2.len; omega), by rw [List.length_append]; omega, (hco3.ext n4)⟩⟩
        · exact IntsP.wide _ _ _ _ _ _ _ (by omega) (by rw [List.length_append]; exact Nat.le_refl _) (h5 x hx)
      · refine rcallH_rc (clone_rc _ _ f.under (huM.ext _) (by omega)) ?_
        intro r n3 hA3
        obtain ⟨cid, fl, rfl, hcid, hco, hcl, hn3⟩ := hA3.row
        obtain ⟨M2, hM2⟩ : ∃ M2, M2 = M ++ [⟨.own, DT, [.int .i64 0, .int .i64 0, .slice none 0 0]⟩] ++ n3 := ⟨_, rfl⟩
        have hXM2 : Ext m M2 := by rw [hM2]; exact (hX2.one _ _).app hn3
        have y2 : OwnB M2 (m.length + 1) 22 [.slice B ja ca] := by rw [hM2]; exact (c2.ext _).ext _
        have y3 : OwnB M2 (m.length + 2) 95 [.func (.func g) #[] cap] := by rw [hM2]; exact (c3.ext _).ext _
        have yz : OwnB M2 M.length DT [.int .i64 0, .int .i64 0, .slice none 0 0] := by rw [hM2]; exact (OwnB.here rfl).ext _
        have LM2 : M.length < M2.length := yz.lt
        have hcid' : M.length < cid := by have := hcid; simp at this; omega
        rw [← hM2] at hco ⊢
        clear hM2
        have sz := yz.st (off := 0) (vs := [.int .i64 0, .int .i64 f.stock, .slice (some ⟨cid, 0, none⟩) f.under.length fl]) (by simp) rfl
        simp (config := {implicitDefEqProofs := false, maxDischargeDepth := 20}) (disch := first | omega | (simp only [lenE]; done) | (simp only [lenE]; omega) | rfl | (simp only [lenE, markR_len]; done) | (simp only [lenE, markR_len]; omega)) only [runE, mapE, listE, initT_5, initT_6, initT_7, initT_8, resV, oneV, binA, unA, reduceCtorEq, Nat.reduceEqDiff, Nat.reduceAdd, Nat.reduceLT, Nat.reduceLeDiff, Nat.reduceMul, Nat.reduceSub, ↓reduceIte, decide_true, decide_false, Bool.true_eq_false, Bool.false_eq_true, Bool.not_true, Bool.not_false, if_true, if_false, and_true, true_and, memE, celE, w64, Nat.zero_add, Nat.add_zero, Nat.mul_one, putL, and_self, ldn, bld_fl, bld_day1, stP_agg3p, putL, sz]
        obtain ⟨M3, hM3⟩ : ∃ M3, M3 = M2.set M.length ⟨.own, DT, [.int .i64 0, .int .i64 f.stock, .slice (some ⟨cid, 0, none⟩) f.under.length fl]⟩ := ⟨_, rfl⟩
        have hX3 : Ext m M3 := by rw [hM3]; exact hXM2.put (by omega) _ _
        have w2 : OwnB M3 (m.length + 1) 22 [.slice B ja ca] := by rw [hM3]; exact y2.set_ne (by omega) _
        have w3 : OwnB M3 (m.length + 2) 95 [.func (.func g) #[] cap] := by rw [hM3]; exact y3.set_ne (by omega) _
        have wz : OwnB M3 M.length DT [.int .i64 0, .int .i64 f.stock, .slice (some ⟨cid, 0, none⟩) f.under.length fl] := by rw [hM3]; exact yz.set_self _ _
        have hco3 : OwnR M3 cid f.under := by rw [hM3]; exact hco.set_ne (by omega)
        try rw [← hM3]
        clear hM3
        have hK3 := hX3.keeps
        have ha3 := hK3.ints ha
        try simp (config := {implicitDefEqProofs := false, maxDischargeDepth := 20}) (disch := first | omega | (simp only [lenE]; done) | (simp only [lenE]; omega) | rfl | (simp only [lenE, markR_len]; done) | (simp only [lenE, markR_len]; omega)) only [runE, mapE, listE, initT_5, initT_6, initT_7, initT_8, resV, oneV, binA, unA, reduceCtorEq, Nat.reduceEqDiff, Nat.reduceAdd, Nat.reduceLT, Nat.reduceLeDiff, Nat.reduceMul, Nat.reduceSub, ↓reduceIte, decide_true, decide_false, Bool.true_eq_false, Bool.false_eq_true, Bool.not_true, Bool.not_false, if_true, if_false, and_true, true_and, memE, celE, w64, Nat.zero_add, Nat.add_zero, Nat.mul_one, putL, and_self, ldn, wz.mk3', w2.mk1', hlen]
        have hst : StepA M3 (.func (.func 127) #[] #[.pointer (some ⟨m.length + 2, 0, none⟩), .pointer (some ⟨m.length + 1, 0, none⟩)]) asked.length (stepO ord asked) :=
          daysOf1_step M3 (m.length + 2) (m.length + 1) _ _ asked.length ord asked w3.mk1' w2.mk1' ha3 (Nat.le_refl _) ⟨g, cap, rfl, fun M' hM' => hg M' (hK3.trans hM')⟩
        refine callH_rc (courseD_rc M3 _ f (some ⟨cid, 0, none⟩) f.under.length fl asked.length ord asked hf (hco3.ints (by omega) fl) hst h20) ?_
        rintro r n4 ⟨hn4, id, n, fl2, rfl, hcrs⟩
        have hX4 := hX3.app hn4
        simp (config := {implicitDefEqProofs := false, maxDischargeDepth := 20}) (disch := first | omega | (simp only [lenE]; done) | (simp only [lenE]; omega) | rfl | (simp only [lenE, markR_len]; done) | (simp only [lenE, markR_len]; omega)) only [runE, mapE, listE, initT_5, initT_6, initT_7, initT_8, resV, oneV, binA, unA, reduceCtorEq, Nat.reduceEqDiff, Nat.reduceAdd, Nat.reduceLT, Nat.reduceLeDiff, Nat.reduceMul, Nat.reduceSub, ↓reduceIte, decide_true, decide_false, Bool.true_eq_false, Bool.false_eq_true, Bool.not_true, Bool.not_false, if_true, if_false, and_true, true_and, memE, celE, w64, Nat.zero_add, Nat.add_zero, Nat.mul_one, putL, and_self, ldn, ext_2_0, ext_2_1]
        refine ext_days hX4 rfl fun C hC => ?_
        obtain ⟨R, h1, h2, h3, h4, h5⟩ := hcrs C hC
        have l3 := hX3.len
        have lc := hco3.lt
        refine ⟨_, h1, by simp [h2], by omega, h4, fun x hx => ?_⟩
        rcases List.mem_cons.1 hx with rfl | hx
        · exact ⟨by show f.under.length ≤ _; omega, .inr ⟨cid, [], fl, rfl, by first | omega | (have := hX2.len; omega), by rw [List.length_append]; omega, (hco3.ext n4)⟩⟩
        · exact IntsP.wide _ _ _ _ _ _ _ (by omega) (by rw [List.length_append]; exact Nat.le_refl _) (h5 x hx)
end Go.Proofs.Ytnkbjliidenldaa.Ab
