/- What one more of a limit saves: LimitSaves. -/
import Derived.Test.YtiggehfopfpkbaaAbSearch
import Derived.Test.YtiggehfopfpkbaaAbSmoothMath
namespace Go.Proofs.Ytiggehfopfpkbaa.Ab
open Go Go.RowKit
set_option linter.unusedVariables false
set_option linter.unusedSimpArgs false

def savesOk (k : Cs) (lims : List Int) (p : Int) : Bool := canB k lims && (decide (0 ≤ p) && decide (p < lims.length)) && !(lims.getD p.toNat 0 == 160)
def moreL (lims : List Int) (p : Int) : List Int := lims.set p.toNat (lims.getD p.toNat 0 + 1)
def savesA (k : Cs) (lims : List Int) (p : Int) : Int := if savesOk k lims p then limCostA k lims - limCostA k (moreL lims p) else 0
theorem savesA_no {k : Cs} {lims : List Int} {p : Int} (h : savesOk k lims p = false) : savesA k lims p = 0 := by unfold savesA; rw [h]; rfl
theorem savesA_yes {k : Cs} {lims : List Int} {p : Int} (h : savesOk k lims p = true) : savesA k lims p = limCostA k lims - limCostA k (moreL lims p) := by unfold savesA; rw [h]; rfl
theorem shortF_all {lims need : List Int} : ∀ d t : Nat, (∀ s, t ≤ s → s < t + d → 0 ≤ nowK lims need (s + 1)) → shortF lims need d t = (-1, 0) := by
  intro d
  induction d with
  | zero => intro t _; rfl
  | succ d ih =>
    intro t h
    rw [shortF, if_neg (by have := h t (Nat.le_refl _) (by omega); omega)]
    exact ih (t + 1) fun s h1 h2 => h s (by omega) (by omega)
theorem can_more {k : Cs} {lims : List Int} {P : Nat} (h : canB k lims = true) (hP : P < lims.length) (hne : lims.getD P 0 ≠ 160) : canB k (lims.set P (lims.getD P 0 + 1)) = true := by
  obtain ⟨g1, g2, g3, g4⟩ := can_iff h
  have hb := getD_in g2 hP
  have hr : rowsB k (lims.set P (lims.getD P 0 + 1)) 160 = true := by
    refine rowsB_iff.2 ⟨g1, fun x hx => ?_, by simpa using g3⟩
    rcases List.mem_or_eq_of_mem_set hx with h | h
    · exact g2 x h
    · omega
  unfold canB
  rw [hr, Bool.true_and, decide_eq_true_eq]
  unfold shortR
  rw [shortF_all _ _ fun s h1 h2 => ?_]
  · simp
  · rw [List.length_set] at h2
    have := g4 (s + 1) (by omega)
    unfold nowK at this ⊢
    rw [sumTo_set _ _ _ hP]
    split <;> omega
theorem limCost_in {k : Cs} {lims : List Int} (h : canB k lims = true) : ∃ r, wayT (limW k lims) 0 0 = some r ∧ limCostA k lims = r.1 ∧ 0 ≤ r.1 ∧ r.1 ≤ 40000 := by
  obtain ⟨hw, r, hr⟩ := can_way h
  have := wayT_bd hw (Nat.zero_le _) hr
  exact ⟨r, hr, by rw [limCostA_yes h, hr]; rfl, this.1, this.2.1⟩

set_option maxHeartbeats 4000000 in
theorem specSaves_rc (m : Mem) (v u : Value) (k : Cs) (lims : List Int) (p : Int) (h : CaseA m v k) (h' : IntsA m u lims) :
    RC Try.prog 38 [v, u, .int .i64 p] m (AnsV (.tuple #[.int .i64 (savesA k lims p), .bool (savesOk k lims p)])) := by
  refine rc_of_run mixed ok_spec_LimitSaves (by simp) (go_start _ _ _ ?_)
  obtain ⟨v1, v2, v3, v4, rfl, h1, h2, h3, h4⟩ := h.ro.ok
  have hc : CaseA (roM m) (.agg #[v1, v2, v3, v4]) k := ⟨_, _, _, _, rfl, h1, h2, h3, h4⟩
  have hu := h'.ro
  simp (config := {implicitDefEqProofs := false, maxDischargeDepth := 20}) (disch := first | omega | (simp only [lenE]; done) | (simp only [lenE]; omega) | rfl | (simp only [lenE, markR_len]; done) | (simp only [lenE, markR_len]; omega)) only [runE, mapE, listE, resV, oneV, binA, unA, reduceCtorEq, Nat.reduceEqDiff, Nat.reduceAdd, Nat.reduceLT, Nat.reduceLeDiff, Nat.reduceMul, Nat.reduceSub, ↓reduceIte, decide_true, decide_false, Bool.true_eq_false, Bool.false_eq_true, Bool.not_true, Bool.not_false, if_true, if_false, and_true, true_and, memE, celE, w64, Nat.zero_add, Nat.add_zero, Nat.mul_one, putL, and_self, ldn, c_spec_LimitSaves, r_spec_LimitSaves]
  refine callH_rc (l4Can_rc _ _ u k lims (hc.ext _) (hu.ext _)) ?_
  rintro r new ⟨rfl, nr1⟩
  have hx : Grow (roM m ++ [⟨.own, 28, [v1, v2, v3, v4]⟩]) (roM m ++ [⟨.own, 28, [v1, v2, v3, v4]⟩] ++ new) := (Grow.refl _).app nr1
  cases hg : canB k lims with
  | false =>
    have hno : savesOk k lims p = false := by unfold savesOk; rw [hg]; rfl
    simp (config := {implicitDefEqProofs := false, maxDischargeDepth := 20}) (disch := first | omega | (simp only [lenE]; done) | (simp only [lenE]; omega) | rfl | (simp only [lenE, markR_len]; done) | (simp only [lenE, markR_len]; omega)) only [runE, mapE, listE, resV, oneV, binA, unA, reduceCtorEq, Nat.reduceEqDiff, Nat.reduceAdd, Nat.reduceLT, Nat.reduceLeDiff, Nat.reduceMul, Nat.reduceSub, ↓reduceIte, decide_true, decide_false, Bool.true_eq_false, Bool.false_eq_true, Bool.not_true, Bool.not_false, if_true, if_false, and_true, true_and, memE, celE, w64, Nat.zero_add, Nat.add_zero, Nat.mul_one, putL, and_self, ldn, goG_undef]
    rw [savesA_no hno, hno]
    exact ext_ansV hx.ext rfl
  | true =>
    obtain ⟨g1, g2, g3, g4⟩ := can_iff hg
    have h8 := g1.n8
    simp (config := {implicitDefEqProofs := false, maxDischargeDepth := 20}) (disch := first | omega | (simp only [lenE]; done) | (simp only [lenE]; omega) | rfl | (simp only [lenE, markR_len]; done) | (simp only [lenE, markR_len]; omega)) only [runE, mapE, listE, resV, oneV, binA, unA, reduceCtorEq, Nat.reduceEqDiff, Nat.reduceAdd, Nat.reduceLT, Nat.reduceLeDiff, Nat.reduceMul, Nat.reduceSub, ↓reduceIte, decide_true, decide_false, Bool.true_eq_false, Bool.false_eq_true, Bool.not_true, Bool.not_false, if_true, if_false, and_true, true_and, memE, celE, w64, Nat.zero_add, Nat.add_zero, Nat.mul_one, putL, and_self, ldn, hu.len]
    refine callH_rc (l1In_rc _ _ _ _) ?_
    rintro r new2 ⟨rfl, rfl⟩
    rw [List.append_nil]
    by_cases hin : 0 ≤ p ∧ p < lims.length
    · have eb : (decide (0 ≤ p) && decide (p ≤ (lims.length : Int) - 1)) = true := by rw [decide_eq_true hin.1, decide_eq_true (by omega)]; rfl
      obtain ⟨P, rfl⟩ : ∃ P : Nat, p = P := ⟨p.toNat, by omega⟩
      have hP : P < lims.length := by omega
      have i0 := hx.intsV hu
      by_cases h160 : lims.getD P 0 = 160
      · have hno : savesOk k lims P = false := by unfold savesOk; rw [Int.toNat_natCast, h160]; simp
        have e160 : (lims.getD P 0 == 160) = true := by rw [h160]; rfl
        simp (config := {implicitDefEqProofs := false, maxDischargeDepth := 20}) (disch := first | omega | (simp only [lenE]; done) | (simp only [lenE]; omega) | rfl | (simp only [lenE, markR_len]; done) | (simp only [lenE, markR_len]; omega)) only [runE, mapE, listE, resV, oneV, binA, unA, reduceCtorEq, Nat.reduceEqDiff, Nat.reduceAdd, Nat.reduceLT, Nat.reduceLeDiff, Nat.reduceMul, Nat.reduceSub, ↓reduceIte, decide_true, decide_false, Bool.true_eq_false, Bool.false_eq_true, Bool.not_true, Bool.not_false, if_true, if_false, and_true, true_and, memE, celE, w64, Nat.zero_add, Nat.add_zero, Nat.mul_one, putL, and_self, ldn, eb, goG_undef, i0.at_ P hP, i0.ld P hP, e160]
        rw [savesA_no hno, hno]
        exact ext_ansV hx.ext rfl
      · have e160 : (lims.getD P 0 == 160) = false := by simpa using h160
        have hyes : savesOk k lims P = true := by unfold savesOk; rw [Int.toNat_natCast, hg, e160, decide_eq_true hin.1, decide_eq_true hin.2]; rfl
        have hmore := can_more hg hP h160
        have hml : moreL lims P = lims.set P (lims.getD P 0 + 1) := by unfold moreL; rw [Int.toNat_natCast]
        have hb := getD_in g2 hP
        obtain ⟨hw, -⟩ := can_way hg
        obtain ⟨hw2, -⟩ := can_way hmore
        obtain ⟨r1, z1, z2, z3, z4⟩ := limCost_in hg
        obtain ⟨r2, y1, y2, y3, y4⟩ := limCost_in hmore
        rw [savesA_yes hyes, hyes, hml, z2, y2]
        simp (config := {implicitDefEqProofs := false, maxDischargeDepth := 20}) (disch := first | omega | (simp only [lenE]; done) | (simp only [lenE]; omega) | rfl | (simp only [lenE, markR_len]; done) | (simp only [lenE, markR_len]; omega)) only [runE, mapE, listE, resV, oneV, binA, unA, reduceCtorEq, Nat.reduceEqDiff, Nat.reduceAdd, Nat.reduceLT, Nat.reduceLeDiff, Nat.reduceMul, Nat.reduceSub, ↓reduceIte, decide_true, decide_false, Bool.true_eq_false, Bool.false_eq_true, Bool.not_true, Bool.not_false, if_true, if_false, and_true, true_and, memE, celE, w64, Nat.zero_add, Nat.add_zero, Nat.mul_one, putL, and_self, ldn, eb, goG_undef, i0.at_ P hP, i0.ld P hP, e160]
        refine callH_rc (l1Own_rc _ u lims i0 (by omega)) ?_
        intro r new3 hA
        obtain ⟨ia, fa, rfl, ga, oA, -, nr3⟩ := hA.row
        have hx2 := hx.app nr3
        simp only [List.length_append, List.length_cons, List.length_nil, roM_len] at ga
        obtain ⟨M1, hM1⟩ : ∃ M1, M1 = roM m ++ [⟨.own, 28, [v1, v2, v3, v4]⟩] ++ new ++ new3 := ⟨_, rfl⟩
        rw [← hM1] at oA hx2 ⊢
        clear hM1
        have rA := oA.rd' (i := P) hP
        have iA := iad0 (id := ia) (n := lims.length) (fl := fa) (z := (P : Int)) (j := P) rfl hP
        have wA := oA.st (off := P) (x := lims.getD P 0 + 1) hP
        have oA2 : OwnR _ ia (lims.set P (lims.getD P 0 + 1)) := OwnR.set_self (L' := lims.set P (lims.getD P 0 + 1)) oA
        have hx3 := hx2.put (id := ia) (by simp [roM_len]; omega) 3 ((lims.set P (lims.getD P 0 + 1)).map (Value.int .i64))
        obtain ⟨M2, hM2⟩ : ∃ M2, M2 = M1.set ia (rowB (lims.set P (lims.getD P 0 + 1))) := ⟨_, rfl⟩
        rw [show (⟨.own, 3, (lims.set P (lims.getD P 0 + 1)).map (Value.int .i64)⟩ : Blk) = rowB (lims.set P (lims.getD P 0 + 1)) from rfl] at hx3
        rw [← hM2] at wA oA2 hx3
        clear hM2
        obtain ⟨c0, c1, c2, c3, hml2⟩ := hx3.box4
        simp (config := {implicitDefEqProofs := false, maxDischargeDepth := 20}) (disch := first | omega | (simp only [lenE]; done) | (simp only [lenE]; omega) | rfl | (simp only [lenE, markR_len]; done) | (simp only [lenE, markR_len]; omega)) only [runE, mapE, listE, resV, oneV, binA, unA, reduceCtorEq, Nat.reduceEqDiff, Nat.reduceAdd, Nat.reduceLT, Nat.reduceLeDiff, Nat.reduceMul, Nat.reduceSub, ↓reduceIte, decide_true, decide_false, Bool.true_eq_false, Bool.false_eq_true, Bool.not_true, Bool.not_false, if_true, if_false, and_true, true_and, memE, celE, w64, Nat.zero_add, Nat.add_zero, Nat.mul_one, putL, and_self, ldn, iA, rA, wA, c0, c1, c2, c3]
        refine rcallH_rc (l4Future_rc _ _ u (limW k lims) hw rfl (hx3.caseV hc) (hx3.intsV hu)) ?_
        rintro r new4 ⟨nr4, id, fl, vs, rfl, hvs, hT⟩
        obtain ⟨rid, f, k1, k2⟩ := rows0 hw hT hvs
        rw [z1, show vO (some r1) = r1.1 from rfl] at k2
        have q1 := iad0 (id := id) (n := (limW k lims).n + 1) (fl := fl) (z := 0) (j := 0) rfl (Nat.succ_pos _)
        have q2 := iad0 (id := rid) (n := (limW k lims).tot.toNat + 1) (fl := f) (z := 0) (j := 0) rfl (Nat.succ_pos _)
        have iB : IntsA (M2 ++ new4) (.slice (some ⟨ia, 0, none⟩) lims.length fa) (lims.set P (lims.getD P 0 + 1)) := by
          have := (oA2.ext new4).ints (by rw [List.length_set]; omega) fa
          rw [List.length_set] at this; exact this
        simp (config := {implicitDefEqProofs := false, maxDischargeDepth := 20}) (disch := first | omega | (simp only [lenE]; done) | (simp only [lenE]; omega) | rfl | (simp only [lenE, markR_len]; done) | (simp only [lenE, markR_len]; omega)) only [runE, mapE, listE, resV, oneV, binA, unA, reduceCtorEq, Nat.reduceEqDiff, Nat.reduceAdd, Nat.reduceLT, Nat.reduceLeDiff, Nat.reduceMul, Nat.reduceSub, ↓reduceIte, decide_true, decide_false, Bool.true_eq_false, Bool.false_eq_true, Bool.not_true, Bool.not_false, if_true, if_false, and_true, true_and, memE, celE, w64, Nat.zero_add, Nat.add_zero, Nat.mul_one, putL, and_self, ldn, q1, q2, k1, k2]
        refine rcallH_rc (l4Future_rc _ _ _ (limW k (lims.set P (lims.getD P 0 + 1))) hw2 rfl ((hx3.app nr4).caseV hc) iB) ?_
        rintro r new5 ⟨nr5, id', fl', vs', rfl, hvs', hT'⟩
        obtain ⟨rid', f', k1', k2'⟩ := rows0 hw2 hT' hvs'
        rw [y1, show vO (some r2) = r2.1 from rfl] at k2'
        have q1' := iad0 (id := id') (n := (limW k (lims.set P (lims.getD P 0 + 1))).n + 1) (fl := fl') (z := 0) (j := 0) rfl (Nat.succ_pos _)
        have q2' := iad0 (id := rid') (n := (limW k (lims.set P (lims.getD P 0 + 1))).tot.toNat + 1) (fl := f') (z := 0) (j := 0) rfl (Nat.succ_pos _)
        simp (config := {implicitDefEqProofs := false, maxDischargeDepth := 20}) (disch := first | omega | (simp only [lenE]; done) | (simp only [lenE]; omega) | rfl | (simp only [lenE, markR_len]; done) | (simp only [lenE, markR_len]; omega)) only [runE, mapE, listE, resV, oneV, binA, unA, reduceCtorEq, Nat.reduceEqDiff, Nat.reduceAdd, Nat.reduceLT, Nat.reduceLeDiff, Nat.reduceMul, Nat.reduceSub, ↓reduceIte, decide_true, decide_false, Bool.true_eq_false, Bool.false_eq_true, Bool.not_true, Bool.not_false, if_true, if_false, and_true, true_and, memE, celE, w64, Nat.zero_add, Nat.add_zero, Nat.mul_one, putL, and_self, ldn, q1', q2', k1', k2']
        exact ext_ansV ((hx3.app nr4).app nr5).ext rfl
    · have eb : (decide (0 ≤ p) && decide (p ≤ (lims.length : Int) - 1)) = false := by
        by_cases h1 : 0 ≤ p
        · rw [decide_eq_true h1, decide_eq_false (by omega)]; rfl
        · rw [decide_eq_false h1]; rfl
      have hno : savesOk k lims p = false := by
        unfold savesOk
        by_cases h1 : 0 ≤ p
        · rw [decide_eq_true h1, decide_eq_false (show ¬ (p < (lims.length : Int)) by omega)]; simp
        · rw [decide_eq_false h1]; simp
      simp (config := {implicitDefEqProofs := false, maxDischargeDepth := 20}) (disch := first | omega | (simp only [lenE]; done) | (simp only [lenE]; omega) | rfl | (simp only [lenE, markR_len]; done) | (simp only [lenE, markR_len]; omega)) only [runE, mapE, listE, resV, oneV, binA, unA, reduceCtorEq, Nat.reduceEqDiff, Nat.reduceAdd, Nat.reduceLT, Nat.reduceLeDiff, Nat.reduceMul, Nat.reduceSub, ↓reduceIte, decide_true, decide_false, Bool.true_eq_false, Bool.false_eq_true, Bool.not_true, Bool.not_false, if_true, if_false, and_true, true_and, memE, celE, w64, Nat.zero_add, Nat.add_zero, Nat.mul_one, putL, and_self, ldn, eb, goG_undef]
      rw [savesA_no hno, hno]
      exact ext_ansV hx.ext rfl

set_option maxHeartbeats 4000000 in
theorem implSaves_rc (m : Mem) (v u : Value) (k : Cs) (lims : List Int) (p : Int) (h : CaseA m v k) (h' : IntsA m u lims) :
    RC Try.prog 39 [v, u, .int .i64 p] m (AnsV (.tuple #[.int .i64 (savesA k lims p), .bool (savesOk k lims p)])) := by
  refine rc_of_run mixed ok_impl_LimitSaves (by simp) (go_start _ _ _ ?_)
  obtain ⟨v1, v2, v3, v4, rfl, h1, h2, h3, h4⟩ := h.ro.ok
  have hc : CaseA (roM m) (.agg #[v1, v2, v3, v4]) k := ⟨_, _, _, _, rfl, h1, h2, h3, h4⟩
  have hu := h'.ro
  simp (config := {implicitDefEqProofs := false, maxDischargeDepth := 20}) (disch := first | omega | (simp only [lenE]; done) | (simp only [lenE]; omega) | rfl | (simp only [lenE, markR_len]; done) | (simp only [lenE, markR_len]; omega)) only [runE, mapE, listE, resV, oneV, binA, unA, reduceCtorEq, Nat.reduceEqDiff, Nat.reduceAdd, Nat.reduceLT, Nat.reduceLeDiff, Nat.reduceMul, Nat.reduceSub, ↓reduceIte, decide_true, decide_false, Bool.true_eq_false, Bool.false_eq_true, Bool.not_true, Bool.not_false, if_true, if_false, and_true, true_and, memE, celE, w64, Nat.zero_add, Nat.add_zero, Nat.mul_one, putL, and_self, ldn, c_impl_LimitSaves, r_impl_LimitSaves]
  have C := implLimCost_rc (roM m ++ [⟨.own, 28, [v1, v2, v3, v4]⟩]) (.agg #[v1, v2, v3, v4]) u k lims (hc.ext _) (hu.ext _)
  cases hg : canB k lims with
  | false =>
    have hno : savesOk k lims p = false := by unfold savesOk; rw [hg]; rfl
    rw [limCostA_no hg, hg] at C
    refine callH_rc C ?_
    rintro r new ⟨rfl, nr1⟩
    simp (config := {implicitDefEqProofs := false, maxDischargeDepth := 20}) (disch := first | omega | (simp only [lenE]; done) | (simp only [lenE]; omega) | rfl | (simp only [lenE, markR_len]; done) | (simp only [lenE, markR_len]; omega)) only [runE, mapE, listE, resV, oneV, binA, unA, reduceCtorEq, Nat.reduceEqDiff, Nat.reduceAdd, Nat.reduceLT, Nat.reduceLeDiff, Nat.reduceMul, Nat.reduceSub, ↓reduceIte, decide_true, decide_false, Bool.true_eq_false, Bool.false_eq_true, Bool.not_true, Bool.not_false, if_true, if_false, and_true, true_and, memE, celE, w64, Nat.zero_add, Nat.add_zero, Nat.mul_one, putL, and_self, ldn, goG_undef, ext_2_0, ext_2_1]
    rw [savesA_no hno, hno]
    exact ext_ansV ((Grow.refl _).app nr1).ext rfl
  | true =>
    obtain ⟨r1, z1, z2, z3, z4⟩ := limCost_in hg
    rw [z2, hg] at C
    refine callH_rc C ?_
    rintro r new ⟨rfl, nr1⟩
    have hx : Grow (roM m ++ [⟨.own, 28, [v1, v2, v3, v4]⟩]) (roM m ++ [⟨.own, 28, [v1, v2, v3, v4]⟩] ++ new) := (Grow.refl _).app nr1
    by_cases hn : p < 0
    · have hno : savesOk k lims p = false := by unfold savesOk; rw [decide_eq_false (show ¬ (0 ≤ p) by omega)]; simp
      simp (config := {implicitDefEqProofs := false, maxDischargeDepth := 20}) (disch := first | omega | (simp only [lenE]; done) | (simp only [lenE]; omega) | rfl | (simp only [lenE, markR_len]; done) | (simp only [lenE, markR_len]; omega)) only [runE, mapE, listE, resV, oneV, binA, unA, reduceCtorEq, Nat.reduceEqDiff, Nat.reduceAdd, Nat.reduceLT, Nat.reduceLeDiff, Nat.reduceMul, Nat.reduceSub, ↓reduceIte, decide_true, decide_false, Bool.true_eq_false, Bool.false_eq_true, Bool.not_true, Bool.not_false, if_true, if_false, and_true, true_and, memE, celE, w64, Nat.zero_add, Nat.add_zero, Nat.mul_one, putL, and_self, ldn, goG_undef, ext_2_0, ext_2_1, hn]
      rw [savesA_no hno, hno]
      exact ext_ansV hx.ext rfl
    by_cases hl : (lims.length : Int) ≤ p
    · have hno : savesOk k lims p = false := by unfold savesOk; rw [decide_eq_false (show ¬ (p < (lims.length : Int)) by omega)]; simp
      simp (config := {implicitDefEqProofs := false, maxDischargeDepth := 20}) (disch := first | omega | (simp only [lenE]; done) | (simp only [lenE]; omega) | rfl | (simp only [lenE, markR_len]; done) | (simp only [lenE, markR_len]; omega)) only [runE, mapE, listE, resV, oneV, binA, unA, reduceCtorEq, Nat.reduceEqDiff, Nat.reduceAdd, Nat.reduceLT, Nat.reduceLeDiff, Nat.reduceMul, Nat.reduceSub, ↓reduceIte, decide_true, decide_false, Bool.true_eq_false, Bool.false_eq_true, Bool.not_true, Bool.not_false, if_true, if_false, and_true, true_and, memE, celE, w64, Nat.zero_add, Nat.add_zero, Nat.mul_one, putL, and_self, ldn, goG_undef, ext_2_0, ext_2_1, hn, ge_iff_le, hu.len, hl]
      rw [savesA_no hno, hno]
      exact ext_ansV hx.ext rfl
    have hin : 0 ≤ p ∧ p < lims.length := ⟨by omega, by omega⟩
    obtain ⟨P, rfl⟩ : ∃ P : Nat, p = P := ⟨p.toNat, by omega⟩
    have hP : P < lims.length := by omega
    have i0 := hx.intsV hu
    by_cases h160 : lims.getD P 0 = 160
    · have hno : savesOk k lims P = false := by unfold savesOk; rw [Int.toNat_natCast, h160]; simp
      have e160 : (lims.getD P 0 == 160) = true := by rw [h160]; rfl
      simp (config := {implicitDefEqProofs := false, maxDischargeDepth := 20}) (disch := first | omega | (simp only [lenE]; done) | (simp only [lenE]; omega) | rfl | (simp only [lenE, markR_len]; done) | (simp only [lenE, markR_len]; omega)) only [runE, mapE, listE, resV, oneV, binA, unA, reduceCtorEq, Nat.reduceEqDiff, Nat.reduceAdd, Nat.reduceLT, Nat.reduceLeDiff, Nat.reduceMul, Nat.reduceSub, ↓reduceIte, decide_true, decide_false, Bool.true_eq_false, Bool.false_eq_true, Bool.not_true, Bool.not_false, if_true, if_false, and_true, true_and, memE, celE, w64, Nat.zero_add, Nat.add_zero, Nat.mul_one, putL, and_self, ldn, goG_undef, ext_2_0, ext_2_1, hn, ge_iff_le, hu.len, hl, i0.at_ P hP, i0.ld P hP, e160]
      rw [savesA_no hno, hno]
      exact ext_ansV hx.ext rfl
    · have e160 : (lims.getD P 0 == 160) = false := by simpa using h160
      have hyes : savesOk k lims P = true := by unfold savesOk; rw [Int.toNat_natCast, hg, e160, decide_eq_true hin.1, decide_eq_true hin.2]; rfl
      have hmore := can_more hg hP h160
      have hml : moreL lims P = lims.set P (lims.getD P 0 + 1) := by unfold moreL; rw [Int.toNat_natCast]
      obtain ⟨g1, g2, g3, g4⟩ := can_iff hg
      have h8 := g1.n8
      have hb := getD_in g2 hP
      obtain ⟨r2, y1, y2, y3, y4⟩ := limCost_in hmore
      rw [savesA_yes hyes, hyes, hml, z2, y2]
      obtain ⟨M0, hM0⟩ : ∃ M0, M0 = roM m ++ [⟨.own, 28, [v1, v2, v3, v4]⟩] ++ new := ⟨_, rfl⟩
      rw [← hM0] at hx i0 ⊢
      clear hM0
      obtain ⟨c0, c1, c2, c3, hml2⟩ := hx.box4
      have ap := app_own i0 (by omega)
      simp (config := {implicitDefEqProofs := false, maxDischargeDepth := 20}) (disch := first | omega | (simp only [lenE]; done) | (simp only [lenE]; omega) | rfl | (simp only [lenE, markR_len]; done) | (simp only [lenE, markR_len]; omega)) only [runE, mapE, listE, resV, oneV, binA, unA, reduceCtorEq, Nat.reduceEqDiff, Nat.reduceAdd, Nat.reduceLT, Nat.reduceLeDiff, Nat.reduceMul, Nat.reduceSub, ↓reduceIte, decide_true, decide_false, Bool.true_eq_false, Bool.false_eq_true, Bool.not_true, Bool.not_false, if_true, if_false, and_true, true_and, memE, celE, w64, Nat.zero_add, Nat.add_zero, Nat.mul_one, putL, and_self, ldn, goG_undef, ext_2_0, ext_2_1, hn, ge_iff_le, hu.len, hl, i0.at_ P hP, i0.ld P hP, e160, bsl_none', ap]
      obtain ⟨M1, hM1⟩ : ∃ M1, M1 = M0 ++ [deadB] ++ [⟨.own, 3, lims.map (Value.int .i64)⟩] := ⟨_, rfl⟩
      have oA : OwnR M1 (M0.length + 1) lims := by rw [hM1]; exact OwnR.end' (by simp)
      have hx2 : Grow (roM m ++ [⟨.own, 28, [v1, v2, v3, v4]⟩]) M1 := by rw [hM1]; exact (hx.app (noRo_dead noRo_nil)).one _ _
      rw [← hM1]
      have lM1 : M1.length = M0.length + 1 + 1 := by rw [hM1]; simp
      clear hM1
      have rA := oA.rd' (i := P) hP
      have iA := iad0 (id := M0.length + 1) (n := lims.length) (fl := 1) (z := (P : Int)) (j := P) rfl hP
      have wA := oA.st (off := P) (x := lims.getD P 0 + 1) hP
      have oA2 : OwnR _ (M0.length + 1) (lims.set P (lims.getD P 0 + 1)) := OwnR.set_self (L' := lims.set P (lims.getD P 0 + 1)) oA
      have hx3 := hx2.put (id := M0.length + 1) (by simp [roM_len]; omega) 3 ((lims.set P (lims.getD P 0 + 1)).map (Value.int .i64))
      obtain ⟨M2, hM2⟩ : ∃ M2, M2 = M1.set (M0.length + 1) (rowB (lims.set P (lims.getD P 0 + 1))) := ⟨_, rfl⟩
      rw [show (⟨.own, 3, (lims.set P (lims.getD P 0 + 1)).map (Value.int .i64)⟩ : Blk) = rowB (lims.set P (lims.getD P 0 + 1)) from rfl] at hx3
      rw [← hM2] at wA oA2 hx3
      clear hM2
      obtain ⟨d0, d1, d2, d3, hml3⟩ := hx3.box4
      simp (config := {implicitDefEqProofs := false, maxDischargeDepth := 20}) (disch := first | omega | (simp only [lenE]; done) | (simp only [lenE]; omega) | rfl | (simp only [lenE, markR_len]; done) | (simp only [lenE, markR_len]; omega)) only [runE, mapE, listE, resV, oneV, binA, unA, reduceCtorEq, Nat.reduceEqDiff, Nat.reduceAdd, Nat.reduceLT, Nat.reduceLeDiff, Nat.reduceMul, Nat.reduceSub, ↓reduceIte, decide_true, decide_false, Bool.true_eq_false, Bool.false_eq_true, Bool.not_true, Bool.not_false, if_true, if_false, and_true, true_and, memE, celE, w64, Nat.zero_add, Nat.add_zero, Nat.mul_one, putL, and_self, ldn, iA, rA, wA, d0, d1, d2, d3]
      have iB : IntsA M2 (.slice (some ⟨M0.length + 1, 0, none⟩) lims.length 1) (lims.set P (lims.getD P 0 + 1)) := by
        have := oA2.ints (by rw [List.length_set]; omega) 1
        rw [List.length_set] at this; exact this
      have C2 := implLimCost_rc M2 (.agg #[v1, v2, v3, v4]) _ k _ (hx3.caseV hc) iB
      rw [y2, hmore] at C2
      refine callH_rc C2 ?_
      rintro r new3 ⟨rfl, nr3⟩
      simp (config := {implicitDefEqProofs := false, maxDischargeDepth := 20}) (disch := first | omega | (simp only [lenE]; done) | (simp only [lenE]; omega) | rfl | (simp only [lenE, markR_len]; done) | (simp only [lenE, markR_len]; omega)) only [runE, mapE, listE, resV, oneV, binA, unA, reduceCtorEq, Nat.reduceEqDiff, Nat.reduceAdd, Nat.reduceLT, Nat.reduceLeDiff, Nat.reduceMul, Nat.reduceSub, ↓reduceIte, decide_true, decide_false, Bool.true_eq_false, Bool.false_eq_true, Bool.not_true, Bool.not_false, if_true, if_false, and_true, true_and, memE, celE, w64, Nat.zero_add, Nat.add_zero, Nat.mul_one, putL, and_self, ldn, ext_2_0, ext_2_1]
      exact ext_ansV (hx3.app nr3).ext rfl
end Go.Proofs.Ytiggehfopfpkbaa.Ab
