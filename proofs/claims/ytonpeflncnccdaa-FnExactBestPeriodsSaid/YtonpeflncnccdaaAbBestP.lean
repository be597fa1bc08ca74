/- BestPeriods: a row that may be nil. -/
import Derived.Test.YtonpeflncnccdaaAbLots
namespace Go.Proofs.Ytonpeflncnccdaa.Ab
open Go Go.RowKit
set_option linter.unusedVariables false
set_option linter.unusedSimpArgs false

/-- A nil row may be taken for an empty row in a block of its own. -/
theorem VR.nilRow {ρ : Places} {id : Nat} {p : Nat × Nat × Nat} (h : ρ[id]? = some p) : VR ρ (.slice (some ⟨id, 0, none⟩) 0 0) (.slice none 0 0) := by
  obtain ⟨b, o, t⟩ := p
  exact .sl h (Nat.le_refl _) (by unfold maxLen; omega) (fun _ h => absurd h (by omega)) (fun h => absurd h (by omega))
theorem rc_nilRow {P : Program} {f : FuncId} {args : List Value} {m : Mem} {Q : Value → Mem → Prop} {ok : Bool} {p : Prop} (h : RC P f args m fun r new => Q r new ∨ (p ∧ NoRo new ∧ r = .tuple #[.slice none 0 0, .bool ok]))
    (hq : ∀ new, p → NoRo new → Q (.tuple #[.slice (some ⟨m.length + new.length, 0, none⟩) 0 0, .bool ok]) (new ++ [⟨.own, 3, []⟩])) : RC P f args m Q := by
  refine ⟨h.1, fun ρ w cargs hm hv => (h.2 ρ w cargs hm hv).mono ?_⟩
  rintro e w' ⟨v, v', new, ρn, he, hQ | ⟨hp, hn, rfl⟩, hnn, hm2, hvr⟩
  · exact ⟨v, v', new, ρn, he, hQ, hnn, hm2, hvr⟩
  have hm3 := hm2.add (e := 3) (xs := []) (g := 0) (tot := 0) (by simp) (fun h => absurd h (by omega)) (fun h => absurd h (by omega))
  refine ⟨_, v', new ++ [⟨.own, 3, []⟩], ρn ++ [(0, 0, 0)], he, hq new hp hn, noRo_app hn (noRo_own noRo_nil), ?_, ?_⟩
  · rw [← List.append_assoc, ← List.append_assoc]; exact hm3
  · have hlen : (ρ ++ ρn).length = m.length + new.length := by rw [hm2.len]; simp [roM_len]
    rw [← List.append_assoc]
    cases hvr with
    | tup hs hh =>
      rename_i ds
      refine .tup (by simpa using hs) fun i x y hx hy => ?_
      match i with
      | 0 =>
        have h0 := hh 0 (.slice none 0 0) y rfl hy
        simp at hx
        subst hx
        cases h0
        exact VR.nilRow (p := (0, 0, 0)) (by rw [← hlen]; simp)
      | 1 =>
        have h1 := hh 1 (.bool ok) y rfl hy
        simp at hx
        subst hx
        cases h1
        exact .bool _
      | i + 2 => simp at hx
theorem implBestPeriods_pre (m : Mem) (v : Value) (k : Cs) (h : CaseA m v k) : RC Try.prog 17 [v] m fun r new => AnsL m (bestPA k) k.good r new ∨ (bestPA k = [] ∧ NoRo new ∧ r = .tuple #[.slice none 0 0, .bool k.good]) := by
  refine rc_of_run mixed ok_impl_BestPeriods (by simp) (go_start _ _ _ ?_)
  obtain ⟨v1, v2, v3, v4, rfl, h1, h2, h3, h4⟩ := h.ro.ok
  have hc : CaseA (roM m) (.agg #[v1, v2, v3, v4]) k := ⟨_, _, _, _, rfl, h1, h2, h3, h4⟩
  have up : ∀ {M : Mem} {v : Value} {l : List Int} {ok : Bool}, newQ m (AnsL m l ok) v M → newQ m (fun r new => AnsL m l ok r new ∨ (l = [] ∧ NoRo new ∧ r = .tuple #[.slice none 0 0, .bool ok])) v M := by
    rintro M v l ok ⟨new, h1, h2, h3⟩
    exact ⟨new, h1, h2, .inl h3⟩
  simp (config := {implicitDefEqProofs := false, maxDischargeDepth := 20}) (disch := first | omega | (simp only [lenE]; done) | (simp only [lenE]; omega) | rfl | (simp only [lenE, markR_len]; done) | (simp only [lenE, markR_len]; omega)) only [runE, mapE, listE, initT_5, initT_6, initT_7, initT_8, resV, oneV, binA, unA, reduceCtorEq, Nat.reduceEqDiff, Nat.reduceAdd, Nat.reduceLT, Nat.reduceLeDiff, Nat.reduceMul, Nat.reduceSub, ↓reduceIte, decide_true, decide_false, Bool.true_eq_false, Bool.false_eq_true, Bool.not_true, Bool.not_false, if_true, if_false, and_true, true_and, memE, celE, w64, Nat.zero_add, Nat.add_zero, Nat.mul_one, putL, and_self, ldn, c_impl_BestPeriods, r_impl_BestPeriods]
  refine callH_rc (implIsCase_rc _ _ k (hc.ext _)) ?_
  rintro r new ⟨rfl, nr1⟩
  have hx : Grow (roM m ++ [⟨.own, 28, [v1, v2, v3, v4]⟩]) (roM m ++ [⟨.own, 28, [v1, v2, v3, v4]⟩] ++ new) := (Grow.refl _).app nr1
  cases hg : k.good with
  | false =>
    simp (config := {implicitDefEqProofs := false, maxDischargeDepth := 20}) (disch := first | omega | (simp only [lenE]; done) | (simp only [lenE]; omega) | rfl | (simp only [lenE, markR_len]; done) | (simp only [lenE, markR_len]; omega)) only [runE, mapE, listE, initT_5, initT_6, initT_7, initT_8, resV, oneV, binA, unA, reduceCtorEq, Nat.reduceEqDiff, Nat.reduceAdd, Nat.reduceLT, Nat.reduceLeDiff, Nat.reduceMul, Nat.reduceSub, ↓reduceIte, decide_true, decide_false, Bool.true_eq_false, Bool.false_eq_true, Bool.not_true, Bool.not_false, if_true, if_false, and_true, true_and, memE, celE, w64, Nat.zero_add, Nat.add_zero, Nat.mul_one, putL, and_self, ldn, bsl_none]
    rw [bestPA_no hg]
    refine up (ext_ansL (hx.ext.one _ _) (OwnR.end' (l := []) ?_) (by omega) rfl (by simp))
    simp only [List.length_append, List.length_cons, List.length_nil, roM_len]
  | true =>
    have gd := good_iff.1 hg
    rw [bestPA_yes hg]
    simp (config := {implicitDefEqProofs := false, maxDischargeDepth := 20}) (disch := first | omega | (simp only [lenE]; done) | (simp only [lenE]; omega) | rfl | (simp only [lenE, markR_len]; done) | (simp only [lenE, markR_len]; omega)) only [runE, mapE, listE, initT_5, initT_6, initT_7, initT_8, resV, oneV, binA, unA, reduceCtorEq, Nat.reduceEqDiff, Nat.reduceAdd, Nat.reduceLT, Nat.reduceLeDiff, Nat.reduceMul, Nat.reduceSub, ↓reduceIte, decide_true, decide_false, Bool.true_eq_false, Bool.false_eq_true, Bool.not_true, Bool.not_false, if_true, if_false, and_true, true_and, memE, celE, w64, Nat.zero_add, Nat.add_zero, Nat.mul_one, putL, and_self, ldn]
    refine callH_rc (bestLots_rc _ _ k (hx.caseV hc) gd) ?_
    rintro r new2 ⟨nr2, A, ln, cp, rfl, hrow⟩
    have f1 : fldA 1 none (.agg #[.int .i64 (bestCost k), .slice A ln cp]) = some (.slice A ln cp) := rfl
    simp (config := {implicitDefEqProofs := false, maxDischargeDepth := 20}) (disch := first | omega | (simp only [lenE]; done) | (simp only [lenE]; omega) | rfl | (simp only [lenE, markR_len]; done) | (simp only [lenE, markR_len]; omega)) only [runE, mapE, listE, initT_5, initT_6, initT_7, initT_8, resV, oneV, binA, unA, reduceCtorEq, Nat.reduceEqDiff, Nat.reduceAdd, Nat.reduceLT, Nat.reduceLeDiff, Nat.reduceMul, Nat.reduceSub, ↓reduceIte, decide_true, decide_false, Bool.true_eq_false, Bool.false_eq_true, Bool.not_true, Bool.not_false, if_true, if_false, and_true, true_and, memE, celE, w64, Nat.zero_add, Nat.add_zero, Nat.mul_one, putL, and_self, ldn, f1]
    have hxx := (hx.app nr2).ext
    rcases hrow with ⟨rfl, rfl, rfl, hl⟩ | ⟨id, fl, rfl, rfl, rfl, h1, h2, h3⟩
    · obtain ⟨new3, e3, n3⟩ := hxx
      rw [e3]
      exact ⟨new3, rfl, n3, .inr ⟨hl, n3, rfl⟩⟩
    · have := hx.ext.len
      exact up (ext_ansL hxx h2 (by omega) rfl h3)
theorem implBestPeriods_rc (m : Mem) (v : Value) (k : Cs) (h : CaseA m v k) : RC Try.prog 17 [v] m (AnsL m (bestPA k) k.good) := by
  refine rc_nilRow (implBestPeriods_pre m v k h) fun new hp hn => ?_
  rw [hp]
  exact ⟨noRo_app hn (noRo_own noRo_nil), by simp, new.length, 0, rfl, by simp [rowB]⟩
end Go.Proofs.Ytonpeflncnccdaa.Ab
