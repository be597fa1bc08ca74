/- Items as arguments of the laws: boxes, marks. -/
import Derived.Test.YtmjnjhdacliieaaAbItems
import Derived.Test.YtmjnjhdacliieaaAbBox
namespace Go.Proofs.Ytmjnjhdacliieaa.Ab
open Go Go.RowKit
set_option linter.unusedVariables false
set_option linter.unusedSimpArgs false

theorem itV_rel (ρ : Places) (x : It) : VR ρ (itV x) (itV x) := by
  refine .agg rfl fun i a b ha hb => ?_
  rw [ha] at hb
  cases hb
  match i with
  | 0 => simp at ha; subst ha; exact .int _ _
  | 1 => simp at ha; subst ha; exact .int _ _
  | 2 => simp at ha; subst ha; exact .int _ _
  | 3 => simp at ha; subst ha; exact .int _ _
  | 4 => simp at ha; subst ha; exact .int _ _
  | n + 5 => simp at ha
theorem BoxA.ldx2 {m : Mem} {id : Nat} {a b : Value} (h : BoxA m id [a, b]) (new : Mem) : ldA (m ++ new) (some 2) (.pointer (some ⟨id, 0, none⟩)) = some (.agg #[a, b]) := (h.ext new).ld2
theorem BoxA.ldx5 {m : Mem} {id : Nat} {a b c d e : Value} (h : BoxA m id [a, b, c, d, e]) (new : Mem) : ldA (m ++ new) (some 5) (.pointer (some ⟨id, 0, none⟩)) = some (.agg #[a, b, c, d, e]) := (h.ext new).ld5
theorem own_st1 {M : Mem} {id : Nat} {e : TypeId} {cs : List Value} {lo hi : Nat} {m : Mem} (h : OwnB M id e cs) (hb : But lo hi m M) (a : lo ≤ id) (b : id < hi) (off : Nat) (x : Int) (ho : off < cs.length) :
    ∃ M', stA M id off [.int .i64 x] = some M' ∧ OwnB M' id e (cs.set off (.int .i64 x)) ∧ But lo hi m M' :=
  ⟨_, h.st (by simp; omega) rfl, h.set_self _ _, hb.set a b _⟩
theorem markItemS_ac (m : Mem) (lo hi : Nat) (v : Value) (L : List It) (k0 : Int) (h : Lv lo hi m fun M => ItemsO 25 L lo hi M v) (h0 : 0 ≤ k0) (h1 : k0 ≤ 68719476736) :
    AC Try.prog 38 [v, .int .i64 k0] m fun r m' => r = .int .i64 (k0 + 5 * L.length) ∧ But lo hi m m' ∧ True := by
  refine ac_of_run mixed ok_laws_markItemS (by simp) (go_start _ _ _ ?_)
  obtain ⟨hl, id, fl, rfl, a, b, ho⟩ := h.now
  simp (config := {implicitDefEqProofs := false, maxDischargeDepth := 20}) (disch := first | omega | (simp only [lenE]; done) | (simp only [lenE]; omega) | rfl | (simp only [lenE, markR_len]; done) | (simp only [lenE, markR_len]; omega)) only [runE, mapE, listE, initT_5, initT_6, initT_7, initT_8, resV, oneV, binA, unA, reduceCtorEq, Nat.reduceEqDiff, Nat.reduceAdd, Nat.reduceLT, Nat.reduceLeDiff, Nat.reduceMul, Nat.reduceSub, ↓reduceIte, decide_true, decide_false, Bool.true_eq_false, Bool.false_eq_true, Bool.not_true, Bool.not_false, if_true, if_false, and_true, true_and, memE, celE, w64, Nat.zero_add, Nat.add_zero, Nat.mul_one, putL, and_self, ldn, c_laws_markItemS, r_laws_markItemS]
  refine loop_inv mixed (fun s => ∃ (k : Nat) (M : Mem) (cs : List Value), k ≤ L.length ∧ s.m = M ∧ But lo hi m M ∧ OwnB M id 25 cs ∧ cs.length = L.length * 5 ∧
      s.t 0 = .slice (some ⟨id, 0, none⟩) L.length fl ∧ s.t 1 = .int .i64 (k0 + 5 * (k : Int)) ∧ s.t 5 = .int .i64 k) (fun s => L.length - (intOf (s.t 5)).toNat)
    ⟨0, _, itemsC L, by omega, rfl, But.refl _ _ _, ho, itemsC_len L, rfl, by simp only [put_t, put_t', put_m, putT_t, putT_t', putT_m, init_t, init_m, initT_0, initT_1, initT_2, initT_3, initT_4, initT_5, initT_6, initT_7, initT_8, Nat.reduceEqDiff, ↓reduceIte]; simp, rfl⟩ ?_
  rintro s ⟨k, M, cs, hk, tm, hb, hoM, hcl, t0, t1, t5⟩
  by_cases hlt : k < L.length
  · have hlt' : (k : Int) < L.length := by omega
    obtain ⟨M1, s1, o1, b1⟩ := own_st1 hoM hb a b (k * 5) (k0 + 5 * (k : Int)) (by omega)
    obtain ⟨M2, s2, o2, b2⟩ := own_st1 o1 b1 a b (k * 5 + 1) (k0 + 5 * (k : Int) + 1) (by rw [List.length_set]; omega)
    obtain ⟨M3, s3, o3, b3⟩ := own_st1 o2 b2 a b (k * 5 + 2) (k0 + 5 * (k : Int) + 1 + 1) (by rw [List.length_set, List.length_set]; omega)
    obtain ⟨M4, s4, o4, b4⟩ := own_st1 o3 b3 a b (k * 5 + 3) (k0 + 5 * (k : Int) + 1 + 1 + 1) (by rw [List.length_set, List.length_set, List.length_set]; omega)
    obtain ⟨M5, s5, o5, b5⟩ := own_st1 o4 b4 a b (k * 5 + 4) (k0 + 5 * (k : Int) + 1 + 1 + 1 + 1) (by rw [List.length_set, List.length_set, List.length_set, List.length_set]; omega)
    simp (config := {implicitDefEqProofs := false, maxDischargeDepth := 20}) (disch := first | omega | (simp only [lenE]; done) | (simp only [lenE]; omega) | rfl | (simp only [lenE, markR_len]; done) | (simp only [lenE, markR_len]; omega)) only [runE, mapE, listE, initT_5, initT_6, initT_7, initT_8, resV, oneV, binA, unA, reduceCtorEq, Nat.reduceEqDiff, Nat.reduceAdd, Nat.reduceLT, Nat.reduceLeDiff, Nat.reduceMul, Nat.reduceSub, ↓reduceIte, decide_true, decide_false, Bool.true_eq_false, Bool.false_eq_true, Bool.not_true, Bool.not_false, if_true, if_false, and_true, true_and, memE, celE, w64, Nat.zero_add, Nat.add_zero, Nat.mul_one, putL, and_self, ldn, tm, t0, t1, t5, hlt', iadA_in hlt, s1, s2, s3, s4, s5]
    refine ⟨⟨k + 1, M5, _, by omega, rfl, b5, o5, ?_, ?_, by simp⟩, ?_⟩
    · simp only [List.length_set]; exact hcl
    · congr 1; push_cast; omega
    · simp [intOf]; omega
  · have hlt' : ¬ ((k : Int) < L.length) := by omega
    have e : k = L.length := by omega
    subst e
    simp (config := {implicitDefEqProofs := false, maxDischargeDepth := 20}) (disch := first | omega | (simp only [lenE]; done) | (simp only [lenE]; omega) | rfl | (simp only [lenE, markR_len]; done) | (simp only [lenE, markR_len]; omega)) only [runE, mapE, listE, initT_5, initT_6, initT_7, initT_8, resV, oneV, binA, unA, reduceCtorEq, Nat.reduceEqDiff, Nat.reduceAdd, Nat.reduceLT, Nat.reduceLeDiff, Nat.reduceMul, Nat.reduceSub, ↓reduceIte, decide_true, decide_false, Bool.true_eq_false, Bool.false_eq_true, Bool.not_true, Bool.not_false, if_true, if_false, and_true, true_and, memE, celE, w64, Nat.zero_add, Nat.add_zero, Nat.mul_one, putL, and_self, ldn, tm, t0, t1, t5, hlt']
    exact hb
end Go.Proofs.Ytmjnjhdacliieaa.Ab
