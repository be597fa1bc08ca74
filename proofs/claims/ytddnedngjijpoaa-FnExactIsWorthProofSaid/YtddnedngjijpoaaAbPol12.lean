/- Policies: lists that are convex for k, by both programs. -/
import Derived.Test.YtddnedngjijpoaaAbPol4
namespace Go.Proofs.Ytddnedngjijpoaa.Ab
open Go Go.RowKit
set_option linter.unusedVariables false
set_option linter.unusedSimpArgs false

def valB (x : Int) : Bool := decide (-1000000000000 ≤ x) && decide (x ≤ 1000000000000)
def valsB (l : List Int) : Bool := l.all valB
def convOk (l : List Int) (k : Int) : Bool := decide (l.length ≤ 41) && valsB l && inZ 1000000000000 k
/-- The place a in the middle, v before it and u behind it. -/
def convQ (l : List Int) (k : Int) (a v u : Nat) : Bool := decide ((v : Int) * l.getD a 0 + (u : Int) * (l.getD a 0 - l.getD (a - v) 0) ≤ (v : Int) * (k + l.getD (a + u) 0))
def convAt (l : List Int) (k : Int) (a : Nat) : Bool := (List.range a).all fun v => (List.range (l.length - a - 1)).all fun u => convQ l k a (v + 1) (u + 1)
def convB (l : List Int) (k : Int) : Bool := (List.range l.length).all (convAt l k)
theorem convAt_yes {l : List Int} {k : Int} {a : Nat} (h : ∀ v u, 1 ≤ v → v ≤ a → 1 ≤ u → a + u < l.length → convQ l k a v u = true) : convAt l k a = true := by
  simp only [convAt, List.all_eq_true, List.mem_range]
  exact fun v hv u hu => h (v + 1) (u + 1) (by omega) (by omega) (by omega) (by omega)
theorem convAt_no {l : List Int} {k : Int} {a v u : Nat} (h1 : 1 ≤ v) (h2 : v ≤ a) (h3 : 1 ≤ u) (h4 : a + u < l.length) (h : convQ l k a v u = false) : convAt l k a = false := by
  cases hr : convAt l k a with
  | false => rfl
  | true =>
    simp only [convAt, List.all_eq_true, List.mem_range] at hr
    have := hr (v - 1) (by omega) (u - 1) (by omega)
    rw [show v - 1 + 1 = v by omega, show u - 1 + 1 = u by omega, h] at this
    cases this
theorem convB_yes {l : List Int} {k : Int} (h : ∀ a, a < l.length → convAt l k a = true) : convB l k = true := by
  simp only [convB, List.all_eq_true, List.mem_range]; exact h
theorem convB_no {l : List Int} {k : Int} {a : Nat} (ha : a < l.length) (h : convAt l k a = false) : convB l k = false := by
  cases hr : convB l k with
  | false => rfl
  | true =>
    simp only [convB, List.all_eq_true, List.mem_range] at hr
    rw [hr a ha] at h; cases h
theorem vals_at {l : List Int} (h : valsB l = true) (i : Nat) : -1000000000000 ≤ l.getD i 0 ∧ l.getD i 0 ≤ 1000000000000 := by
  by_cases hi : i < l.length
  · simp only [valsB, List.all_eq_true] at h
    have := h l[i] (List.getElem_mem hi)
    simp only [valB, Bool.and_eq_true, decide_eq_true_eq] at this
    rw [List.getD_eq_getElem?_getD, List.getElem?_eq_getElem hi]; exact this
  · rw [List.getD_eq_getElem?_getD, List.getElem?_eq_none (by omega)]; exact ⟨by decide, by decide⟩
theorem mul_b {v : Nat} {x : Int} (hv : v ≤ 41) (h : -3000000000000 ≤ x ∧ x ≤ 3000000000000) : -123000000000000 ≤ (v : Int) * x ∧ (v : Int) * x ≤ 123000000000000 := by
  rcases Int.le_total 0 x with hx | hx
  · have := mul_in' (a := (v : Int)) (x := x) (A := 41) (B := 3000000000000) (by omega) (by omega); omega
  · have := mul_in' (a := (v : Int)) (x := -x) (A := 41) (B := 3000000000000) (by omega) (by omega)
    rw [Int.mul_neg] at this; omega
theorem at_z {m : Mem} {v : Value} {l : List Int} (h : IntsA m v l) {z : Int} {i : Nat} (hz : z = i) (hi : i < l.length) : iadA 1 v (.int .i64 z) = some (pAt v i) := by
  subst hz; exact h.at_ i hi
theorem vals_any (l : List Int) : (!l.any fun x => !valB x) = valsB l := by
  unfold valsB
  induction l with
  | nil => rfl
  | cons x l ih => rw [List.any_cons, List.all_cons, ← ih]; cases valB x <;> simp
theorem areValues_rc (m : Mem) (v : Value) (l : List Int) (h : IntsA m v l) : RC Try.prog 87 [v] m fun r new => r = .bool (valsB l) ∧ new = [] := by
  refine rc_of_run mixed ok_impl_areValues (by simp) (go_start _ _ _ ?_)
  simp (config := {implicitDefEqProofs := false, maxDischargeDepth := 20}) (disch := first | omega | (simp only [lenE]; done) | (simp only [lenE]; omega) | rfl | (simp only [lenE, markR_len]; done) | (simp only [lenE, markR_len]; omega)) only [runE, mapE, listE, initT_5, initT_6, initT_7, initT_8, resV, oneV, binA, unA, reduceCtorEq, Nat.reduceEqDiff, Nat.reduceAdd, Nat.reduceLT, Nat.reduceLeDiff, Nat.reduceMul, Nat.reduceSub, ↓reduceIte, decide_true, decide_false, Bool.true_eq_false, Bool.false_eq_true, Bool.not_true, Bool.not_false, if_true, if_false, and_true, true_and, memE, celE, w64, Nat.zero_add, Nat.add_zero, Nat.mul_one, putL, and_self, ldn, c_impl_areValues, r_impl_areValues]
  refine callH_rc (containsFunc_rc _ v _ l (fun x => !valB x) h.ro ⟨_, _, rfl, fun x m' _ => ?_⟩) ?_
  · refine rc_of_run mixed ok_impl_areValues_1 (by simp) (go_start _ _ _ ?_)
    simp (config := {implicitDefEqProofs := false, maxDischargeDepth := 20}) (disch := first | omega | (simp only [lenE]; done) | (simp only [lenE]; omega) | rfl | (simp only [lenE, markR_len]; done) | (simp only [lenE, markR_len]; omega)) only [runE, mapE, listE, initT_5, initT_6, initT_7, initT_8, resV, oneV, binA, unA, reduceCtorEq, Nat.reduceEqDiff, Nat.reduceAdd, Nat.reduceLT, Nat.reduceLeDiff, Nat.reduceMul, Nat.reduceSub, ↓reduceIte, decide_true, decide_false, Bool.true_eq_false, Bool.false_eq_true, Bool.not_true, Bool.not_false, if_true, if_false, and_true, true_and, memE, celE, w64, Nat.zero_add, Nat.add_zero, Nat.mul_one, putL, and_self, ldn, c_impl_areValues_1, r_impl_areValues_1]
    refine callH_rc (isNear_rc _ x 1000000000000 (by decide)) ?_
    rintro r new ⟨rfl, rfl⟩
    simp (config := {implicitDefEqProofs := false, maxDischargeDepth := 20}) (disch := first | omega | (simp only [lenE]; done) | (simp only [lenE]; omega) | rfl | (simp only [lenE, markR_len]; done) | (simp only [lenE, markR_len]; omega)) only [runE, mapE, listE, initT_5, initT_6, initT_7, initT_8, resV, oneV, binA, unA, reduceCtorEq, Nat.reduceEqDiff, Nat.reduceAdd, Nat.reduceLT, Nat.reduceLeDiff, Nat.reduceMul, Nat.reduceSub, ↓reduceIte, decide_true, decide_false, Bool.true_eq_false, Bool.false_eq_true, Bool.not_true, Bool.not_false, if_true, if_false, and_true, true_and, memE, celE, w64, Nat.zero_add, Nat.add_zero, Nat.mul_one, putL, and_self, ldn]
    exact newQ_nil ⟨rfl, rfl⟩
  rintro r new ⟨rfl, rfl⟩
  simp (config := {implicitDefEqProofs := false, maxDischargeDepth := 20}) (disch := first | omega | (simp only [lenE]; done) | (simp only [lenE]; omega) | rfl | (simp only [lenE, markR_len]; done) | (simp only [lenE, markR_len]; omega)) only [runE, mapE, listE, initT_5, initT_6, initT_7, initT_8, resV, oneV, binA, unA, reduceCtorEq, Nat.reduceEqDiff, Nat.reduceAdd, Nat.reduceLT, Nat.reduceLeDiff, Nat.reduceMul, Nat.reduceSub, ↓reduceIte, decide_true, decide_false, Bool.true_eq_false, Bool.false_eq_true, Bool.not_true, Bool.not_false, if_true, if_false, and_true, true_and, memE, celE, w64, Nat.zero_add, Nat.add_zero, Nat.mul_one, putL, and_self, ldn]
  refine newQ_nil ⟨?_, rfl⟩
  rw [vals_any]
theorem isConvexAt_rc (m : Mem) (v : Value) (l : List Int) (k : Int) (a : Nat) (h : IntsA m v l) (hl : l.length ≤ 41) (hv : valsB l = true) (hk : 0 ≤ k ∧ k ≤ 1000000000000) (ha : a < l.length) :
    RC Try.prog 88 [v, .int .i64 k, .int .i64 a] m fun r new => r = .bool (convAt l k a) ∧ new = [] := by
  refine rc_of_run mixed ok_impl_isConvexAt (by simp) (go_start _ _ _ ?_)
  have hr := h.ro
  simp (config := {implicitDefEqProofs := false, maxDischargeDepth := 20}) (disch := first | omega | (simp only [lenE]; done) | (simp only [lenE]; omega) | rfl | (simp only [lenE, markR_len]; done) | (simp only [lenE, markR_len]; omega)) only [runE, mapE, listE, initT_5, initT_6, initT_7, initT_8, resV, oneV, binA, unA, reduceCtorEq, Nat.reduceEqDiff, Nat.reduceAdd, Nat.reduceLT, Nat.reduceLeDiff, Nat.reduceMul, Nat.reduceSub, ↓reduceIte, decide_true, decide_false, Bool.true_eq_false, Bool.false_eq_true, Bool.not_true, Bool.not_false, if_true, if_false, and_true, true_and, memE, celE, w64, Nat.zero_add, Nat.add_zero, Nat.mul_one, putL, and_self, ldn, c_impl_isConvexAt, r_impl_isConvexAt]
  refine loop_inv mixed (fun s => ∃ (x : Nat), 1 ≤ x ∧ x ≤ a + 1 ∧ s.m = roM m ∧ (∀ w u, 1 ≤ w → w < x → 1 ≤ u → a + u < l.length → convQ l k a w u = true) ∧ s.t 0 = v ∧ s.t 1 = .int .i64 k ∧ s.t 2 = .int .i64 a ∧ s.t 7 = .int .i64 x) (fun s => a + 1 - (intOf (s.t 7)).toNat)
    ⟨1, by omega, by omega, rfl, fun w u h1 h2 => absurd h2 (by omega), rfl, rfl, rfl, rfl⟩ ?_
  rintro s ⟨x, hx1, hx2, tm, hall, t0, t1, t2, t7⟩
  by_cases hlt : x ≤ a
  · have hlt' : (x : Int) ≤ a := by omega
    simp (config := {implicitDefEqProofs := false, maxDischargeDepth := 20}) (disch := first | omega | (simp only [lenE]; done) | (simp only [lenE]; omega) | rfl | (simp only [lenE, markR_len]; done) | (simp only [lenE, markR_len]; omega)) only [runE, mapE, listE, initT_5, initT_6, initT_7, initT_8, resV, oneV, binA, unA, reduceCtorEq, Nat.reduceEqDiff, Nat.reduceAdd, Nat.reduceLT, Nat.reduceLeDiff, Nat.reduceMul, Nat.reduceSub, ↓reduceIte, decide_true, decide_false, Bool.true_eq_false, Bool.false_eq_true, Bool.not_true, Bool.not_false, if_true, if_false, and_true, true_and, memE, celE, w64, Nat.zero_add, Nat.add_zero, Nat.mul_one, putL, and_self, ldn, tm, t0, t1, t2, t7, hlt']
    refine loop_inv mixed (fun s => ∃ (u : Nat), 1 ≤ u ∧ u ≤ l.length ∧ s.m = roM m ∧ (∀ w, 1 ≤ w → w < u → a + w < l.length → convQ l k a x w = true) ∧ s.t 0 = v ∧ s.t 1 = .int .i64 k ∧ s.t 2 = .int .i64 a ∧ s.t 7 = .int .i64 x ∧ s.t 8 = .int .i64 u) (fun s => l.length - (intOf (s.t 8)).toNat)
      ⟨1, by omega, by omega, tm, fun w h1 h2 => absurd h2 (by omega), t0, t1, t2, t7, rfl⟩ ?_
    rintro s ⟨u, hu1, hu2, tm, hin, t0, t1, t2, t7, t8⟩
    by_cases hltu : a + u < l.length
    · have hltu' : (a : Int) + u < l.length := by omega
      have b1 := vals_at hv a
      have b2 := vals_at hv (a + u)
      have b3 := vals_at hv (a - x)
      have m1 := mul_b (v := x) (x := k + l.getD (a + u) 0) (by omega) (by omega)
      have m2 := mul_b (v := x) (x := l.getD a 0) (by omega) (by omega)
      have m3 := mul_b (v := u) (x := l.getD a 0 - l.getD (a - x) 0) (by omega) (by omega)
      have e1 := at_z hr (z := (a : Int) + u) (i := a + u) (by omega) hltu
      have e3 := at_z hr (z := (a : Int) - x) (i := a - x) (by omega) (by omega)
      by_cases hq : (x : Int) * (k + l.getD (a + u) 0) < (x : Int) * l.getD a 0 + (u : Int) * (l.getD a 0 - l.getD (a - x) 0)
      · simp (config := {implicitDefEqProofs := false, maxDischargeDepth := 20}) (disch := first | omega | (simp only [lenE]; done) | (simp only [lenE]; omega) | rfl | (simp only [lenE, markR_len]; done) | (simp only [lenE, markR_len]; omega)) only [runE, mapE, listE, initT_5, initT_6, initT_7, initT_8, resV, oneV, binA, unA, reduceCtorEq, Nat.reduceEqDiff, Nat.reduceAdd, Nat.reduceLT, Nat.reduceLeDiff, Nat.reduceMul, Nat.reduceSub, ↓reduceIte, decide_true, decide_false, Bool.true_eq_false, Bool.false_eq_true, Bool.not_true, Bool.not_false, if_true, if_false, and_true, true_and, memE, celE, w64, Nat.zero_add, Nat.add_zero, Nat.mul_one, putL, and_self, ldn, tm, t0, t1, t2, t7, t8, hr.len, hltu', e1, e3, hr.at_ a ha, hr.ld a ha, hr.ld (a + u) hltu, hr.ld (a - x) (by omega), hq]
        exact newQ_nil ⟨by rw [convAt_no (v := x) (u := u) hx1 hlt hu1 hltu (by simp only [convQ]; exact decide_eq_false (by omega))], rfl⟩
      · simp (config := {implicitDefEqProofs := false, maxDischargeDepth := 20}) (disch := first | omega | (simp only [lenE]; done) | (simp only [lenE]; omega) | rfl | (simp only [lenE, markR_len]; done) | (simp only [lenE, markR_len]; omega)) only [runE, mapE, listE, initT_5, initT_6, initT_7, initT_8, resV, oneV, binA, unA, reduceCtorEq, Nat.reduceEqDiff, Nat.reduceAdd, Nat.reduceLT, Nat.reduceLeDiff, Nat.reduceMul, Nat.reduceSub, ↓reduceIte, decide_true, decide_false, Bool.true_eq_false, Bool.false_eq_true, Bool.not_true, Bool.not_false, if_true, if_false, and_true, true_and, memE, celE, w64, Nat.zero_add, Nat.add_zero, Nat.mul_one, putL, and_self, ldn, tm, t0, t1, t2, t7, t8, hr.len, hltu', e1, e3, hr.at_ a ha, hr.ld a ha, hr.ld (a + u) hltu, hr.ld (a - x) (by omega), hq]
        refine ⟨⟨u + 1, by omega, by omega, fun w h1 h2 h3 => ?_, by simp⟩, by simp [intOf]; omega⟩
        by_cases e : w = u
        · rw [e]; simp only [convQ]; exact decide_eq_true (by omega)
        · exact hin w h1 (by omega) h3
    · have hltu' : ¬ ((a : Int) + u < l.length) := by omega
      simp (config := {implicitDefEqProofs := false, maxDischargeDepth := 20}) (disch := first | omega | (simp only [lenE]; done) | (simp only [lenE]; omega) | rfl | (simp only [lenE, markR_len]; done) | (simp only [lenE, markR_len]; omega)) only [runE, mapE, listE, initT_5, initT_6, initT_7, initT_8, resV, oneV, binA, unA, reduceCtorEq, Nat.reduceEqDiff, Nat.reduceAdd, Nat.reduceLT, Nat.reduceLeDiff, Nat.reduceMul, Nat.reduceSub, ↓reduceIte, decide_true, decide_false, Bool.true_eq_false, Bool.false_eq_true, Bool.not_true, Bool.not_false, if_true, if_false, and_true, true_and, memE, celE, w64, Nat.zero_add, Nat.add_zero, Nat.mul_one, putL, and_self, ldn, tm, t0, t1, t2, t7, t8, hr.len, hltu']
      refine ⟨⟨x + 1, by omega, by omega, fun w u' h1 h2 h3 h4 => ?_, by simp⟩, by simp [intOf]; omega⟩
      by_cases e : w = x
      · rw [e]; exact hin u' h3 (by omega) h4
      · exact hall w u' h1 (by omega) h3 h4
  · have hlt' : ¬ ((x : Int) ≤ a) := by omega
    simp (config := {implicitDefEqProofs := false, maxDischargeDepth := 20}) (disch := first | omega | (simp only [lenE]; done) | (simp only [lenE]; omega) | rfl | (simp only [lenE, markR_len]; done) | (simp only [lenE, markR_len]; omega)) only [runE, mapE, listE, initT_5, initT_6, initT_7, initT_8, resV, oneV, binA, unA, reduceCtorEq, Nat.reduceEqDiff, Nat.reduceAdd, Nat.reduceLT, Nat.reduceLeDiff, Nat.reduceMul, Nat.reduceSub, ↓reduceIte, decide_true, decide_false, Bool.true_eq_false, Bool.false_eq_true, Bool.not_true, Bool.not_false, if_true, if_false, and_true, true_and, memE, celE, w64, Nat.zero_add, Nat.add_zero, Nat.mul_one, putL, and_self, ldn, tm, t0, t1, t2, t7, hlt']
    exact newQ_nil ⟨by rw [convAt_yes fun w u h1 h2 h3 h4 => hall w u h1 (by omega) h3 h4], rfl⟩
theorem implConvex_rc (m : Mem) (v : Value) (l : List Int) (k : Int) (h : IntsA m v l) : RC Try.prog 33 [v, .int .i64 k] m (AnsV (.tuple #[.bool (convOk l k && convB l k), .bool (convOk l k)])) := by
  refine rc_of_run mixed ok_impl_IsConvexFor (by simp) (go_start _ _ _ ?_)
  have hr := h.ro
  have fin : convOk l k = false → newQ m (AnsV (.tuple #[.bool (convOk l k && convB l k), .bool (convOk l k)])) (.tuple #[.bool false, .bool false]) (roM m) := fun e => newQ_nil ⟨by rw [e]; rfl, noRo_nil⟩
  by_cases hl : l.length ≤ 41
  · have hl' : ¬ ((41 : Int) < l.length) := by omega
    simp (config := {implicitDefEqProofs := false, maxDischargeDepth := 20}) (disch := first | omega | (simp only [lenE]; done) | (simp only [lenE]; omega) | rfl | (simp only [lenE, markR_len]; done) | (simp only [lenE, markR_len]; omega)) only [runE, mapE, listE, initT_5, initT_6, initT_7, initT_8, resV, oneV, binA, unA, reduceCtorEq, Nat.reduceEqDiff, Nat.reduceAdd, Nat.reduceLT, Nat.reduceLeDiff, Nat.reduceMul, Nat.reduceSub, ↓reduceIte, decide_true, decide_false, Bool.true_eq_false, Bool.false_eq_true, Bool.not_true, Bool.not_false, if_true, if_false, and_true, true_and, memE, celE, w64, Nat.zero_add, Nat.add_zero, Nat.mul_one, putL, and_self, ldn, c_impl_IsConvexFor, r_impl_IsConvexFor, hr.len, gt_iff_lt, hl']
    refine callH_rc (areValues_rc _ v l hr) ?_
    rintro r new ⟨rfl, rfl⟩
    rw [List.append_nil]
    cases hv : valsB l with
    | false =>
      simp (config := {implicitDefEqProofs := false, maxDischargeDepth := 20}) (disch := first | omega | (simp only [lenE]; done) | (simp only [lenE]; omega) | rfl | (simp only [lenE, markR_len]; done) | (simp only [lenE, markR_len]; omega)) only [runE, mapE, listE, initT_5, initT_6, initT_7, initT_8, resV, oneV, binA, unA, reduceCtorEq, Nat.reduceEqDiff, Nat.reduceAdd, Nat.reduceLT, Nat.reduceLeDiff, Nat.reduceMul, Nat.reduceSub, ↓reduceIte, decide_true, decide_false, Bool.true_eq_false, Bool.false_eq_true, Bool.not_true, Bool.not_false, if_true, if_false, and_true, true_and, memE, celE, w64, Nat.zero_add, Nat.add_zero, Nat.mul_one, putL, and_self, ldn]
      exact fin (by simp [convOk, hv])
    | true =>
    simp (config := {implicitDefEqProofs := false, maxDischargeDepth := 20}) (disch := first | omega | (simp only [lenE]; done) | (simp only [lenE]; omega) | rfl | (simp only [lenE, markR_len]; done) | (simp only [lenE, markR_len]; omega)) only [runE, mapE, listE, initT_5, initT_6, initT_7, initT_8, resV, oneV, binA, unA, reduceCtorEq, Nat.reduceEqDiff, Nat.reduceAdd, Nat.reduceLT, Nat.reduceLeDiff, Nat.reduceMul, Nat.reduceSub, ↓reduceIte, decide_true, decide_false, Bool.true_eq_false, Bool.false_eq_true, Bool.not_true, Bool.not_false, if_true, if_false, and_true, true_and, memE, celE, w64, Nat.zero_add, Nat.add_zero, Nat.mul_one, putL, and_self, ldn]
    refine callH_rc (isWithin_rc _ _ _) ?_
    rintro r new ⟨rfl, rfl⟩
    rw [List.append_nil, show inB 1000000000000 k = inZ 1000000000000 k from rfl]
    cases hk : inZ 1000000000000 k with
    | false =>
      simp (config := {implicitDefEqProofs := false, maxDischargeDepth := 20}) (disch := first | omega | (simp only [lenE]; done) | (simp only [lenE]; omega) | rfl | (simp only [lenE, markR_len]; done) | (simp only [lenE, markR_len]; omega)) only [runE, mapE, listE, initT_5, initT_6, initT_7, initT_8, resV, oneV, binA, unA, reduceCtorEq, Nat.reduceEqDiff, Nat.reduceAdd, Nat.reduceLT, Nat.reduceLeDiff, Nat.reduceMul, Nat.reduceSub, ↓reduceIte, decide_true, decide_false, Bool.true_eq_false, Bool.false_eq_true, Bool.not_true, Bool.not_false, if_true, if_false, and_true, true_and, memE, celE, w64, Nat.zero_add, Nat.add_zero, Nat.mul_one, putL, and_self, ldn]
      exact fin (by simp [convOk, hk])
    | true =>
    have hok : convOk l k = true := by simp [convOk, hv, hk, hl]
    have hk' : 0 ≤ k ∧ k ≤ 1000000000000 := by simpa only [inZ, Bool.and_eq_true, decide_eq_true_eq] using hk
    rw [hok]
    simp (config := {implicitDefEqProofs := false, maxDischargeDepth := 20}) (disch := first | omega | (simp only [lenE]; done) | (simp only [lenE]; omega) | rfl | (simp only [lenE, markR_len]; done) | (simp only [lenE, markR_len]; omega)) only [runE, mapE, listE, initT_5, initT_6, initT_7, initT_8, resV, oneV, binA, unA, reduceCtorEq, Nat.reduceEqDiff, Nat.reduceAdd, Nat.reduceLT, Nat.reduceLeDiff, Nat.reduceMul, Nat.reduceSub, ↓reduceIte, decide_true, decide_false, Bool.true_eq_false, Bool.false_eq_true, Bool.not_true, Bool.not_false, if_true, if_false, and_true, true_and, memE, celE, w64, Nat.zero_add, Nat.add_zero, Nat.mul_one, putL, and_self, ldn, hr.len]
    refine loop_inv mixed (fun s => ∃ (a : Nat), a ≤ l.length ∧ s.m = roM m ∧ (∀ b, b < a → convAt l k b = true) ∧ s.t 0 = v ∧ s.t 1 = .int .i64 k ∧ s.t 21 = .int .i64 l.length ∧ s.t 22 = .int .i64 a) (fun s => l.length - (intOf (s.t 22)).toNat)
      ⟨0, by omega, rfl, fun b hb => absurd hb (by omega), rfl, rfl, rfl, rfl⟩ ?_
    rintro s ⟨a, ha, tm, hall, t0, t1, t21, t22⟩
    by_cases hlt : a < l.length
    · have hlt' : (a : Int) < l.length := by omega
      simp (config := {implicitDefEqProofs := false, maxDischargeDepth := 20}) (disch := first | omega | (simp only [lenE]; done) | (simp only [lenE]; omega) | rfl | (simp only [lenE, markR_len]; done) | (simp only [lenE, markR_len]; omega)) only [runE, mapE, listE, initT_5, initT_6, initT_7, initT_8, resV, oneV, binA, unA, reduceCtorEq, Nat.reduceEqDiff, Nat.reduceAdd, Nat.reduceLT, Nat.reduceLeDiff, Nat.reduceMul, Nat.reduceSub, ↓reduceIte, decide_true, decide_false, Bool.true_eq_false, Bool.false_eq_true, Bool.not_true, Bool.not_false, if_true, if_false, and_true, true_and, memE, celE, w64, Nat.zero_add, Nat.add_zero, Nat.mul_one, putL, and_self, ldn, tm, t0, t1, t21, t22, hlt']
      refine callH_rc (isConvexAt_rc _ v l k a hr hl hv hk' hlt) ?_
      rintro r new ⟨rfl, rfl⟩
      rw [List.append_nil]
      cases hc : convAt l k a with
      | false =>
        simp (config := {implicitDefEqProofs := false, maxDischargeDepth := 20}) (disch := first | omega | (simp only [lenE]; done) | (simp only [lenE]; omega) | rfl | (simp only [lenE, markR_len]; done) | (simp only [lenE, markR_len]; omega)) only [runE, mapE, listE, initT_5, initT_6, initT_7, initT_8, resV, oneV, binA, unA, reduceCtorEq, Nat.reduceEqDiff, Nat.reduceAdd, Nat.reduceLT, Nat.reduceLeDiff, Nat.reduceMul, Nat.reduceSub, ↓reduceIte, decide_true, decide_false, Bool.true_eq_false, Bool.false_eq_true, Bool.not_true, Bool.not_false, if_true, if_false, and_true, true_and, memE, celE, w64, Nat.zero_add, Nat.add_zero, Nat.mul_one, putL, and_self, ldn, tm, t0, t1, t21, t22]
        exact newQ_nil ⟨by rw [convB_no hlt hc]; rfl, noRo_nil⟩
      | true =>
        simp (config := {implicitDefEqProofs := false, maxDischargeDepth := 20}) (disch := first | omega | (simp only [lenE]; done) | (simp only [lenE]; omega) | rfl | (simp only [lenE, markR_len]; done) | (simp only [lenE, markR_len]; omega)) only [runE, mapE, listE, initT_5, initT_6, initT_7, initT_8, resV, oneV, binA, unA, reduceCtorEq, Nat.reduceEqDiff, Nat.reduceAdd, Nat.reduceLT, Nat.reduceLeDiff, Nat.reduceMul, Nat.reduceSub, ↓reduceIte, decide_true, decide_false, Bool.true_eq_false, Bool.false_eq_true, Bool.not_true, Bool.not_false, if_true, if_false, and_true, true_and, memE, celE, w64, Nat.zero_add, Nat.add_zero, Nat.mul_one, putL, and_self, ldn, tm, t0, t1, t21, t22]
        refine ⟨⟨a + 1, by omega, fun b hb => ?_, by simp⟩, by simp [intOf]; omega⟩
        by_cases e : b = a
        · rw [e]; exact hc
        · exact hall b (by omega)
    · have hlt' : ¬ ((a : Int) < l.length) := by omega
      simp (config := {implicitDefEqProofs := false, maxDischargeDepth := 20}) (disch := first | omega | (simp only [lenE]; done) | (simp only [lenE]; omega) | rfl | (simp only [lenE, markR_len]; done) | (simp only [lenE, markR_len]; omega)) only [runE, mapE, listE, initT_5, initT_6, initT_7, initT_8, resV, oneV, binA, unA, reduceCtorEq, Nat.reduceEqDiff, Nat.reduceAdd, Nat.reduceLT, Nat.reduceLeDiff, Nat.reduceMul, Nat.reduceSub, ↓reduceIte, decide_true, decide_false, Bool.true_eq_false, Bool.false_eq_true, Bool.not_true, Bool.not_false, if_true, if_false, and_true, true_and, memE, celE, w64, Nat.zero_add, Nat.add_zero, Nat.mul_one, putL, and_self, ldn, tm, t0, t1, t21, t22, hlt']
      exact newQ_nil ⟨by rw [convB_yes fun b hb => hall b (by omega)]; rfl, noRo_nil⟩
  · have hl' : (41 : Int) < l.length := by omega
    simp (config := {implicitDefEqProofs := false, maxDischargeDepth := 20}) (disch := first | omega | (simp only [lenE]; done) | (simp only [lenE]; omega) | rfl | (simp only [lenE, markR_len]; done) | (simp only [lenE, markR_len]; omega)) only [runE, mapE, listE, initT_5, initT_6, initT_7, initT_8, resV, oneV, binA, unA, reduceCtorEq, Nat.reduceEqDiff, Nat.reduceAdd, Nat.reduceLT, Nat.reduceLeDiff, Nat.reduceMul, Nat.reduceSub, ↓reduceIte, decide_true, decide_false, Bool.true_eq_false, Bool.false_eq_true, Bool.not_true, Bool.not_false, if_true, if_false, and_true, true_and, memE, celE, w64, Nat.zero_add, Nat.add_zero, Nat.mul_one, putL, and_self, ldn, c_impl_IsConvexFor, r_impl_IsConvexFor, hr.len, gt_iff_lt, hl']
    exact fin (by simp [convOk, hl])
theorem specConvex_rc (m : Mem) (v : Value) (l : List Int) (k : Int) (h : IntsA m v l) : RC Try.prog 34 [v, .int .i64 k] m (AnsV (.tuple #[.bool (convOk l k && convB l k), .bool (convOk l k)])) := by
  refine rc_of_run mixed ok_spec_IsConvexFor (by simp) (go_start _ _ _ ?_)
  have hr := h.ro
  have fin : convOk l k = false → newQ m (AnsV (.tuple #[.bool (convOk l k && convB l k), .bool (convOk l k)])) (.tuple #[.bool false, .bool false]) (roM m) := fun e => newQ_nil ⟨by rw [e]; rfl, noRo_nil⟩
  simp (config := {implicitDefEqProofs := false, maxDischargeDepth := 20}) (disch := first | omega | (simp only [lenE]; done) | (simp only [lenE]; omega) | rfl | (simp only [lenE, markR_len]; done) | (simp only [lenE, markR_len]; omega)) only [runE, mapE, listE, initT_5, initT_6, initT_7, initT_8, resV, oneV, binA, unA, reduceCtorEq, Nat.reduceEqDiff, Nat.reduceAdd, Nat.reduceLT, Nat.reduceLeDiff, Nat.reduceMul, Nat.reduceSub, ↓reduceIte, decide_true, decide_false, Bool.true_eq_false, Bool.false_eq_true, Bool.not_true, Bool.not_false, if_true, if_false, and_true, true_and, memE, celE, w64, Nat.zero_add, Nat.add_zero, Nat.mul_one, putL, and_self, ldn, c_spec_IsConvexFor, r_spec_IsConvexFor]
  refine loop_inv mixed (fun s => ∃ (i : Nat), i ≤ l.length ∧ i ≤ 42 ∧ s.m = roM m ∧ (∀ j, j < i → valB (l.getD j 0) = true) ∧ s.t 0 = v ∧ s.t 1 = .int .i64 k ∧ s.t 6 = .int .i64 i) (fun s => 43 - (intOf (s.t 6)).toNat)
    ⟨0, by omega, by omega, rfl, fun j hj => absurd hj (by omega), rfl, rfl, rfl⟩ ?_
  rintro s ⟨i, hi, hi42, tm, hall, t0, t1, t6⟩
  by_cases hgo : i < l.length ∧ i ≤ 41
  · have g1 : (i : Int) < l.length := by omega
    have g2 : (i : Int) ≤ 41 := by omega
    simp (config := {implicitDefEqProofs := false, maxDischargeDepth := 20}) (disch := first | omega | (simp only [lenE]; done) | (simp only [lenE]; omega) | rfl | (simp only [lenE, markR_len]; done) | (simp only [lenE, markR_len]; omega)) only [runE, mapE, listE, initT_5, initT_6, initT_7, initT_8, resV, oneV, binA, unA, reduceCtorEq, Nat.reduceEqDiff, Nat.reduceAdd, Nat.reduceLT, Nat.reduceLeDiff, Nat.reduceMul, Nat.reduceSub, ↓reduceIte, decide_true, decide_false, Bool.true_eq_false, Bool.false_eq_true, Bool.not_true, Bool.not_false, if_true, if_false, and_true, true_and, memE, celE, w64, Nat.zero_add, Nat.add_zero, Nat.mul_one, putL, and_self, ldn, tm, t0, t1, t6, hr.len, g1, g2, hr.at_ i hgo.1, hr.ld i hgo.1]
    refine callH_rc (l1In_rc _ _ _ _) ?_
    rintro r new ⟨rfl, rfl⟩
    rw [List.append_nil, show (decide ((-1000000000000 : Int) ≤ l.getD i 0) && decide (l.getD i 0 ≤ 1000000000000)) = valB (l.getD i 0) from rfl]
    cases hv : valB (l.getD i 0) with
    | false =>
      simp (config := {implicitDefEqProofs := false, maxDischargeDepth := 20}) (disch := first | omega | (simp only [lenE]; done) | (simp only [lenE]; omega) | rfl | (simp only [lenE, markR_len]; done) | (simp only [lenE, markR_len]; omega)) only [runE, mapE, listE, initT_5, initT_6, initT_7, initT_8, resV, oneV, binA, unA, reduceCtorEq, Nat.reduceEqDiff, Nat.reduceAdd, Nat.reduceLT, Nat.reduceLeDiff, Nat.reduceMul, Nat.reduceSub, ↓reduceIte, decide_true, decide_false, Bool.true_eq_false, Bool.false_eq_true, Bool.not_true, Bool.not_false, if_true, if_false, and_true, true_and, memE, celE, w64, Nat.zero_add, Nat.add_zero, Nat.mul_one, putL, and_self, ldn, tm, t0, t1, t6]
      refine fin ?_
      have : valsB l = false := by
        cases hr : valsB l with
        | false => rfl
        | true =>
          have := vals_at hr i
          have h2 : valB (l.getD i 0) = true := by simp only [valB, Bool.and_eq_true, decide_eq_true_eq]; exact this
          rw [h2] at hv; cases hv
      simp [convOk, this]
    | true =>
      simp (config := {implicitDefEqProofs := false, maxDischargeDepth := 20}) (disch := first | omega | (simp only [lenE]; done) | (simp only [lenE]; omega) | rfl | (simp only [lenE, markR_len]; done) | (simp only [lenE, markR_len]; omega)) only [runE, mapE, listE, initT_5, initT_6, initT_7, initT_8, resV, oneV, binA, unA, reduceCtorEq, Nat.reduceEqDiff, Nat.reduceAdd, Nat.reduceLT, Nat.reduceLeDiff, Nat.reduceMul, Nat.reduceSub, ↓reduceIte, decide_true, decide_false, Bool.true_eq_false, Bool.false_eq_true, Bool.not_true, Bool.not_false, if_true, if_false, and_true, true_and, memE, celE, w64, Nat.zero_add, Nat.add_zero, Nat.mul_one, putL, and_self, ldn, tm, t0, t1, t6]
      refine ⟨⟨i + 1, by omega, by omega, fun j hj => ?_, by simp⟩, by simp [intOf]; omega⟩
      by_cases e : j = i
      · rw [e]; exact hv
      · exact hall j (by omega)
  · have stop : (decide ((i : Int) < l.length) && decide ((i : Int) ≤ 41)) = false := by
      by_cases g1 : (i : Int) < l.length
      · have : ¬ ((i : Int) ≤ 41) := by omega
        simp [this]
      · simp [g1]
    have hstep : ∀ {X : Prop}, ((i : Int) < l.length → ¬ ((i : Int) ≤ 41) → X) → (¬ ((i : Int) < l.length) → X) → X := fun a b => by
      by_cases g1 : (i : Int) < l.length
      · exact a g1 (by omega)
      · exact b g1
    have tail : 41 < l.length ∨ (l.length ≤ 41 ∧ valsB l = true) := by
      by_cases hl : l.length ≤ 41
      · right
        refine ⟨hl, ?_⟩
        simp only [valsB, List.all_eq_true]
        intro x hx
        obtain ⟨j, hj, rfl⟩ := List.getElem_of_mem hx
        have := hall j (by omega)
        rwa [List.getD_eq_getElem?_getD, List.getElem?_eq_getElem hj] at this
      · left; omega
    have hb := hr.bd
    rcases tail with hl | ⟨hl, hv⟩
    · have hl' : (41 : Int) < l.length := by omega
      have key : convOk l k = false := by
        have : ¬ (l.length ≤ 41) := by omega
        simp [convOk, this]
      refine hstep (fun g1 g2 => ?_) (fun g1 => ?_)
      · simp (config := {implicitDefEqProofs := false, maxDischargeDepth := 20}) (disch := first | omega | (simp only [lenE]; done) | (simp only [lenE]; omega) | rfl | (simp only [lenE, markR_len]; done) | (simp only [lenE, markR_len]; omega)) only [runE, mapE, listE, initT_5, initT_6, initT_7, initT_8, resV, oneV, binA, unA, reduceCtorEq, Nat.reduceEqDiff, Nat.reduceAdd, Nat.reduceLT, Nat.reduceLeDiff, Nat.reduceMul, Nat.reduceSub, ↓reduceIte, decide_true, decide_false, Bool.true_eq_false, Bool.false_eq_true, Bool.not_true, Bool.not_false, if_true, if_false, and_true, true_and, memE, celE, w64, Nat.zero_add, Nat.add_zero, Nat.mul_one, putL, and_self, ldn, tm, t0, t1, t6, hr.len, g1, g2, gt_iff_lt, hl']
        exact fin key
      · simp (config := {implicitDefEqProofs := false, maxDischargeDepth := 20}) (disch := first | omega | (simp only [lenE]; done) | (simp only [lenE]; omega) | rfl | (simp only [lenE, markR_len]; done) | (simp only [lenE, markR_len]; omega)) only [runE, mapE, listE, initT_5, initT_6, initT_7, initT_8, resV, oneV, binA, unA, reduceCtorEq, Nat.reduceEqDiff, Nat.reduceAdd, Nat.reduceLT, Nat.reduceLeDiff, Nat.reduceMul, Nat.reduceSub, ↓reduceIte, decide_true, decide_false, Bool.true_eq_false, Bool.false_eq_true, Bool.not_true, Bool.not_false, if_true, if_false, and_true, true_and, memE, celE, w64, Nat.zero_add, Nat.add_zero, Nat.mul_one, putL, and_self, ldn, tm, t0, t1, t6, hr.len, g1, gt_iff_lt, hl']
        exact fin key
    · have hl' : ¬ ((41 : Int) < l.length) := by omega
      have g1 : ¬ ((i : Int) < l.length) := by omega
      simp (config := {implicitDefEqProofs := false, maxDischargeDepth := 20}) (disch := first | omega | (simp only [lenE]; done) | (simp only [lenE]; omega) | rfl | (simp only [lenE, markR_len]; done) | (simp only [lenE, markR_len]; omega)) only [runE, mapE, listE, initT_5, initT_6, initT_7, initT_8, resV, oneV, binA, unA, reduceCtorEq, Nat.reduceEqDiff, Nat.reduceAdd, Nat.reduceLT, Nat.reduceLeDiff, Nat.reduceMul, Nat.reduceSub, ↓reduceIte, decide_true, decide_false, Bool.true_eq_false, Bool.false_eq_true, Bool.not_true, Bool.not_false, if_true, if_false, and_true, true_and, memE, celE, w64, Nat.zero_add, Nat.add_zero, Nat.mul_one, putL, and_self, ldn, tm, t0, t1, t6, hr.len, g1, gt_iff_lt, hl']
      refine callH_rc (l1In_rc _ _ _ _) ?_
      rintro r new ⟨rfl, rfl⟩
      rw [List.append_nil, show (decide ((0 : Int) ≤ k) && decide (k ≤ 1000000000000)) = inZ 1000000000000 k from rfl]
      cases hk : inZ 1000000000000 k with
      | false =>
        simp (config := {implicitDefEqProofs := false, maxDischargeDepth := 20}) (disch := first | omega | (simp only [lenE]; done) | (simp only [lenE]; omega) | rfl | (simp only [lenE, markR_len]; done) | (simp only [lenE, markR_len]; omega)) only [runE, mapE, listE, initT_5, initT_6, initT_7, initT_8, resV, oneV, binA, unA, reduceCtorEq, Nat.reduceEqDiff, Nat.reduceAdd, Nat.reduceLT, Nat.reduceLeDiff, Nat.reduceMul, Nat.reduceSub, ↓reduceIte, decide_true, decide_false, Bool.true_eq_false, Bool.false_eq_true, Bool.not_true, Bool.not_false, if_true, if_false, and_true, true_and, memE, celE, w64, Nat.zero_add, Nat.add_zero, Nat.mul_one, putL, and_self, ldn]
        exact fin (by simp [convOk, hk])
      | true =>
      have hok : convOk l k = true := by simp [convOk, hv, hk, hl]
      have hk' : 0 ≤ k ∧ k ≤ 1000000000000 := by simpa only [inZ, Bool.and_eq_true, decide_eq_true_eq] using hk
      rw [hok]
      simp (config := {implicitDefEqProofs := false, maxDischargeDepth := 20}) (disch := first | omega | (simp only [lenE]; done) | (simp only [lenE]; omega) | rfl | (simp only [lenE, markR_len]; done) | (simp only [lenE, markR_len]; omega)) only [runE, mapE, listE, initT_5, initT_6, initT_7, initT_8, resV, oneV, binA, unA, reduceCtorEq, Nat.reduceEqDiff, Nat.reduceAdd, Nat.reduceLT, Nat.reduceLeDiff, Nat.reduceMul, Nat.reduceSub, ↓reduceIte, decide_true, decide_false, Bool.true_eq_false, Bool.false_eq_true, Bool.not_true, Bool.not_false, if_true, if_false, and_true, true_and, memE, celE, w64, Nat.zero_add, Nat.add_zero, Nat.mul_one, putL, and_self, ldn, t0, t1]
      refine loop_inv mixed (fun s => ∃ (a : Nat), a ≤ l.length ∧ s.m = roM m ∧ (∀ b, b < a → convAt l k b = true) ∧ s.t 0 = v ∧ s.t 1 = .int .i64 k ∧ s.t 7 = .int .i64 a) (fun s => l.length - (intOf (s.t 7)).toNat)
        ⟨0, by omega, rfl, fun b hb => absurd hb (by omega), by simp only [put_t, put_t', put_m, putT_t, putT_t', putT_m, init_t, init_m, initT_0, initT_1, initT_2, initT_3, initT_4, initT_5, initT_6, initT_7, initT_8, Nat.reduceEqDiff, ↓reduceIte, t0], by simp only [put_t, put_t', put_m, putT_t, putT_t', putT_m, init_t, init_m, initT_0, initT_1, initT_2, initT_3, initT_4, initT_5, initT_6, initT_7, initT_8, Nat.reduceEqDiff, ↓reduceIte, t1], rfl⟩ ?_
      rintro s ⟨a, ha, tm, hall, t0, t1, t7⟩
      by_cases hlt : a < l.length
      · have hlt' : (a : Int) < l.length := by omega
        simp (config := {implicitDefEqProofs := false, maxDischargeDepth := 20}) (disch := first | omega | (simp only [lenE]; done) | (simp only [lenE]; omega) | rfl | (simp only [lenE, markR_len]; done) | (simp only [lenE, markR_len]; omega)) only [runE, mapE, listE, initT_5, initT_6, initT_7, initT_8, resV, oneV, binA, unA, reduceCtorEq, Nat.reduceEqDiff, Nat.reduceAdd, Nat.reduceLT, Nat.reduceLeDiff, Nat.reduceMul, Nat.reduceSub, ↓reduceIte, decide_true, decide_false, Bool.true_eq_false, Bool.false_eq_true, Bool.not_true, Bool.not_false, if_true, if_false, and_true, true_and, memE, celE, w64, Nat.zero_add, Nat.add_zero, Nat.mul_one, putL, and_self, ldn, tm, t0, t1, t7, hr.len, hlt']
        refine loop_inv mixed (fun s => ∃ (x : Nat), 1 ≤ x ∧ x ≤ a + 1 ∧ s.m = roM m ∧ (∀ w u, 1 ≤ w → w < x → 1 ≤ u → a + u < l.length → convQ l k a w u = true) ∧ s.t 0 = v ∧ s.t 1 = .int .i64 k ∧ s.t 7 = .int .i64 a ∧ s.t 8 = .int .i64 x) (fun s => a + 1 - (intOf (s.t 8)).toNat)
          ⟨1, by omega, by omega, tm, fun w u h1 h2 => absurd h2 (by omega), t0, t1, t7, rfl⟩ ?_
        rintro s ⟨x, hx1, hx2, tm, hall2, t0, t1, t7, t8⟩
        by_cases hltx : x ≤ a
        · have hltx' : (x : Int) ≤ a := by omega
          simp (config := {implicitDefEqProofs := false, maxDischargeDepth := 20}) (disch := first | omega | (simp only [lenE]; done) | (simp only [lenE]; omega) | rfl | (simp only [lenE, markR_len]; done) | (simp only [lenE, markR_len]; omega)) only [runE, mapE, listE, initT_5, initT_6, initT_7, initT_8, resV, oneV, binA, unA, reduceCtorEq, Nat.reduceEqDiff, Nat.reduceAdd, Nat.reduceLT, Nat.reduceLeDiff, Nat.reduceMul, Nat.reduceSub, ↓reduceIte, decide_true, decide_false, Bool.true_eq_false, Bool.false_eq_true, Bool.not_true, Bool.not_false, if_true, if_false, and_true, true_and, memE, celE, w64, Nat.zero_add, Nat.add_zero, Nat.mul_one, putL, and_self, ldn, tm, t0, t1, t7, t8, hltx']
          refine loop_inv mixed (fun s => ∃ (u : Nat), 1 ≤ u ∧ u ≤ l.length ∧ s.m = roM m ∧ (∀ w, 1 ≤ w → w < u → a + w < l.length → convQ l k a x w = true) ∧ s.t 0 = v ∧ s.t 1 = .int .i64 k ∧ s.t 7 = .int .i64 a ∧ s.t 8 = .int .i64 x ∧ s.t 9 = .int .i64 u) (fun s => l.length - (intOf (s.t 9)).toNat)
            ⟨1, by omega, by omega, tm, fun w h1 h2 => absurd h2 (by omega), t0, t1, t7, t8, rfl⟩ ?_
          rintro s ⟨u, hu1, hu2, tm, hin, t0, t1, t7, t8, t9⟩
          by_cases hltu : a + u < l.length
          · have hltu' : (a : Int) + u < l.length := by omega
            have b1 := vals_at hv a
            have b2 := vals_at hv (a + u)
            have b3 := vals_at hv (a - x)
            have m1 := mul_b (v := x) (x := k + l.getD (a + u) 0) (by omega) (by omega)
            have m2 := mul_b (v := x) (x := l.getD a 0) (by omega) (by omega)
            have m3 := mul_b (v := u) (x := l.getD a 0 - l.getD (a - x) 0) (by omega) (by omega)
            have e1 := at_z hr (z := (a : Int) + u) (i := a + u) (by omega) hltu
            have e3 := at_z hr (z := (a : Int) - x) (i := a - x) (by omega) (by omega)
            by_cases hq : (x : Int) * (k + l.getD (a + u) 0) < (x : Int) * l.getD a 0 + (u : Int) * (l.getD a 0 - l.getD (a - x) 0)
            · simp (config := {implicitDefEqProofs := false, maxDischargeDepth := 20}) (disch := first | omega | (simp only [lenE]; done) | (simp only [lenE]; omega) | rfl | (simp only [lenE, markR_len]; done) | (simp only [lenE, markR_len]; omega)) only [runE, mapE, listE, initT_5, initT_6, initT_7, initT_8, resV, oneV, binA, unA, reduceCtorEq, Nat.reduceEqDiff, Nat.reduceAdd, Nat.reduceLT, Nat.reduceLeDiff, Nat.reduceMul, Nat.reduceSub, ↓reduceIte, decide_true, decide_false, Bool.true_eq_false, Bool.false_eq_true, Bool.not_true, Bool.not_false, if_true, if_false, and_true, true_and, memE, celE, w64, Nat.zero_add, Nat.add_zero, Nat.mul_one, putL, and_self, ldn, tm, t0, t1, t7, t8, t9, hr.len, hltu', e1, e3, hr.at_ a hlt, hr.ld a hlt, hr.ld (a + u) hltu, hr.ld (a - x) (by omega), hq]
              exact newQ_nil ⟨by rw [convB_no hlt (convAt_no (v := x) (u := u) hx1 hltx hu1 hltu (by simp only [convQ]; exact decide_eq_false (by omega)))]; rfl, noRo_nil⟩
            · simp (config := {implicitDefEqProofs := false, maxDischargeDepth := 20}) (disch := first | omega | (simp only [lenE]; done) | (simp only [lenE]; omega) | rfl | (simp only [lenE, markR_len]; done) | (simp only [lenE, markR_len]; omega)) only [runE, mapE, listE, initT_5, initT_6, initT_7, initT_8, resV, oneV, binA, unA, reduceCtorEq, Nat.reduceEqDiff, Nat.reduceAdd, Nat.reduceLT, Nat.reduceLeDiff, Nat.reduceMul, Nat.reduceSub, ↓reduceIte, decide_true, decide_false, Bool.true_eq_false, Bool.false_eq_true, Bool.not_true, Bool.not_false, if_true, if_false, and_true, true_and, memE, celE, w64, Nat.zero_add, Nat.add_zero, Nat.mul_one, putL, and_self, ldn, tm, t0, t1, t7, t8, t9, hr.len, hltu', e1, e3, hr.at_ a hlt, hr.ld a hlt, hr.ld (a + u) hltu, hr.ld (a - x) (by omega), hq]
              refine ⟨⟨u + 1, by omega, by omega, fun w h1 h2 h3 => ?_, by simp⟩, by simp [intOf]; omega⟩
              by_cases e : w = u
              · rw [e]; simp only [convQ]; exact decide_eq_true (by omega)
              · exact hin w h1 (by omega) h3
          · have hltu' : ¬ ((a : Int) + u < l.length) := by omega
            simp (config := {implicitDefEqProofs := false, maxDischargeDepth := 20}) (disch := first | omega | (simp only [lenE]; done) | (simp only [lenE]; omega) | rfl | (simp only [lenE, markR_len]; done) | (simp only [lenE, markR_len]; omega)) only [runE, mapE, listE, initT_5, initT_6, initT_7, initT_8, resV, oneV, binA, unA, reduceCtorEq, Nat.reduceEqDiff, Nat.reduceAdd, Nat.reduceLT, Nat.reduceLeDiff, Nat.reduceMul, Nat.reduceSub, ↓reduceIte, decide_true, decide_false, Bool.true_eq_false, Bool.false_eq_true, Bool.not_true, Bool.not_false, if_true, if_false, and_true, true_and, memE, celE, w64, Nat.zero_add, Nat.add_zero, Nat.mul_one, putL, and_self, ldn, tm, t0, t1, t7, t8, t9, hr.len, hltu']
            refine ⟨⟨x + 1, by omega, by omega, fun w u' h1 h2 h3 h4 => ?_, by simp⟩, by simp [intOf]; omega⟩
            by_cases e : w = x
            · rw [e]; exact hin u' h3 (by omega) h4
            · exact hall2 w u' h1 (by omega) h3 h4
        · have hltx' : ¬ ((x : Int) ≤ a) := by omega
          simp (config := {implicitDefEqProofs := false, maxDischargeDepth := 20}) (disch := first | omega | (simp only [lenE]; done) | (simp only [lenE]; omega) | rfl | (simp only [lenE, markR_len]; done) | (simp only [lenE, markR_len]; omega)) only [runE, mapE, listE, initT_5, initT_6, initT_7, initT_8, resV, oneV, binA, unA, reduceCtorEq, Nat.reduceEqDiff, Nat.reduceAdd, Nat.reduceLT, Nat.reduceLeDiff, Nat.reduceMul, Nat.reduceSub, ↓reduceIte, decide_true, decide_false, Bool.true_eq_false, Bool.false_eq_true, Bool.not_true, Bool.not_false, if_true, if_false, and_true, true_and, memE, celE, w64, Nat.zero_add, Nat.add_zero, Nat.mul_one, putL, and_self, ldn, tm, t0, t1, t7, t8, hltx']
          refine ⟨⟨a + 1, by omega, fun b hb => ?_, by simp⟩, by simp [intOf]; omega⟩
          by_cases e : b = a
          · rw [e]; exact convAt_yes fun w u h1 h2 h3 h4 => hall2 w u h1 (by omega) h3 h4
          · exact hall b (by omega)
      · have hlt' : ¬ ((a : Int) < l.length) := by omega
        simp (config := {implicitDefEqProofs := false, maxDischargeDepth := 20}) (disch := first | omega | (simp only [lenE]; done) | (simp only [lenE]; omega) | rfl | (simp only [lenE, markR_len]; done) | (simp only [lenE, markR_len]; omega)) only [runE, mapE, listE, initT_5, initT_6, initT_7, initT_8, resV, oneV, binA, unA, reduceCtorEq, Nat.reduceEqDiff, Nat.reduceAdd, Nat.reduceLT, Nat.reduceLeDiff, Nat.reduceMul, Nat.reduceSub, ↓reduceIte, decide_true, decide_false, Bool.true_eq_false, Bool.false_eq_true, Bool.not_true, Bool.not_false, if_true, if_false, and_true, true_and, memE, celE, w64, Nat.zero_add, Nat.add_zero, Nat.mul_one, putL, and_self, ldn, tm, t0, t1, t7, hr.len, hlt']
        exact newQ_nil ⟨by rw [convB_yes fun b hb => hall b (by omega)]; rfl, noRo_nil⟩
end Go.Proofs.Ytddnedngjijpoaa.Ab
