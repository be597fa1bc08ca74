/- Products of two words, comparisons of fractions by them, the first least one of a list by a closure that calls through an interface. -/
import Derived.Test.YtmjnjhdacliieaaAbCy2
namespace Go.Proofs.Ytmjnjhdacliieaa.Ab
open Go Go.RowKit
set_option linter.unusedVariables false
set_option linter.unusedSimpArgs false

theorem wrap_u64n (n : Nat) (h : n < 18446744073709551616) : IntKind.u64.wrap (n : Int) = (n : Int) := IntWalk.u64_in _ ⟨by omega, by omega⟩
theorem wrap_u64m (n : Nat) : IntKind.u64.wrap (n : Int) = ((n % 18446744073709551616 : Nat) : Int) := by
  have : IntKind.u64.wrap (n : Int) = (n : Int) % 18446744073709551616 := by
    simp [IntKind.wrap, IntKind.bits, IntKind.signed]
  rw [this]; omega
theorem and_low (x : Nat) (h : x < 18446744073709551616) : IntKind.u64.wrap ((BitVec.ofInt IntKind.u64.bits (x : Int) &&& BitVec.ofInt IntKind.u64.bits 4294967295).toNat : Int) = ((x % 4294967296 : Nat) : Int) := by
  have e : (BitVec.ofInt IntKind.u64.bits (x : Int) &&& BitVec.ofInt IntKind.u64.bits 4294967295).toNat = x % 4294967296 := by
    have h1 : (BitVec.ofInt IntKind.u64.bits (x : Int)).toNat = x := by
      show (BitVec.ofInt 64 (x : Int)).toNat = x
      rw [BitVec.toNat_ofInt]
      omega
    have h2 : (BitVec.ofInt IntKind.u64.bits 4294967295).toNat = 2 ^ 32 - 1 := by decide
    rw [BitVec.toNat_and, h1, h2, Nat.and_two_pow_sub_one_eq_mod]
  rw [e, wrap_u64n _ (by omega)]
theorem shr_low (x : Nat) : Int.fdiv (x : Int) (2 ^ (min (Int.toNat 32) IntKind.u64.bits)) = ((x / 4294967296 : Nat) : Int) := by
  have e : (2 ^ (min (Int.toNat 32) IntKind.u64.bits) : Int) = 4294967296 := rfl
  rw [e, Int.fdiv_eq_ediv_of_nonneg _ (by decide)]
  rfl
/-- The two words of a product. -/
theorem two_words (x y : Nat) : (x / 4294967296) * (y / 4294967296) + ((x / 4294967296) * (y % 4294967296) + (x % 4294967296) * (y % 4294967296) / 4294967296) / 4294967296 +
    (((x / 4294967296) * (y % 4294967296) + (x % 4294967296) * (y % 4294967296) / 4294967296) % 4294967296 + (x % 4294967296) * (y / 4294967296)) / 4294967296 = x * y / 18446744073709551616 := by
  have hx : x = 4294967296 * (x / 4294967296) + x % 4294967296 := by omega
  have hy : y = 4294967296 * (y / 4294967296) + y % 4294967296 := by omega
  generalize x / 4294967296 = a at *
  generalize x % 4294967296 = b at *
  generalize y / 4294967296 = c at *
  generalize y % 4294967296 = d at *
  have e : x * y = 18446744073709551616 * (a * c) + 4294967296 * (a * d + b * c) + b * d := by rw [hx, hy]; grind
  rw [e]
  generalize a * c = p
  generalize a * d = q
  generalize b * c = r
  generalize b * d = s
  omega
set_option maxHeartbeats 1000000 in
theorem mul64n_rc (m : Mem) (x y : Nat) (hx : x < 9223372036854775808) (hy : y < 9223372036854775808) :
    RC Try.prog 123 [.int .u64 (x : Int), .int .u64 (y : Int)] m (AnsV (.tuple #[.int .u64 ((x * y / 18446744073709551616 : Nat) : Int), .int .u64 ((x * y % 18446744073709551616 : Nat) : Int)])) := by
  refine rc_of_run mixed ok_math_bits_Mul64 (by simp) (go_start _ _ _ ?_)
  have w := two_words x y
  have e1 := and_low x (by omega)
  have e2 := and_low y (by omega)
  have e3 := shr_low x
  have e4 := shr_low y
  have b1 : x % 4294967296 < 4294967296 := by omega
  have b2 : y % 4294967296 < 4294967296 := by omega
  have b3 : x / 4294967296 < 2147483648 := by omega
  have b4 : y / 4294967296 < 2147483648 := by omega
  have elo : IntKind.u64.wrap ((x : Int) * (y : Int)) = ((x * y % 18446744073709551616 : Nat) : Int) := by
    have : (x : Int) * (y : Int) = ((x * y : Nat) : Int) := by push_cast; rfl
    rw [this, wrap_u64m]
  have bhi : x * y / 18446744073709551616 < 18446744073709551616 := by
    have : x * y < 9223372036854775808 * 9223372036854775808 := Nat.mul_lt_mul'' hx hy
    omega
  generalize x * y % 18446744073709551616 = lo at *
  generalize x * y / 18446744073709551616 = hi at *
  generalize x % 4294967296 = x0 at *
  generalize y % 4294967296 = y0 at *
  generalize x / 4294967296 = x1 at *
  generalize y / 4294967296 = y1 at *
  have c1 : x0 * y0 ≤ 4294967295 * 4294967295 := Nat.mul_le_mul (by omega) (by omega)
  have c2 : x1 * y0 ≤ 2147483647 * 4294967295 := Nat.mul_le_mul (by omega) (by omega)
  have c3 : x0 * y1 ≤ 4294967295 * 2147483647 := Nat.mul_le_mul (by omega) (by omega)
  have c4 : x1 * y1 ≤ 2147483647 * 2147483647 := Nat.mul_le_mul (by omega) (by omega)
  have m1 : (x0 : Int) * (y0 : Int) = ((x0 * y0 : Nat) : Int) := by push_cast; rfl
  have m2 : (x1 : Int) * (y0 : Int) = ((x1 * y0 : Nat) : Int) := by push_cast; rfl
  have m3 : (x0 : Int) * (y1 : Int) = ((x0 * y1 : Nat) : Int) := by push_cast; rfl
  have m4 : (x1 : Int) * (y1 : Int) = ((x1 * y1 : Nat) : Int) := by push_cast; rfl
  generalize x0 * y0 = p at *
  generalize x1 * y0 = q at *
  generalize x0 * y1 = r at *
  generalize x1 * y1 = u at *
  have s1 := shr_low p
  generalize g1 : p / 4294967296 = p1 at *
  have a1 : (q : Int) + (p1 : Int) = ((q + p1 : Nat) : Int) := by push_cast; rfl
  generalize g2 : q + p1 = t at *
  have s2 := shr_low t
  have s3 := and_low t (by omega)
  generalize g3 : t / 4294967296 = t1 at *
  generalize g4 : t % 4294967296 = t0 at *
  have a2 : (t0 : Int) + (r : Int) = ((t0 + r : Nat) : Int) := by push_cast; rfl
  generalize g5 : t0 + r = v at *
  have s4 := shr_low v
  generalize g6 : v / 4294967296 = v1 at *
  have a3 : (u : Int) + (t1 : Int) = ((u + t1 : Nat) : Int) := by push_cast; rfl
  generalize g7 : u + t1 = u1 at *
  have a4 : (u1 : Int) + (v1 : Int) = (hi : Int) := by omega
  have lt : ¬ ((32 : Int) < 0) := by decide
  have k1 := wrap_u64n p (by omega)
  have k2 := wrap_u64n q (by omega)
  have k3 := wrap_u64n t (by omega)
  have k4 := wrap_u64n r (by omega)
  have k5 := wrap_u64n v (by omega)
  have k6 := wrap_u64n u (by omega)
  have k7 := wrap_u64n u1 (by omega)
  have k8 := wrap_u64n hi (by omega)
  clear w
  simp (config := {implicitDefEqProofs := false, maxDischargeDepth := 20}) (disch := first | omega | (simp only [lenE]; done) | (simp only [lenE]; omega) | rfl | (simp only [lenE, markR_len]; done) | (simp only [lenE, markR_len]; omega)) only [runE, mapE, listE, initT_5, initT_6, initT_7, initT_8, resV, oneV, binA, unA, reduceCtorEq, Nat.reduceEqDiff, Nat.reduceAdd, Nat.reduceLT, Nat.reduceLeDiff, Nat.reduceMul, Nat.reduceSub, ↓reduceIte, decide_true, decide_false, Bool.true_eq_false, Bool.false_eq_true, Bool.not_true, Bool.not_false, if_true, if_false, and_true, true_and, memE, celE, w64, Nat.zero_add, Nat.add_zero, Nat.mul_one, putL, and_self, ldn, c_math_bits_Mul64, r_math_bits_Mul64, e1, e2, e3, e4, elo, m1, m2, m3, m4, s1, a1, s2, s3, a2, s4, a3, a4, lt, k1, k2, k3, k4, k5, k6, k7, k8]
  exact newQ_nil ⟨rfl, noRo_nil⟩
/-- The order of two numbers. -/
def cmpI (a b : Int) : Int := if a < b then -1 else if b < a then 1 else 0
theorem isNaN_rc (m : Mem) (a : Int) : RC Try.prog 131 [.int .u64 a] m fun r new => r = .bool false ∧ new = [] := by
  refine rc_of_run mixed ok_cmp_isNaN (by simp) (go_start _ _ _ ?_)
  simp (config := {implicitDefEqProofs := false, maxDischargeDepth := 20}) (disch := first | omega | (simp only [lenE]; done) | (simp only [lenE]; omega) | rfl | (simp only [lenE, markR_len]; done) | (simp only [lenE, markR_len]; omega)) only [runE, mapE, listE, initT_5, initT_6, initT_7, initT_8, resV, oneV, binA, unA, reduceCtorEq, Nat.reduceEqDiff, Nat.reduceAdd, Nat.reduceLT, Nat.reduceLeDiff, Nat.reduceMul, Nat.reduceSub, ↓reduceIte, decide_true, decide_false, Bool.true_eq_false, Bool.false_eq_true, Bool.not_true, Bool.not_false, if_true, if_false, and_true, true_and, memE, celE, w64, Nat.zero_add, Nat.add_zero, Nat.mul_one, putL, and_self, ldn, c_cmp_isNaN, r_cmp_isNaN, bne_self_eq_false]
  exact newQ_nil ⟨rfl, rfl⟩
theorem cmpU_rc (m : Mem) (a b : Int) : RC Try.prog 125 [.int .u64 a, .int .u64 b] m fun r new => r = .int .i64 (cmpI a b) ∧ new = [] := by
  refine rc_of_run mixed ok_cmp_Compare (by simp) (go_start _ _ _ ?_)
  simp (config := {implicitDefEqProofs := false, maxDischargeDepth := 20}) (disch := first | omega | (simp only [lenE]; done) | (simp only [lenE]; omega) | rfl | (simp only [lenE, markR_len]; done) | (simp only [lenE, markR_len]; omega)) only [runE, mapE, listE, initT_5, initT_6, initT_7, initT_8, resV, oneV, binA, unA, reduceCtorEq, Nat.reduceEqDiff, Nat.reduceAdd, Nat.reduceLT, Nat.reduceLeDiff, Nat.reduceMul, Nat.reduceSub, ↓reduceIte, decide_true, decide_false, Bool.true_eq_false, Bool.false_eq_true, Bool.not_true, Bool.not_false, if_true, if_false, and_true, true_and, memE, celE, w64, Nat.zero_add, Nat.add_zero, Nat.mul_one, putL, and_self, ldn, c_cmp_Compare, r_cmp_Compare]
  refine callH_rc (isNaN_rc _ _) ?_
  rintro r new ⟨rfl, rfl⟩
  simp (config := {implicitDefEqProofs := false, maxDischargeDepth := 20}) (disch := first | omega | (simp only [lenE]; done) | (simp only [lenE]; omega) | rfl | (simp only [lenE, markR_len]; done) | (simp only [lenE, markR_len]; omega)) only [runE, mapE, listE, initT_5, initT_6, initT_7, initT_8, resV, oneV, binA, unA, reduceCtorEq, Nat.reduceEqDiff, Nat.reduceAdd, Nat.reduceLT, Nat.reduceLeDiff, Nat.reduceMul, Nat.reduceSub, ↓reduceIte, decide_true, decide_false, Bool.true_eq_false, Bool.false_eq_true, Bool.not_true, Bool.not_false, if_true, if_false, and_true, true_and, memE, celE, w64, Nat.zero_add, Nat.add_zero, Nat.mul_one, putL, and_self, ldn]
  refine callH_rc (isNaN_rc _ _) ?_
  rintro r new ⟨rfl, rfl⟩
  unfold cmpI
  by_cases h1 : a < b
  · simp (config := {implicitDefEqProofs := false, maxDischargeDepth := 20}) (disch := first | omega | (simp only [lenE]; done) | (simp only [lenE]; omega) | rfl | (simp only [lenE, markR_len]; done) | (simp only [lenE, markR_len]; omega)) only [runE, mapE, listE, initT_5, initT_6, initT_7, initT_8, resV, oneV, binA, unA, reduceCtorEq, Nat.reduceEqDiff, Nat.reduceAdd, Nat.reduceLT, Nat.reduceLeDiff, Nat.reduceMul, Nat.reduceSub, ↓reduceIte, decide_true, decide_false, Bool.true_eq_false, Bool.false_eq_true, Bool.not_true, Bool.not_false, if_true, if_false, and_true, true_and, memE, celE, w64, Nat.zero_add, Nat.add_zero, Nat.mul_one, putL, and_self, ldn, h1, gt_iff_lt]
    exact newQ_nil ⟨rfl, rfl⟩
  · by_cases h2 : b < a
    · simp (config := {implicitDefEqProofs := false, maxDischargeDepth := 20}) (disch := first | omega | (simp only [lenE]; done) | (simp only [lenE]; omega) | rfl | (simp only [lenE, markR_len]; done) | (simp only [lenE, markR_len]; omega)) only [runE, mapE, listE, initT_5, initT_6, initT_7, initT_8, resV, oneV, binA, unA, reduceCtorEq, Nat.reduceEqDiff, Nat.reduceAdd, Nat.reduceLT, Nat.reduceLeDiff, Nat.reduceMul, Nat.reduceSub, ↓reduceIte, decide_true, decide_false, Bool.true_eq_false, Bool.false_eq_true, Bool.not_true, Bool.not_false, if_true, if_false, and_true, true_and, memE, celE, w64, Nat.zero_add, Nat.add_zero, Nat.mul_one, putL, and_self, ldn, h1, h2, gt_iff_lt]
      exact newQ_nil ⟨rfl, rfl⟩
    · simp (config := {implicitDefEqProofs := false, maxDischargeDepth := 20}) (disch := first | omega | (simp only [lenE]; done) | (simp only [lenE]; omega) | rfl | (simp only [lenE, markR_len]; done) | (simp only [lenE, markR_len]; omega)) only [runE, mapE, listE, initT_5, initT_6, initT_7, initT_8, resV, oneV, binA, unA, reduceCtorEq, Nat.reduceEqDiff, Nat.reduceAdd, Nat.reduceLT, Nat.reduceLeDiff, Nat.reduceMul, Nat.reduceSub, ↓reduceIte, decide_true, decide_false, Bool.true_eq_false, Bool.false_eq_true, Bool.not_true, Bool.not_false, if_true, if_false, and_true, true_and, memE, celE, w64, Nat.zero_add, Nat.add_zero, Nat.mul_one, putL, and_self, ldn, h1, h2, gt_iff_lt]
      exact newQ_nil ⟨rfl, rfl⟩
theorem orI_rc (m : Mem) (v : Value) (a b : Int) (h : IntsA m v [a, b]) : RC Try.prog 124 [v] m (AnsV (.int .i64 (if a = 0 then b else a))) := by
  refine rc_of_run mixed ok_cmp_Or (by simp) (go_start _ _ _ ?_)
  have hr := h.ro
  have i0 := hr.at_ 0 (by simp)
  have i1 := hr.at_ 1 (by simp)
  have l0 := hr.ld 0 (by simp)
  have l1 := hr.ld 1 (by simp)
  simp only [List.getD_cons_zero, List.getD_cons_succ] at l0 l1
  have hl := hr.len
  simp (config := {implicitDefEqProofs := false, maxDischargeDepth := 20}) (disch := first | omega | (simp only [lenE]; done) | (simp only [lenE]; omega) | rfl | (simp only [lenE, markR_len]; done) | (simp only [lenE, markR_len]; omega)) only [runE, mapE, listE, initT_5, initT_6, initT_7, initT_8, resV, oneV, binA, unA, reduceCtorEq, Nat.reduceEqDiff, Nat.reduceAdd, Nat.reduceLT, Nat.reduceLeDiff, Nat.reduceMul, Nat.reduceSub, ↓reduceIte, decide_true, decide_false, Bool.true_eq_false, Bool.false_eq_true, Bool.not_true, Bool.not_false, if_true, if_false, and_true, true_and, memE, celE, w64, Nat.zero_add, Nat.add_zero, Nat.mul_one, putL, and_self, ldn, c_cmp_Or, r_cmp_Or, hl]
  refine loop_inv mixed (fun s => ∃ k : Nat, k ≤ 2 ∧ (0 < k → a = 0) ∧ (1 < k → b = 0) ∧ s.t 3 = .int .i64 0 ∧ s.t 6 = v ∧ s.t 7 = .int .i64 2 ∧ s.t 8 = .int .i64 (k : Int) ∧ s.m = roM m) (fun s => 2 - (intOf (s.t 8)).toNat)
    ⟨0, by omega, fun h => by omega, fun h => by omega, rfl, rfl, rfl, rfl, rfl⟩ ?_
  rintro s ⟨k, hk, ha, hb, t3, t6, t7, t8, tm⟩
  have hcase : k = 0 ∨ k = 1 ∨ k = 2 := by omega
  rcases hcase with rfl | rfl | rfl
  · by_cases hz : a = 0
    · subst hz
      simp (config := {implicitDefEqProofs := false, maxDischargeDepth := 20}) (disch := first | omega | (simp only [lenE]; done) | (simp only [lenE]; omega) | rfl | (simp only [lenE, markR_len]; done) | (simp only [lenE, markR_len]; omega)) only [runE, mapE, listE, initT_5, initT_6, initT_7, initT_8, resV, oneV, binA, unA, reduceCtorEq, Nat.reduceEqDiff, Nat.reduceAdd, Nat.reduceLT, Nat.reduceLeDiff, Nat.reduceMul, Nat.reduceSub, ↓reduceIte, decide_true, decide_false, Bool.true_eq_false, Bool.false_eq_true, Bool.not_true, Bool.not_false, if_true, if_false, and_true, true_and, memE, celE, w64, Nat.zero_add, Nat.add_zero, Nat.mul_one, putL, and_self, ldn, t3, t6, t7, t8, tm, i0, l0, show ((((0 : Nat) : Int)) < 2) = True by simp, show ((0 : Int) < 2) = True by simp, bne_self_eq_false]
      refine ⟨⟨1, by omega, fun _ => trivial, fun h => by omega, by simp⟩, ?_⟩
      simp [intOf]
    · have hne : (a != 0) = true := by simpa using hz
      simp (config := {implicitDefEqProofs := false, maxDischargeDepth := 20}) (disch := first | omega | (simp only [lenE]; done) | (simp only [lenE]; omega) | rfl | (simp only [lenE, markR_len]; done) | (simp only [lenE, markR_len]; omega)) only [runE, mapE, listE, initT_5, initT_6, initT_7, initT_8, resV, oneV, binA, unA, reduceCtorEq, Nat.reduceEqDiff, Nat.reduceAdd, Nat.reduceLT, Nat.reduceLeDiff, Nat.reduceMul, Nat.reduceSub, ↓reduceIte, decide_true, decide_false, Bool.true_eq_false, Bool.false_eq_true, Bool.not_true, Bool.not_false, if_true, if_false, and_true, true_and, memE, celE, w64, Nat.zero_add, Nat.add_zero, Nat.mul_one, putL, and_self, ldn, t3, t6, t7, t8, tm, i0, l0, show ((((0 : Nat) : Int)) < 2) = True by simp, show ((0 : Int) < 2) = True by simp, hne]
      exact newQ_nil ⟨by rw [if_neg hz], noRo_nil⟩
  · have := ha (by omega)
    subst this
    by_cases hz : b = 0
    · subst hz
      simp (config := {implicitDefEqProofs := false, maxDischargeDepth := 20}) (disch := first | omega | (simp only [lenE]; done) | (simp only [lenE]; omega) | rfl | (simp only [lenE, markR_len]; done) | (simp only [lenE, markR_len]; omega)) only [runE, mapE, listE, initT_5, initT_6, initT_7, initT_8, resV, oneV, binA, unA, reduceCtorEq, Nat.reduceEqDiff, Nat.reduceAdd, Nat.reduceLT, Nat.reduceLeDiff, Nat.reduceMul, Nat.reduceSub, ↓reduceIte, decide_true, decide_false, Bool.true_eq_false, Bool.false_eq_true, Bool.not_true, Bool.not_false, if_true, if_false, and_true, true_and, memE, celE, w64, Nat.zero_add, Nat.add_zero, Nat.mul_one, putL, and_self, ldn, t3, t6, t7, t8, tm, i1, l1, show ((((1 : Nat) : Int)) < 2) = True by simp, show ((1 : Int) < 2) = True by simp, bne_self_eq_false]
      refine ⟨⟨2, by omega, fun _ => trivial, fun _ => trivial, by simp⟩, ?_⟩
      simp [intOf]
    · have hne : (b != 0) = true := by simpa using hz
      simp (config := {implicitDefEqProofs := false, maxDischargeDepth := 20}) (disch := first | omega | (simp only [lenE]; done) | (simp only [lenE]; omega) | rfl | (simp only [lenE, markR_len]; done) | (simp only [lenE, markR_len]; omega)) only [runE, mapE, listE, initT_5, initT_6, initT_7, initT_8, resV, oneV, binA, unA, reduceCtorEq, Nat.reduceEqDiff, Nat.reduceAdd, Nat.reduceLT, Nat.reduceLeDiff, Nat.reduceMul, Nat.reduceSub, ↓reduceIte, decide_true, decide_false, Bool.true_eq_false, Bool.false_eq_true, Bool.not_true, Bool.not_false, if_true, if_false, and_true, true_and, memE, celE, w64, Nat.zero_add, Nat.add_zero, Nat.mul_one, putL, and_self, ldn, t3, t6, t7, t8, tm, i1, l1, show ((((1 : Nat) : Int)) < 2) = True by simp, show ((1 : Int) < 2) = True by simp, hne]
      exact newQ_nil ⟨by simp, noRo_nil⟩
  · have := ha (by omega)
    have := hb (by omega)
    subst a
    subst b
    simp (config := {implicitDefEqProofs := false, maxDischargeDepth := 20}) (disch := first | omega | (simp only [lenE]; done) | (simp only [lenE]; omega) | rfl | (simp only [lenE, markR_len]; done) | (simp only [lenE, markR_len]; omega)) only [runE, mapE, listE, initT_5, initT_6, initT_7, initT_8, resV, oneV, binA, unA, reduceCtorEq, Nat.reduceEqDiff, Nat.reduceAdd, Nat.reduceLT, Nat.reduceLeDiff, Nat.reduceMul, Nat.reduceSub, ↓reduceIte, decide_true, decide_false, Bool.true_eq_false, Bool.false_eq_true, Bool.not_true, Bool.not_false, if_true, if_false, and_true, true_and, memE, celE, w64, Nat.zero_add, Nat.add_zero, Nat.mul_one, putL, and_self, ldn, t3, t6, t7, t8, tm, show ((((2 : Nat) : Int)) < 2) = False by simp, show ((2 : Int) < 2) = False by simp]
    exact newQ_nil ⟨by simp, noRo_nil⟩
/-- Two products of words, in the order of their words. -/
theorem words_order {P Q : Nat} : (if cmpI ((P / 18446744073709551616 : Nat) : Int) ((Q / 18446744073709551616 : Nat) : Int) = 0 then cmpI ((P % 18446744073709551616 : Nat) : Int) ((Q % 18446744073709551616 : Nat) : Int) else cmpI ((P / 18446744073709551616 : Nat) : Int) ((Q / 18446744073709551616 : Nat) : Int)) = cmpI (P : Int) (Q : Int) := by
  have h1 : P = 18446744073709551616 * (P / 18446744073709551616) + P % 18446744073709551616 := by omega
  have h2 : Q = 18446744073709551616 * (Q / 18446744073709551616) + Q % 18446744073709551616 := by omega
  have b1 : P % 18446744073709551616 < 18446744073709551616 := by omega
  have b2 : Q % 18446744073709551616 < 18446744073709551616 := by omega
  generalize P / 18446744073709551616 = a at *
  generalize P % 18446744073709551616 = b at *
  generalize Q / 18446744073709551616 = c at *
  generalize Q % 18446744073709551616 = d at *
  unfold cmpI
  by_cases e1 : (a : Int) < c
  · have e2 : (P : Int) < Q := by omega
    simp [e1, e2]
  · by_cases e3 : (c : Int) < a
    · have e2 : ¬ (P : Int) < Q := by omega
      have e4 : (Q : Int) < P := by omega
      simp [e1, e2, e3, e4]
    · have e : a = c := by omega
      subst e
      have q1 : ((P : Int) < Q) ↔ ((b : Int) < d) := by omega
      have q2 : ((Q : Int) < P) ↔ ((d : Int) < b) := by omega
      simp only [Int.lt_irrefl, if_false, if_true, q1, q2]
/-- The order of two fractions. -/
def cmpF (p q : Int × Int) : Int := cmpI (p.1 * q.2) (q.1 * p.2)
theorem cmpF_neg (p q : Int × Int) : decide (cmpF p q < 0) = lessF p q := by
  unfold cmpF cmpI lessF
  split
  · rename_i h; simp [h]
  · rename_i h
    split
    · simp [h]
    · simp [h]
structure Fit (p : Int × Int) : Prop where
  nn : 0 ≤ p.1
  pos : 0 < p.2
  a : p.1 < 9223372036854775808
  b : p.2 < 9223372036854775808
theorem bsl_two {m : Mem} {e : TypeId} {a b : Int} : bslA m e 1 2 [.int .i64 0, .int .i64 0] [(0, 1, .int .i64 a), (1, 1, .int .i64 b)] = some (.slice (some ⟨m.length, 0, none⟩) 2 1, m ++ [⟨.own, e, [.int .i64 a, .int .i64 b]⟩]) := rfl
theorem cmpFr_rc (m : Mem) (p q : Int × Int) (hp : Fit p) (hq : Fit q) : RC Try.prog 106 [frV p, frV q] m (AnsV (.int .i64 (cmpF p q))) := by
  refine rc_of_run mixed ok_impl_compareFractions (by simp) (go_start _ _ _ ?_)
  obtain ⟨a, b⟩ := p
  obtain ⟨c, d⟩ := q
  obtain ⟨p1, p2, p3, p4⟩ := hp
  obtain ⟨q1, q2, q3, q4⟩ := hq
  simp only [] at p1 p2 p3 p4 q1 q2 q3 q4
  obtain ⟨a, rfl⟩ := Int.eq_ofNat_of_zero_le p1
  obtain ⟨b, rfl⟩ := Int.eq_ofNat_of_zero_le (Int.le_of_lt p2)
  obtain ⟨c, rfl⟩ := Int.eq_ofNat_of_zero_le q1
  obtain ⟨d, rfl⟩ := Int.eq_ofNat_of_zero_le (Int.le_of_lt q2)
  have ka := wrap_u64n a (by omega)
  have kb := wrap_u64n b (by omega)
  have kc := wrap_u64n c (by omega)
  have kd := wrap_u64n d (by omega)
  simp (config := {implicitDefEqProofs := false, maxDischargeDepth := 20}) (disch := first | omega | (simp only [lenE]; done) | (simp only [lenE]; omega) | rfl | (simp only [lenE, markR_len]; done) | (simp only [lenE, markR_len]; omega)) only [runE, mapE, listE, initT_5, initT_6, initT_7, initT_8, resV, oneV, binA, unA, reduceCtorEq, Nat.reduceEqDiff, Nat.reduceAdd, Nat.reduceLT, Nat.reduceLeDiff, Nat.reduceMul, Nat.reduceSub, ↓reduceIte, decide_true, decide_false, Bool.true_eq_false, Bool.false_eq_true, Bool.not_true, Bool.not_false, if_true, if_false, and_true, true_and, memE, celE, w64, Nat.zero_add, Nat.add_zero, Nat.mul_one, putL, and_self, ldn, c_impl_compareFractions, r_impl_compareFractions, frV, iada_0, iada_1, ka, kb, kc, kd]
  obtain ⟨E, hE⟩ : ∃ M, M = roM m ++ [⟨.own, 67, [.int .i64 (a : Int), .int .i64 (b : Int)]⟩] ++ [⟨.own, 67, [.int .i64 (c : Int), .int .i64 (d : Int)]⟩] := ⟨_, rfl⟩
  rw [← hE]
  have hX : Ext m E := by rw [hE]; exact ((Ext.refl m).one _ _).one _ _
  have o0 : OwnB E m.length 67 [.int .i64 (a : Int), .int .i64 (b : Int)] := by rw [hE]; exact (OwnB.here (by simp [roM_len])).ext _
  have o1 : OwnB E (m.length + 1) 67 [.int .i64 (c : Int), .int .i64 (d : Int)] := by rw [hE]; exact OwnB.here (by simp [roM_len])
  clear hE
  refine callH_rc (mul64n_rc _ a d (by omega) (by omega)) ?_
  rintro r new ⟨rfl, nrn⟩
  have w := words_order (P := a * d) (Q := c * b)
  have eF : cmpF ((a : Int), (b : Int)) ((c : Int), (d : Int)) = cmpI ((a * d : Nat) : Int) ((c * b : Nat) : Int) := by
    unfold cmpF; push_cast; rfl
  rw [eF, ← w]
  generalize a * d / 18446744073709551616 = h1 at *
  generalize a * d % 18446744073709551616 = l1 at *
  simp (config := {implicitDefEqProofs := false, maxDischargeDepth := 20}) (disch := first | omega | (simp only [lenE]; done) | (simp only [lenE]; omega) | rfl | (simp only [lenE, markR_len]; done) | (simp only [lenE, markR_len]; omega)) only [runE, mapE, listE, initT_5, initT_6, initT_7, initT_8, resV, oneV, binA, unA, reduceCtorEq, Nat.reduceEqDiff, Nat.reduceAdd, Nat.reduceLT, Nat.reduceLeDiff, Nat.reduceMul, Nat.reduceSub, ↓reduceIte, decide_true, decide_false, Bool.true_eq_false, Bool.false_eq_true, Bool.not_true, Bool.not_false, if_true, if_false, and_true, true_and, memE, celE, w64, Nat.zero_add, Nat.add_zero, Nat.mul_one, putL, and_self, ldn, ext_2_0, ext_2_1, iada_0, iada_1, ka, kb, kc, kd, (o0.ext new).rd, (o1.ext new).rd]
  refine callH_rc (mul64n_rc _ c b (by omega) (by omega)) ?_
  rintro r new2 ⟨rfl, nrn2⟩
  generalize c * b / 18446744073709551616 = h2 at *
  generalize c * b % 18446744073709551616 = l2 at *
  simp (config := {implicitDefEqProofs := false, maxDischargeDepth := 20}) (disch := first | omega | (simp only [lenE]; done) | (simp only [lenE]; omega) | rfl | (simp only [lenE, markR_len]; done) | (simp only [lenE, markR_len]; omega)) only [runE, mapE, listE, initT_5, initT_6, initT_7, initT_8, resV, oneV, binA, unA, reduceCtorEq, Nat.reduceEqDiff, Nat.reduceAdd, Nat.reduceLT, Nat.reduceLeDiff, Nat.reduceMul, Nat.reduceSub, ↓reduceIte, decide_true, decide_false, Bool.true_eq_false, Bool.false_eq_true, Bool.not_true, Bool.not_false, if_true, if_false, and_true, true_and, memE, celE, w64, Nat.zero_add, Nat.add_zero, Nat.mul_one, putL, and_self, ldn, ext_2_0, ext_2_1]
  refine callH_rc (cmpU_rc _ _ _) ?_
  rintro r new3 ⟨rfl, rfl⟩
  rw [List.append_nil]
  simp (config := {implicitDefEqProofs := false, maxDischargeDepth := 20}) (disch := first | omega | (simp only [lenE]; done) | (simp only [lenE]; omega) | rfl | (simp only [lenE, markR_len]; done) | (simp only [lenE, markR_len]; omega)) only [runE, mapE, listE, initT_5, initT_6, initT_7, initT_8, resV, oneV, binA, unA, reduceCtorEq, Nat.reduceEqDiff, Nat.reduceAdd, Nat.reduceLT, Nat.reduceLeDiff, Nat.reduceMul, Nat.reduceSub, ↓reduceIte, decide_true, decide_false, Bool.true_eq_false, Bool.false_eq_true, Bool.not_true, Bool.not_false, if_true, if_false, and_true, true_and, memE, celE, w64, Nat.zero_add, Nat.add_zero, Nat.mul_one, putL, and_self, ldn]
  refine callH_rc (cmpU_rc _ _ _) ?_
  rintro r new3 ⟨rfl, rfl⟩
  rw [List.append_nil]
  generalize cmpI (h1 : Int) (h2 : Int) = x at *
  generalize cmpI (l1 : Int) (l2 : Int) = y at *
  simp (config := {implicitDefEqProofs := false, maxDischargeDepth := 20}) (disch := first | omega | (simp only [lenE]; done) | (simp only [lenE]; omega) | rfl | (simp only [lenE, markR_len]; done) | (simp only [lenE, markR_len]; omega)) only [runE, mapE, listE, initT_5, initT_6, initT_7, initT_8, resV, oneV, binA, unA, reduceCtorEq, Nat.reduceEqDiff, Nat.reduceAdd, Nat.reduceLT, Nat.reduceLeDiff, Nat.reduceMul, Nat.reduceSub, ↓reduceIte, decide_true, decide_false, Bool.true_eq_false, Bool.false_eq_true, Bool.not_true, Bool.not_false, if_true, if_false, and_true, true_and, memE, celE, w64, Nat.zero_add, Nat.add_zero, Nat.mul_one, putL, and_self, ldn, bsl_two]
  have hY : Ext m (E ++ new ++ new2 ++ [⟨.own, 3, [.int .i64 x, .int .i64 y]⟩]) := ((hX.app nrn).app nrn2).one _ _
  have hI := IntsA.own (m := E ++ new ++ new2) (e := 3) (l := [x, y]) (by simp) 1
  rw [List.length_append, List.length_append] at hI
  refine callH_rc (orI_rc _ _ x y hI) ?_
  rintro r new3 ⟨rfl, nrn3⟩
  simp (config := {implicitDefEqProofs := false, maxDischargeDepth := 20}) (disch := first | omega | (simp only [lenE]; done) | (simp only [lenE]; omega) | rfl | (simp only [lenE, markR_len]; done) | (simp only [lenE, markR_len]; omega)) only [runE, mapE, listE, initT_5, initT_6, initT_7, initT_8, resV, oneV, binA, unA, reduceCtorEq, Nat.reduceEqDiff, Nat.reduceAdd, Nat.reduceLT, Nat.reduceLeDiff, Nat.reduceMul, Nat.reduceSub, ↓reduceIte, decide_true, decide_false, Bool.true_eq_false, Bool.false_eq_true, Bool.not_true, Bool.not_false, if_true, if_false, and_true, true_and, memE, celE, w64, Nat.zero_add, Nat.add_zero, Nat.mul_one, putL, and_self, ldn]
  exact ext_ansV (hY.app nrn3) rfl
/-! What is read stays to be read. -/
/-- All that lies in m lies in M, if only to be read. -/
def Sees (m M : Mem) : Prop := ∀ (i : Nat) (b : Blk), m[i]? = some b → b.kd ≠ .dead → ∃ b', M[i]? = some b' ∧ b'.cs = b.cs ∧ b'.kd ≠ .dead
theorem Sees.refl (m : Mem) : Sees m m := fun i b h hd => ⟨b, h, rfl, hd⟩
theorem Sees.trans {a b c : Mem} (h : Sees a b) (h' : Sees b c) : Sees a c := fun i x hx hd => by
  obtain ⟨y, hy, e, hd2⟩ := h i x hx hd
  obtain ⟨z, hz, e2, hd3⟩ := h' i y hy hd2
  exact ⟨z, hz, e2.trans e, hd3⟩
theorem Sees.ro (m : Mem) : Sees m (roM m) := fun i b h hd => by
  refine ⟨roB b, by rw [roM, List.getElem?_map, h]; rfl, ?_, ?_⟩
  · obtain ⟨kd, e, xs⟩ := b; cases kd <;> first | rfl | exact absurd rfl hd
  · obtain ⟨kd, e, xs⟩ := b; cases kd <;> first | (simp [roB]; done) | exact absurd rfl hd
theorem Sees.app (m new : Mem) : Sees m (m ++ new) := fun i b h hd =>
  ⟨b, by rw [List.getElem?_append_left (List.getElem?_eq_some_iff.1 h).1]; exact h, rfl, hd⟩
theorem Sees.ext {m M : Mem} (h : Ext m M) : Sees m M := by
  obtain ⟨new, rfl, _⟩ := h
  exact (Sees.ro m).trans (Sees.app _ _)
theorem Sees.rdc {m M : Mem} (h : Sees m M) {id k : Nat} {v : Value} (hv : rdc m id k = some v) : Ab.rdc M id k = some v := by
  unfold Ab.rdc at *
  cases hm : m[id]? with
  | none => rw [hm] at hv; cases hv
  | some b =>
    rw [hm] at hv
    simp only [] at hv
    split at hv
    · cases hv
    · rename_i hd
      obtain ⟨b', hb, e, hd2⟩ := h id b hm hd
      rw [hb]
      simp only [hd2, if_false, e]
      exact hv
theorem Sees.rdl {m M : Mem} (h : Sees m M) {id off k : Nat} {vs : List Value} (hv : rdl m id off k = some vs) : Ab.rdl M id off k = some vs := by
  unfold Ab.rdl at *
  cases hm : m[id]? with
  | none => rw [hm] at hv; cases hv
  | some b =>
    rw [hm] at hv
    simp only [] at hv
    split at hv
    · cases hv
    · rename_i hd
      obtain ⟨b', hb, e, hd2⟩ := h id b hm hd
      rw [hb]
      simp only [hd2, if_false, e]
      exact hv
theorem Sees.ints {m M : Mem} (h : Sees m M) {v : Value} {l : List Int} (hi : IntsA m v l) : IntsA M v l := by
  refine ⟨hi.len, hi.bd, hi.at_, fun k hk => ?_, ?_⟩
  · have := hi.ld k hk
    generalize pAt v k = p at *
    unfold ldA at this ⊢
    split at this
    · exact h.rdc this
    · cases this
  · have := hi.src
    unfold slR at this ⊢
    split at this
    · exact this
    · exact h.rdl this
    · cases this
/-- The order of numbers that a function value tells, wherever m is seen. -/
def CmpA (m : Mem) (fv : Value) (l : List Int) (f : Int → Int → Int) : Prop := ∃ g cap, fv = .func (.func g) #[] cap ∧ ∀ M x y, Sees m M → x ∈ l → y ∈ l → RC Try.prog g (.int .i64 x :: .int .i64 y :: cap.toList) M (AnsV (.int .i64 (f x y)))
theorem minFunc_rc (m : Mem) (v fv : Value) (l : List Int) (f : Int → Int → Int) (h : IntsA m v l) (hne : 0 < l.length) (hf : CmpA m fv l f) :
    RC Try.prog 104 [v, fv] m (AnsV (.int .i64 (bestIn (fun a b => decide (f a b < 0)) (l.drop 1) (l.getD 0 0)))) := by
  refine rc_of_run mixed ok_slices_MinFunc (by simp) (go_start _ _ _ ?_)
  obtain ⟨g, cap, rfl, hg⟩ := hf
  have hr := h.ro
  have i0 : iadA 1 v (.int .i64 0) = some (pAt v 0) := hr.at_ 0 hne
  have l0 := hr.ld 0 hne
  have hl := hr.len
  have hlt : ¬ ((l.length : Int) < 1) := by omega
  simp (config := {implicitDefEqProofs := false, maxDischargeDepth := 20}) (disch := first | omega | (simp only [lenE]; done) | (simp only [lenE]; omega) | rfl | (simp only [lenE, markR_len]; done) | (simp only [lenE, markR_len]; omega)) only [runE, mapE, listE, initT_5, initT_6, initT_7, initT_8, resV, oneV, binA, unA, reduceCtorEq, Nat.reduceEqDiff, Nat.reduceAdd, Nat.reduceLT, Nat.reduceLeDiff, Nat.reduceMul, Nat.reduceSub, ↓reduceIte, decide_true, decide_false, Bool.true_eq_false, Bool.false_eq_true, Bool.not_true, Bool.not_false, if_true, if_false, and_true, true_and, memE, celE, w64, Nat.zero_add, Nat.add_zero, Nat.mul_one, putL, and_self, ldn, c_slices_MinFunc, r_slices_MinFunc, hl, hlt, i0, l0]
  obtain ⟨want, hw⟩ : ∃ want, want = bestIn (fun a b => decide (f a b < 0)) (l.drop 1) (l.getD 0 0) := ⟨_, rfl⟩
  rw [← hw]
  have mem0 : ∀ k, k < l.length → l.getD k 0 ∈ l := fun k hk => by
    rw [List.getD_eq_getElem?_getD, List.getElem?_eq_getElem hk]; exact List.getElem_mem hk
  refine loop_inv mixed (fun s => ∃ (k : Nat) (b : Int) (M : Mem), 1 ≤ k ∧ k ≤ l.length ∧ b ∈ l ∧ want = bestIn (fun a b => decide (f a b < 0)) (l.drop k) b ∧ s.m = M ∧ Ext m M ∧ s.t 0 = v ∧ s.t 1 = .func (.func g) #[] cap ∧ s.t 5 = .int .i64 b ∧ s.t 6 = .int .i64 (k : Int)) (fun s => l.length - (intOf (s.t 6)).toNat)
    ⟨1, l.getD 0 0, _, Nat.le_refl _, hne, mem0 0 hne, hw, rfl, Ext.refl m, rfl, rfl, rfl, rfl⟩ ?_
  rintro s ⟨k, b, M, hk1, hk, hb, hwant, tm, hX, t0, t1, t5, t6⟩
  have hM := hX.ints hr
  have hl := hM.len
  have hbd := hM.bd
  by_cases hkl : k < l.length
  · have hlt' : (k : Int) < l.length := by omega
    have ik := hM.at_ k hkl
    have lk := hM.ld k hkl
    simp (config := {implicitDefEqProofs := false, maxDischargeDepth := 20}) (disch := first | omega | (simp only [lenE]; done) | (simp only [lenE]; omega) | rfl | (simp only [lenE, markR_len]; done) | (simp only [lenE, markR_len]; omega)) only [runE, mapE, listE, initT_5, initT_6, initT_7, initT_8, resV, oneV, binA, unA, reduceCtorEq, Nat.reduceEqDiff, Nat.reduceAdd, Nat.reduceLT, Nat.reduceLeDiff, Nat.reduceMul, Nat.reduceSub, ↓reduceIte, decide_true, decide_false, Bool.true_eq_false, Bool.false_eq_true, Bool.not_true, Bool.not_false, if_true, if_false, and_true, true_and, memE, celE, w64, Nat.zero_add, Nat.add_zero, Nat.mul_one, putL, and_self, ldn, tm, t0, t1, t5, t6, hl, hlt', ik, lk, List.append_nil, List.nil_append, List.cons_append]
    refine callH_rc (hg M (l.getD k 0) b (Sees.ext hX) (mem0 k hkl) hb) ?_
    rintro r new ⟨rfl, nrn⟩
    have ik2 := (hM.ext new).at_ k hkl
    have lk2 := (hM.ext new).ld k hkl
    have hdrop : l.drop k = l.getD k 0 :: l.drop (k + 1) := by
      rw [List.drop_eq_getElem_cons hkl, List.getD_eq_getElem?_getD, List.getElem?_eq_getElem hkl]; rfl
    rw [hdrop] at hwant
    simp only [bestIn] at hwant
    by_cases hlt2 : f (l.getD k 0) b < 0
    · rw [if_pos (by simpa using hlt2)] at hwant
      simp (config := {implicitDefEqProofs := false, maxDischargeDepth := 20}) (disch := first | omega | (simp only [lenE]; done) | (simp only [lenE]; omega) | rfl | (simp only [lenE, markR_len]; done) | (simp only [lenE, markR_len]; omega)) only [runE, mapE, listE, initT_5, initT_6, initT_7, initT_8, resV, oneV, binA, unA, reduceCtorEq, Nat.reduceEqDiff, Nat.reduceAdd, Nat.reduceLT, Nat.reduceLeDiff, Nat.reduceMul, Nat.reduceSub, ↓reduceIte, decide_true, decide_false, Bool.true_eq_false, Bool.false_eq_true, Bool.not_true, Bool.not_false, if_true, if_false, and_true, true_and, memE, celE, w64, Nat.zero_add, Nat.add_zero, Nat.mul_one, putL, and_self, ldn, tm, t0, t1, t5, t6, hlt2, ik2, lk2]
      refine ⟨⟨k + 1, _, _, by omega, by omega, mem0 k hkl, hwant, rfl, hX.app nrn, rfl, by simp⟩, ?_⟩
      simp [intOf]; omega
    · rw [if_neg (by simpa using hlt2)] at hwant
      simp (config := {implicitDefEqProofs := false, maxDischargeDepth := 20}) (disch := first | omega | (simp only [lenE]; done) | (simp only [lenE]; omega) | rfl | (simp only [lenE, markR_len]; done) | (simp only [lenE, markR_len]; omega)) only [runE, mapE, listE, initT_5, initT_6, initT_7, initT_8, resV, oneV, binA, unA, reduceCtorEq, Nat.reduceEqDiff, Nat.reduceAdd, Nat.reduceLT, Nat.reduceLeDiff, Nat.reduceMul, Nat.reduceSub, ↓reduceIte, decide_true, decide_false, Bool.true_eq_false, Bool.false_eq_true, Bool.not_true, Bool.not_false, if_true, if_false, and_true, true_and, memE, celE, w64, Nat.zero_add, Nat.add_zero, Nat.mul_one, putL, and_self, ldn, tm, t0, t1, t5, t6, hlt2]
      refine ⟨⟨k + 1, _, _, by omega, by omega, hb, hwant, rfl, hX.app nrn, rfl, by simp⟩, ?_⟩
      simp [intOf]; omega
  · have hlt' : ¬ ((k : Int) < l.length) := by omega
    have hk' : k = l.length := by omega
    subst hk'
    rw [List.drop_length] at hwant
    simp only [bestIn] at hwant
    subst hwant
    simp (config := {implicitDefEqProofs := false, maxDischargeDepth := 20}) (disch := first | omega | (simp only [lenE]; done) | (simp only [lenE]; omega) | rfl | (simp only [lenE, markR_len]; done) | (simp only [lenE, markR_len]; omega)) only [runE, mapE, listE, initT_5, initT_6, initT_7, initT_8, resV, oneV, binA, unA, reduceCtorEq, Nat.reduceEqDiff, Nat.reduceAdd, Nat.reduceLT, Nat.reduceLeDiff, Nat.reduceMul, Nat.reduceSub, ↓reduceIte, decide_true, decide_false, Bool.true_eq_false, Bool.false_eq_true, Bool.not_true, Bool.not_false, if_true, if_false, and_true, true_and, memE, celE, w64, Nat.zero_add, Nat.add_zero, Nat.mul_one, putL, and_self, ldn, tm, t0, t1, t5, t6, hl, hlt']
    exact ext_ansV hX rfl
end Go.Proofs.Ytmjnjhdacliieaa.Ab
