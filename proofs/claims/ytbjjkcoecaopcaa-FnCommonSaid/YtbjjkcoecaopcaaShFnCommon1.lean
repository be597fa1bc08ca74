/- What the law needs of the texts that it rests on. -/
import Derived.Test.YtbjjkcoecaopcaaShFnCommon0
section
namespace Go.Proofs.Ytbjjkcoecaopcaa.Ab
open Go Go.RowKit
set_option linter.unusedVariables false
set_option linter.unusedSimpArgs false
theorem wrap_u64n (n : Nat) (h : n < 18446744073709551616) : IntKind.u64.wrap (n : Int) = (n : Int) := IntWalk.u64_in _ ⟨by omega, by omega⟩
theorem wrap_u64m (n : Nat) : IntKind.u64.wrap (n : Int) = ((n % 18446744073709551616 : Nat) : Int) := by
  have : IntKind.u64.wrap (n : Int) = (n : Int) % 18446744073709551616 := by
    simp [IntKind.wrap, IntKind.bits, IntKind.signed]
  rw [this]; omega
theorem and_low (x : Nat) (h : x < 18446744073709551616) : IntKind.u64.wrap ((BitVec.ofInt IntKind.u64.bits (x : Int) &&& BitVec.ofInt IntKind.u64.bits 4294967295).toNat : Int) = ((x % 4294967296 : Nat) : Int) := by
  have e : (BitVec.ofInt IntKind.u64.bits (x : Int) &&& BitVec.ofInt IntKind.u64.bits 4294967295).toNat = x % 4294967296 := by
    have h1 : (BitVec.ofInt IntKind.u64.bits (x : Int)).toNat = x := by
      show (BitVec.ofInt 64 (x : Int)).toNat = x
      rw [BitVec.toNat_ofInt]
      omega
    have h2 : (BitVec.ofInt IntKind.u64.bits 4294967295).toNat = 2 ^ 32 - 1 := by decide
    rw [BitVec.toNat_and, h1, h2, Nat.and_two_pow_sub_one_eq_mod]
  rw [e, wrap_u64n _ (by omega)]
theorem shr_low (x : Nat) : Int.fdiv (x : Int) (2 ^ (min (Int.toNat 32) IntKind.u64.bits)) = ((x / 4294967296 : Nat) : Int) := by
  have e : (2 ^ (min (Int.toNat 32) IntKind.u64.bits) : Int) = 4294967296 := rfl
  rw [e, Int.fdiv_eq_ediv_of_nonneg _ (by decide)]
  rfl
theorem two_words (x y : Nat) : (x / 4294967296) * (y / 4294967296) + ((x / 4294967296) * (y % 4294967296) + (x % 4294967296) * (y % 4294967296) / 4294967296) / 4294967296 +
    (((x / 4294967296) * (y % 4294967296) + (x % 4294967296) * (y % 4294967296) / 4294967296) % 4294967296 + (x % 4294967296) * (y / 4294967296)) / 4294967296 = x * y / 18446744073709551616 := by
  have hx : x = 4294967296 * (x / 4294967296) + x % 4294967296 := by omega
  have hy : y = 4294967296 * (y / 4294967296) + y % 4294967296 := by omega
  generalize x / 4294967296 = a at *
  generalize x % 4294967296 = b at *
  generalize y / 4294967296 = c at *
  generalize y % 4294967296 = d at *
  have e : x * y = 18446744073709551616 * (a * c) + 4294967296 * (a * d + b * c) + b * d := by rw [hx, hy]; grind
  rw [e]
  generalize a * c = p
  generalize a * d = q
  generalize b * c = r
  generalize b * d = s
  omega
set_option maxHeartbeats 1000000 in
theorem mul64n_rc (m : Mem) (x y : Nat) (hx : x < 9223372036854775808) (hy : y < 9223372036854775808) :
    RC Try.prog 65 [.int .u64 (x : Int), .int .u64 (y : Int)] m (AnsV (.tuple #[.int .u64 ((x * y / 18446744073709551616 : Nat) : Int), .int .u64 ((x * y % 18446744073709551616 : Nat) : Int)])) := by
  refine rc_of_run mixed ok_math_bits_Mul64 (by simp) (go_start _ _ _ ?_)
  have w := two_words x y
  have e1 := and_low x (by omega)
  have e2 := and_low y (by omega)
  have e3 := shr_low x
  have e4 := shr_low y
  have b1 : x % 4294967296 < 4294967296 := by omega
  have b2 : y % 4294967296 < 4294967296 := by omega
  have b3 : x / 4294967296 < 2147483648 := by omega
  have b4 : y / 4294967296 < 2147483648 := by omega
  have elo : IntKind.u64.wrap ((x : Int) * (y : Int)) = ((x * y % 18446744073709551616 : Nat) : Int) := by
    have : (x : Int) * (y : Int) = ((x * y : Nat) : Int) := by push_cast; rfl
    rw [this, wrap_u64m]
  have bhi : x * y / 18446744073709551616 < 18446744073709551616 := by
    have : x * y < 9223372036854775808 * 9223372036854775808 := Nat.mul_lt_mul'' hx hy
    omega
  generalize x * y % 18446744073709551616 = lo at *
  generalize x * y / 18446744073709551616 = hi at *
  generalize x % 4294967296 = x0 at *
  generalize y % 4294967296 = y0 at *
  generalize x / 4294967296 = x1 at *
  generalize y / 4294967296 = y1 at *
  have c1 : x0 * y0 ≤ 4294967295 * 4294967295 := Nat.mul_le_mul (by omega) (by omega)
  have c2 : x1 * y0 ≤ 2147483647 * 4294967295 := Nat.mul_le_mul (by omega) (by omega)
  have c3 : x0 * y1 ≤ 4294967295 * 2147483647 := Nat.mul_le_mul (by omega) (by omega)
  have c4 : x1 * y1 ≤ 2147483647 * 2147483647 := Nat.mul_le_mul (by omega) (by omega)
  have m1 : (x0 : Int) * (y0 : Int) = ((x0 * y0 : Nat) : Int) := by push_cast; rfl
  have m2 : (x1 : Int) * (y0 : Int) = ((x1 * y0 : Nat) : Int) := by push_cast; rfl
  have m3 : (x0 : Int) * (y1 : Int) = ((x0 * y1 : Nat) : Int) := by push_cast; rfl
  have m4 : (x1 : Int) * (y1 : Int) = ((x1 * y1 : Nat) : Int) := by push_cast; rfl
  generalize x0 * y0 = p at *
  generalize x1 * y0 = q at *
  generalize x0 * y1 = r at *
  generalize x1 * y1 = u at *
  have s1 := shr_low p
  generalize g1 : p / 4294967296 = p1 at *
  have a1 : (q : Int) + (p1 : Int) = ((q + p1 : Nat) : Int) := by push_cast; rfl
  generalize g2 : q + p1 = t at *
  have s2 := shr_low t
  have s3 := and_low t (by omega)
  generalize g3 : t / 4294967296 = t1 at *
  generalize g4 : t % 4294967296 = t0 at *
  have a2 : (t0 : Int) + (r : Int) = ((t0 + r : Nat) : Int) := by push_cast; rfl
  generalize g5 : t0 + r = v at *
  have s4 := shr_low v
  generalize g6 : v / 4294967296 = v1 at *
  have a3 : (u : Int) + (t1 : Int) = ((u + t1 : Nat) : Int) := by push_cast; rfl
  generalize g7 : u + t1 = u1 at *
  have a4 : (u1 : Int) + (v1 : Int) = (hi : Int) := by omega
  have lt : ¬ ((32 : Int) < 0) := by decide
  have k1 := wrap_u64n p (by omega)
  have k2 := wrap_u64n q (by omega)
  have k3 := wrap_u64n t (by omega)
  have k4 := wrap_u64n r (by omega)
  have k5 := wrap_u64n v (by omega)
  have k6 := wrap_u64n u (by omega)
  have k7 := wrap_u64n u1 (by omega)
  have k8 := wrap_u64n hi (by omega)
  clear w
  simp (config := {implicitDefEqProofs := false, maxDischargeDepth := 20}) (disch := first | omega | (simp only [lenE]; done) | (simp only [lenE]; omega) | rfl | (simp only [lenE, markR_len]; done) | (simp only [lenE, markR_len]; omega)) only [runE, mapE, listE, initT_5, initT_6, initT_7, initT_8, resV, oneV, binA, unA, reduceCtorEq, Nat.reduceEqDiff, Nat.reduceAdd, Nat.reduceLT, Nat.reduceLeDiff, Nat.reduceMul, Nat.reduceSub, ↓reduceIte, decide_true, decide_false, Bool.true_eq_false, Bool.false_eq_true, Bool.not_true, Bool.not_false, if_true, if_false, and_true, true_and, memE, celE, w64, Nat.zero_add, Nat.add_zero, Nat.mul_one, putL, and_self, ldn, c_math_bits_Mul64, r_math_bits_Mul64, e1, e2, e3, e4, elo, m1, m2, m3, m4, s1, a1, s2, s3, a2, s4, a3, a4, lt, k1, k2, k3, k4, k5, k6, k7, k8]
  exact newQ_nil ⟨rfl, noRo_nil⟩
def cmpI (a b : Int) : Int := if a < b then -1 else if b < a then 1 else 0
theorem isNaN_rc (m : Mem) (a : Int) : RC Try.prog 70 [.int .u64 a] m fun r new => r = .bool false ∧ new = [] := by
  refine rc_of_run mixed ok_cmp_isNaN (by simp) (go_start _ _ _ ?_)
  simp (config := {implicitDefEqProofs := false, maxDischargeDepth := 20}) (disch := first | omega | (simp only [lenE]; done) | (simp only [lenE]; omega) | rfl | (simp only [lenE, markR_len]; done) | (simp only [lenE, markR_len]; omega)) only [runE, mapE, listE, initT_5, initT_6, initT_7, initT_8, resV, oneV, binA, unA, reduceCtorEq, Nat.reduceEqDiff, Nat.reduceAdd, Nat.reduceLT, Nat.reduceLeDiff, Nat.reduceMul, Nat.reduceSub, ↓reduceIte, decide_true, decide_false, Bool.true_eq_false, Bool.false_eq_true, Bool.not_true, Bool.not_false, if_true, if_false, and_true, true_and, memE, celE, w64, Nat.zero_add, Nat.add_zero, Nat.mul_one, putL, and_self, ldn, c_cmp_isNaN, r_cmp_isNaN, bne_self_eq_false]
  exact newQ_nil ⟨rfl, rfl⟩
theorem cmpU_rc (m : Mem) (a b : Int) : RC Try.prog 67 [.int .u64 a, .int .u64 b] m fun r new => r = .int .i64 (cmpI a b) ∧ new = [] := by
  refine rc_of_run mixed ok_cmp_Compare (by simp) (go_start _ _ _ ?_)
  simp (config := {implicitDefEqProofs := false, maxDischargeDepth := 20}) (disch := first | omega | (simp only [lenE]; done) | (simp only [lenE]; omega) | rfl | (simp only [lenE, markR_len]; done) | (simp only [lenE, markR_len]; omega)) only [runE, mapE, listE, initT_5, initT_6, initT_7, initT_8, resV, oneV, binA, unA, reduceCtorEq, Nat.reduceEqDiff, Nat.reduceAdd, Nat.reduceLT, Nat.reduceLeDiff, Nat.reduceMul, Nat.reduceSub, ↓reduceIte, decide_true, decide_false, Bool.true_eq_false, Bool.false_eq_true, Bool.not_true, Bool.not_false, if_true, if_false, and_true, true_and, memE, celE, w64, Nat.zero_add, Nat.add_zero, Nat.mul_one, putL, and_self, ldn, c_cmp_Compare, r_cmp_Compare]
  refine callH_rc (isNaN_rc _ _) ?_
  rintro r new ⟨rfl, rfl⟩
  simp (config := {implicitDefEqProofs := false, maxDischargeDepth := 20}) (disch := first | omega | (simp only [lenE]; done) | (simp only [lenE]; omega) | rfl | (simp only [lenE, markR_len]; done) | (simp only [lenE, markR_len]; omega)) only [runE, mapE, listE, initT_5, initT_6, initT_7, initT_8, resV, oneV, binA, unA, reduceCtorEq, Nat.reduceEqDiff, Nat.reduceAdd, Nat.reduceLT, Nat.reduceLeDiff, Nat.reduceMul, Nat.reduceSub, ↓reduceIte, decide_true, decide_false, Bool.true_eq_false, Bool.false_eq_true, Bool.not_true, Bool.not_false, if_true, if_false, and_true, true_and, memE, celE, w64, Nat.zero_add, Nat.add_zero, Nat.mul_one, putL, and_self, ldn]
  refine callH_rc (isNaN_rc _ _) ?_
  rintro r new ⟨rfl, rfl⟩
  unfold cmpI
  by_cases h1 : a < b
  · simp (config := {implicitDefEqProofs := false, maxDischargeDepth := 20}) (disch := first | omega | (simp only [lenE]; done) | (simp only [lenE]; omega) | rfl | (simp only [lenE, markR_len]; done) | (simp only [lenE, markR_len]; omega)) only [runE, mapE, listE, initT_5, initT_6, initT_7, initT_8, resV, oneV, binA, unA, reduceCtorEq, Nat.reduceEqDiff, Nat.reduceAdd, Nat.reduceLT, Nat.reduceLeDiff, Nat.reduceMul, Nat.reduceSub, ↓reduceIte, decide_true, decide_false, Bool.true_eq_false, Bool.false_eq_true, Bool.not_true, Bool.not_false, if_true, if_false, and_true, true_and, memE, celE, w64, Nat.zero_add, Nat.add_zero, Nat.mul_one, putL, and_self, ldn, h1, gt_iff_lt]
    exact newQ_nil ⟨rfl, rfl⟩
  · by_cases h2 : b < a
    · simp (config := {implicitDefEqProofs := false, maxDischargeDepth := 20}) (disch := first | omega | (simp only [lenE]; done) | (simp only [lenE]; omega) | rfl | (simp only [lenE, markR_len]; done) | (simp only [lenE, markR_len]; omega)) only [runE, mapE, listE, initT_5, initT_6, initT_7, initT_8, resV, oneV, binA, unA, reduceCtorEq, Nat.reduceEqDiff, Nat.reduceAdd, Nat.reduceLT, Nat.reduceLeDiff, Nat.reduceMul, Nat.reduceSub, ↓reduceIte, decide_true, decide_false, Bool.true_eq_false, Bool.false_eq_true, Bool.not_true, Bool.not_false, if_true, if_false, and_true, true_and, memE, celE, w64, Nat.zero_add, Nat.add_zero, Nat.mul_one, putL, and_self, ldn, h1, h2, gt_iff_lt]
      exact newQ_nil ⟨rfl, rfl⟩
    · simp (config := {implicitDefEqProofs := false, maxDischargeDepth := 20}) (disch := first | omega | (simp only [lenE]; done) | (simp only [lenE]; omega) | rfl | (simp only [lenE, markR_len]; done) | (simp only [lenE, markR_len]; omega)) only [runE, mapE, listE, initT_5, initT_6, initT_7, initT_8, resV, oneV, binA, unA, reduceCtorEq, Nat.reduceEqDiff, Nat.reduceAdd, Nat.reduceLT, Nat.reduceLeDiff, Nat.reduceMul, Nat.reduceSub, ↓reduceIte, decide_true, decide_false, Bool.true_eq_false, Bool.false_eq_true, Bool.not_true, Bool.not_false, if_true, if_false, and_true, true_and, memE, celE, w64, Nat.zero_add, Nat.add_zero, Nat.mul_one, putL, and_self, ldn, h1, h2, gt_iff_lt]
      exact newQ_nil ⟨rfl, rfl⟩
theorem orI_rc (m : Mem) (v : Value) (a b : Int) (h : IntsA m v [a, b]) : RC Try.prog 66 [v] m (AnsV (.int .i64 (if a = 0 then b else a))) := by
  refine rc_of_run mixed ok_cmp_Or (by simp) (go_start _ _ _ ?_)
  have hr := h.ro
  have i0 := hr.at_ 0 (by simp)
  have i1 := hr.at_ 1 (by simp)
  have l0 := hr.ld 0 (by simp)
  have l1 := hr.ld 1 (by simp)
  simp only [List.getD_cons_zero, List.getD_cons_succ] at l0 l1
  have hl := hr.len
  simp (config := {implicitDefEqProofs := false, maxDischargeDepth := 20}) (disch := first | omega | (simp only [lenE]; done) | (simp only [lenE]; omega) | rfl | (simp only [lenE, markR_len]; done) | (simp only [lenE, markR_len]; omega)) only [runE, mapE, listE, initT_5, initT_6, initT_7, initT_8, resV, oneV, binA, unA, reduceCtorEq, Nat.reduceEqDiff, Nat.reduceAdd, Nat.reduceLT, Nat.reduceLeDiff, Nat.reduceMul, Nat.reduceSub, ↓reduceIte, decide_true, decide_false, Bool.true_eq_false, Bool.false_eq_true, Bool.not_true, Bool.not_false, if_true, if_false, and_true, true_and, memE, celE, w64, Nat.zero_add, Nat.add_zero, Nat.mul_one, putL, and_self, ldn, c_cmp_Or, r_cmp_Or, hl]
  refine loop_inv mixed (fun s => ∃ k : Nat, k ≤ 2 ∧ (0 < k → a = 0) ∧ (1 < k → b = 0) ∧ s.t 3 = .int .i64 0 ∧ s.t 6 = v ∧ s.t 7 = .int .i64 2 ∧ s.t 8 = .int .i64 (k : Int) ∧ s.m = roM m) (fun s => 2 - (intOf (s.t 8)).toNat)
    ⟨0, by omega, fun h => by omega, fun h => by omega, rfl, rfl, rfl, rfl, rfl⟩ ?_
  rintro s ⟨k, hk, ha, hb, t3, t6, t7, t8, tm⟩
  have hcase : k = 0 ∨ k = 1 ∨ k = 2 := by omega
  rcases hcase with rfl | rfl | rfl
  · by_cases hz : a = 0
    · subst hz
      simp (config := {implicitDefEqProofs := false, maxDischargeDepth := 20}) (disch := first | omega | (simp only [lenE]; done) | (simp only [lenE]; omega) | rfl | (simp only [lenE, markR_len]; done) | (simp only [lenE, markR_len]; omega)) only [runE, mapE, listE, initT_5, initT_6, initT_7, initT_8, resV, oneV, binA, unA, reduceCtorEq, Nat.reduceEqDiff, Nat.reduceAdd, Nat.reduceLT, Nat.reduceLeDiff, Nat.reduceMul, Nat.reduceSub, ↓reduceIte, decide_true, decide_false, Bool.true_eq_false, Bool.false_eq_true, Bool.not_true, Bool.not_false, if_true, if_false, and_true, true_and, memE, celE, w64, Nat.zero_add, Nat.add_zero, Nat.mul_one, putL, and_self, ldn, t3, t6, t7, t8, tm, i0, l0, show ((((0 : Nat) : Int)) < 2) = True by simp, show ((0 : Int) < 2) = True by simp, bne_self_eq_false]
      refine ⟨⟨1, by omega, fun _ => trivial, fun h => by omega, by simp⟩, ?_⟩
      simp [intOf]
    · have hne : (a != 0) = true := by simpa using hz
      simp (config := {implicitDefEqProofs := false, maxDischargeDepth := 20}) (disch := first | omega | (simp only [lenE]; done) | (simp only [lenE]; omega) | rfl | (simp only [lenE, markR_len]; done) | (simp only [lenE, markR_len]; omega)) only [runE, mapE, listE, initT_5, initT_6, initT_7, initT_8, resV, oneV, binA, unA, reduceCtorEq, Nat.reduceEqDiff, Nat.reduceAdd, Nat.reduceLT, Nat.reduceLeDiff, Nat.reduceMul, Nat.reduceSub, ↓reduceIte, decide_true, decide_false, Bool.true_eq_false, Bool.false_eq_true, Bool.not_true, Bool.not_false, if_true, if_false, and_true, true_and, memE, celE, w64, Nat.zero_add, Nat.add_zero, Nat.mul_one, putL, and_self, ldn, t3, t6, t7, t8, tm, i0, l0, show ((((0 : Nat) : Int)) < 2) = True by simp, show ((0 : Int) < 2) = True by simp, hne]
      exact newQ_nil ⟨by rw [if_neg hz], noRo_nil⟩
  · have := ha (by omega)
    subst this
    by_cases hz : b = 0
    · subst hz
      simp (config := {implicitDefEqProofs := false, maxDischargeDepth := 20}) (disch := first | omega | (simp only [lenE]; done) | (simp only [lenE]; omega) | rfl | (simp only [lenE, markR_len]; done) | (simp only [lenE, markR_len]; omega)) only [runE, mapE, listE, initT_5, initT_6, initT_7, initT_8, resV, oneV, binA, unA, reduceCtorEq, Nat.reduceEqDiff, Nat.reduceAdd, Nat.reduceLT, Nat.reduceLeDiff, Nat.reduceMul, Nat.reduceSub, ↓reduceIte, decide_true, decide_false, Bool.true_eq_false, Bool.false_eq_true, Bool.not_true, Bool.not_false, if_true, if_false, and_true, true_and, memE, celE, w64, Nat.zero_add, Nat.add_zero, Nat.mul_one, putL, and_self, ldn, t3, t6, t7, t8, tm, i1, l1, show ((((1 : Nat) : Int)) < 2) = True by simp, show ((1 : Int) < 2) = True by simp, bne_self_eq_false]
      refine ⟨⟨2, by omega, fun _ => trivial, fun _ => trivial, by simp⟩, ?_⟩
      simp [intOf]
    · have hne : (b != 0) = true := by simpa using hz
      simp (config := {implicitDefEqProofs := false, maxDischargeDepth := 20}) (disch := first | omega | (simp only [lenE]; done) | (simp only [lenE]; omega) | rfl | (simp only [lenE, markR_len]; done) | (simp only [lenE, markR_len]; omega)) only [runE, mapE, listE, initT_5, initT_6, initT_7, initT_8, resV, oneV, binA, unA, reduceCtorEq, Nat.reduceEqDiff, Nat.reduceAdd, Nat.reduceLT, Nat.reduceLeDiff, Nat.reduceMul, Nat.reduceSub, ↓reduceIte, decide_true, decide_false, Bool.true_eq_false, Bool.false_eq_true, Bool.not_true, Bool.not_false, if_true, if_false, and_true, true_and, memE, celE, w64, Nat.zero_add, Nat.add_zero, Nat.mul_one, putL, and_self, ldn, t3, t6, t7, t8, tm, i1, l1, show ((((1 : Nat) : Int)) < 2) = True by simp, show ((1 : Int) < 2) = True by simp, hne]
      exact newQ_nil ⟨by simp, noRo_nil⟩
  · have := ha (by omega)
    have := hb (by omega)
    subst a
    subst b
    simp (config := {implicitDefEqProofs := false, maxDischargeDepth := 20}) (disch := first | omega | (simp only [lenE]; done) | (simp only [lenE]; omega) | rfl | (simp only [lenE, markR_len]; done) | (simp only [lenE, markR_len]; omega)) only [runE, mapE, listE, initT_5, initT_6, initT_7, initT_8, resV, oneV, binA, unA, reduceCtorEq, Nat.reduceEqDiff, Nat.reduceAdd, Nat.reduceLT, Nat.reduceLeDiff, Nat.reduceMul, Nat.reduceSub, ↓reduceIte, decide_true, decide_false, Bool.true_eq_false, Bool.false_eq_true, Bool.not_true, Bool.not_false, if_true, if_false, and_true, true_and, memE, celE, w64, Nat.zero_add, Nat.add_zero, Nat.mul_one, putL, and_self, ldn, t3, t6, t7, t8, tm, show ((((2 : Nat) : Int)) < 2) = False by simp, show ((2 : Int) < 2) = False by simp]
    exact newQ_nil ⟨by simp, noRo_nil⟩
theorem words_order {P Q : Nat} : (if cmpI ((P / 18446744073709551616 : Nat) : Int) ((Q / 18446744073709551616 : Nat) : Int) = 0 then cmpI ((P % 18446744073709551616 : Nat) : Int) ((Q % 18446744073709551616 : Nat) : Int) else cmpI ((P / 18446744073709551616 : Nat) : Int) ((Q / 18446744073709551616 : Nat) : Int)) = cmpI (P : Int) (Q : Int) := by
  have h1 : P = 18446744073709551616 * (P / 18446744073709551616) + P % 18446744073709551616 := by omega
  have h2 : Q = 18446744073709551616 * (Q / 18446744073709551616) + Q % 18446744073709551616 := by omega
  have b1 : P % 18446744073709551616 < 18446744073709551616 := by omega
  have b2 : Q % 18446744073709551616 < 18446744073709551616 := by omega
  generalize P / 18446744073709551616 = a at *
  generalize P % 18446744073709551616 = b at *
  generalize Q / 18446744073709551616 = c at *
  generalize Q % 18446744073709551616 = d at *
  unfold cmpI
  by_cases e1 : (a : Int) < c
  · have e2 : (P : Int) < Q := by omega
    simp [e1, e2]
  · by_cases e3 : (c : Int) < a
    · have e2 : ¬ (P : Int) < Q := by omega
      have e4 : (Q : Int) < P := by omega
      simp [e1, e2, e3, e4]
    · have e : a = c := by omega
      subst e
      have q1 : ((P : Int) < Q) ↔ ((b : Int) < d) := by omega
      have q2 : ((Q : Int) < P) ↔ ((d : Int) < b) := by omega
      simp only [Int.lt_irrefl, if_false, if_true, q1, q2]
def cmpF (p q : Int × Int) : Int := cmpI (p.1 * q.2) (q.1 * p.2)
theorem cmpF_neg (p q : Int × Int) : decide (cmpF p q < 0) = lessF p q := by
  unfold cmpF cmpI lessF
  split
  · rename_i h; simp [h]
  · rename_i h
    split
    · simp [h]
    · simp [h]
structure Fit (p : Int × Int) : Prop where
  nn : 0 ≤ p.1
  pos : 0 < p.2
  a : p.1 < 9223372036854775808
  b : p.2 < 9223372036854775808
theorem bsl_two {m : Mem} {e : TypeId} {a b : Int} : bslA m e 1 2 [.int .i64 0, .int .i64 0] [(0, 1, .int .i64 a), (1, 1, .int .i64 b)] = some (.slice (some ⟨m.length, 0, none⟩) 2 1, m ++ [⟨.own, e, [.int .i64 a, .int .i64 b]⟩]) := rfl
theorem cmpFr_rc (m : Mem) (p q : Int × Int) (hp : Fit p) (hq : Fit q) : RC Try.prog 55 [frV p, frV q] m (AnsV (.int .i64 (cmpF p q))) := by
  refine rc_of_run mixed ok_impl_compareFractions (by simp) (go_start _ _ _ ?_)
  obtain ⟨a, b⟩ := p
  obtain ⟨c, d⟩ := q
  obtain ⟨p1, p2, p3, p4⟩ := hp
  obtain ⟨q1, q2, q3, q4⟩ := hq
  simp only [] at p1 p2 p3 p4 q1 q2 q3 q4
  obtain ⟨a, rfl⟩ := Int.eq_ofNat_of_zero_le p1
  obtain ⟨b, rfl⟩ := Int.eq_ofNat_of_zero_le (Int.le_of_lt p2)
  obtain ⟨c, rfl⟩ := Int.eq_ofNat_of_zero_le q1
  obtain ⟨d, rfl⟩ := Int.eq_ofNat_of_zero_le (Int.le_of_lt q2)
  have ka := wrap_u64n a (by omega)
  have kb := wrap_u64n b (by omega)
  have kc := wrap_u64n c (by omega)
  have kd := wrap_u64n d (by omega)
  simp (config := {implicitDefEqProofs := false, maxDischargeDepth := 20}) (disch := first | omega | (simp only [lenE]; done) | (simp only [lenE]; omega) | rfl | (simp only [lenE, markR_len]; done) | (simp only [lenE, markR_len]; omega)) only [runE, mapE, listE, initT_5, initT_6, initT_7, initT_8, resV, oneV, binA, unA, reduceCtorEq, Nat.reduceEqDiff, Nat.reduceAdd, Nat.reduceLT, Nat.reduceLeDiff, Nat.reduceMul, Nat.reduceSub, ↓reduceIte, decide_true, decide_false, Bool.true_eq_false, Bool.false_eq_true, Bool.not_true, Bool.not_false, if_true, if_false, and_true, true_and, memE, celE, w64, Nat.zero_add, Nat.add_zero, Nat.mul_one, putL, and_self, ldn, c_impl_compareFractions, r_impl_compareFractions, frV, iada_0, iada_1, ka, kb, kc, kd]
  obtain ⟨E, hE⟩ : ∃ M, M = roM m ++ [⟨.own, 49, [.int .i64 (a : Int), .int .i64 (b : Int)]⟩] ++ [⟨.own, 49, [.int .i64 (c : Int), .int .i64 (d : Int)]⟩] := ⟨_, rfl⟩
  rw [← hE]
  have hX : Ext m E := by rw [hE]; exact ((Ext.refl m).one _ _).one _ _
  have o0 : OwnB E m.length 49 [.int .i64 (a : Int), .int .i64 (b : Int)] := by rw [hE]; exact (OwnB.here (by simp [roM_len])).ext _
  have o1 : OwnB E (m.length + 1) 49 [.int .i64 (c : Int), .int .i64 (d : Int)] := by rw [hE]; exact OwnB.here (by simp [roM_len])
  clear hE
  refine callH_rc (mul64n_rc _ a d (by omega) (by omega)) ?_
  rintro r new ⟨rfl, nrn⟩
  have w := words_order (P := a * d) (Q := c * b)
  have eF : cmpF ((a : Int), (b : Int)) ((c : Int), (d : Int)) = cmpI ((a * d : Nat) : Int) ((c * b : Nat) : Int) := by
    unfold cmpF; push_cast; rfl
  rw [eF, ← w]
  generalize a * d / 18446744073709551616 = h1 at *
  generalize a * d % 18446744073709551616 = l1 at *
  simp (config := {implicitDefEqProofs := false, maxDischargeDepth := 20}) (disch := first | omega | (simp only [lenE]; done) | (simp only [lenE]; omega) | rfl | (simp only [lenE, markR_len]; done) | (simp only [lenE, markR_len]; omega)) only [runE, mapE, listE, initT_5, initT_6, initT_7, initT_8, resV, oneV, binA, unA, reduceCtorEq, Nat.reduceEqDiff, Nat.reduceAdd, Nat.reduceLT, Nat.reduceLeDiff, Nat.reduceMul, Nat.reduceSub, ↓reduceIte, decide_true, decide_false, Bool.true_eq_false, Bool.false_eq_true, Bool.not_true, Bool.not_false, if_true, if_false, and_true, true_and, memE, celE, w64, Nat.zero_add, Nat.add_zero, Nat.mul_one, putL, and_self, ldn, ext_2_0, ext_2_1, iada_0, iada_1, ka, kb, kc, kd, (o0.ext new).rd, (o1.ext new).rd]
  refine callH_rc (mul64n_rc _ c b (by omega) (by omega)) ?_
  rintro r new2 ⟨rfl, nrn2⟩
  generalize c * b / 18446744073709551616 = h2 at *
  generalize c * b % 18446744073709551616 = l2 at *
  simp (config := {implicitDefEqProofs := false, maxDischargeDepth := 20}) (disch := first | omega | (simp only [lenE]; done) | (simp only [lenE]; omega) | rfl | (simp only [lenE, markR_len]; done) | (simp only [lenE, markR_len]; omega)) only [runE, mapE, listE, initT_5, initT_6, initT_7, initT_8, resV, oneV, binA, unA, reduceCtorEq, Nat.reduceEqDiff, Nat.reduceAdd, Nat.reduceLT, Nat.reduceLeDiff, Nat.reduceMul, Nat.reduceSub, ↓reduceIte, decide_true, decide_false, Bool.true_eq_false, Bool.false_eq_true, Bool.not_true, Bool.not_false, if_true, if_false, and_true, true_and, memE, celE, w64, Nat.zero_add, Nat.add_zero, Nat.mul_one, putL, and_self, ldn, ext_2_0, ext_2_1]
  refine callH_rc (cmpU_rc _ _ _) ?_
  rintro r new3 ⟨rfl, rfl⟩
  rw [List.append_nil]
  simp (config := {implicitDefEqProofs := false, maxDischargeDepth := 20}) (disch := first | omega | (simp only [lenE]; done) | (simp only [lenE]; omega) | rfl | (simp only [lenE, markR_len]; done) | (simp only [lenE, markR_len]; omega)) only [runE, mapE, listE, initT_5, initT_6, initT_7, initT_8, resV, oneV, binA, unA, reduceCtorEq, Nat.reduceEqDiff, Nat.reduceAdd, Nat.reduceLT, Nat.reduceLeDiff, Nat.reduceMul, Nat.reduceSub, ↓reduceIte, decide_true, decide_false, Bool.true_eq_false, Bool.false_eq_true, Bool.not_true, Bool.not_false, if_true, if_false, and_true, true_and, memE, celE, w64, Nat.zero_add, Nat.add_zero, Nat.mul_one, putL, and_self, ldn]
  refine callH_rc (cmpU_rc _ _ _) ?_
  rintro r new3 ⟨rfl, rfl⟩
  rw [List.append_nil]
  generalize cmpI (h1 : Int) (h2 : Int) = x at *
  generalize cmpI (l1 : Int) (l2 : Int) = y at *
  simp (config := {implicitDefEqProofs := false, maxDischargeDepth := 20}) (disch := first | omega | (simp only [lenE]; done) | (simp only [lenE]; omega) | rfl | (simp only [lenE, markR_len]; done) | (simp only [lenE, markR_len]; omega)) only [runE, mapE, listE, initT_5, initT_6, initT_7, initT_8, resV, oneV, binA, unA, reduceCtorEq, Nat.reduceEqDiff, Nat.reduceAdd, Nat.reduceLT, Nat.reduceLeDiff, Nat.reduceMul, Nat.reduceSub, ↓reduceIte, decide_true, decide_false, Bool.true_eq_false, Bool.false_eq_true, Bool.not_true, Bool.not_false, if_true, if_false, and_true, true_and, memE, celE, w64, Nat.zero_add, Nat.add_zero, Nat.mul_one, putL, and_self, ldn, bsl_two]
  have hY : Ext m (E ++ new ++ new2 ++ [⟨.own, 3, [.int .i64 x, .int .i64 y]⟩]) := ((hX.app nrn).app nrn2).one _ _
  have hI := IntsA.own (m := E ++ new ++ new2) (e := 3) (l := [x, y]) (by simp) 1
  rw [List.length_append, List.length_append] at hI
  refine callH_rc (orI_rc _ _ x y hI) ?_
  rintro r new3 ⟨rfl, nrn3⟩
  simp (config := {implicitDefEqProofs := false, maxDischargeDepth := 20}) (disch := first | omega | (simp only [lenE]; done) | (simp only [lenE]; omega) | rfl | (simp only [lenE, markR_len]; done) | (simp only [lenE, markR_len]; omega)) only [runE, mapE, listE, initT_5, initT_6, initT_7, initT_8, resV, oneV, binA, unA, reduceCtorEq, Nat.reduceEqDiff, Nat.reduceAdd, Nat.reduceLT, Nat.reduceLeDiff, Nat.reduceMul, Nat.reduceSub, ↓reduceIte, decide_true, decide_false, Bool.true_eq_false, Bool.false_eq_true, Bool.not_true, Bool.not_false, if_true, if_false, and_true, true_and, memE, celE, w64, Nat.zero_add, Nat.add_zero, Nat.mul_one, putL, and_self, ldn]
  exact ext_ansV (hY.app nrn3) rfl
def Sees (m M : Mem) : Prop := ∀ (i : Nat) (b : Blk), m[i]? = some b → b.kd ≠ .dead → ∃ b', M[i]? = some b' ∧ b'.cs = b.cs ∧ b'.kd ≠ .dead
theorem Sees.refl (m : Mem) : Sees m m := fun i b h hd => ⟨b, h, rfl, hd⟩
theorem Sees.trans {a b c : Mem} (h : Sees a b) (h' : Sees b c) : Sees a c := fun i x hx hd => by
  obtain ⟨y, hy, e, hd2⟩ := h i x hx hd
  obtain ⟨z, hz, e2, hd3⟩ := h' i y hy hd2
  exact ⟨z, hz, e2.trans e, hd3⟩
theorem Sees.ro (m : Mem) : Sees m (roM m) := fun i b h hd => by
  refine ⟨roB b, by rw [roM, List.getElem?_map, h]; rfl, ?_, ?_⟩
  · obtain ⟨kd, e, xs⟩ := b; cases kd <;> first | rfl | exact absurd rfl hd
  · obtain ⟨kd, e, xs⟩ := b; cases kd <;> first | (simp [roB]; done) | exact absurd rfl hd
theorem Sees.app (m new : Mem) : Sees m (m ++ new) := fun i b h hd =>
  ⟨b, by rw [List.getElem?_append_left (List.getElem?_eq_some_iff.1 h).1]; exact h, rfl, hd⟩
theorem Sees.ext {m M : Mem} (h : Ext m M) : Sees m M := by
  obtain ⟨new, rfl, _⟩ := h
  exact (Sees.ro m).trans (Sees.app _ _)
theorem Sees.rdc {m M : Mem} (h : Sees m M) {id k : Nat} {v : Value} (hv : rdc m id k = some v) : Ab.rdc M id k = some v := by
  unfold Ab.rdc at *
  cases hm : m[id]? with
  | none => rw [hm] at hv; cases hv
  | some b =>
    rw [hm] at hv
    simp only [] at hv
    split at hv
    · cases hv
    · rename_i hd
      obtain ⟨b', hb, e, hd2⟩ := h id b hm hd
      rw [hb]
      simp only [hd2, if_false, e]
      exact hv
theorem Sees.rdl {m M : Mem} (h : Sees m M) {id off k : Nat} {vs : List Value} (hv : rdl m id off k = some vs) : Ab.rdl M id off k = some vs := by
  unfold Ab.rdl at *
  cases hm : m[id]? with
  | none => rw [hm] at hv; cases hv
  | some b =>
    rw [hm] at hv
    simp only [] at hv
    split at hv
    · cases hv
    · rename_i hd
      obtain ⟨b', hb, e, hd2⟩ := h id b hm hd
      rw [hb]
      simp only [hd2, if_false, e]
      exact hv
theorem Sees.ints {m M : Mem} (h : Sees m M) {v : Value} {l : List Int} (hi : IntsA m v l) : IntsA M v l := by
  refine ⟨hi.len, hi.bd, hi.at_, fun k hk => ?_, ?_⟩
  · have := hi.ld k hk
    generalize pAt v k = p at *
    unfold ldA at this ⊢
    split at this
    · exact h.rdc this
    · cases this
  · have := hi.src
    unfold slR at this ⊢
    split at this
    · exact this
    · exact h.rdl this
    · cases this
def CmpA (m : Mem) (fv : Value) (l : List Int) (f : Int → Int → Int) : Prop := ∃ g cap, fv = .func (.func g) #[] cap ∧ ∀ M x y, Sees m M → x ∈ l → y ∈ l → RC Try.prog g (.int .i64 x :: .int .i64 y :: cap.toList) M (AnsV (.int .i64 (f x y)))
theorem minFunc_rc (m : Mem) (v fv : Value) (l : List Int) (f : Int → Int → Int) (h : IntsA m v l) (hne : 0 < l.length) (hf : CmpA m fv l f) :
    RC Try.prog 53 [v, fv] m (AnsV (.int .i64 (bestIn (fun a b => decide (f a b < 0)) (l.drop 1) (l.getD 0 0)))) := by
  refine rc_of_run mixed ok_slices_MinFunc (by simp) (go_start _ _ _ ?_)
  obtain ⟨g, cap, rfl, hg⟩ := hf
  have hr := h.ro
  have i0 : iadA 1 v (.int .i64 0) = some (pAt v 0) := hr.at_ 0 hne
  have l0 := hr.ld 0 hne
  have hl := hr.len
  have hlt : ¬ ((l.length : Int) < 1) := by omega
  simp (config := {implicitDefEqProofs := false, maxDischargeDepth := 20}) (disch := first | omega | (simp only [lenE]; done) | (simp only [lenE]; omega) | rfl | (simp only [lenE, markR_len]; done) | (simp only [lenE, markR_len]; omega)) only [runE, mapE, listE, initT_5, initT_6, initT_7, initT_8, resV, oneV, binA, unA, reduceCtorEq, Nat.reduceEqDiff, Nat.reduceAdd, Nat.reduceLT, Nat.reduceLeDiff, Nat.reduceMul, Nat.reduceSub, ↓reduceIte, decide_true, decide_false, Bool.true_eq_false, Bool.false_eq_true, Bool.not_true, Bool.not_false, if_true, if_false, and_true, true_and, memE, celE, w64, Nat.zero_add, Nat.add_zero, Nat.mul_one, putL, and_self, ldn, c_slices_MinFunc, r_slices_MinFunc, hl, hlt, i0, l0]
  obtain ⟨want, hw⟩ : ∃ want, want = bestIn (fun a b => decide (f a b < 0)) (l.drop 1) (l.getD 0 0) := ⟨_, rfl⟩
  rw [← hw]
  have mem0 : ∀ k, k < l.length → l.getD k 0 ∈ l := fun k hk => by
    rw [List.getD_eq_getElem?_getD, List.getElem?_eq_getElem hk]; exact List.getElem_mem hk
  refine loop_inv mixed (fun s => ∃ (k : Nat) (b : Int) (M : Mem), 1 ≤ k ∧ k ≤ l.length ∧ b ∈ l ∧ want = bestIn (fun a b => decide (f a b < 0)) (l.drop k) b ∧ s.m = M ∧ Ext m M ∧ s.t 0 = v ∧ s.t 1 = .func (.func g) #[] cap ∧ s.t 5 = .int .i64 b ∧ s.t 6 = .int .i64 (k : Int)) (fun s => l.length - (intOf (s.t 6)).toNat)
    ⟨1, l.getD 0 0, _, Nat.le_refl _, hne, mem0 0 hne, hw, rfl, Ext.refl m, rfl, rfl, rfl, rfl⟩ ?_
  rintro s ⟨k, b, M, hk1, hk, hb, hwant, tm, hX, t0, t1, t5, t6⟩
  have hM := hX.ints hr
  have hl := hM.len
  have hbd := hM.bd
  by_cases hkl : k < l.length
  · have hlt' : (k : Int) < l.length := by omega
    have ik := hM.at_ k hkl
    have lk := hM.ld k hkl
    simp (config := {implicitDefEqProofs := false, maxDischargeDepth := 20}) (disch := first | omega | (simp only [lenE]; done) | (simp only [lenE]; omega) | rfl | (simp only [lenE, markR_len]; done) | (simp only [lenE, markR_len]; omega)) only [runE, mapE, listE, initT_5, initT_6, initT_7, initT_8, resV, oneV, binA, unA, reduceCtorEq, Nat.reduceEqDiff, Nat.reduceAdd, Nat.reduceLT, Nat.reduceLeDiff, Nat.reduceMul, Nat.reduceSub, ↓reduceIte, decide_true, decide_false, Bool.true_eq_false, Bool.false_eq_true, Bool.not_true, Bool.not_false, if_true, if_false, and_true, true_and, memE, celE, w64, Nat.zero_add, Nat.add_zero, Nat.mul_one, putL, and_self, ldn, tm, t0, t1, t5, t6, hl, hlt', ik, lk, List.append_nil, List.nil_append, List.cons_append]
    refine callH_rc (hg M (l.getD k 0) b (Sees.ext hX) (mem0 k hkl) hb) ?_
    rintro r new ⟨rfl, nrn⟩
    have ik2 := (hM.ext new).at_ k hkl
    have lk2 := (hM.ext new).ld k hkl
    have hdrop : l.drop k = l.getD k 0 :: l.drop (k + 1) := by
      rw [List.drop_eq_getElem_cons hkl, List.getD_eq_getElem?_getD, List.getElem?_eq_getElem hkl]; rfl
    rw [hdrop] at hwant
    simp only [bestIn] at hwant
    by_cases hlt2 : f (l.getD k 0) b < 0
    · rw [if_pos (by simpa using hlt2)] at hwant
      simp (config := {implicitDefEqProofs := false, maxDischargeDepth := 20}) (disch := first | omega | (simp only [lenE]; done) | (simp only [lenE]; omega) | rfl | (simp only [lenE, markR_len]; done) | (simp only [lenE, markR_len]; omega)) only [runE, mapE, listE, initT_5, initT_6, initT_7, initT_8, resV, oneV, binA, unA, reduceCtorEq, Nat.reduceEqDiff, Nat.reduceAdd, Nat.reduceLT, Nat.reduceLeDiff, Nat.reduceMul, Nat.reduceSub, ↓reduceIte, decide_true, decide_false, Bool.true_eq_false, Bool.false_eq_true, Bool.not_true, Bool.not_false, if_true, if_false, and_true, true_and, memE, celE, w64, Nat.zero_add, Nat.add_zero, Nat.mul_one, putL, and_self, ldn, tm, t0, t1, t5, t6, hlt2, ik2, lk2]
      refine ⟨⟨k + 1, _, _, by omega, by omega, mem0 k hkl, hwant, rfl, hX.app nrn, rfl, by simp⟩, ?_⟩
      simp [intOf]; omega
    · rw [if_neg (by simpa using hlt2)] at hwant
      simp (config := {implicitDefEqProofs := false, maxDischargeDepth := 20}) (disch := first | omega | (simp only [lenE]; done) | (simp only [lenE]; omega) | rfl | (simp only [lenE, markR_len]; done) | (simp only [lenE, markR_len]; omega)) only [runE, mapE, listE, initT_5, initT_6, initT_7, initT_8, resV, oneV, binA, unA, reduceCtorEq, Nat.reduceEqDiff, Nat.reduceAdd, Nat.reduceLT, Nat.reduceLeDiff, Nat.reduceMul, Nat.reduceSub, ↓reduceIte, decide_true, decide_false, Bool.true_eq_false, Bool.false_eq_true, Bool.not_true, Bool.not_false, if_true, if_false, and_true, true_and, memE, celE, w64, Nat.zero_add, Nat.add_zero, Nat.mul_one, putL, and_self, ldn, tm, t0, t1, t5, t6, hlt2]
      refine ⟨⟨k + 1, _, _, by omega, by omega, hb, hwant, rfl, hX.app nrn, rfl, by simp⟩, ?_⟩
      simp [intOf]; omega
  · have hlt' : ¬ ((k : Int) < l.length) := by omega
    have hk' : k = l.length := by omega
    subst hk'
    rw [List.drop_length] at hwant
    simp only [bestIn] at hwant
    subst hwant
    simp (config := {implicitDefEqProofs := false, maxDischargeDepth := 20}) (disch := first | omega | (simp only [lenE]; done) | (simp only [lenE]; omega) | rfl | (simp only [lenE, markR_len]; done) | (simp only [lenE, markR_len]; omega)) only [runE, mapE, listE, initT_5, initT_6, initT_7, initT_8, resV, oneV, binA, unA, reduceCtorEq, Nat.reduceEqDiff, Nat.reduceAdd, Nat.reduceLT, Nat.reduceLeDiff, Nat.reduceMul, Nat.reduceSub, ↓reduceIte, decide_true, decide_false, Bool.true_eq_false, Bool.false_eq_true, Bool.not_true, Bool.not_false, if_true, if_false, and_true, true_and, memE, celE, w64, Nat.zero_add, Nat.add_zero, Nat.mul_one, putL, and_self, ldn, tm, t0, t1, t5, t6, hl, hlt']
    exact ext_ansV hX rfl
end Go.Proofs.Ytbjjkcoecaopcaa.Ab
end
section
namespace Go.Proofs.Ytbjjkcoecaopcaa.Ab
open Go Go.RowKit
set_option linter.unusedVariables false
set_option linter.unusedSimpArgs false
set_option maxRecDepth 10000
theorem cells_ifc (t : TypeId) (v : Value) : (Value.iface t v).cells = #[.iface t v] := rfl
structure Pace (m : Mem) (x : Value) (l : List Int) (cost : Int → Int × Int) : Prop where
  ifc : ∃ t v, x = .iface t v
  ch : ∃ f r, invA Try.prog "loop.example/g01111/impl.choices" x = some (f, r) ∧ ∀ M, Sees m M → RC Try.prog f [r] M (fun v new => NoRo new ∧ IntsA (M ++ new) v l)
  co : ∃ f r, invA Try.prog "loop.example/g01111/impl.costOf" x = some (f, r) ∧ ∀ M c, Sees m M → c ∈ l → RC Try.prog f [r, .int .i64 c] M (AnsV (frV (cost c)))
  fit : ∀ c ∈ l, Fit (cost c)
theorem pickCmp_rc (m M : Mem) (x : Value) (l : List Int) (cost : Int → Int × Int) (id : Nat) (h : Pace m x l cost) (hs : Sees m M) (hx : rdc M id 0 = some x) (a b : Int) (ha : a ∈ l) (hb : b ∈ l) :
    RC Try.prog 54 [.int .i64 a, .int .i64 b, .pointer (some ⟨id, 0, none⟩)] M (AnsV (.int .i64 (cmpF (cost a) (cost b)))) := by
  refine rc_of_run mixed ok_impl_bestChoice_1 (by simp) (go_start _ _ _ ?_)
  obtain ⟨f, r, hinv, hco⟩ := h.co
  have hx' : rdc (roM M) id 0 = some x := (rdc_roM M id 0).trans hx
  have hX := Ext.refl M
  simp (config := {implicitDefEqProofs := false, maxDischargeDepth := 20}) (disch := first | omega | (simp only [lenE]; done) | (simp only [lenE]; omega) | rfl | (simp only [lenE, markR_len]; done) | (simp only [lenE, markR_len]; omega)) only [runE, mapE, listE, initT_5, initT_6, initT_7, initT_8, resV, oneV, binA, unA, reduceCtorEq, Nat.reduceEqDiff, Nat.reduceAdd, Nat.reduceLT, Nat.reduceLeDiff, Nat.reduceMul, Nat.reduceSub, ↓reduceIte, decide_true, decide_false, Bool.true_eq_false, Bool.false_eq_true, Bool.not_true, Bool.not_false, if_true, if_false, and_true, true_and, memE, celE, w64, Nat.zero_add, Nat.add_zero, Nat.mul_one, putL, and_self, ldn, c_impl_bestChoice_1, r_impl_bestChoice_1, hx', hinv]
  refine rcallH_rc (hco _ a (hs.trans (Sees.ext hX)) ha) ?_
  rintro r new ⟨rfl, nrn⟩
  have hx2 := hX.app nrn
  have hr2 := hx2.rd hx
  simp (config := {implicitDefEqProofs := false, maxDischargeDepth := 20}) (disch := first | omega | (simp only [lenE]; done) | (simp only [lenE]; omega) | rfl | (simp only [lenE, markR_len]; done) | (simp only [lenE, markR_len]; omega)) only [runE, mapE, listE, initT_5, initT_6, initT_7, initT_8, resV, oneV, binA, unA, reduceCtorEq, Nat.reduceEqDiff, Nat.reduceAdd, Nat.reduceLT, Nat.reduceLeDiff, Nat.reduceMul, Nat.reduceSub, ↓reduceIte, decide_true, decide_false, Bool.true_eq_false, Bool.false_eq_true, Bool.not_true, Bool.not_false, if_true, if_false, and_true, true_and, memE, celE, w64, Nat.zero_add, Nat.add_zero, Nat.mul_one, putL, and_self, ldn, hr2, hinv]
  refine rcallH_rc (hco _ b (hs.trans (Sees.ext hx2)) hb) ?_
  rintro r new2 ⟨rfl, nrn2⟩
  have hx3 := hx2.app nrn2
  simp (config := {implicitDefEqProofs := false, maxDischargeDepth := 20}) (disch := first | omega | (simp only [lenE]; done) | (simp only [lenE]; omega) | rfl | (simp only [lenE, markR_len]; done) | (simp only [lenE, markR_len]; omega)) only [runE, mapE, listE, initT_5, initT_6, initT_7, initT_8, resV, oneV, binA, unA, reduceCtorEq, Nat.reduceEqDiff, Nat.reduceAdd, Nat.reduceLT, Nat.reduceLeDiff, Nat.reduceMul, Nat.reduceSub, ↓reduceIte, decide_true, decide_false, Bool.true_eq_false, Bool.false_eq_true, Bool.not_true, Bool.not_false, if_true, if_false, and_true, true_and, memE, celE, w64, Nat.zero_add, Nat.add_zero, Nat.mul_one, putL, and_self, ldn]
  refine rcallH_rc (cmpFr_rc _ (cost a) (cost b) (h.fit a ha) (h.fit b hb)) ?_
  rintro r new3 ⟨rfl, nrn3⟩
  simp (config := {implicitDefEqProofs := false, maxDischargeDepth := 20}) (disch := first | omega | (simp only [lenE]; done) | (simp only [lenE]; omega) | rfl | (simp only [lenE, markR_len]; done) | (simp only [lenE, markR_len]; omega)) only [runE, mapE, listE, initT_5, initT_6, initT_7, initT_8, resV, oneV, binA, unA, reduceCtorEq, Nat.reduceEqDiff, Nat.reduceAdd, Nat.reduceLT, Nat.reduceLeDiff, Nat.reduceMul, Nat.reduceSub, ↓reduceIte, decide_true, decide_false, Bool.true_eq_false, Bool.false_eq_true, Bool.not_true, Bool.not_false, if_true, if_false, and_true, true_and, memE, celE, w64, Nat.zero_add, Nat.add_zero, Nat.mul_one, putL, and_self, ldn]
  exact ext_ansV (hx3.app nrn3) rfl
def pickOf (cost : Int → Int × Int) (l : List Int) : Int := bestIn (fun a b => lessF (cost a) (cost b)) (l.drop 1) (l.getD 0 0)
theorem bestChoice_rc (m : Mem) (x : Value) (l : List Int) (cost : Int → Int × Int) (h : Pace m x l cost) :
    RC Try.prog 31 [x] m (AnsV (.tuple #[.int .i64 (pickOf cost l), .bool (decide (0 < l.length))])) := by
  refine rc_of_run mixed ok_impl_bestChoice (by simp) (go_start _ _ _ ?_)
  obtain ⟨t, v, hxe⟩ := h.ifc
  obtain ⟨f, r, hinv, hch⟩ := h.ch
  subst hxe
  simp (config := {implicitDefEqProofs := false, maxDischargeDepth := 20}) (disch := first | omega | (simp only [lenE]; done) | (simp only [lenE]; omega) | rfl | (simp only [lenE, markR_len]; done) | (simp only [lenE, markR_len]; omega)) only [runE, mapE, listE, initT_5, initT_6, initT_7, initT_8, resV, oneV, binA, unA, reduceCtorEq, Nat.reduceEqDiff, Nat.reduceAdd, Nat.reduceLT, Nat.reduceLeDiff, Nat.reduceMul, Nat.reduceSub, ↓reduceIte, decide_true, decide_false, Bool.true_eq_false, Bool.false_eq_true, Bool.not_true, Bool.not_false, if_true, if_false, and_true, true_and, memE, celE, w64, Nat.zero_add, Nat.add_zero, Nat.mul_one, putL, and_self, ldn, c_impl_bestChoice, r_impl_bestChoice, cells_ifc]
  obtain ⟨E, hE⟩ : ∃ M, M = roM m ++ [⟨.own, 76, [.iface t v]⟩] := ⟨_, rfl⟩
  rw [← hE]
  have hX : Ext m E := by rw [hE]; exact (Ext.refl m).one _ _
  have o0 : OwnB E m.length 76 [.iface t v] := by rw [hE]; exact OwnB.here (roM_len m).symm
  clear hE
  have hrd := o0.rd 0
  simp only [List.getElem?_cons_zero] at hrd
  simp (config := {implicitDefEqProofs := false, maxDischargeDepth := 20}) (disch := first | omega | (simp only [lenE]; done) | (simp only [lenE]; omega) | rfl | (simp only [lenE, markR_len]; done) | (simp only [lenE, markR_len]; omega)) only [runE, mapE, listE, initT_5, initT_6, initT_7, initT_8, resV, oneV, binA, unA, reduceCtorEq, Nat.reduceEqDiff, Nat.reduceAdd, Nat.reduceLT, Nat.reduceLeDiff, Nat.reduceMul, Nat.reduceSub, ↓reduceIte, decide_true, decide_false, Bool.true_eq_false, Bool.false_eq_true, Bool.not_true, Bool.not_false, if_true, if_false, and_true, true_and, memE, celE, w64, Nat.zero_add, Nat.add_zero, Nat.mul_one, putL, and_self, ldn, hrd, hinv]
  refine rcallH_rc (hch E (Sees.ext hX)) ?_
  rintro r new ⟨nrn, hI⟩
  have hl := hI.len
  have hX2 := hX.app nrn
  by_cases h0 : 0 < l.length
  · have hne : ((l.length : Int) == 0) = false := by rw [beq_eq_false_iff_ne]; omega
    simp (config := {implicitDefEqProofs := false, maxDischargeDepth := 20}) (disch := first | omega | (simp only [lenE]; done) | (simp only [lenE]; omega) | rfl | (simp only [lenE, markR_len]; done) | (simp only [lenE, markR_len]; omega)) only [runE, mapE, listE, initT_5, initT_6, initT_7, initT_8, resV, oneV, binA, unA, reduceCtorEq, Nat.reduceEqDiff, Nat.reduceAdd, Nat.reduceLT, Nat.reduceLeDiff, Nat.reduceMul, Nat.reduceSub, ↓reduceIte, decide_true, decide_false, Bool.true_eq_false, Bool.false_eq_true, Bool.not_true, Bool.not_false, if_true, if_false, and_true, true_and, memE, celE, w64, Nat.zero_add, Nat.add_zero, Nat.mul_one, putL, and_self, ldn, hl, hne, id_eq]
    have hc : CmpA (E ++ new) (.func (.func 54) #[] #[.pointer (some ⟨m.length, 0, none⟩)]) l (fun a b => cmpF (cost a) (cost b)) :=
      ⟨_, _, rfl, fun M a b hM ha hb => pickCmp_rc m M (.iface t v) l cost m.length h ((Sees.ext hX2).trans hM) (hM.rdc ((o0.ext new).rd 0)) a b ha hb⟩
    refine callH_rc (minFunc_rc _ _ _ l _ hI h0 hc) ?_
    rintro r new2 ⟨rfl, nrn2⟩
    have e : bestIn (fun a b => decide (cmpF (cost a) (cost b) < 0)) (l.drop 1) (l.getD 0 0) = pickOf cost l := by
      unfold pickOf
      congr 1
      funext a b
      exact cmpF_neg _ _
    rw [e]
    obtain ⟨q, hq⟩ : ∃ q, q = pickOf cost l := ⟨_, rfl⟩
    rw [← hq, decide_eq_true h0]
    simp (config := {implicitDefEqProofs := false, maxDischargeDepth := 20}) (disch := first | omega | (simp only [lenE]; done) | (simp only [lenE]; omega) | rfl | (simp only [lenE, markR_len]; done) | (simp only [lenE, markR_len]; omega)) only [runE, mapE, listE, initT_5, initT_6, initT_7, initT_8, resV, oneV, binA, unA, reduceCtorEq, Nat.reduceEqDiff, Nat.reduceAdd, Nat.reduceLT, Nat.reduceLeDiff, Nat.reduceMul, Nat.reduceSub, ↓reduceIte, decide_true, decide_false, Bool.true_eq_false, Bool.false_eq_true, Bool.not_true, Bool.not_false, if_true, if_false, and_true, true_and, memE, celE, w64, Nat.zero_add, Nat.add_zero, Nat.mul_one, putL, and_self, ldn]
    exact ext_ansV (hX2.app nrn2) rfl
  · have e : l = [] := List.eq_nil_of_length_eq_zero (by omega)
    subst e
    simp (config := {implicitDefEqProofs := false, maxDischargeDepth := 20}) (disch := first | omega | (simp only [lenE]; done) | (simp only [lenE]; omega) | rfl | (simp only [lenE, markR_len]; done) | (simp only [lenE, markR_len]; omega)) only [runE, mapE, listE, initT_5, initT_6, initT_7, initT_8, resV, oneV, binA, unA, reduceCtorEq, Nat.reduceEqDiff, Nat.reduceAdd, Nat.reduceLT, Nat.reduceLeDiff, Nat.reduceMul, Nat.reduceSub, ↓reduceIte, decide_true, decide_false, Bool.true_eq_false, Bool.false_eq_true, Bool.not_true, Bool.not_false, if_true, if_false, and_true, true_and, memE, celE, w64, Nat.zero_add, Nat.add_zero, Nat.mul_one, putL, and_self, ldn, hl, id_eq, show ((((([] : List Int).length : Nat)) : Int) == 0) = true by rfl, List.length_nil, show ((((0 : Nat)) : Int) == 0) = true by rfl, show (((0 : Int)) == 0) = true by rfl]
    exact ext_ansV hX2 rfl
theorem countsUpTo_rc (m : Mem) (n : Nat) (hn : n ≤ 100000) : RC Try.prog 60 [.int .i64 (n : Int)] m (AnsO m (IntsO (upFrom 1 n)) id) := by
  refine rc_of_run mixed ok_impl_countsUpTo (by simp) (go_start _ _ _ ?_)
  simp (config := {implicitDefEqProofs := false, maxDischargeDepth := 20}) (disch := first | omega | (simp only [lenE]; done) | (simp only [lenE]; omega) | rfl | (simp only [lenE, markR_len]; done) | (simp only [lenE, markR_len]; omega)) only [runE, mapE, listE, initT_5, initT_6, initT_7, initT_8, resV, oneV, binA, unA, reduceCtorEq, Nat.reduceEqDiff, Nat.reduceAdd, Nat.reduceLT, Nat.reduceLeDiff, Nat.reduceMul, Nat.reduceSub, ↓reduceIte, decide_true, decide_false, Bool.true_eq_false, Bool.false_eq_true, Bool.not_true, Bool.not_false, if_true, if_false, and_true, true_and, memE, celE, w64, Nat.zero_add, Nat.add_zero, Nat.mul_one, putL, and_self, ldn, c_impl_countsUpTo, r_impl_countsUpTo, bsl_none]
  refine loop_inv mixed (fun s => ∃ (k : Nat) (M : Mem) (id : Nat), k ≤ n ∧ s.m = M ∧ Ext m M ∧ m.length ≤ id ∧ OwnR M id (upFrom 1 k) ∧ s.t 3 = .slice (some ⟨id, 0, none⟩) k 1 ∧ s.t 6 = .int .i64 (n : Int) ∧ s.t 7 = .int .i64 (k : Int)) (fun s => n - (intOf (s.t 7)).toNat)
    ⟨0, _, m.length, by omega, rfl, (Ext.refl m).one _ _, Nat.le_refl _, by exact OwnR.here (roM m) [] m.length (roM_len m).symm, by first | rfl | simp [roM_len], rfl, rfl⟩ ?_
  rintro s ⟨k, M, id, hk, tm, hX, hid, ho, t3, t6, t7⟩
  by_cases hkn : k < n
  · have hlt : (k : Int) < n := by omega
    have hap := app_num (x := (k : Int) + 1) ho (by rw [upFrom_len]; omega) rfl (upFrom_len 1 k).symm
    have e : upFrom 1 (k + 1) = upFrom 1 k ++ [(k : Int) + 1] := by rw [upFrom_snoc, Int.add_comm]
    rw [← e] at hap
    simp (config := {implicitDefEqProofs := false, maxDischargeDepth := 20}) (disch := first | omega | (simp only [lenE]; done) | (simp only [lenE]; omega) | rfl | (simp only [lenE, markR_len]; done) | (simp only [lenE, markR_len]; omega)) only [runE, mapE, listE, initT_5, initT_6, initT_7, initT_8, resV, oneV, binA, unA, reduceCtorEq, Nat.reduceEqDiff, Nat.reduceAdd, Nat.reduceLT, Nat.reduceLeDiff, Nat.reduceMul, Nat.reduceSub, ↓reduceIte, decide_true, decide_false, Bool.true_eq_false, Bool.false_eq_true, Bool.not_true, Bool.not_false, if_true, if_false, and_true, true_and, memE, celE, w64, Nat.zero_add, Nat.add_zero, Nat.mul_one, putL, and_self, ldn, tm, t3, t6, t7, hlt, bsl_one, hap]
    refine ⟨⟨k + 1, _, _, by omega, rfl, ((hX.dead hid).one _ _).one _ _, ?_, OwnR.here _ _ _ ?_, rfl, by simp⟩, ?_⟩
    · have := hX.len; omega
    · simp
    · simp [intOf]; omega
  · have hlt : ¬ ((k : Int) < n) := by omega
    have e : k = n := by omega
    subst e
    simp (config := {implicitDefEqProofs := false, maxDischargeDepth := 20}) (disch := first | omega | (simp only [lenE]; done) | (simp only [lenE]; omega) | rfl | (simp only [lenE, markR_len]; done) | (simp only [lenE, markR_len]; omega)) only [runE, mapE, listE, initT_5, initT_6, initT_7, initT_8, resV, oneV, binA, unA, reduceCtorEq, Nat.reduceEqDiff, Nat.reduceAdd, Nat.reduceLT, Nat.reduceLeDiff, Nat.reduceMul, Nat.reduceSub, ↓reduceIte, decide_true, decide_false, Bool.true_eq_false, Bool.false_eq_true, Bool.not_true, Bool.not_false, if_true, if_false, and_true, true_and, memE, celE, w64, Nat.zero_add, Nat.add_zero, Nat.mul_one, putL, and_self, ldn, tm, t3, t6, t7, hlt]
    refine ext_ansO (f := _root_.id) hX fun M' hM => ⟨by rw [upFrom_len]; omega, id, 1, by rw [upFrom_len], hid, ho.lt, ho.at_ (hM _ hid ho.lt)⟩
end Go.Proofs.Ytbjjkcoecaopcaa.Ab
end
section
namespace Go.Proofs.Ytbjjkcoecaopcaa.Ab
open Go Go.RowKit
set_option linter.unusedVariables false
set_option linter.unusedSimpArgs false
set_option maxRecDepth 10000
theorem OwnB.ld5 {M : Mem} {id : Nat} {e : TypeId} {a b c d f : Value} (h : OwnB M id e [a, b, c, d, f]) : ldA M (some 5) (.pointer (some ⟨id, 0, none⟩)) = some (.agg #[a, b, c, d, f]) := by
  unfold OwnB at h
  simp [ldA, rdn, rdc, h]
end Go.Proofs.Ytbjjkcoecaopcaa.Ab
end
section
namespace Go.Proofs.Ytbjjkcoecaopcaa.Ab
open Go Go.RowKit
set_option linter.unusedVariables false
set_option linter.unusedSimpArgs false
set_option maxRecDepth 10000
theorem Sees.items {m M : Mem} (h : Sees m M) {v : Value} {L : List It} (hi : ItemsA m v L) : ItemsA M v L := by
  obtain ⟨hb, id, fl, rfl, hc⟩ := hi
  refine ⟨hb, id, fl, rfl, fun k i hk hi => ?_⟩
  obtain ⟨u, hu⟩ := itC_some (L.getD k It0) hi
  have := hc k i hk hi
  rw [hu] at this ⊢
  exact h.rdc this
theorem OwnB.ld2 {M : Mem} {id : Nat} {e : TypeId} {a b : Value} (h : OwnB M id e [a, b]) : ldA M (some 2) (.pointer (some ⟨id, 0, none⟩)) = some (.agg #[a, b]) := by
  unfold OwnB at h
  simp [ldA, rdn, rdc, h]
theorem famB_step {L : List It} {k : Nat} (hk : k < L.length) : (L.take (k + 1)).all (·.good) = ((L.take k).all (·.good) && (L.getD k It0).good) := by
  rw [List.take_add_one, List.all_append, List.getD_eq_getElem?_getD, List.getElem?_eq_getElem hk]
  simp
theorem l8Family_rc (m : Mem) (v : Value) (L : List It) (h : ItemsA m v L) : RC Try.prog 42 [v] m (AnsV (.bool (famB L))) := by
  refine rc_of_run mixed ok_spec_l8Family (by simp) (go_start _ _ _ ?_)
  have hA := h.ro
  have hbd := hA.1
  simp (config := {implicitDefEqProofs := false, maxDischargeDepth := 20}) (disch := first | omega | (simp only [lenE]; done) | (simp only [lenE]; omega) | rfl | (simp only [lenE, markR_len]; done) | (simp only [lenE, markR_len]; omega)) only [runE, mapE, listE, initT_5, initT_6, initT_7, initT_8, resV, oneV, binA, unA, reduceCtorEq, Nat.reduceEqDiff, Nat.reduceAdd, Nat.reduceLT, Nat.reduceLeDiff, Nat.reduceMul, Nat.reduceSub, ↓reduceIte, decide_true, decide_false, Bool.true_eq_false, Bool.false_eq_true, Bool.not_true, Bool.not_false, if_true, if_false, and_true, true_and, memE, celE, w64, Nat.zero_add, Nat.add_zero, Nat.mul_one, putL, and_self, ldn, c_spec_l8Family, r_spec_l8Family]
  refine loop_inv mixed (fun s => ∃ (k : Nat) (M : Mem), k ≤ L.length ∧ (L.take k).all (·.good) = true ∧ s.m = M ∧ Ext m M ∧ s.t 0 = v ∧ s.t 3 = .int .i64 (k : Int)) (fun s => L.length - (intOf (s.t 3)).toNat)
    ⟨0, _, by omega, rfl, rfl, Ext.refl m, rfl, rfl⟩ ?_
  rintro s ⟨k, M, hk, hall, tm, hX, t0, t3⟩
  have hM := (Sees.ext hX).items h
  have hl := hM.len
  by_cases hkl : k < L.length
  · have hlt : (k : Int) < L.length := by omega
    have i1 := hM.at_ hkl
    have i2 := hM.ld hkl
    simp (config := {implicitDefEqProofs := false, maxDischargeDepth := 20}) (disch := first | omega | (simp only [lenE]; done) | (simp only [lenE]; omega) | rfl | (simp only [lenE, markR_len]; done) | (simp only [lenE, markR_len]; omega)) only [runE, mapE, listE, initT_5, initT_6, initT_7, initT_8, resV, oneV, binA, unA, reduceCtorEq, Nat.reduceEqDiff, Nat.reduceAdd, Nat.reduceLT, Nat.reduceLeDiff, Nat.reduceMul, Nat.reduceSub, ↓reduceIte, decide_true, decide_false, Bool.true_eq_false, Bool.false_eq_true, Bool.not_true, Bool.not_false, if_true, if_false, and_true, true_and, memE, celE, w64, Nat.zero_add, Nat.add_zero, Nat.mul_one, putL, and_self, ldn, tm, t0, t3, hl, hlt, i1, i2]
    refine callH_rc (l8Item_rc _ _) ?_
    rintro r new ⟨rfl, nrn⟩
    have hs := famB_step hkl
    rw [hall, Bool.true_and] at hs
    cases hg : (L.getD k It0).good with
    | true =>
      rw [hg] at hs
      simp (config := {implicitDefEqProofs := false, maxDischargeDepth := 20}) (disch := first | omega | (simp only [lenE]; done) | (simp only [lenE]; omega) | rfl | (simp only [lenE, markR_len]; done) | (simp only [lenE, markR_len]; omega)) only [runE, mapE, listE, initT_5, initT_6, initT_7, initT_8, resV, oneV, binA, unA, reduceCtorEq, Nat.reduceEqDiff, Nat.reduceAdd, Nat.reduceLT, Nat.reduceLeDiff, Nat.reduceMul, Nat.reduceSub, ↓reduceIte, decide_true, decide_false, Bool.true_eq_false, Bool.false_eq_true, Bool.not_true, Bool.not_false, if_true, if_false, and_true, true_and, memE, celE, w64, Nat.zero_add, Nat.add_zero, Nat.mul_one, putL, and_self, ldn, tm, t0, t3]
      refine ⟨⟨k + 1, _, by omega, hs, rfl, hX.app nrn, by simp⟩, ?_⟩
      simp [intOf]; omega
    | false =>
      simp (config := {implicitDefEqProofs := false, maxDischargeDepth := 20}) (disch := first | omega | (simp only [lenE]; done) | (simp only [lenE]; omega) | rfl | (simp only [lenE, markR_len]; done) | (simp only [lenE, markR_len]; omega)) only [runE, mapE, listE, initT_5, initT_6, initT_7, initT_8, resV, oneV, binA, unA, reduceCtorEq, Nat.reduceEqDiff, Nat.reduceAdd, Nat.reduceLT, Nat.reduceLeDiff, Nat.reduceMul, Nat.reduceSub, ↓reduceIte, decide_true, decide_false, Bool.true_eq_false, Bool.false_eq_true, Bool.not_true, Bool.not_false, if_true, if_false, and_true, true_and, memE, celE, w64, Nat.zero_add, Nat.add_zero, Nat.mul_one, putL, and_self, ldn, tm, t0, t3]
      refine ext_ansV (hX.app nrn) ?_
      have : L.all (·.good) = false := by
        cases ha : L.all (·.good) with
        | false => rfl
        | true =>
          have := List.all_eq_true.1 ha (L.getD k It0) (by rw [List.getD_eq_getElem?_getD, List.getElem?_eq_getElem hkl]; exact List.getElem_mem hkl)
          rw [hg] at this; cases this
      simp [famB, this]
  · have hlt : ¬ ((k : Int) < L.length) := by omega
    have e : k = L.length := by omega
    subst e
    rw [List.take_length] at hall
    simp (config := {implicitDefEqProofs := false, maxDischargeDepth := 20}) (disch := first | omega | (simp only [lenE]; done) | (simp only [lenE]; omega) | rfl | (simp only [lenE, markR_len]; done) | (simp only [lenE, markR_len]; omega)) only [runE, mapE, listE, initT_5, initT_6, initT_7, initT_8, resV, oneV, binA, unA, reduceCtorEq, Nat.reduceEqDiff, Nat.reduceAdd, Nat.reduceLT, Nat.reduceLeDiff, Nat.reduceMul, Nat.reduceSub, ↓reduceIte, decide_true, decide_false, Bool.true_eq_false, Bool.false_eq_true, Bool.not_true, Bool.not_false, if_true, if_false, and_true, true_and, memE, celE, w64, Nat.zero_add, Nat.add_zero, Nat.mul_one, putL, and_self, ldn, tm, t0, t3, hl, hlt]
    refine callH_rc (l1In_rc _ _ _ _) ?_
    rintro r new ⟨rfl, rfl⟩
    rw [List.append_nil]
    simp (config := {implicitDefEqProofs := false, maxDischargeDepth := 20}) (disch := first | omega | (simp only [lenE]; done) | (simp only [lenE]; omega) | rfl | (simp only [lenE, markR_len]; done) | (simp only [lenE, markR_len]; omega)) only [runE, mapE, listE, initT_5, initT_6, initT_7, initT_8, resV, oneV, binA, unA, reduceCtorEq, Nat.reduceEqDiff, Nat.reduceAdd, Nat.reduceLT, Nat.reduceLeDiff, Nat.reduceMul, Nat.reduceSub, ↓reduceIte, decide_true, decide_false, Bool.true_eq_false, Bool.false_eq_true, Bool.not_true, Bool.not_false, if_true, if_false, and_true, true_and, memE, celE, w64, Nat.zero_add, Nat.add_zero, Nat.mul_one, putL, and_self, ldn]
    refine ext_ansV hX ?_
    have e1 : decide ((1 : Int) ≤ (L.length : Int)) = decide (1 ≤ L.length) := by congr 1; apply propext; omega
    have e2 : decide ((L.length : Int) ≤ 4) = decide (L.length ≤ 4) := by congr 1; apply propext; omega
    unfold famB
    rw [hall, Bool.true_and, e1, e2]
theorem badItem_rc (m : Mem) (x : It) : RC Try.prog 56 [itV x] m (AnsV (.bool (!x.good))) := by
  refine rc_of_run mixed ok_impl_isFamily_1 (by simp) (go_start _ _ _ ?_)
  simp (config := {implicitDefEqProofs := false, maxDischargeDepth := 20}) (disch := first | omega | (simp only [lenE]; done) | (simp only [lenE]; omega) | rfl | (simp only [lenE, markR_len]; done) | (simp only [lenE, markR_len]; omega)) only [runE, mapE, listE, initT_5, initT_6, initT_7, initT_8, resV, oneV, binA, unA, reduceCtorEq, Nat.reduceEqDiff, Nat.reduceAdd, Nat.reduceLT, Nat.reduceLeDiff, Nat.reduceMul, Nat.reduceSub, ↓reduceIte, decide_true, decide_false, Bool.true_eq_false, Bool.false_eq_true, Bool.not_true, Bool.not_false, if_true, if_false, and_true, true_and, memE, celE, w64, Nat.zero_add, Nat.add_zero, Nat.mul_one, putL, and_self, ldn, c_impl_isFamily_1, r_impl_isFamily_1, itV]
  obtain ⟨E, hE⟩ : ∃ M, M = roM m ++ [⟨.own, 25, [.int .i64 x.daily, .int .i64 x.setup, .int .i64 x.hold, .int .i64 x.made, .int .i64 x.pause]⟩] := ⟨_, rfl⟩
  rw [← hE]
  have hX : Ext m E := by rw [hE]; exact (Ext.refl m).one _ _
  clear hE
  refine callH_rc (isItem_rc _ x) ?_
  rintro r new ⟨rfl, nrn⟩
  simp (config := {implicitDefEqProofs := false, maxDischargeDepth := 20}) (disch := first | omega | (simp only [lenE]; done) | (simp only [lenE]; omega) | rfl | (simp only [lenE, markR_len]; done) | (simp only [lenE, markR_len]; omega)) only [runE, mapE, listE, initT_5, initT_6, initT_7, initT_8, resV, oneV, binA, unA, reduceCtorEq, Nat.reduceEqDiff, Nat.reduceAdd, Nat.reduceLT, Nat.reduceLeDiff, Nat.reduceMul, Nat.reduceSub, ↓reduceIte, decide_true, decide_false, Bool.true_eq_false, Bool.false_eq_true, Bool.not_true, Bool.not_false, if_true, if_false, and_true, true_and, memE, celE, w64, Nat.zero_add, Nat.add_zero, Nat.mul_one, putL, and_self, ldn]
  exact ext_ansV (hX.app nrn) rfl
theorem indexItem_rc (m : Mem) (v : Value) (L : List It) (h : ItemsA m v L) :
    RC Try.prog 68 [v, .func (.func 56) #[] #[]] m fun r new => (∃ z : Int, r = .int .i64 z ∧ (decide (0 ≤ z) = !L.all (·.good))) ∧ NoRo new := by
  refine rc_of_run mixed ok_slices_IndexFunc_Item (by simp) (go_start _ _ _ ?_)
  have hA := h.ro
  have hbd := hA.1
  have hl := hA.len
  simp (config := {implicitDefEqProofs := false, maxDischargeDepth := 20}) (disch := first | omega | (simp only [lenE]; done) | (simp only [lenE]; omega) | rfl | (simp only [lenE, markR_len]; done) | (simp only [lenE, markR_len]; omega)) only [runE, mapE, listE, initT_5, initT_6, initT_7, initT_8, resV, oneV, binA, unA, reduceCtorEq, Nat.reduceEqDiff, Nat.reduceAdd, Nat.reduceLT, Nat.reduceLeDiff, Nat.reduceMul, Nat.reduceSub, ↓reduceIte, decide_true, decide_false, Bool.true_eq_false, Bool.false_eq_true, Bool.not_true, Bool.not_false, if_true, if_false, and_true, true_and, memE, celE, w64, Nat.zero_add, Nat.add_zero, Nat.mul_one, putL, and_self, ldn, c_slices_IndexFunc_Item, r_slices_IndexFunc_Item, hl]
  refine loop_inv mixed (fun s => ∃ (k : Nat) (M : Mem), k ≤ L.length ∧ (L.take k).all (·.good) = true ∧ s.m = M ∧ Ext m M ∧ s.t 0 = v ∧ s.t 1 = .func (.func 56) #[] #[] ∧ s.t 7 = .int .i64 (L.length : Int) ∧ s.t 8 = .int .i64 (k : Int)) (fun s => L.length - (intOf (s.t 8)).toNat)
    ⟨0, _, by omega, rfl, rfl, Ext.refl m, rfl, rfl, rfl, rfl⟩ ?_
  rintro s ⟨k, M, hk, hall, tm, hX, t0, t1, t7, t8⟩
  have hM := (Sees.ext hX).items h
  by_cases hkl : k < L.length
  · have hlt : (k : Int) < L.length := by omega
    have i1 := hM.at_ hkl
    have i2 := hM.ld hkl
    simp (config := {implicitDefEqProofs := false, maxDischargeDepth := 20}) (disch := first | omega | (simp only [lenE]; done) | (simp only [lenE]; omega) | rfl | (simp only [lenE, markR_len]; done) | (simp only [lenE, markR_len]; omega)) only [runE, mapE, listE, initT_5, initT_6, initT_7, initT_8, resV, oneV, binA, unA, reduceCtorEq, Nat.reduceEqDiff, Nat.reduceAdd, Nat.reduceLT, Nat.reduceLeDiff, Nat.reduceMul, Nat.reduceSub, ↓reduceIte, decide_true, decide_false, Bool.true_eq_false, Bool.false_eq_true, Bool.not_true, Bool.not_false, if_true, if_false, and_true, true_and, memE, celE, w64, Nat.zero_add, Nat.add_zero, Nat.mul_one, putL, and_self, ldn, tm, t0, t1, t7, t8, hlt, i1, i2]
    refine callH_rc (badItem_rc _ _) ?_
    rintro r new ⟨rfl, nrn⟩
    have hs := famB_step hkl
    rw [hall, Bool.true_and] at hs
    cases hg : (L.getD k It0).good with
    | true =>
      rw [hg] at hs
      simp (config := {implicitDefEqProofs := false, maxDischargeDepth := 20}) (disch := first | omega | (simp only [lenE]; done) | (simp only [lenE]; omega) | rfl | (simp only [lenE, markR_len]; done) | (simp only [lenE, markR_len]; omega)) only [runE, mapE, listE, initT_5, initT_6, initT_7, initT_8, resV, oneV, binA, unA, reduceCtorEq, Nat.reduceEqDiff, Nat.reduceAdd, Nat.reduceLT, Nat.reduceLeDiff, Nat.reduceMul, Nat.reduceSub, ↓reduceIte, decide_true, decide_false, Bool.true_eq_false, Bool.false_eq_true, Bool.not_true, Bool.not_false, if_true, if_false, and_true, true_and, memE, celE, w64, Nat.zero_add, Nat.add_zero, Nat.mul_one, putL, and_self, ldn, tm, t0, t1, t7, t8]
      refine ⟨⟨k + 1, _, by omega, hs, rfl, hX.app nrn, by simp⟩, ?_⟩
      simp [intOf]; omega
    | false =>
      have : L.all (·.good) = false := by
        cases ha : L.all (·.good) with
        | false => rfl
        | true =>
          have := List.all_eq_true.1 ha (L.getD k It0) (by rw [List.getD_eq_getElem?_getD, List.getElem?_eq_getElem hkl]; exact List.getElem_mem hkl)
          rw [hg] at this; cases this
      simp (config := {implicitDefEqProofs := false, maxDischargeDepth := 20}) (disch := first | omega | (simp only [lenE]; done) | (simp only [lenE]; omega) | rfl | (simp only [lenE, markR_len]; done) | (simp only [lenE, markR_len]; omega)) only [runE, mapE, listE, initT_5, initT_6, initT_7, initT_8, resV, oneV, binA, unA, reduceCtorEq, Nat.reduceEqDiff, Nat.reduceAdd, Nat.reduceLT, Nat.reduceLeDiff, Nat.reduceMul, Nat.reduceSub, ↓reduceIte, decide_true, decide_false, Bool.true_eq_false, Bool.false_eq_true, Bool.not_true, Bool.not_false, if_true, if_false, and_true, true_and, memE, celE, w64, Nat.zero_add, Nat.add_zero, Nat.mul_one, putL, and_self, ldn, tm, t0, t1, t7, t8]
      obtain ⟨n0, e0, h0⟩ := hX.app nrn
      exact ⟨n0, e0, h0, ⟨_, rfl, by rw [this]; exact decide_eq_true (by omega)⟩, h0⟩
  · have hlt : ¬ ((k : Int) < L.length) := by omega
    have e : k = L.length := by omega
    subst e
    rw [List.take_length] at hall
    simp (config := {implicitDefEqProofs := false, maxDischargeDepth := 20}) (disch := first | omega | (simp only [lenE]; done) | (simp only [lenE]; omega) | rfl | (simp only [lenE, markR_len]; done) | (simp only [lenE, markR_len]; omega)) only [runE, mapE, listE, initT_5, initT_6, initT_7, initT_8, resV, oneV, binA, unA, reduceCtorEq, Nat.reduceEqDiff, Nat.reduceAdd, Nat.reduceLT, Nat.reduceLeDiff, Nat.reduceMul, Nat.reduceSub, ↓reduceIte, decide_true, decide_false, Bool.true_eq_false, Bool.false_eq_true, Bool.not_true, Bool.not_false, if_true, if_false, and_true, true_and, memE, celE, w64, Nat.zero_add, Nat.add_zero, Nat.mul_one, putL, and_self, ldn, tm, t0, t1, t7, t8, hlt]
    obtain ⟨n0, rfl, h0⟩ := hX
    exact ⟨n0, rfl, h0, ⟨_, rfl, by rw [hall]; rfl⟩, h0⟩
theorem isFamily_rc (m : Mem) (v : Value) (L : List It) (h : ItemsA m v L) : RC Try.prog 37 [v] m (AnsV (.bool (famB L))) := by
  refine rc_of_run mixed ok_impl_isFamily (by simp) (go_start _ _ _ ?_)
  have hA := h.ro
  have hl := hA.len
  simp (config := {implicitDefEqProofs := false, maxDischargeDepth := 20}) (disch := first | omega | (simp only [lenE]; done) | (simp only [lenE]; omega) | rfl | (simp only [lenE, markR_len]; done) | (simp only [lenE, markR_len]; omega)) only [runE, mapE, listE, initT_5, initT_6, initT_7, initT_8, resV, oneV, binA, unA, reduceCtorEq, Nat.reduceEqDiff, Nat.reduceAdd, Nat.reduceLT, Nat.reduceLeDiff, Nat.reduceMul, Nat.reduceSub, ↓reduceIte, decide_true, decide_false, Bool.true_eq_false, Bool.false_eq_true, Bool.not_true, Bool.not_false, if_true, if_false, and_true, true_and, memE, celE, w64, Nat.zero_add, Nat.add_zero, Nat.mul_one, putL, and_self, ldn, c_impl_isFamily, r_impl_isFamily, hl]
  refine callH_rc (isCount_rc _ _ _) ?_
  rintro r new ⟨rfl, rfl⟩
  rw [List.append_nil]
  have e1 : decide ((1 : Int) ≤ (L.length : Int)) = decide (1 ≤ L.length) := by congr 1; apply propext; omega
  have e2 : decide ((L.length : Int) ≤ 4) = decide (L.length ≤ 4) := by congr 1; apply propext; omega
  cases hc : inR 1 4 (L.length : Int) with
  | false =>
    simp (config := {implicitDefEqProofs := false, maxDischargeDepth := 20}) (disch := first | omega | (simp only [lenE]; done) | (simp only [lenE]; omega) | rfl | (simp only [lenE, markR_len]; done) | (simp only [lenE, markR_len]; omega)) only [runE, mapE, listE, initT_5, initT_6, initT_7, initT_8, resV, oneV, binA, unA, reduceCtorEq, Nat.reduceEqDiff, Nat.reduceAdd, Nat.reduceLT, Nat.reduceLeDiff, Nat.reduceMul, Nat.reduceSub, ↓reduceIte, decide_true, decide_false, Bool.true_eq_false, Bool.false_eq_true, Bool.not_true, Bool.not_false, if_true, if_false, and_true, true_and, memE, celE, w64, Nat.zero_add, Nat.add_zero, Nat.mul_one, putL, and_self, ldn]
    refine ext_ansV (Ext.refl m) ?_
    unfold inR at hc
    rw [e1, e2] at hc
    unfold famB
    rw [Bool.and_assoc, hc, Bool.and_false]
  | true =>
  simp (config := {implicitDefEqProofs := false, maxDischargeDepth := 20}) (disch := first | omega | (simp only [lenE]; done) | (simp only [lenE]; omega) | rfl | (simp only [lenE, markR_len]; done) | (simp only [lenE, markR_len]; omega)) only [runE, mapE, listE, initT_5, initT_6, initT_7, initT_8, resV, oneV, binA, unA, reduceCtorEq, Nat.reduceEqDiff, Nat.reduceAdd, Nat.reduceLT, Nat.reduceLeDiff, Nat.reduceMul, Nat.reduceSub, ↓reduceIte, decide_true, decide_false, Bool.true_eq_false, Bool.false_eq_true, Bool.not_true, Bool.not_false, if_true, if_false, and_true, true_and, memE, celE, w64, Nat.zero_add, Nat.add_zero, Nat.mul_one, putL, and_self, ldn, hl]
  refine callH_rc (?_ : RC Try.prog 57 [v, .func (.func 56) #[] #[]] (roM m) (AnsV (.bool (!L.all (·.good))))) ?_
  · refine rc_of_run mixed ok_slices_ContainsFunc_Item (by simp) (go_start _ _ _ ?_)
    simp (config := {implicitDefEqProofs := false, maxDischargeDepth := 20}) (disch := first | omega | (simp only [lenE]; done) | (simp only [lenE]; omega) | rfl | (simp only [lenE, markR_len]; done) | (simp only [lenE, markR_len]; omega)) only [runE, mapE, listE, initT_5, initT_6, initT_7, initT_8, resV, oneV, binA, unA, reduceCtorEq, Nat.reduceEqDiff, Nat.reduceAdd, Nat.reduceLT, Nat.reduceLeDiff, Nat.reduceMul, Nat.reduceSub, ↓reduceIte, decide_true, decide_false, Bool.true_eq_false, Bool.false_eq_true, Bool.not_true, Bool.not_false, if_true, if_false, and_true, true_and, memE, celE, w64, Nat.zero_add, Nat.add_zero, Nat.mul_one, putL, and_self, ldn, c_slices_ContainsFunc_Item, r_slices_ContainsFunc_Item]
    refine callH_rc (indexItem_rc _ v L hA.ro) ?_
    rintro r new ⟨⟨z, rfl, hz⟩, nrn⟩
    simp (config := {implicitDefEqProofs := false, maxDischargeDepth := 20}) (disch := first | omega | (simp only [lenE]; done) | (simp only [lenE]; omega) | rfl | (simp only [lenE, markR_len]; done) | (simp only [lenE, markR_len]; omega)) only [runE, mapE, listE, initT_5, initT_6, initT_7, initT_8, resV, oneV, binA, unA, reduceCtorEq, Nat.reduceEqDiff, Nat.reduceAdd, Nat.reduceLT, Nat.reduceLeDiff, Nat.reduceMul, Nat.reduceSub, ↓reduceIte, decide_true, decide_false, Bool.true_eq_false, Bool.false_eq_true, Bool.not_true, Bool.not_false, if_true, if_false, and_true, true_and, memE, celE, w64, Nat.zero_add, Nat.add_zero, Nat.mul_one, putL, and_self, ldn, hz, ge_iff_le]
    exact ext_ansV ((Ext.refl _).app nrn) rfl
  rintro r new ⟨rfl, nrn⟩
  simp (config := {implicitDefEqProofs := false, maxDischargeDepth := 20}) (disch := first | omega | (simp only [lenE]; done) | (simp only [lenE]; omega) | rfl | (simp only [lenE, markR_len]; done) | (simp only [lenE, markR_len]; omega)) only [runE, mapE, listE, initT_5, initT_6, initT_7, initT_8, resV, oneV, binA, unA, reduceCtorEq, Nat.reduceEqDiff, Nat.reduceAdd, Nat.reduceLT, Nat.reduceLeDiff, Nat.reduceMul, Nat.reduceSub, ↓reduceIte, decide_true, decide_false, Bool.true_eq_false, Bool.false_eq_true, Bool.not_true, Bool.not_false, if_true, if_false, and_true, true_and, memE, celE, w64, Nat.zero_add, Nat.add_zero, Nat.mul_one, putL, and_self, ldn]
  refine ext_ansV ((Ext.refl m).app nrn) ?_
  unfold inR at hc
  rw [e1, e2] at hc
  unfold famB
  rw [Bool.and_assoc, hc, Bool.and_true, Bool.not_not]
end Go.Proofs.Ytbjjkcoecaopcaa.Ab
end
section
namespace Go.Proofs.Ytbjjkcoecaopcaa
set_option linter.unusedVariables false
theorem addF_r {p : Int × Int} {c d : Int} (h1 : 0 ≤ p.1) (h2 : 0 < p.2) (hc : 0 ≤ c) (hd : 0 < d) : addF p (fr c d) = fr (p.1 * d + c * p.2) (p.2 * d) := by
  have e := fr_cross hc hd
  have n := fr_nn hc hd
  have k := fr_pos hc hd
  unfold addF
  generalize fr c d = q at *
  refine fr_eq (Int.add_nonneg (Int.mul_nonneg h1 (by omega)) (Int.mul_nonneg n (by omega))) (Int.mul_pos h2 k) (Int.add_nonneg (Int.mul_nonneg h1 (by omega)) (Int.mul_nonneg hc (by omega))) (Int.mul_pos h2 hd) ?_
  grind
theorem fr_one {c : Int} (hc : 0 ≤ c) : fr c 1 = (c, 1) := by
  have h := fr_spec hc (b := 1) (by decide)
  have e2 : (fr c 1).2 = 1 := by omega
  have e1 : (fr c 1).1 = c := by
    have := h.2.2.1
    rw [e2] at this
    omega
  exact Prod.ext e1 e2
theorem add_two {p : Int × Int} {a b m : Int} (h1 : 0 ≤ p.1) (h2 : 0 < p.2) (ha : 0 ≤ a) (hb : 0 ≤ b) (hm : 0 < m) : addF (addF p (fr a 1)) (fr b m) = addF p (fr (a * m + b) m) := by
  have i1 := Int.mul_nonneg h1 (by decide : (0 : Int) ≤ 1)
  have i2 := Int.mul_nonneg ha (Int.le_of_lt h2)
  have i3 := Int.mul_nonneg ha (Int.le_of_lt hm)
  have i4 := Int.mul_pos h2 (by decide : (0 : Int) < 1)
  rw [addF_r h1 h2 ha (by decide), addF_fr (by omega) i4 hb hm, addF_r h1 h2 (by omega) hm]
  refine congr (congrArg _ ?_) ?_ <;> grind

def prodM (L : List It) : Nat → Int
  | 0 => 1
  | n + 1 => prodM L n * (L.getD n It0).made
def takenTo (L : List It) (c : Int) : Nat → Int × Int
  | 0 => (0, 1)
  | n + 1 => addF (takenTo L c n) (fr ((L.getD n It0).pause * (L.getD n It0).made + (L.getD n It0).daily * c) (L.getD n It0).made)
def sharedTo (L : List It) (c : Int) : Nat → Int × Int
  | 0 => (0, 1)
  | n + 1 => addF (addF (sharedTo L c n) (fr (L.getD n It0).setup c)) (fr ((L.getD n It0).hold * (L.getD n It0).daily * ((L.getD n It0).made - (L.getD n It0).daily) * c) (2 * (L.getD n It0).made))
def growTo (L : List It) : Nat → Int × Int
  | 0 => (0, 1)
  | n + 1 => addF (growTo L n) (fr ((L.getD n It0).hold * (L.getD n It0).daily * ((L.getD n It0).made - (L.getD n It0).daily)) (2 * (L.getD n It0).made))
def setupTo (L : List It) : Nat → Int
  | 0 => 0
  | n + 1 => setupTo L n + (L.getD n It0).setup
theorem GoodF.at_ {L : List It} (h : GoodF L) {k : Nat} (hk : k < L.length) : GoodI (L.getD k It0) := h.all k hk
theorem prodM_pos {L : List It} (h : GoodF L) (n : Nat) (hn : n ≤ L.length) : 1 ≤ prodM L n := by
  induction n with
  | zero => simp [prodM]
  | succ n ih =>
    have g := h.at_ (k := n) (by omega)
    have := ih (by omega)
    have e := Int.mul_le_mul this (show (1 : Int) ≤ (L.getD n It0).made by have := g.made; have := g.daily; omega) (by decide) (by omega)
    simpa [prodM] using e
theorem prodM_le {L : List It} (h : GoodF L) (n : Nat) (hn : n ≤ L.length) : prodM L n ≤ 40 ^ n := by
  induction n with
  | zero => simp [prodM]
  | succ n ih =>
    have g := h.at_ (k := n) (by omega)
    have := ih (by omega)
    have p := prodM_pos h n (by omega)
    have e := Int.mul_le_mul this g.made.2 (by have := g.made; have := g.daily; omega) (Int.pow_nonneg (by decide))
    simpa [prodM, Int.pow_succ] using e
theorem prodM_bd {L : List It} (h : GoodF L) (n : Nat) (hn : n ≤ L.length) : 1 ≤ prodM L n ∧ prodM L n ≤ 2560000 := by
  have hl := h.len
  have h1 := prodM_pos h n hn
  have h2 := prodM_le h n hn
  have : n = 0 ∨ n = 1 ∨ n = 2 ∨ n = 3 ∨ n = 4 := by omega
  have p0 : (40 : Int) ^ 0 = 1 := by decide
  have p1 : (40 : Int) ^ 1 = 40 := by decide
  have p2 : (40 : Int) ^ 2 = 1600 := by decide
  have p3 : (40 : Int) ^ 3 = 64000 := by decide
  have p4 : (40 : Int) ^ 4 = 2560000 := by decide
  rcases this with rfl | rfl | rfl | rfl | rfl <;> omega
theorem made_dvd (L : List It) (k n : Nat) (hk : k < n) : (L.getD k It0).made ∣ prodM L n := by
  induction n with
  | zero => omega
  | succ n ih =>
    by_cases e : k = n
    · subst e; exact ⟨prodM L k, by simp [prodM, Int.mul_comm]⟩
    · exact Int.dvd_trans (ih (by omega)) ⟨(L.getD n It0).made, rfl⟩
theorem GoodI.hdm {x : It} (h : GoodI x) : 0 ≤ x.hold * x.daily * (x.made - x.daily) ∧ x.hold * x.daily * (x.made - x.daily) ≤ 7020 ∧ x.hold * x.daily * (x.made - x.daily) ≤ 180 * x.made := by
  have h0 := h.hd
  have h1 := h.made
  have h2 := h.daily
  have m1 := mul_le2 (a := x.hold * x.daily) (x := x.made - x.daily) (A := 180) (B := 39) (by omega) (by omega)
  have m2 := mul_le2 (a := x.hold * x.daily) (x := x.made - x.daily) (A := 180) (B := x.made) (by omega) (by omega)
  omega
theorem taken_part {x : It} (h : GoodI x) {c : Int} (hc : 1 ≤ c ∧ c ≤ 400) : 0 ≤ x.pause * x.made ∧ x.pause * x.made ≤ 360 ∧ 0 ≤ x.daily * c ∧ x.daily * c ≤ 8000 ∧ x.pause * x.made + x.daily * c ≤ 409 * x.made := by
  have h1 := h.made
  have h2 := h.daily
  have h3 := h.pause
  have m1 := mul_le2 (a := x.pause) (x := x.made) (A := 9) (B := 40) (by omega) (by omega)
  have m2 := mul_le2 (a := x.daily) (x := c) (A := 20) (B := 400) (by omega) (by omega)
  have m3 := mul_le2 (a := x.pause) (x := x.made) (A := 9) (B := x.made) (by omega) (by omega)
  have m4 := mul_le2 (a := x.daily) (x := c) (A := x.made) (B := 400) (by omega) (by omega)
  omega
theorem taken_bd {L : List It} (h : GoodF L) {c : Int} (hc : 1 ≤ c ∧ c ≤ 400) (n : Nat) (hn : n ≤ L.length) : Bd (prodM L L.length) (409 * n) (takenTo L c n) := by
  have hD := (prodM_bd h L.length (Nat.le_refl _)).1
  induction n with
  | zero => exact Bd.zero
  | succ n ih =>
    have g := h.at_ (k := n) (by omega)
    have t := taken_part g hc
    have hm := g.made
    have hd := g.daily
    refine (Bd.add (by omega) (ih (by omega)) (Bd.fr (V := 409) (by omega) (by omega) (made_dvd L n L.length (by omega)) (by omega))).mono ?_
    push_cast; omega
theorem shared_bd {L : List It} (h : GoodF L) {c : Int} (hc : 1 ≤ c ∧ c ≤ 400) (n : Nat) (hn : n ≤ L.length) : Bd (2 * c * prodM L L.length) (36099 * n) (sharedTo L c n) ∧ (n < L.length → Bd (2 * c * prodM L L.length) (36099 * n + 99) (addF (sharedTo L c n) (fr (L.getD n It0).setup c))) := by
  have hD := (prodM_bd h L.length (Nat.le_refl _)).1
  have hDp : 0 < 2 * c * prodM L L.length := Int.mul_pos (by omega) (by omega)
  have key : ∀ n, n < L.length → Bd (2 * c * prodM L L.length) 99 (fr (L.getD n It0).setup c) := fun n hn => by
    have g := (h.at_ hn).setup
    refine Bd.fr (by omega) (by omega) ⟨2 * prodM L L.length, by grind⟩ ?_
    have := mul_le2 (a := (99 : Int)) (x := c) (A := 99) (B := c) (by omega) (by omega)
    omega
  induction n with
  | zero => exact ⟨Bd.zero, fun hn => ((Bd.add hDp Bd.zero (key 0 hn)).mono (by omega))⟩
  | succ n ih =>
    have g := h.at_ (k := n) (by omega)
    have hm := g.made
    have hd := g.daily
    have hh := g.hdm
    have e : Bd (2 * c * prodM L L.length) 36000 (fr ((L.getD n It0).hold * (L.getD n It0).daily * ((L.getD n It0).made - (L.getD n It0).daily) * c) (2 * (L.getD n It0).made)) := by
      obtain ⟨q, hq⟩ := made_dvd L n L.length (by omega)
      refine Bd.fr (Int.mul_nonneg hh.1 (by omega)) (by omega) ⟨c * q, by rw [hq]; grind⟩ ?_
      have := mul_le2 (a := (L.getD n It0).hold * (L.getD n It0).daily * ((L.getD n It0).made - (L.getD n It0).daily)) (x := c) (A := 180 * (L.getD n It0).made) (B := 400) (by omega) (by omega)
      omega
    have s := (Bd.add hDp ((ih (by omega)).2 (by omega)) e).mono (U := 36099 * ((n + 1 : Nat) : Int)) (by push_cast; omega)
    exact ⟨s, fun hn => (Bd.add hDp s (key (n + 1) hn))⟩
theorem grow_bd {L : List It} (h : GoodF L) (n : Nat) (hn : n ≤ L.length) : Bd (2 * prodM L L.length) (90 * n) (growTo L n) := by
  have hD := (prodM_bd h L.length (Nat.le_refl _)).1
  induction n with
  | zero => exact Bd.zero
  | succ n ih =>
    have g := h.at_ (k := n) (by omega)
    have hm := g.made
    have hd := g.daily
    have hh := g.hdm
    obtain ⟨q, hq⟩ := made_dvd L n L.length (by omega)
    refine (Bd.add (by omega) (ih (by omega)) (Bd.fr (V := 90) hh.1 (by omega) ⟨q, by rw [hq]; grind⟩ (by omega))).mono ?_
    push_cast; omega
def pausTo (L : List It) : Nat → Int
  | 0 => 0
  | n + 1 => pausTo L n * (L.getD n It0).made + (L.getD n It0).pause * (L.getD n It0).made * prodM L n
def rateTo (L : List It) : Nat → Int
  | 0 => 0
  | n + 1 => rateTo L n * (L.getD n It0).made + (L.getD n It0).daily * prodM L n
theorem sums_nn {L : List It} (h : GoodF L) (n : Nat) (hn : n ≤ L.length) : 0 ≤ pausTo L n ∧ 0 ≤ rateTo L n := by
  induction n with
  | zero => exact ⟨by simp [pausTo], by simp [rateTo]⟩
  | succ n ih =>
    have g := h.at_ (k := n) (by omega)
    have hm := g.made
    have hd := g.daily
    have hp := g.pause
    have p := prodM_pos h n (by omega)
    have i := ih (by omega)
    exact ⟨Int.add_nonneg (Int.mul_nonneg i.1 (by omega)) (Int.mul_nonneg (Int.mul_nonneg (by omega) (by omega)) (by omega)), Int.add_nonneg (Int.mul_nonneg i.2 (by omega)) (Int.mul_nonneg (by omega) (by omega))⟩
theorem taken_form {L : List It} (h : GoodF L) {c : Int} (hc : 1 ≤ c ∧ c ≤ 400) (n : Nat) (hn : n ≤ L.length) : takenTo L c n = fr (pausTo L n + rateTo L n * c) (prodM L n) := by
  induction n with
  | zero => simp [takenTo, pausTo, rateTo, prodM, fr_zero]
  | succ n ih =>
    have g := h.at_ (k := n) (by omega)
    have hm := g.made
    have hd := g.daily
    have p := prodM_pos h n (by omega)
    have s := sums_nn h n (by omega)
    have t := taken_part g hc
    have r0 := Int.mul_nonneg s.2 (show (0 : Int) ≤ c by omega)
    rw [takenTo, ih (by omega), addF_fr (by omega) (by omega) (by omega) (by omega), pausTo, rateTo, prodM]
    refine congr (congrArg _ ?_) ?_ <;> grind
def fitsB (L : List It) (c : Int) : Bool := decide ((takenTo L c L.length).1 ≤ c * (takenTo L c L.length).2)
theorem fits_form {L : List It} (h : GoodF L) {c : Int} (hc : 1 ≤ c ∧ c ≤ 400) : fitsB L c = true ↔ pausTo L L.length + rateTo L L.length * c ≤ c * prodM L L.length := by
  have p := prodM_pos h L.length (Nat.le_refl _)
  have s := sums_nn h L.length (Nat.le_refl _)
  have r0 := Int.mul_nonneg s.2 (show (0 : Int) ≤ c by omega)
  unfold fitsB
  rw [taken_form h hc L.length (Nat.le_refl _), decide_eq_true_eq]
  have e := fr_cross (a := pausTo L L.length + rateTo L L.length * c) (b := prodM L L.length) (by omega) (by omega)
  have k := fr_pos (a := pausTo L L.length + rateTo L L.length * c) (b := prodM L L.length) (by omega) (by omega)
  generalize fr (pausTo L L.length + rateTo L L.length * c) (prodM L L.length) = q at *
  generalize pausTo L L.length + rateTo L L.length * c = A at *
  generalize prodM L L.length = D at *
  constructor
  · intro hle
    have := Int.mul_le_mul_of_nonneg_right hle (show (0 : Int) ≤ D by omega)
    rw [e] at this
    have e2 : c * q.2 * D = (c * D) * q.2 := by grind
    rw [e2] at this
    exact Int.le_of_mul_le_mul_right this k
  · intro hle
    have := Int.mul_le_mul_of_nonneg_right hle (Int.le_of_lt k)
    rw [← e] at this
    have e2 : (c * D) * q.2 = c * q.2 * D := by grind
    rw [e2] at this
    exact Int.le_of_mul_le_mul_right this (by omega)
theorem fits_up {L : List It} (h : GoodF L) {c : Int} (hc : 1 ≤ c ∧ c + 1 ≤ 400) (hf : fitsB L c = true) : fitsB L (c + 1) = true := by
  rw [fits_form h (by omega)] at hf ⊢
  have s := sums_nn h L.length (Nat.le_refl _)
  generalize pausTo L L.length = P at *
  generalize rateTo L L.length = R at *
  generalize prodM L L.length = D at *
  have hRD : R ≤ D := by
    by_cases hlt : D < R
    · have : c * D < c * R := Int.mul_lt_mul_of_pos_left hlt (by omega)
      have e : R * c = c * R := Int.mul_comm _ _
      omega
    · omega
  have e1 : R * (c + 1) = R * c + R := by grind
  have e2 : (c + 1) * D = c * D + D := by grind
  omega
theorem setup_nn {L : List It} (h : GoodF L) (n : Nat) (hn : n ≤ L.length) : 0 ≤ setupTo L n ∧ setupTo L n ≤ 99 * n := by
  induction n with
  | zero => simp [setupTo]
  | succ n ih =>
    have g := (h.at_ (k := n) (by omega)).setup
    have := ih (by omega)
    simp only [setupTo]
    push_cast
    omega
theorem shared_form {L : List It} (h : GoodF L) {c : Int} (hc : 1 ≤ c ∧ c ≤ 400) (n : Nat) (hn : n ≤ L.length) : sharedTo L c n = fr (setupTo L n * (growTo L n).2 + (growTo L n).1 * c * c) (c * (growTo L n).2) := by
  induction n with
  | zero =>
    have : fr (0 * 1 + 0 * c * c) (c * 1) = (0, 1) := by
      rw [← fr_zero]
      exact fr_eq (by simp) (by omega) (by decide) (by decide) (by simp)
    simpa [sharedTo, setupTo, growTo] using this.symm
  | succ n ih =>
    have g := h.at_ (k := n) (by omega)
    have hm := g.made
    have hd := g.daily
    have hs := g.setup
    have hh := g.hdm
    have hb := grow_bd h n (by omega)
    have hb2 := grow_bd h (n + 1) hn
    have hsn := setup_nn h n (by omega)
    have n1 := hb.nn
    have n2 := hb.pos
    have n3 := hb2.nn
    have n4 := hb2.pos
    have e := addF_r (p := growTo L n) n1 n2 hh.1 (show (0 : Int) < 2 * (L.getD n It0).made by omega)
    have x1 : 0 ≤ (growTo L n).1 * (2 * (L.getD n It0).made) + (L.getD n It0).hold * (L.getD n It0).daily * ((L.getD n It0).made - (L.getD n It0).daily) * (growTo L n).2 := Int.add_nonneg (Int.mul_nonneg n1 (by omega)) (Int.mul_nonneg hh.1 (by omega))
    have x2 : 0 < (growTo L n).2 * (2 * (L.getD n It0).made) := Int.mul_pos n2 (by omega)
    have cr := fr_cross x1 x2
    rw [← e] at cr
    rw [show addF (growTo L n) (fr ((L.getD n It0).hold * (L.getD n It0).daily * ((L.getD n It0).made - (L.getD n It0).daily)) (2 * (L.getD n It0).made)) = growTo L (n + 1) from rfl] at cr
    rw [sharedTo, ih (by omega), setupTo]
    generalize (L.getD n It0).hold * (L.getD n It0).daily * ((L.getD n It0).made - (L.getD n It0).daily) = q at *
    generalize growTo L (n + 1) = G at *
    generalize growTo L n = g0 at *
    generalize setupTo L n = S at *
    generalize (L.getD n It0).setup = s at *
    generalize (L.getD n It0).made = M at *
    have y1 : 0 ≤ S * g0.2 + g0.1 * c * c := Int.add_nonneg (Int.mul_nonneg hsn.1 (by omega)) (Int.mul_nonneg (Int.mul_nonneg n1 (by omega)) (by omega))
    have y2 : 0 < c * g0.2 := Int.mul_pos (by omega) n2
    have y3 : 0 ≤ (S * g0.2 + g0.1 * c * c) * c + s * (c * g0.2) := Int.add_nonneg (Int.mul_nonneg y1 (by omega)) (Int.mul_nonneg (by omega) (by omega))
    have y4 : 0 < c * g0.2 * c := Int.mul_pos y2 (by omega)
    have y5 : 0 ≤ q * c := Int.mul_nonneg hh.1 (by omega)
    have y6 : (0 : Int) < 2 * M := by omega
    have y7 : 0 ≤ (S + s) * G.2 + G.1 * c * c := Int.add_nonneg (Int.mul_nonneg (by omega) (by omega)) (Int.mul_nonneg (Int.mul_nonneg n3 (by omega)) (by omega))
    have y8 : 0 < c * G.2 := Int.mul_pos (by omega) n4
    rw [addF_fr y1 y2 (by omega) (by omega), addF_fr y3 y4 y5 y6]
    refine fr_eq (Int.add_nonneg (Int.mul_nonneg y3 (by omega)) (Int.mul_nonneg y5 (by omega))) (Int.mul_pos y4 y6) y7 y8 ?_
    clear y1 y2 y3 y4 y5 y6 y7 y8 x1 x2 e ih hb hb2
    grind
def sharedF (L : List It) (c : Int) : Int × Int := sharedTo L c L.length
def cheaperB (L : List It) (a b : Int) : Bool := decide (setupTo L L.length * (growTo L L.length).2 * b + (growTo L L.length).1 * a * a * b < setupTo L L.length * (growTo L L.length).2 * a + (growTo L L.length).1 * b * b * a)
theorem cheaper_less {L : List It} (h : GoodF L) {a b : Int} (ha : 1 ≤ a ∧ a ≤ 400) (hb : 1 ≤ b ∧ b ≤ 400) : cheaperB L a b = lessF (sharedF L a) (sharedF L b) := by
  have g := grow_bd h L.length (Nat.le_refl _)
  have s := setup_nn h L.length (Nat.le_refl _)
  have n1 := g.nn
  have n2 := g.pos
  unfold cheaperB sharedF
  rw [shared_form h ha L.length (Nat.le_refl _), shared_form h hb L.length (Nat.le_refl _)]
  generalize growTo L L.length = q at *
  generalize setupTo L L.length = S at *
  have y1 : ∀ c : Int, 1 ≤ c → 0 ≤ S * q.2 + q.1 * c * c := fun c hc => Int.add_nonneg (Int.mul_nonneg s.1 (by omega)) (Int.mul_nonneg (Int.mul_nonneg n1 (by omega)) (by omega))
  have y2 : ∀ c : Int, 1 ≤ c → 0 < c * q.2 := fun c hc => Int.mul_pos (by omega) n2
  rw [lessF_fr (y1 a ha.1) (y2 a ha.1) (y1 b hb.1) (y2 b hb.1)]
  congr 1
  apply propext
  have e1 : (S * q.2 + q.1 * a * a) * (b * q.2) = (S * q.2 * b + q.1 * a * a * b) * q.2 := by grind
  have e2 : (S * q.2 + q.1 * b * b) * (a * q.2) = (S * q.2 * a + q.1 * b * b * a) * q.2 := by grind
  rw [e1, e2]
  constructor
  · intro hl; exact Int.mul_lt_mul_of_pos_right hl n2
  · intro hl; exact Int.lt_of_mul_lt_mul_right hl (Int.le_of_lt n2)
def fitL (L : List It) : List Int := (upFrom 1 400).filter (fitsB L)
theorem fit_tail {L : List It} (h : GoodF L) (n : Nat) : ∀ (a : Int), 1 ≤ a → a + n ≤ 401 → (fitsB L a = true ∨ n = 0) → (upFrom a n).filter (fitsB L) = upFrom a n := by
  induction n with
  | zero => intro a _ _ _; rfl
  | succ n ih =>
    intro a ha hn hf
    have hf : fitsB L a = true := by rcases hf with hf | hf; exact hf; omega
    rw [upFrom, List.filter_cons_of_pos hf]
    congr 1
    refine ih (a + 1) (by omega) (by push_cast at hn ⊢; omega) ?_
    rcases Nat.eq_zero_or_pos n with e | e
    · exact .inr e
    · exact .inl (fits_up h ⟨ha, by push_cast at hn; omega⟩ hf)
theorem fit_range {L : List It} (h : GoodF L) (n : Nat) : ∀ (a : Int), 1 ≤ a → a + n ≤ 401 → (upFrom a n).filter (fitsB L) = [] ∨ ∃ b k, a ≤ b ∧ b + ((k + 1 : Nat) : Int) = a + n ∧ (upFrom a n).filter (fitsB L) = upFrom b (k + 1) := by
  induction n with
  | zero => intro a _ _; exact .inl rfl
  | succ n ih =>
    intro a ha hn
    cases hf : fitsB L a with
    | true => exact .inr ⟨a, n, Int.le_refl _, rfl, fit_tail h (n + 1) a ha hn (.inl hf)⟩
    | false =>
      rw [upFrom, List.filter_cons_of_neg (by simp [hf])]
      rcases ih (a + 1) (by omega) (by push_cast at hn ⊢; omega) with h0 | ⟨b, k, h1, h2, h3⟩
      · exact .inl h0
      · exact .inr ⟨b, k, by omega, by push_cast at h2 ⊢; omega, h3⟩
theorem fitL_form {L : List It} (h : GoodF L) : fitL L = [] ∨ ∃ b k, 1 ≤ b ∧ b + ((k + 1 : Nat) : Int) = 401 ∧ fitL L = upFrom b (k + 1) := by
  rcases fit_range h 400 1 (by omega) (by omega) with h0 | ⟨b, k, h1, h2, h3⟩
  · exact .inl h0
  · exact .inr ⟨b, k, h1, by omega, h3⟩
theorem fitL_in {L : List It} {c : Int} (hc : c ∈ fitL L) : 1 ≤ c ∧ c ≤ 400 := by
  have := (List.mem_filter.1 hc).1
  have := upFrom_mem.1 this
  omega
end Go.Proofs.Ytbjjkcoecaopcaa
end
section
namespace Go.Proofs.Ytbjjkcoecaopcaa.Ab
open Go Go.RowKit
set_option linter.unusedVariables false
set_option linter.unusedSimpArgs false
set_option maxRecDepth 10000
theorem plus_ok {p q : Int × Int} {A B C D : Int} (h1 : 0 ≤ p.1 ∧ p.1 ≤ A) (h2 : 0 < p.2 ∧ p.2 ≤ B) (h3 : 0 ≤ q.1 ∧ q.1 ≤ C) (h4 : 0 < q.2 ∧ q.2 ≤ D) (hn : A * D + C * B ≤ 9223372036854775807) (hd : B * D ≤ 9223372036854775807) :
    p.1 * q.2 + q.1 * p.2 ≤ 9223372036854775807 ∧ p.2 * q.2 ≤ 9223372036854775807 := by
  have m1 := mul_le2 (a := p.1) (x := q.2) (A := A) (B := D) h1 (by omega)
  have m2 := mul_le2 (a := q.1) (x := p.2) (A := C) (B := B) h3 (by omega)
  have m3 := mul_le2 (a := p.2) (x := q.2) (A := B) (B := D) (by omega) (by omega)
  omega
theorem bd_nums {D V : Int} {p : Int × Int} {A B : Int} (hD : 0 < D) (hp : Bd D V p) (hV : 0 ≤ V) (h1 : V * D ≤ A) (h2 : D ≤ B) : (0 ≤ p.1 ∧ p.1 ≤ A) ∧ (0 < p.2 ∧ p.2 ≤ B) := by
  have d1 := hp.den hD
  have v1 : p.1 ≤ V * D := Int.le_trans hp.le (Int.mul_le_mul_of_nonneg_left d1 hV)
  exact ⟨⟨hp.nn, by omega⟩, ⟨hp.pos, by omega⟩⟩
theorem fr_nums {a b A B : Int} (ha : 0 ≤ a ∧ a ≤ A) (hb : 0 < b ∧ b ≤ B) : (0 ≤ (fr a b).1 ∧ (fr a b).1 ≤ A) ∧ (0 < (fr a b).2 ∧ (fr a b).2 ≤ B) := by
  have := fr_spec ha.1 hb.1
  omega
theorem taken_nums {L : List It} (h : GoodF L) {c : Int} (hc : 1 ≤ c ∧ c ≤ 400) (n : Nat) (hn : n ≤ L.length) : (0 ≤ (takenTo L c n).1 ∧ (takenTo L c n).1 ≤ 4188160000) ∧ (0 < (takenTo L c n).2 ∧ (takenTo L c n).2 ≤ 2560000) := by
  have hD := prodM_bd h L.length (Nat.le_refl _)
  have hl := h.len
  refine bd_nums (by omega) (taken_bd h hc n hn) (by omega) ?_ hD.2
  have := mul_le2 (a := 409 * (n : Int)) (x := prodM L L.length) (A := 1636) (B := 2560000) (by omega) (by omega)
  omega
theorem shared_nums {L : List It} (h : GoodF L) {c : Int} (hc : 1 ≤ c ∧ c ≤ 400) (n : Nat) (hn : n ≤ L.length) : ((0 ≤ (sharedTo L c n).1 ∧ (sharedTo L c n).1 ≤ 295925760000000) ∧ (0 < (sharedTo L c n).2 ∧ (sharedTo L c n).2 ≤ 2048000000)) ∧
    (n < L.length → ((0 ≤ (addF (sharedTo L c n) (fr (L.getD n It0).setup c)).1 ∧ (addF (sharedTo L c n) (fr (L.getD n It0).setup c)).1 ≤ 295925760000000) ∧ (0 < (addF (sharedTo L c n) (fr (L.getD n It0).setup c)).2 ∧ (addF (sharedTo L c n) (fr (L.getD n It0).setup c)).2 ≤ 2048000000))) := by
  have hD := prodM_bd h L.length (Nat.le_refl _)
  have hl := h.len
  have hDD := mul_le2 (a := 2 * c) (x := prodM L L.length) (A := 800) (B := 2560000) (by omega) (by omega)
  have hDp : 0 < 2 * c * prodM L L.length := Int.mul_pos (by omega) (by omega)
  obtain ⟨b1, b2⟩ := shared_bd h hc n hn
  constructor
  · refine bd_nums hDp b1 (by omega) ?_ (by omega)
    have := mul_le2 (a := 36099 * (n : Int)) (x := 2 * c * prodM L L.length) (A := 144396) (B := 2048000000) (by omega) (by omega)
    omega
  · intro hlt
    refine bd_nums hDp (b2 hlt) (by omega) ?_ (by omega)
    have := mul_le2 (a := 36099 * (n : Int) + 99) (x := 2 * c * prodM L L.length) (A := 144396) (B := 2048000000) (by omega) (by omega)
    omega
theorem grow_nums {L : List It} (h : GoodF L) (n : Nat) (hn : n ≤ L.length) : (0 ≤ (growTo L n).1 ∧ (growTo L n).1 ≤ 1843200000) ∧ (0 < (growTo L n).2 ∧ (growTo L n).2 ≤ 5120000) := by
  have hD := prodM_bd h L.length (Nat.le_refl _)
  have hl := h.len
  refine bd_nums (by omega) (grow_bd h n hn) (by omega) ?_ (by omega)
  have := mul_le2 (a := 90 * (n : Int)) (x := 2 * prodM L L.length) (A := 360) (B := 5120000) (by omega) (by omega)
  omega
theorem bld01 (a b : Value) : bldA [a, b] [(0, 1, .int .i64 0), (1, 1, .int .i64 1)] = some (.agg #[.int .i64 0, .int .i64 1]) := rfl
theorem ItemsA.flds {m : Mem} {v : Value} {L : List It} (h : ItemsA m v L) {k : Nat} (hk : k < L.length) : ∃ p0 p3 p4, (fadA 0 (pItem v k) = some p0 ∧ ldA m none p0 = some (.int .i64 (L.getD k It0).daily)) ∧ (fadA 3 (pItem v k) = some p3 ∧ ldA m none p3 = some (.int .i64 (L.getD k It0).made)) ∧ (fadA 4 (pItem v k) = some p4 ∧ ldA m none p4 = some (.int .i64 (L.getD k It0).pause)) := by
  obtain ⟨p0, a0, b0⟩ := h.fld hk 0 (by decide)
  obtain ⟨p3, a3, b3⟩ := h.fld hk 3 (by decide)
  obtain ⟨p4, a4, b4⟩ := h.fld hk 4 (by decide)
  exact ⟨p0, p3, p4, ⟨a0, b0⟩, ⟨a3, b3⟩, ⟨a4, b4⟩⟩

theorem specFits_rc (m : Mem) (v : Value) (L : List It) (c : Int) (h : ItemsA m v L) (hF : GoodF L) (hc : 1 ≤ c ∧ c ≤ 400) : RC Try.prog 40 [v, .int .i64 c] m (AnsV (.bool (fitsB L c))) := by
  refine rc_of_run mixed ok_spec_l8Fits (by simp) (go_start _ _ _ ?_)
  simp (config := {implicitDefEqProofs := false, maxDischargeDepth := 20}) (disch := first | omega | (simp only [lenE]; done) | (simp only [lenE]; omega) | rfl | (simp only [lenE, markR_len]; done) | (simp only [lenE, markR_len]; omega)) only [runE, mapE, listE, initT_5, initT_6, initT_7, initT_8, resV, oneV, binA, unA, reduceCtorEq, Nat.reduceEqDiff, Nat.reduceAdd, Nat.reduceLT, Nat.reduceLeDiff, Nat.reduceMul, Nat.reduceSub, ↓reduceIte, decide_true, decide_false, Bool.true_eq_false, Bool.false_eq_true, Bool.not_true, Bool.not_false, if_true, if_false, and_true, true_and, memE, celE, w64, Nat.zero_add, Nat.add_zero, Nat.mul_one, putL, and_self, ldn, c_spec_l8Fits, r_spec_l8Fits, bld01, stP_agg2]
  obtain ⟨E, hE⟩ : ∃ M, M = roM m ++ [⟨.own, 28, [.int .i64 0, .int .i64 1]⟩] := ⟨_, rfl⟩
  have hX : Ext m E := by rw [hE]; exact (Ext.refl m).one _ _
  have o0 : OwnB E m.length 28 [.int .i64 0, .int .i64 1] := by rw [hE]; exact OwnB.here (roM_len m).symm
  try rw [← hE]
  clear hE
  refine loop_inv mixed (fun s => ∃ (k : Nat) (M : Mem), k ≤ L.length ∧ s.m = M ∧ Ext m M ∧ OwnB M m.length 28 [.int .i64 (takenTo L c k).1, .int .i64 (takenTo L c k).2] ∧ s.t 0 = v ∧ s.t 1 = .int .i64 c ∧ s.t 5 = .pointer (some ⟨m.length, 0, none⟩) ∧ s.t 6 = .int .i64 (k : Int)) (fun s => L.length - (intOf (s.t 6)).toNat)
    ⟨0, _, by omega, rfl, hX, o0, rfl, rfl, rfl, rfl⟩ ?_
  rintro s ⟨k, M, hk, tm, hX, p0, t0, t1, t5, t6⟩
  have hM := (Sees.ext hX).items h
  have hl := hM.len
  have hbd := hM.1
  by_cases hkl : k < L.length
  · have hlt : (k : Int) < L.length := by omega
    have i1 := hM.at_ hkl
    obtain ⟨q0, q3, q4, ⟨a0, b0⟩, ⟨a3, b3⟩, ⟨a4, b4⟩⟩ := hM.flds hkl
    have g := hF.at_ hkl
    have tp := taken_part g hc
    have hm := g.made
    have hd := g.daily
    have hstep : takenTo L c (k + 1) = addF (takenTo L c k) (fr ((L.getD k It0).pause * (L.getD k It0).made + (L.getD k It0).daily * c) (L.getD k It0).made) := rfl
    have nn := taken_nums hF hc k (by omega)
    generalize takenTo L c k = p at *
    generalize L.getD k It0 = x at *
    have nq := fr_nums (a := x.pause * x.made + x.daily * c) (b := x.made) (A := 8360) (B := 40) (by omega) (by omega)
    have ok := plus_ok nn.1 nn.2 nq.1 nq.2 (by decide) (by decide)
    simp (config := {implicitDefEqProofs := false, maxDischargeDepth := 20}) (disch := first | omega | (simp only [lenE]; done) | (simp only [lenE]; omega) | rfl | (simp only [lenE, markR_len]; done) | (simp only [lenE, markR_len]; omega)) only [runE, mapE, listE, initT_5, initT_6, initT_7, initT_8, resV, oneV, binA, unA, reduceCtorEq, Nat.reduceEqDiff, Nat.reduceAdd, Nat.reduceLT, Nat.reduceLeDiff, Nat.reduceMul, Nat.reduceSub, ↓reduceIte, decide_true, decide_false, Bool.true_eq_false, Bool.false_eq_true, Bool.not_true, Bool.not_false, if_true, if_false, and_true, true_and, memE, celE, w64, Nat.zero_add, Nat.add_zero, Nat.mul_one, putL, and_self, ldn, tm, t0, t1, t5, t6, hl, hlt, i1, a0, b0, a3, b3, a4, b4, p0.ld2]
    refine rcallH_rc (specCut_rc _ (x.pause * x.made + x.daily * c) x.made ⟨by omega, by omega⟩ ⟨by omega, by omega⟩) ?_
    rintro r new1 ⟨rfl, nr1⟩
    simp (config := {implicitDefEqProofs := false, maxDischargeDepth := 20}) (disch := first | omega | (simp only [lenE]; done) | (simp only [lenE]; omega) | rfl | (simp only [lenE, markR_len]; done) | (simp only [lenE, markR_len]; omega)) only [runE, mapE, listE, initT_5, initT_6, initT_7, initT_8, resV, oneV, binA, unA, reduceCtorEq, Nat.reduceEqDiff, Nat.reduceAdd, Nat.reduceLT, Nat.reduceLeDiff, Nat.reduceMul, Nat.reduceSub, ↓reduceIte, decide_true, decide_false, Bool.true_eq_false, Bool.false_eq_true, Bool.not_true, Bool.not_false, if_true, if_false, and_true, true_and, memE, celE, w64, Nat.zero_add, Nat.add_zero, Nat.mul_one, putL, and_self, ldn]
    refine rcallH_rc (specPlus_rc _ p (fr (x.pause * x.made + x.daily * c) x.made) nn.1.1 nn.2.1 nq.1.1 nq.2.1 ok.1 ok.2) ?_
    rintro r new2 ⟨rfl, nr2⟩
    rw [← hstep]
    generalize hz : takenTo L c (k + 1) = z at *
    have q0 := (p0.ext new1).ext new2
    have hst := q0.st (off := 0) (vs := [.int .i64 z.1, .int .i64 z.2]) (by simp) rfl
    simp (config := {implicitDefEqProofs := false, maxDischargeDepth := 20}) (disch := first | omega | (simp only [lenE]; done) | (simp only [lenE]; omega) | rfl | (simp only [lenE, markR_len]; done) | (simp only [lenE, markR_len]; omega)) only [runE, mapE, listE, initT_5, initT_6, initT_7, initT_8, resV, oneV, binA, unA, reduceCtorEq, Nat.reduceEqDiff, Nat.reduceAdd, Nat.reduceLT, Nat.reduceLeDiff, Nat.reduceMul, Nat.reduceSub, ↓reduceIte, decide_true, decide_false, Bool.true_eq_false, Bool.false_eq_true, Bool.not_true, Bool.not_false, if_true, if_false, and_true, true_and, memE, celE, w64, Nat.zero_add, Nat.add_zero, Nat.mul_one, putL, and_self, ldn, tm, t0, t1, t5, t6, frV, stP_agg2, hst]
    refine ⟨⟨k + 1, _, by omega, rfl, ((hX.app nr1).app nr2).put (by omega) _ _, by rw [hz]; exact q0.set_self _ _, by simp⟩, ?_⟩
    simp [intOf]; omega
  · have hlt : ¬ ((k : Int) < L.length) := by omega
    have e : k = L.length := by omega
    subst e
    have nn := taken_nums hF hc L.length (Nat.le_refl _)
    unfold fitsB
    generalize takenTo L c L.length = z at *
    have mm := mul_le2 (a := c) (x := z.2) (A := 400) (B := 2560000) (by omega) (by omega)
    simp (config := {implicitDefEqProofs := false, maxDischargeDepth := 20}) (disch := first | omega | (simp only [lenE]; done) | (simp only [lenE]; omega) | rfl | (simp only [lenE, markR_len]; done) | (simp only [lenE, markR_len]; omega)) only [runE, mapE, listE, initT_5, initT_6, initT_7, initT_8, resV, oneV, binA, unA, reduceCtorEq, Nat.reduceEqDiff, Nat.reduceAdd, Nat.reduceLT, Nat.reduceLeDiff, Nat.reduceMul, Nat.reduceSub, ↓reduceIte, decide_true, decide_false, Bool.true_eq_false, Bool.false_eq_true, Bool.not_true, Bool.not_false, if_true, if_false, and_true, true_and, memE, celE, w64, Nat.zero_add, Nat.add_zero, Nat.mul_one, putL, and_self, ldn, tm, t0, t1, t5, t6, hl, hlt, iada_0, iada_1, p0.rd]
    exact ext_ansV hX rfl

theorem cmpF_le (p q : Int × Int) : decide (cmpF p q ≤ 0) = decide (p.1 * q.2 ≤ q.1 * p.2) := by
  unfold cmpF cmpI
  generalize p.1 * q.2 = a
  generalize q.1 * p.2 = b
  congr 1
  apply propext
  split
  · constructor <;> intro <;> omega
  · split
    · constructor <;> intro <;> omega
    · constructor <;> intro <;> omega
theorem implFits_rc (m : Mem) (v : Value) (L : List It) (c : Int) (h : ItemsA m v L) (hF : GoodF L) (hc : 1 ≤ c ∧ c ≤ 400) : RC Try.prog 38 [v, .int .i64 c] m (AnsV (.bool (fitsB L c))) := by
  refine rc_of_run mixed ok_impl_made__fits (by simp) (go_start _ _ _ ?_)
  simp (config := {implicitDefEqProofs := false, maxDischargeDepth := 20}) (disch := first | omega | (simp only [lenE]; done) | (simp only [lenE]; omega) | rfl | (simp only [lenE, markR_len]; done) | (simp only [lenE, markR_len]; omega)) only [runE, mapE, listE, initT_5, initT_6, initT_7, initT_8, resV, oneV, binA, unA, reduceCtorEq, Nat.reduceEqDiff, Nat.reduceAdd, Nat.reduceLT, Nat.reduceLeDiff, Nat.reduceMul, Nat.reduceSub, ↓reduceIte, decide_true, decide_false, Bool.true_eq_false, Bool.false_eq_true, Bool.not_true, Bool.not_false, if_true, if_false, and_true, true_and, memE, celE, w64, Nat.zero_add, Nat.add_zero, Nat.mul_one, putL, and_self, ldn, c_impl_made__fits, r_impl_made__fits]
  refine callH_rc (implCut_rc _ 0 1 ⟨by omega, by omega⟩ ⟨by omega, by omega⟩) ?_
  rintro r new0 ⟨rfl, nr0⟩
  rw [fr_zero]
  have hX0 := (Ext.refl m).app nr0
  have hlv := ((Sees.ext hX0).items h).len
  simp (config := {implicitDefEqProofs := false, maxDischargeDepth := 20}) (disch := first | omega | (simp only [lenE]; done) | (simp only [lenE]; omega) | rfl | (simp only [lenE, markR_len]; done) | (simp only [lenE, markR_len]; omega)) only [runE, mapE, listE, initT_5, initT_6, initT_7, initT_8, resV, oneV, binA, unA, reduceCtorEq, Nat.reduceEqDiff, Nat.reduceAdd, Nat.reduceLT, Nat.reduceLeDiff, Nat.reduceMul, Nat.reduceSub, ↓reduceIte, decide_true, decide_false, Bool.true_eq_false, Bool.false_eq_true, Bool.not_true, Bool.not_false, if_true, if_false, and_true, true_and, memE, celE, w64, Nat.zero_add, Nat.add_zero, Nat.mul_one, putL, and_self, ldn, frV, stP_agg2, hlv]
  obtain ⟨E0, hE0⟩ : ∃ M, M = roM m ++ new0 := ⟨_, rfl⟩
  rw [← hE0] at hX0 ⊢
  have LE0 : m.length + new0.length = E0.length := by rw [hE0, List.length_append, roM_len]
  rw [LE0]
  clear hE0
  obtain ⟨E, hE⟩ : ∃ M, M = E0 ++ [⟨.own, 49, [.int .i64 0, .int .i64 1]⟩] := ⟨_, rfl⟩
  have hX : Ext m E := by rw [hE]; exact hX0.one _ _
  have o0 : OwnB E E0.length 49 [.int .i64 0, .int .i64 1] := by rw [hE]; exact OwnB.here rfl
  have hge := hX0.len
  try rw [← hE]
  clear hE
  refine loop_inv mixed (fun s => ∃ (k : Nat) (M : Mem), k ≤ L.length ∧ s.m = M ∧ Ext m M ∧ OwnB M E0.length 49 [.int .i64 (takenTo L c k).1, .int .i64 (takenTo L c k).2] ∧ s.t 1 = .int .i64 c ∧ s.t 5 = .pointer (some ⟨E0.length, 0, none⟩) ∧ s.t 9 = v ∧ s.t 10 = .int .i64 (L.length : Int) ∧ s.t 11 = .int .i64 (k : Int)) (fun s => L.length - (intOf (s.t 11)).toNat)
    ⟨0, _, by omega, rfl, hX, o0, rfl, rfl, rfl, rfl, rfl⟩ ?_
  rintro s ⟨k, M, hk, tm, hX, p0, t1, t5, t9, t10, t11⟩
  have hM := (Sees.ext hX).items h
  have hbd := hM.1
  by_cases hkl : k < L.length
  · have hlt : (k : Int) < L.length := by omega
    have i1 := hM.at_ hkl
    have i2 := hM.ld hkl
    have g := hF.at_ hkl
    have tp := taken_part g hc
    have hm := g.made
    have hd := g.daily
    have hp := g.pause
    have hstep : takenTo L c (k + 1) = addF (takenTo L c k) (fr ((L.getD k It0).pause * (L.getD k It0).made + (L.getD k It0).daily * c) (L.getD k It0).made) := rfl
    have nn := taken_nums hF hc k (by omega)
    rw [← add_two nn.1.1 nn.2.1 (by omega) (by omega) (by omega)] at hstep
    generalize takenTo L c k = p at *
    generalize L.getD k It0 = x at *
    have q1 : ∀ b, ldA (M ++ [b]) (some 2) (.pointer (some ⟨E0.length, 0, none⟩)) = some (.agg #[.int .i64 p.1, .int .i64 p.2]) := fun b => (p0.ext [b]).ld2
    simp (config := {implicitDefEqProofs := false, maxDischargeDepth := 20}) (disch := first | omega | (simp only [lenE]; done) | (simp only [lenE]; omega) | rfl | (simp only [lenE, markR_len]; done) | (simp only [lenE, markR_len]; omega)) only [runE, mapE, listE, initT_5, initT_6, initT_7, initT_8, resV, oneV, binA, unA, reduceCtorEq, Nat.reduceEqDiff, Nat.reduceAdd, Nat.reduceLT, Nat.reduceLeDiff, Nat.reduceMul, Nat.reduceSub, ↓reduceIte, decide_true, decide_false, Bool.true_eq_false, Bool.false_eq_true, Bool.not_true, Bool.not_false, if_true, if_false, and_true, true_and, memE, celE, w64, Nat.zero_add, Nat.add_zero, Nat.mul_one, putL, and_self, ldn, tm, t1, t5, t9, t10, t11, hlt, i1, i2, itV, stP_agg5, q1]
    obtain ⟨F, hF2⟩ : ∃ F, F = M ++ [⟨.own, 25, [.int .i64 x.daily, .int .i64 x.setup, .int .i64 x.hold, .int .i64 x.made, .int .i64 x.pause]⟩] := ⟨_, rfl⟩
    rw [← hF2]
    have hXF : Ext m F := by rw [hF2]; exact hX.one _ _
    have pF : OwnB F E0.length 49 [.int .i64 p.1, .int .i64 p.2] := by rw [hF2]; exact p0.ext _
    clear hF2
    have n1 := fr_nums (a := x.pause) (b := 1) (A := 9) (B := 1) (by omega) (by omega)
    have n2 := fr_nums (a := x.daily * c) (b := x.made) (A := 8000) (B := 40) (by omega) (by omega)
    have ok1 := plus_ok nn.1 nn.2 n1.1 n1.2 (by decide) (by decide)
    have e1 : addF p (fr x.pause 1) = fr (p.1 * 1 + x.pause * p.2) (p.2 * 1) := addF_r nn.1.1 nn.2.1 (by omega) (by decide)
    have mp := mul_le2 (a := x.pause) (x := p.2) (A := 9) (B := 2560000) (by omega) (by omega)
    have n3 := fr_nums (a := p.1 * 1 + x.pause * p.2) (b := p.2 * 1) (A := 4211200000) (B := 2560000) (by omega) (by omega)
    rw [← e1] at n3
    have ok2 := plus_ok n3.1 n3.2 n2.1 n2.2 (by decide) (by decide)
    refine rcallH_rc (implCut_rc _ x.pause 1 ⟨by omega, by omega⟩ ⟨by omega, by omega⟩) ?_
    rintro r new1 ⟨rfl, nr1⟩
    simp (config := {implicitDefEqProofs := false, maxDischargeDepth := 20}) (disch := first | omega | (simp only [lenE]; done) | (simp only [lenE]; omega) | rfl | (simp only [lenE, markR_len]; done) | (simp only [lenE, markR_len]; omega)) only [runE, mapE, listE, initT_5, initT_6, initT_7, initT_8, resV, oneV, binA, unA, reduceCtorEq, Nat.reduceEqDiff, Nat.reduceAdd, Nat.reduceLT, Nat.reduceLeDiff, Nat.reduceMul, Nat.reduceSub, ↓reduceIte, decide_true, decide_false, Bool.true_eq_false, Bool.false_eq_true, Bool.not_true, Bool.not_false, if_true, if_false, and_true, true_and, memE, celE, w64, Nat.zero_add, Nat.add_zero, Nat.mul_one, putL, and_self, ldn]
    refine rcallH_rc (implPlus_rc _ p (fr x.pause 1) nn.1.1 nn.2.1 n1.1.1 n1.2.1 ok1.1 ok1.2) ?_
    rintro r new2 ⟨rfl, nr2⟩
    simp (config := {implicitDefEqProofs := false, maxDischargeDepth := 20}) (disch := first | omega | (simp only [lenE]; done) | (simp only [lenE]; omega) | rfl | (simp only [lenE, markR_len]; done) | (simp only [lenE, markR_len]; omega)) only [runE, mapE, listE, initT_5, initT_6, initT_7, initT_8, resV, oneV, binA, unA, reduceCtorEq, Nat.reduceEqDiff, Nat.reduceAdd, Nat.reduceLT, Nat.reduceLeDiff, Nat.reduceMul, Nat.reduceSub, ↓reduceIte, decide_true, decide_false, Bool.true_eq_false, Bool.false_eq_true, Bool.not_true, Bool.not_false, if_true, if_false, and_true, true_and, memE, celE, w64, Nat.zero_add, Nat.add_zero, Nat.mul_one, putL, and_self, ldn]
    refine rcallH_rc (implCut_rc _ (x.daily * c) x.made ⟨by omega, by omega⟩ ⟨by omega, by omega⟩) ?_
    rintro r new3 ⟨rfl, nr3⟩
    simp (config := {implicitDefEqProofs := false, maxDischargeDepth := 20}) (disch := first | omega | (simp only [lenE]; done) | (simp only [lenE]; omega) | rfl | (simp only [lenE, markR_len]; done) | (simp only [lenE, markR_len]; omega)) only [runE, mapE, listE, initT_5, initT_6, initT_7, initT_8, resV, oneV, binA, unA, reduceCtorEq, Nat.reduceEqDiff, Nat.reduceAdd, Nat.reduceLT, Nat.reduceLeDiff, Nat.reduceMul, Nat.reduceSub, ↓reduceIte, decide_true, decide_false, Bool.true_eq_false, Bool.false_eq_true, Bool.not_true, Bool.not_false, if_true, if_false, and_true, true_and, memE, celE, w64, Nat.zero_add, Nat.add_zero, Nat.mul_one, putL, and_self, ldn]
    refine rcallH_rc (implPlus_rc _ (addF p (fr x.pause 1)) (fr (x.daily * c) x.made) n3.1.1 n3.2.1 n2.1.1 n2.2.1 ok2.1 ok2.2) ?_
    rintro r new4 ⟨rfl, nr4⟩
    rw [← hstep]
    generalize hz : takenTo L c (k + 1) = z at *
    have q0 := (((pF.ext new1).ext new2).ext new3).ext new4
    have hst := q0.st (off := 0) (vs := [.int .i64 z.1, .int .i64 z.2]) (by simp) rfl
    simp (config := {implicitDefEqProofs := false, maxDischargeDepth := 20}) (disch := first | omega | (simp only [lenE]; done) | (simp only [lenE]; omega) | rfl | (simp only [lenE, markR_len]; done) | (simp only [lenE, markR_len]; omega)) only [runE, mapE, listE, initT_5, initT_6, initT_7, initT_8, resV, oneV, binA, unA, reduceCtorEq, Nat.reduceEqDiff, Nat.reduceAdd, Nat.reduceLT, Nat.reduceLeDiff, Nat.reduceMul, Nat.reduceSub, ↓reduceIte, decide_true, decide_false, Bool.true_eq_false, Bool.false_eq_true, Bool.not_true, Bool.not_false, if_true, if_false, and_true, true_and, memE, celE, w64, Nat.zero_add, Nat.add_zero, Nat.mul_one, putL, and_self, ldn, tm, t1, t5, t9, t10, t11, frV, stP_agg2, hst]
    refine ⟨⟨k + 1, _, by omega, rfl, ((((hXF.app nr1).app nr2).app nr3).app nr4).put hge _ _, by rw [hz]; exact q0.set_self _ _, by simp⟩, ?_⟩
    simp [intOf]; omega
  · have hlt : ¬ ((k : Int) < L.length) := by omega
    have e : k = L.length := by omega
    subst e
    have nn := taken_nums hF hc L.length (Nat.le_refl _)
    unfold fitsB
    generalize takenTo L c L.length = z at *
    simp (config := {implicitDefEqProofs := false, maxDischargeDepth := 20}) (disch := first | omega | (simp only [lenE]; done) | (simp only [lenE]; omega) | rfl | (simp only [lenE, markR_len]; done) | (simp only [lenE, markR_len]; omega)) only [runE, mapE, listE, initT_5, initT_6, initT_7, initT_8, resV, oneV, binA, unA, reduceCtorEq, Nat.reduceEqDiff, Nat.reduceAdd, Nat.reduceLT, Nat.reduceLeDiff, Nat.reduceMul, Nat.reduceSub, ↓reduceIte, decide_true, decide_false, Bool.true_eq_false, Bool.false_eq_true, Bool.not_true, Bool.not_false, if_true, if_false, and_true, true_and, memE, celE, w64, Nat.zero_add, Nat.add_zero, Nat.mul_one, putL, and_self, ldn, tm, t1, t5, t9, t10, t11, hlt, p0.ld2]
    refine rcallH_rc (implCut_rc _ c 1 ⟨by omega, by omega⟩ ⟨by omega, by omega⟩) ?_
    rintro r new1 ⟨rfl, nr1⟩
    rw [fr_one (by omega)]
    simp (config := {implicitDefEqProofs := false, maxDischargeDepth := 20}) (disch := first | omega | (simp only [lenE]; done) | (simp only [lenE]; omega) | rfl | (simp only [lenE, markR_len]; done) | (simp only [lenE, markR_len]; omega)) only [runE, mapE, listE, initT_5, initT_6, initT_7, initT_8, resV, oneV, binA, unA, reduceCtorEq, Nat.reduceEqDiff, Nat.reduceAdd, Nat.reduceLT, Nat.reduceLeDiff, Nat.reduceMul, Nat.reduceSub, ↓reduceIte, decide_true, decide_false, Bool.true_eq_false, Bool.false_eq_true, Bool.not_true, Bool.not_false, if_true, if_false, and_true, true_and, memE, celE, w64, Nat.zero_add, Nat.add_zero, Nat.mul_one, putL, and_self, ldn]
    refine rcallH_rc (cmpFr_rc _ z (c, 1) ⟨nn.1.1, nn.2.1, by omega, by omega⟩ ⟨by simp; omega, by simp, by simp; omega, by simp⟩) ?_
    rintro r new2 ⟨rfl, nr2⟩
    have e := cmpF_le z (c, 1)
    simp only [Int.mul_one] at e
    simp (config := {implicitDefEqProofs := false, maxDischargeDepth := 20}) (disch := first | omega | (simp only [lenE]; done) | (simp only [lenE]; omega) | rfl | (simp only [lenE, markR_len]; done) | (simp only [lenE, markR_len]; omega)) only [runE, mapE, listE, initT_5, initT_6, initT_7, initT_8, resV, oneV, binA, unA, reduceCtorEq, Nat.reduceEqDiff, Nat.reduceAdd, Nat.reduceLT, Nat.reduceLeDiff, Nat.reduceMul, Nat.reduceSub, ↓reduceIte, decide_true, decide_false, Bool.true_eq_false, Bool.false_eq_true, Bool.not_true, Bool.not_false, if_true, if_false, and_true, true_and, memE, celE, w64, Nat.zero_add, Nat.add_zero, Nat.mul_one, putL, and_self, ldn, e]
    exact ext_ansV ((hX.app nr1).app nr2) rfl

end Go.Proofs.Ytbjjkcoecaopcaa.Ab
end
section
namespace Go.Proofs.Ytbjjkcoecaopcaa.Ab
open Go Go.RowKit
set_option linter.unusedVariables false
set_option linter.unusedSimpArgs false
set_option maxRecDepth 10000
def SeesX (id : Nat) (m M : Mem) : Prop := ∀ (i : Nat) (b : Blk), i ≠ id → m[i]? = some b → b.kd ≠ .dead → ∃ b', M[i]? = some b' ∧ b'.cs = b.cs ∧ b'.kd ≠ .dead
theorem SeesX.of {id : Nat} {m M : Mem} (h : Sees m M) : SeesX id m M := fun i b _ => h i b
theorem SeesX.then {id : Nat} {m M M' : Mem} (h : SeesX id m M) (h' : Sees M M') : SeesX id m M' := fun i b hi hx hd => by
  obtain ⟨y, hy, e, hd2⟩ := h i b hi hx hd
  obtain ⟨z, hz, e2, hd3⟩ := h' i y hy hd2
  exact ⟨z, hz, e2.trans e, hd3⟩
theorem SeesX.set {id : Nat} {m M : Mem} (h : SeesX id m M) (x : Blk) : SeesX id m (M.set id x) := fun i b hi hx hd => by
  obtain ⟨y, hy, e, hd2⟩ := h i b hi hx hd
  exact ⟨y, by rw [List.getElem?_set_ne (Ne.symm hi)]; exact hy, e, hd2⟩
def TestX (id : Nat) (m : Mem) (fv : Value) (l : List Int) (f : Int → Bool) : Prop := ∃ g cap, fv = .func (.func g) #[] cap ∧ ∀ M x, SeesX id m M → x ∈ l → RC Try.prog g (.int .i64 x :: cap.toList) M (AnsV (.bool (f x)))
theorem TestX.to {id : Nat} {m M : Mem} {fv : Value} {l : List Int} {f : Int → Bool} (h : TestX id m fv l f) (hM : SeesX id m M) : ∃ g cap, fv = .func (.func g) #[] cap ∧ ∀ M' x, Sees M M' → x ∈ l → RC Try.prog g (.int .i64 x :: cap.toList) M' (AnsV (.bool (f x))) := by
  obtain ⟨g, cap, rfl, hg⟩ := h
  exact ⟨g, cap, rfl, fun M' x hs hx => hg M' x (hM.then hs) hx⟩
def firstN (f : Int → Bool) (l : List Int) : Nat := (l.takeWhile (fun x => !f x)).length
theorem firstN_le (f : Int → Bool) (l : List Int) : firstN f l ≤ l.length := by
  unfold firstN
  exact List.Sublist.length_le (List.takeWhile_sublist _)
theorem firstN_no (f : Int → Bool) : ∀ (l : List Int) (k : Nat), k < firstN f l → f (l.getD k 0) = false := by
  intro l
  induction l with
  | nil => intro k h; simp [firstN] at h
  | cons x l ih =>
    intro k h
    cases hx : f x with
    | true => simp [firstN, List.takeWhile_cons, hx] at h
    | false =>
      cases k with
      | zero => simpa using hx
      | succ k => simp only [List.getD_cons_succ]; exact ih k (by simpa [firstN, List.takeWhile_cons, hx] using h)
theorem firstN_at (f : Int → Bool) : ∀ (l : List Int), firstN f l < l.length → f (l.getD (firstN f l) 0) = true := by
  intro l
  induction l with
  | nil => intro h; simp at h
  | cons x l ih =>
    intro h
    cases hx : f x with
    | true => simp [firstN, List.takeWhile_cons, hx]
    | false =>
      have e : firstN f (x :: l) = firstN f l + 1 := by simp [firstN, List.takeWhile_cons, hx]
      rw [e] at h ⊢
      simp only [List.getD_cons_succ]
      exact ih (by simpa using h)
theorem firstN_eq (f : Int → Bool) (l : List Int) (k : Nat) (hk : k < l.length) (h1 : ∀ j, j < k → f (l.getD j 0) = false) (h2 : f (l.getD k 0) = true) : firstN f l = k := by
  rcases Nat.lt_trichotomy (firstN f l) k with h | h | h
  · have := firstN_at f l (by omega)
    rw [h1 _ h] at this; cases this
  · exact h
  · have := firstN_no f l k h
    rw [h2] at this; cases this
theorem firstN_all (f : Int → Bool) (l : List Int) (h1 : ∀ j, j < l.length → f (l.getD j 0) = false) : firstN f l = l.length := by
  rcases Nat.lt_or_ge (firstN f l) l.length with h | h
  · have := firstN_at f l h
    rw [h1 _ h] at this; cases this
  · have := firstN_le f l; omega
theorem getD_memX {l : List Int} {k : Nat} (hk : k < l.length) : l.getD k 0 ∈ l := by
  rw [List.getD_eq_getElem?_getD, List.getElem?_eq_getElem hk]; exact List.getElem_mem hk
theorem indexS_rc (m : Mem) (v fv : Value) (l : List Int) (f : Int → Bool) (h : IntsA m v l) (hf : ∃ g cap, fv = .func (.func g) #[] cap ∧ ∀ M' x, Sees m M' → x ∈ l → RC Try.prog g (.int .i64 x :: cap.toList) M' (AnsV (.bool (f x)))) :
    RC Try.prog 69 [v, fv] m (AnsV (.int .i64 (if firstN f l < l.length then (firstN f l : Int) else -1))) := by
  refine rc_of_run mixed ok_slices_IndexFunc (by simp) (go_start _ _ _ ?_)
  obtain ⟨g, cap, rfl, hg⟩ := hf
  have hr := h.ro
  have hl := hr.len
  have hbd := hr.bd
  simp (config := {implicitDefEqProofs := false, maxDischargeDepth := 20}) (disch := first | omega | (simp only [lenE]; done) | (simp only [lenE]; omega) | rfl | (simp only [lenE, markR_len]; done) | (simp only [lenE, markR_len]; omega)) only [runE, mapE, listE, initT_5, initT_6, initT_7, initT_8, resV, oneV, binA, unA, reduceCtorEq, Nat.reduceEqDiff, Nat.reduceAdd, Nat.reduceLT, Nat.reduceLeDiff, Nat.reduceMul, Nat.reduceSub, ↓reduceIte, decide_true, decide_false, Bool.true_eq_false, Bool.false_eq_true, Bool.not_true, Bool.not_false, if_true, if_false, and_true, true_and, memE, celE, w64, Nat.zero_add, Nat.add_zero, Nat.mul_one, putL, and_self, ldn, c_slices_IndexFunc, r_slices_IndexFunc, hl]
  refine loop_inv mixed (fun s => ∃ (k : Nat) (M : Mem), k ≤ l.length ∧ (∀ j, j < k → f (l.getD j 0) = false) ∧ s.m = M ∧ Ext m M ∧ s.t 0 = v ∧ s.t 1 = .func (.func g) #[] cap ∧ s.t 7 = .int .i64 (l.length : Int) ∧ s.t 8 = .int .i64 (k : Int)) (fun s => l.length - (intOf (s.t 8)).toNat)
    ⟨0, _, by omega, fun j hj => absurd hj (by omega), rfl, Ext.refl m, rfl, rfl, rfl, rfl⟩ ?_
  rintro s ⟨k, M, hk, hno, tm, hX, t0, t1, t7, t8⟩
  have hM := hX.ints hr
  by_cases hkl : k < l.length
  · have hlt : (k : Int) < l.length := by omega
    have i1 := hM.at_ k hkl
    have i2 := hM.ld k hkl
    simp (config := {implicitDefEqProofs := false, maxDischargeDepth := 20}) (disch := first | omega | (simp only [lenE]; done) | (simp only [lenE]; omega) | rfl | (simp only [lenE, markR_len]; done) | (simp only [lenE, markR_len]; omega)) only [runE, mapE, listE, initT_5, initT_6, initT_7, initT_8, resV, oneV, binA, unA, reduceCtorEq, Nat.reduceEqDiff, Nat.reduceAdd, Nat.reduceLT, Nat.reduceLeDiff, Nat.reduceMul, Nat.reduceSub, ↓reduceIte, decide_true, decide_false, Bool.true_eq_false, Bool.false_eq_true, Bool.not_true, Bool.not_false, if_true, if_false, and_true, true_and, memE, celE, w64, Nat.zero_add, Nat.add_zero, Nat.mul_one, putL, and_self, ldn, tm, t0, t1, t7, t8, hlt, i1, i2, List.append_nil, List.nil_append, List.cons_append]
    refine callH_rc (hg M (l.getD k 0) (Sees.ext hX) (getD_memX hkl)) ?_
    rintro r new ⟨rfl, nrn⟩
    cases hb : f (l.getD k 0) with
    | true =>
      simp (config := {implicitDefEqProofs := false, maxDischargeDepth := 20}) (disch := first | omega | (simp only [lenE]; done) | (simp only [lenE]; omega) | rfl | (simp only [lenE, markR_len]; done) | (simp only [lenE, markR_len]; omega)) only [runE, mapE, listE, initT_5, initT_6, initT_7, initT_8, resV, oneV, binA, unA, reduceCtorEq, Nat.reduceEqDiff, Nat.reduceAdd, Nat.reduceLT, Nat.reduceLeDiff, Nat.reduceMul, Nat.reduceSub, ↓reduceIte, decide_true, decide_false, Bool.true_eq_false, Bool.false_eq_true, Bool.not_true, Bool.not_false, if_true, if_false, and_true, true_and, memE, celE, w64, Nat.zero_add, Nat.add_zero, Nat.mul_one, putL, and_self, ldn, tm, t0, t1, t7, t8]
      refine ext_ansV (hX.app nrn) ?_
      rw [firstN_eq f l k hkl hno hb, if_pos hkl]
    | false =>
      simp (config := {implicitDefEqProofs := false, maxDischargeDepth := 20}) (disch := first | omega | (simp only [lenE]; done) | (simp only [lenE]; omega) | rfl | (simp only [lenE, markR_len]; done) | (simp only [lenE, markR_len]; omega)) only [runE, mapE, listE, initT_5, initT_6, initT_7, initT_8, resV, oneV, binA, unA, reduceCtorEq, Nat.reduceEqDiff, Nat.reduceAdd, Nat.reduceLT, Nat.reduceLeDiff, Nat.reduceMul, Nat.reduceSub, ↓reduceIte, decide_true, decide_false, Bool.true_eq_false, Bool.false_eq_true, Bool.not_true, Bool.not_false, if_true, if_false, and_true, true_and, memE, celE, w64, Nat.zero_add, Nat.add_zero, Nat.mul_one, putL, and_self, ldn, tm, t0, t1, t7, t8]
      refine ⟨⟨k + 1, _, by omega, fun j hj => ?_, rfl, hX.app nrn, by simp⟩, ?_⟩
      · by_cases e : j = k
        · subst e; exact hb
        · exact hno j (by omega)
      · simp [intOf]; omega
  · have hlt : ¬ ((k : Int) < l.length) := by omega
    have e : k = l.length := by omega
    subst e
    simp (config := {implicitDefEqProofs := false, maxDischargeDepth := 20}) (disch := first | omega | (simp only [lenE]; done) | (simp only [lenE]; omega) | rfl | (simp only [lenE, markR_len]; done) | (simp only [lenE, markR_len]; omega)) only [runE, mapE, listE, initT_5, initT_6, initT_7, initT_8, resV, oneV, binA, unA, reduceCtorEq, Nat.reduceEqDiff, Nat.reduceAdd, Nat.reduceLT, Nat.reduceLeDiff, Nat.reduceMul, Nat.reduceSub, ↓reduceIte, decide_true, decide_false, Bool.true_eq_false, Bool.false_eq_true, Bool.not_true, Bool.not_false, if_true, if_false, and_true, true_and, memE, celE, w64, Nat.zero_add, Nat.add_zero, Nat.mul_one, putL, and_self, ldn, tm, t0, t1, t7, t8, hlt]
    refine ext_ansV hX ?_
    rw [firstN_all f l hno, if_neg (by omega)]
theorem filter_take (f : Int → Bool) (l : List Int) (k : Nat) (hk : k < l.length) : (l.take (k + 1)).filter f = (l.take k).filter f ++ (if f (l.getD k 0) then [l.getD k 0] else []) := by
  rw [List.take_add_one, List.filter_append, List.getD_eq_getElem?_getD, List.getElem?_eq_getElem hk]
  simp only [Option.toList, Option.getD_some]
  cases hb : f l[k] <;> simp [hb]
theorem ints_part {m : Mem} {id fl : Nat} {e : TypeId} {cs : List Value} {l : List Int} (h : OwnB m id e cs) (hl : l.length ≤ cs.length) (hb : l.length ≤ 9223372036854775807) (hc : ∀ q, q < l.length → cs[q]? = some (.int .i64 (l.getD q 0))) :
    IntsA m (.slice (some ⟨id, 0, none⟩) l.length fl) l := by
  refine IntsA.of_block hb (fun k hk => by rw [Nat.zero_add, h.rd]; exact hc k hk) ?_
  unfold OwnB at h
  unfold rdl
  rw [h]
  simp only [Nat.zero_add, List.drop_zero]
  rw [if_neg (by simp), if_pos hl]
  congr 1
  apply List.ext_getElem?
  intro i
  by_cases hi : i < l.length
  · rw [List.getElem?_take_of_lt hi, hc i hi, List.getElem?_map, List.getElem?_eq_getElem hi, List.getD_eq_getElem?_getD, List.getElem?_eq_getElem hi]
    rfl
  · rw [List.getElem?_eq_none (by rw [List.length_take]; omega), List.getElem?_eq_none (by rw [List.length_map]; omega)]
def PartA (id : Nat) (M : Mem) (r : Value) (l : List Int) : Prop := l.length ≤ 1048576 ∧ ∃ fl cs, r = .slice (some ⟨id, 0, none⟩) l.length fl ∧ OwnB M id 3 cs ∧ l.length ≤ cs.length ∧ ∀ q, q < l.length → cs[q]? = some (.int .i64 (l.getD q 0))
theorem PartA.ints {id : Nat} {M : Mem} {r : Value} {l : List Int} (h : PartA id M r l) : IntsA M r l := by
  obtain ⟨h8, fl, cs, rfl, ho, hl, hc⟩ := h
  exact ints_part ho hl (by omega) hc
theorem PartA.at_ {id : Nat} {M M' : Mem} {r : Value} {l : List Int} (h : PartA id M r l) (he : M'[id]? = M[id]?) : PartA id M' r l := by
  obtain ⟨h8, fl, cs, rfl, ho, hl, hc⟩ := h
  exact ⟨h8, fl, cs, rfl, ho.at_ he, hl, hc⟩
structure Left (id : Nat) (m M : Mem) : Prop where
  le : m.length ≤ M.length
  same : ∀ i, i < m.length → i ≠ id → M[i]? = m[i]?
  new : ∀ (i : Nat) (k : Blk), m.length ≤ i → M[i]? = some k → k.kd ≠ .ro
  own : (∀ k, m[id]? = some k → k.kd ≠ .ro) → ∀ k, M[id]? = some k → k.kd ≠ .ro
theorem Left.refl (id : Nat) (m : Mem) : Left id m m := ⟨Nat.le_refl _, fun _ _ _ => rfl, fun i k h1 h2 => by have := (List.getElem?_eq_some_iff.1 h2).1; omega, fun h => h⟩
theorem Left.app {id : Nat} {m M new : Mem} (h : Left id m M) (hn : NoRo new) : Left id m (M ++ new) := by
  have := h.le
  refine ⟨by rw [List.length_append]; omega, fun i h1 h2 => by rw [List.getElem?_append_left (by omega)]; exact h.same i h1 h2, fun i k h1 h2 => ?_, fun h0 k h2 => ?_⟩
  · by_cases hi : i < M.length
    · rw [List.getElem?_append_left hi] at h2; exact h.new i k h1 h2
    · rw [List.getElem?_append_right (by omega)] at h2
      exact hn k (List.mem_of_getElem? h2)
  · by_cases hi : id < M.length
    · rw [List.getElem?_append_left hi] at h2; exact h.own h0 k h2
    · rw [List.getElem?_append_right (by omega)] at h2
      exact hn k (List.mem_of_getElem? h2)
theorem Left.set {id : Nat} {m M : Mem} (h : Left id m M) (e : TypeId) (cs : List Value) : Left id m (M.set id ⟨.own, e, cs⟩) := by
  have key : ∀ k, (M.set id ⟨.own, e, cs⟩)[id]? = some k → k.kd ≠ .ro := fun k h2 => by
    rw [List.getElem?_set] at h2
    simp only [if_true] at h2
    split at h2
    · cases h2; simp
    · cases h2
  refine ⟨by rw [List.length_set]; exact h.le, fun i h1 h2 => by rw [List.getElem?_set_ne (Ne.symm h2)]; exact h.same i h1 h2, fun i k h1 h2 => ?_, fun _ => key⟩
  by_cases hi : i = id
  · subst hi; exact key k h2
  · rw [List.getElem?_set_ne (Ne.symm hi)] at h2; exact h.new i k h1 h2
theorem Left.extX {id : Nat} {m A M : Mem} (hX : Ext m A) (h : Left id A M) (hid : m.length ≤ id) : Ext m M := by
  obtain ⟨n0, rfl, h0⟩ := hX
  have hle := h.le
  rw [List.length_append, roM_len] at hle
  have hsame : ∀ i, i < m.length → M[i]? = (roM m)[i]? := fun i hi => by
    rw [h.same i (by rw [List.length_append, roM_len]; omega) (by omega), List.getElem?_append_left (by rw [roM_len]; exact hi)]
  refine ⟨M.drop m.length, ?_, fun b hb => ?_⟩
  · apply List.ext_getElem?
    intro i
    by_cases hi : i < m.length
    · rw [List.getElem?_append_left (by rw [roM_len]; exact hi)]; exact hsame i hi
    · rw [List.getElem?_append_right (by rw [roM_len]; omega), List.getElem?_drop, roM_len]
      congr 1
      omega
  · obtain ⟨j, hj, rfl⟩ := List.mem_iff_getElem.1 hb
    rw [List.length_drop] at hj
    have hat : M[m.length + j]? = some ((M.drop m.length)[j]'(by rw [List.length_drop]; exact hj)) := by
      rw [List.getElem_drop]; exact List.getElem?_eq_getElem (by omega)
    have old : ∀ (i : Nat) (k : Blk), m.length ≤ i → (roM m ++ n0)[i]? = some k → k.kd ≠ .ro := fun i k h1 h2 => by
      rw [List.getElem?_append_right (by rw [roM_len]; omega)] at h2
      exact h0 k (List.mem_of_getElem? h2)
    by_cases h1 : m.length + j < (roM m ++ n0).length
    · by_cases h2 : m.length + j = id
      · rw [h2] at hat
        exact h.own (fun k hk => old id k hid hk) _ hat
      · rw [h.same _ h1 h2] at hat
        exact old _ _ (by omega) hat
    · exact h.new _ _ (by omega) hat
theorem Left.sees {id : Nat} {m M : Mem} (h : Left id m M) : SeesX id m M := fun i b hi hx hd =>
  ⟨b, by rw [h.same i (List.getElem?_eq_some_iff.1 hx).1 hi]; exact hx, rfl, hd⟩
theorem clr_own {M : Mem} {id fl n : Nat} {e : TypeId} {cs : List Value} {off : Nat} (h : OwnB M id e cs) (hn : off + n ≤ cs.length) :
    ∃ cs' : List Value, cs'.length = cs.length ∧ (∀ q, q < off → cs'[q]? = cs[q]?) ∧ ∃ M', clrA M [.int .i64 0] (.slice (some ⟨id, off, none⟩) n fl) = some M' ∧ OwnB M' id e cs' ∧ ∀ m id0, id0 = id → Left id0 m M → Left id0 m M' := by
  by_cases h0 : n = 0
  · subst h0
    exact ⟨cs, rfl, fun q _ => rfl, M, by simp [clrA], h, fun m id0 _ hL => hL⟩
  · have hz : onesB (repL n [.int .i64 0]) = true := by
      rw [repL_one]
      simp [onesB, Value.oneCell']
    have hl : (repL n [Value.int .i64 0]).length = n := by rw [repL_one]; simp
    refine ⟨putL cs off (repL n [.int .i64 0]), putL_len _ _ _, fun q hq => ?_, M.set id ⟨.own, e, putL cs off (repL n [.int .i64 0])⟩, ?_, h.set_self _ _, fun m id0 he hL => by subst he; exact hL.set _ _⟩
    · rw [putL_at _ _ _ _ (by rw [hl]; exact hn), if_neg (by omega)]
    · simp only [clrA, h0, if_false]
      exact h.st (by rw [hl]; exact hn) hz
theorem deleteInts_ac (m : Mem) (id fl : Nat) (fv : Value) (l : List Int) (f : Int → Bool) (h : OwnR m id l) (h8 : l.length ≤ 1048576) (hf : TestX id m fv l f) :
    AC Try.prog 59 [.slice (some ⟨id, 0, none⟩) l.length fl, fv] m fun r m' => Left id m m' ∧ PartA id m' r (l.filter (fun x => !f x)) := by
  refine ac_of_run mixed ok_slices_DeleteFunc (by simp) (go_start _ _ _ ?_)
  obtain ⟨g, cap, rfl, hg⟩ := _root_.id hf
  have hI := h.ints (by omega) fl
  simp (config := {implicitDefEqProofs := false, maxDischargeDepth := 20}) (disch := first | omega | (simp only [lenE]; done) | (simp only [lenE]; omega) | rfl | (simp only [lenE, markR_len]; done) | (simp only [lenE, markR_len]; omega)) only [runE, mapE, listE, initT_5, initT_6, initT_7, initT_8, resV, oneV, binA, unA, reduceCtorEq, Nat.reduceEqDiff, Nat.reduceAdd, Nat.reduceLT, Nat.reduceLeDiff, Nat.reduceMul, Nat.reduceSub, ↓reduceIte, decide_true, decide_false, Bool.true_eq_false, Bool.false_eq_true, Bool.not_true, Bool.not_false, if_true, if_false, and_true, true_and, memE, celE, w64, Nat.zero_add, Nat.add_zero, Nat.mul_one, putL, and_self, ldn, c_slices_DeleteFunc, r_slices_DeleteFunc]
  refine callH_rc (indexS_rc m _ _ l f hI (hf.to (SeesX.of (Sees.refl m)))) ?_
  rintro r new0 ⟨rfl, nr0⟩
  by_cases hfi : firstN f l < l.length
  · rw [if_pos hfi]
    have hne : ((firstN f l : Int) == -1) = false := by rw [beq_eq_false_iff_ne]; omega
    simp (config := {implicitDefEqProofs := false, maxDischargeDepth := 20}) (disch := first | omega | (simp only [lenE]; done) | (simp only [lenE]; omega) | rfl | (simp only [lenE, markR_len]; done) | (simp only [lenE, markR_len]; omega)) only [runE, mapE, listE, initT_5, initT_6, initT_7, initT_8, resV, oneV, binA, unA, reduceCtorEq, Nat.reduceEqDiff, Nat.reduceAdd, Nat.reduceLT, Nat.reduceLeDiff, Nat.reduceMul, Nat.reduceSub, ↓reduceIte, decide_true, decide_false, Bool.true_eq_false, Bool.false_eq_true, Bool.not_true, Bool.not_false, if_true, if_false, and_true, true_and, memE, celE, w64, Nat.zero_add, Nat.add_zero, Nat.mul_one, putL, and_self, ldn, hne]
    have hkeep : (l.take (firstN f l)).filter (fun x => !f x) = l.take (firstN f l) := by
      apply List.filter_eq_self.2
      intro x hx
      obtain ⟨j, hj, rfl⟩ := List.mem_iff_getElem.1 hx
      rw [List.length_take] at hj
      have := firstN_no f l j (by omega)
      rw [List.getD_eq_getElem?_getD, List.getElem?_eq_getElem (by omega)] at this
      simp at this ⊢
      exact this
    have hfst := firstN_at f l hfi
    have hstep0 := filter_take (fun x => !f x) l (firstN f l) hfi
    rw [hfst, hkeep] at hstep0
    simp only [Bool.not_true, Bool.false_eq_true, if_false, List.append_nil] at hstep0
    have hOb : OwnB m id 3 (l.map (Value.int .i64)) := h
    refine loop_inv mixed (fun s => ∃ (j i : Nat) (M : Mem) (cs : List Value), j ≤ l.length ∧ i < j ∧ i = ((l.take j).filter (fun x => !f x)).length ∧ s.m = M ∧ Left id m M ∧ OwnB M id 3 cs ∧ cs.length = l.length ∧
        (∀ q, q < i → cs[q]? = some (.int .i64 (((l.take j).filter (fun x => !f x)).getD q 0))) ∧ (∀ q, j ≤ q → q < l.length → cs[q]? = some (.int .i64 (l.getD q 0))) ∧
        s.t 0 = .slice (some ⟨id, 0, none⟩) l.length fl ∧ s.t 1 = .func (.func g) #[] cap ∧ s.t 5 = .int .i64 (i : Int) ∧ s.t 6 = .int .i64 (j : Int)) (fun s => l.length - (intOf (s.t 6)).toNat)
      ⟨firstN f l + 1, firstN f l, _, _, by omega, by omega, ?_, rfl, (Left.refl id m).app nr0, hOb.ext _, by simp, ?_, ?_, rfl, rfl, rfl, by simp; rfl⟩ ?_
    · rw [hstep0, List.length_take]; omega
    · intro q hq
      rw [hstep0, List.getElem?_map, List.getElem?_eq_getElem (by omega), List.getD_eq_getElem?_getD, List.getElem?_take_of_lt hq, List.getElem?_eq_getElem (by omega)]
      rfl
    · intro q _ hq
      rw [List.getElem?_map, List.getElem?_eq_getElem hq, List.getD_eq_getElem?_getD, List.getElem?_eq_getElem hq]
      rfl
    rintro s ⟨j, i, M, cs, hj, hij, hi, tm, hL, ho, hcl, hpre, hpost, t0, t1, t5, t6⟩
    by_cases hjl : j < l.length
    · have hlt : (j : Int) < l.length := by omega
      have r1 : rdc M id j = some (.int .i64 (l.getD j 0)) := by rw [ho.rd]; exact hpost j (Nat.le_refl _) hjl
      simp (config := {implicitDefEqProofs := false, maxDischargeDepth := 20}) (disch := first | omega | (simp only [lenE]; done) | (simp only [lenE]; omega) | rfl | (simp only [lenE, markR_len]; done) | (simp only [lenE, markR_len]; omega)) only [runE, mapE, listE, initT_5, initT_6, initT_7, initT_8, resV, oneV, binA, unA, reduceCtorEq, Nat.reduceEqDiff, Nat.reduceAdd, Nat.reduceLT, Nat.reduceLeDiff, Nat.reduceMul, Nat.reduceSub, ↓reduceIte, decide_true, decide_false, Bool.true_eq_false, Bool.false_eq_true, Bool.not_true, Bool.not_false, if_true, if_false, and_true, true_and, memE, celE, w64, Nat.zero_add, Nat.add_zero, Nat.mul_one, putL, and_self, ldn, tm, t0, t1, t5, t6, hlt, iadA_in hjl, r1, Nat.mul_one, List.append_nil, List.nil_append, List.cons_append]
      refine callH_rc (hg M (l.getD j 0) hL.sees (getD_memX hjl)) ?_
      rintro r new ⟨rfl, nrn⟩
      have hft := filter_take (fun x => !f x) l j hjl
      cases hb : f (l.getD j 0) with
      | true =>
        rw [hb] at hft
        simp only [Bool.not_true, Bool.false_eq_true, if_false, List.append_nil] at hft
        simp (config := {implicitDefEqProofs := false, maxDischargeDepth := 20}) (disch := first | omega | (simp only [lenE]; done) | (simp only [lenE]; omega) | rfl | (simp only [lenE, markR_len]; done) | (simp only [lenE, markR_len]; omega)) only [runE, mapE, listE, initT_5, initT_6, initT_7, initT_8, resV, oneV, binA, unA, reduceCtorEq, Nat.reduceEqDiff, Nat.reduceAdd, Nat.reduceLT, Nat.reduceLeDiff, Nat.reduceMul, Nat.reduceSub, ↓reduceIte, decide_true, decide_false, Bool.true_eq_false, Bool.false_eq_true, Bool.not_true, Bool.not_false, if_true, if_false, and_true, true_and, memE, celE, w64, Nat.zero_add, Nat.add_zero, Nat.mul_one, putL, and_self, ldn, tm, t0, t1, t5, t6]
        refine ⟨⟨j + 1, i, _, cs, by omega, by omega, by rw [hft]; exact hi, rfl, hL.app nrn, ho.ext _, hcl, fun q hq => by rw [hft]; exact hpre q hq, fun q h1 h2 => hpost q (by omega) h2, rfl, by simp⟩, ?_⟩
        simp [intOf]; omega
      | false =>
        rw [hb] at hft
        simp only [Bool.not_false, if_true] at hft
        have hst := (ho.ext new).st (off := i) (vs := [.int .i64 (l.getD j 0)]) (by simp; omega) rfl
        have hil : i < l.length := by omega
        simp (config := {implicitDefEqProofs := false, maxDischargeDepth := 20}) (disch := first | omega | (simp only [lenE]; done) | (simp only [lenE]; omega) | rfl | (simp only [lenE, markR_len]; done) | (simp only [lenE, markR_len]; omega)) only [runE, mapE, listE, initT_5, initT_6, initT_7, initT_8, resV, oneV, binA, unA, reduceCtorEq, Nat.reduceEqDiff, Nat.reduceAdd, Nat.reduceLT, Nat.reduceLeDiff, Nat.reduceMul, Nat.reduceSub, ↓reduceIte, decide_true, decide_false, Bool.true_eq_false, Bool.false_eq_true, Bool.not_true, Bool.not_false, if_true, if_false, and_true, true_and, memE, celE, w64, Nat.zero_add, Nat.add_zero, Nat.mul_one, putL, and_self, ldn, tm, t0, t1, t5, t6, iadA_in hil, hst, Nat.mul_one]
        refine ⟨⟨j + 1, i + 1, _, cs.set i (.int .i64 (l.getD j 0)), by omega, by omega, ?_, rfl, (hL.app nrn).set _ _, (ho.ext new).set_self _ _, by simp [hcl], fun q hq => ?_, fun q h1 h2 => ?_, by simp, by simp⟩, ?_⟩
        · rw [hft, List.length_append]; simp; omega
        · rw [hft]
          by_cases e : q = i
          · subst e
            rw [List.getElem?_set_self (by omega)]
            generalize l.getD j 0 = y at *
            have ey : ((List.filter (fun x => !f x) (List.take j l)) ++ [y]).getD q 0 = y := by
              rw [hi, List.getD_eq_getElem?_getD]
              simp
            rw [ey]
          · rw [List.getElem?_set_ne (by omega), hpre q (by omega), List.getD_eq_getElem?_getD, List.getD_eq_getElem?_getD, List.getElem?_append_left (by omega)]
        · rw [List.getElem?_set_ne (by omega)]; exact hpost q (by omega) h2
        · simp [intOf]; omega
    · have hlt : ¬ ((j : Int) < l.length) := by omega
      have e : j = l.length := by omega
      subst e
      rw [List.take_length] at hi hpre
      obtain ⟨cs', hcl', hcs', M', hclr, ho', hL'⟩ := clr_own (n := l.length - i) (fl := 0) (off := i) ho (by omega)
      have hLf := hL' m id rfl hL
      have hil : i ≤ l.length := by omega
      have hs1 : slcA 1 (.slice (some ⟨id, 0, none⟩) l.length fl) (some (.int .i64 (i : Int))) none = some (.slice (some ⟨id, i, none⟩) (l.length - i) 0) := by
        simp only [slcA, boundA, Int.toNat_natCast]
        rw [if_pos (by omega)]
        simp [hil]
      have hs2 : slcA 1 (.slice (some ⟨id, 0, none⟩) l.length fl) none (some (.int .i64 (i : Int))) = some (.slice (some ⟨id, 0, none⟩) i fl) := by
        simp only [slcA, boundA, Int.toNat_natCast]
        rw [if_pos (by omega)]
        simp [hil]
      simp (config := {implicitDefEqProofs := false, maxDischargeDepth := 20}) (disch := first | omega | (simp only [lenE]; done) | (simp only [lenE]; omega) | rfl | (simp only [lenE, markR_len]; done) | (simp only [lenE, markR_len]; omega)) only [runE, mapE, listE, initT_5, initT_6, initT_7, initT_8, resV, oneV, binA, unA, reduceCtorEq, Nat.reduceEqDiff, Nat.reduceAdd, Nat.reduceLT, Nat.reduceLeDiff, Nat.reduceMul, Nat.reduceSub, ↓reduceIte, decide_true, decide_false, Bool.true_eq_false, Bool.false_eq_true, Bool.not_true, Bool.not_false, if_true, if_false, and_true, true_and, memE, celE, w64, Nat.zero_add, Nat.add_zero, Nat.mul_one, putL, and_self, ldn, tm, t0, t1, t5, t6, hlt, hs1, hs2, hclr, Option.map_none]
      refine ⟨hLf, ?_⟩
      rw [hi]
      exact ⟨by omega, fl, cs', rfl, ho', by omega, fun q hq => by rw [hcs' q (by omega)]; exact hpre q (by omega)⟩
  · rw [if_neg hfi]
    have e : firstN f l = l.length := by have := firstN_le f l; omega
    simp (config := {implicitDefEqProofs := false, maxDischargeDepth := 20}) (disch := first | omega | (simp only [lenE]; done) | (simp only [lenE]; omega) | rfl | (simp only [lenE, markR_len]; done) | (simp only [lenE, markR_len]; omega)) only [runE, mapE, listE, initT_5, initT_6, initT_7, initT_8, resV, oneV, binA, unA, reduceCtorEq, Nat.reduceEqDiff, Nat.reduceAdd, Nat.reduceLT, Nat.reduceLeDiff, Nat.reduceMul, Nat.reduceSub, ↓reduceIte, decide_true, decide_false, Bool.true_eq_false, Bool.false_eq_true, Bool.not_true, Bool.not_false, if_true, if_false, and_true, true_and, memE, celE, w64, Nat.zero_add, Nat.add_zero, Nat.mul_one, putL, and_self, ldn, show ((-1 : Int) == -1) = true by rfl]
    refine ⟨(Left.refl id m).app nr0, ?_⟩
    have : l.filter (fun x => !f x) = l := by
      apply List.filter_eq_self.2
      intro x hx
      obtain ⟨j, hj, rfl⟩ := List.mem_iff_getElem.1 hx
      have := firstN_no f l j (by omega)
      rw [List.getD_eq_getElem?_getD, List.getElem?_eq_getElem hj] at this
      simp at this ⊢
      exact this
    rw [this]
    have hOb : OwnB m id 3 (l.map (Value.int .i64)) := h
    refine ⟨h8, fl, _, rfl, hOb.ext _, by simp, fun q hq => ?_⟩
    rw [List.getElem?_map, List.getElem?_eq_getElem hq, List.getD_eq_getElem?_getD, List.getElem?_eq_getElem hq]
    rfl
end Go.Proofs.Ytbjjkcoecaopcaa.Ab
end
section
namespace Go.Proofs.Ytbjjkcoecaopcaa.Ab
open Go Go.RowKit Go.Proofs
set_option maxRecDepth 100000
def c_spec_LeastCommon : ACode := .seq (.reg [⟨(some 2), .mv (.const (.int .i64 0)), none⟩,
  ⟨(some 3), .mv (.const (.bool false)), none⟩])
 (.seq (.seq (.reg [⟨(some 4), .mv (.tmp 0), none⟩,
  ⟨(some 5), .call (.func 42) [(.tmp 4)], none⟩,
  ⟨(some 6), .un .not (.tmp 5), none⟩,
  ⟨(some 7), .mv (.tmp 6), none⟩,
  ⟨(some 8), .mv (.tmp 0), (some (7, false))⟩,
  ⟨(some 9), .call (.func 43) [(.tmp 8)], (some (7, false))⟩,
  ⟨(some 10), .bin .eql (.tmp 9) (.const (.int .i64 0)), (some (7, false))⟩,
  ⟨(some 11), .pick (.tmp 7) (.const (.bool true)) (.tmp 10), none⟩])
 (.cond (.tmp 11) (.seq (.reg [⟨(some 2), .mv (.const (.int .i64 0)), none⟩,
  ⟨(some 3), .mv (.const (.bool false)), none⟩])
 (.ret)) (.skip)))
 (.seq (.reg [⟨(some 12), .mv (.tmp 0), none⟩,
  ⟨(some 13), .call (.func 43) [(.tmp 12)], none⟩,
  ⟨(some 2), .mv (.tmp 13), none⟩,
  ⟨(some 3), .mv (.const (.bool true)), none⟩])
 (.ret)))
def r_spec_LeastCommon : List ARes := [.tmp 2, .tmp 3]
theorem ok_spec_LeastCommon : FnOk Try.prog 19 14 c_spec_LeastCommon r_spec_LeastCommon := ⟨⟨Try.f19, _, Try.func19, by kernel_rfl, rfl, rfl, by kernel_rfl, by kernel_rfl⟩⟩
end Go.Proofs.Ytbjjkcoecaopcaa.Ab
end
section
namespace Go.Proofs.Ytbjjkcoecaopcaa.Ab
open Go Go.RowKit
set_option linter.unusedVariables false
set_option linter.unusedSimpArgs false
set_option maxRecDepth 10000
theorem specShared_rc (m : Mem) (v : Value) (L : List It) (c : Int) (h : ItemsA m v L) (hF : GoodF L) (hc : 1 ≤ c ∧ c ≤ 400) : RC Try.prog 45 [v, .int .i64 c] m (AnsV (frV (sharedF L c))) := by
  refine rc_of_run mixed ok_spec_l8Shared (by simp) (go_start _ _ _ ?_)
  simp (config := {implicitDefEqProofs := false, maxDischargeDepth := 20}) (disch := first | omega | (simp only [lenE]; done) | (simp only [lenE]; omega) | rfl | (simp only [lenE, markR_len]; done) | (simp only [lenE, markR_len]; omega)) only [runE, mapE, listE, initT_5, initT_6, initT_7, initT_8, resV, oneV, binA, unA, reduceCtorEq, Nat.reduceEqDiff, Nat.reduceAdd, Nat.reduceLT, Nat.reduceLeDiff, Nat.reduceMul, Nat.reduceSub, ↓reduceIte, decide_true, decide_false, Bool.true_eq_false, Bool.false_eq_true, Bool.not_true, Bool.not_false, if_true, if_false, and_true, true_and, memE, celE, w64, Nat.zero_add, Nat.add_zero, Nat.mul_one, putL, and_self, ldn, c_spec_l8Shared, r_spec_l8Shared, bld01, stP_agg2]
  obtain ⟨E, hE⟩ : ∃ M, M = roM m ++ [⟨.own, 28, [.int .i64 0, .int .i64 0]⟩] ++ [⟨.own, 28, [.int .i64 0, .int .i64 1]⟩] := ⟨_, rfl⟩
  have hX : Ext m E := by rw [hE]; exact ((Ext.refl m).one _ _).one _ _
  have o0 : OwnB E m.length 28 [.int .i64 0, .int .i64 0] := by rw [hE]; exact (OwnB.here (by simp [roM_len])).ext _
  have o1 : OwnB E (m.length + 1) 28 [.int .i64 0, .int .i64 1] := by rw [hE]; exact OwnB.here (by simp [roM_len])
  try rw [← hE]
  clear hE
  refine loop_inv mixed (fun s => ∃ (k : Nat) (M : Mem), k ≤ L.length ∧ s.m = M ∧ Ext m M ∧ OwnB M m.length 28 [.int .i64 0, .int .i64 0] ∧ OwnB M (m.length + 1) 28 [.int .i64 (sharedTo L c k).1, .int .i64 (sharedTo L c k).2] ∧ s.t 0 = v ∧ s.t 1 = .int .i64 c ∧ s.t 4 = .pointer (some ⟨m.length, 0, none⟩) ∧ s.t 5 = .pointer (some ⟨m.length + 1, 0, none⟩) ∧ s.t 6 = .int .i64 (k : Int)) (fun s => L.length - (intOf (s.t 6)).toNat)
    ⟨0, _, by omega, rfl, hX, o0, o1, rfl, rfl, rfl, rfl, rfl⟩ ?_
  rintro s ⟨k, M, hk, tm, hX, o0, p0, t0, t1, t4, t5, t6⟩
  have hM := (Sees.ext hX).items h
  have hl := hM.len
  have hbd := hM.1
  by_cases hkl : k < L.length
  · have hlt : (k : Int) < L.length := by omega
    have i1 := hM.at_ hkl
    have i2 := hM.ld hkl
    have g := hF.at_ hkl
    have hm := g.made
    have hd := g.daily
    have hs := g.setup
    have h0 := g.hd
    have hh := g.hdm
    have hstep : sharedTo L c (k + 1) = addF (addF (sharedTo L c k) (fr (L.getD k It0).setup c)) (fr ((L.getD k It0).hold * (L.getD k It0).daily * ((L.getD k It0).made - (L.getD k It0).daily) * c) (2 * (L.getD k It0).made)) := rfl
    obtain ⟨nn, nn2⟩ := shared_nums hF hc k (by omega)
    have nn2 := nn2 hkl
    generalize sharedTo L c k = p at *
    generalize L.getD k It0 = x at *
    have hc2 := mul_le2 (a := x.hold * x.daily * (x.made - x.daily)) (x := c) (A := 7020) (B := 400) (by omega) (by omega)
    have n1 := fr_nums (a := x.setup) (b := c) (A := 99) (B := 400) (by omega) (by omega)
    have n2 := fr_nums (a := x.hold * x.daily * (x.made - x.daily) * c) (b := 2 * x.made) (A := 2808000) (B := 80) (by omega) (by omega)
    have ok1 := plus_ok nn.1 nn.2 n1.1 n1.2 (by decide) (by decide)
    have ok2 := plus_ok nn2.1 nn2.2 n2.1 n2.2 (by decide) (by decide)
    have q1 : ∀ b, ldA (M ++ [b]) (some 2) (.pointer (some ⟨m.length + 1, 0, none⟩)) = some (.agg #[.int .i64 p.1, .int .i64 p.2]) := fun b => (p0.ext [b]).ld2
    simp (config := {implicitDefEqProofs := false, maxDischargeDepth := 20}) (disch := first | omega | (simp only [lenE]; done) | (simp only [lenE]; omega) | rfl | (simp only [lenE, markR_len]; done) | (simp only [lenE, markR_len]; omega)) only [runE, mapE, listE, initT_5, initT_6, initT_7, initT_8, resV, oneV, binA, unA, reduceCtorEq, Nat.reduceEqDiff, Nat.reduceAdd, Nat.reduceLT, Nat.reduceLeDiff, Nat.reduceMul, Nat.reduceSub, ↓reduceIte, decide_true, decide_false, Bool.true_eq_false, Bool.false_eq_true, Bool.not_true, Bool.not_false, if_true, if_false, and_true, true_and, memE, celE, w64, Nat.zero_add, Nat.add_zero, Nat.mul_one, putL, and_self, ldn, tm, t0, t1, t4, t5, t6, hl, hlt, i1, i2, itV, stP_agg5, q1]
    obtain ⟨F, hF2⟩ : ∃ F, F = M ++ [⟨.own, 25, [.int .i64 x.daily, .int .i64 x.setup, .int .i64 x.hold, .int .i64 x.made, .int .i64 x.pause]⟩] := ⟨_, rfl⟩
    rw [← hF2]
    have hXF : Ext m F := by rw [hF2]; exact hX.one _ _
    have pF : OwnB F (m.length + 1) 28 [.int .i64 p.1, .int .i64 p.2] := by rw [hF2]; exact p0.ext _
    have oF : OwnB F m.length 28 [.int .i64 0, .int .i64 0] := by rw [hF2]; exact o0.ext _
    have xF : OwnB F M.length 25 [.int .i64 x.daily, .int .i64 x.setup, .int .i64 x.hold, .int .i64 x.made, .int .i64 x.pause] := by rw [hF2]; exact OwnB.here rfl
    have hgM := hX.len
    have hpl := p0.lt
    clear hF2
    refine rcallH_rc (specCut_rc _ x.setup c ⟨by omega, by omega⟩ ⟨by omega, by omega⟩) ?_
    rintro r new1 ⟨rfl, nr1⟩
    simp (config := {implicitDefEqProofs := false, maxDischargeDepth := 20}) (disch := first | omega | (simp only [lenE]; done) | (simp only [lenE]; omega) | rfl | (simp only [lenE, markR_len]; done) | (simp only [lenE, markR_len]; omega)) only [runE, mapE, listE, initT_5, initT_6, initT_7, initT_8, resV, oneV, binA, unA, reduceCtorEq, Nat.reduceEqDiff, Nat.reduceAdd, Nat.reduceLT, Nat.reduceLeDiff, Nat.reduceMul, Nat.reduceSub, ↓reduceIte, decide_true, decide_false, Bool.true_eq_false, Bool.false_eq_true, Bool.not_true, Bool.not_false, if_true, if_false, and_true, true_and, memE, celE, w64, Nat.zero_add, Nat.add_zero, Nat.mul_one, putL, and_self, ldn]
    refine rcallH_rc (specPlus_rc _ p (fr x.setup c) nn.1.1 nn.2.1 n1.1.1 n1.2.1 ok1.1 ok1.2) ?_
    rintro r new2 ⟨rfl, nr2⟩
    generalize hy : addF p (fr x.setup c) = y at *
    have pG := (pF.ext new1).ext new2
    have hst := pG.st (off := 0) (vs := [.int .i64 y.1, .int .i64 y.2]) (by simp) rfl
    obtain ⟨G, hG⟩ : ∃ G, G = (F ++ new1 ++ new2).set (m.length + 1) ⟨.own, 28, [.int .i64 y.1, .int .i64 y.2]⟩ := ⟨_, rfl⟩
    have hst : stA (F ++ new1 ++ new2) (m.length + 1) 0 [.int .i64 y.1, .int .i64 y.2] = some G := by rw [hG]; exact hst
    have hXG : Ext m G := by rw [hG]; exact ((hXF.app nr1).app nr2).put (by omega) _ _
    have pG2 : OwnB G (m.length + 1) 28 [.int .i64 y.1, .int .i64 y.2] := by rw [hG]; exact pG.set_self _ _
    have oG : OwnB G m.length 28 [.int .i64 0, .int .i64 0] := by rw [hG]; exact ((oF.ext new1).ext new2).set_ne (by omega) _
    have xG : OwnB G M.length 25 [.int .i64 x.daily, .int .i64 x.setup, .int .i64 x.hold, .int .i64 x.made, .int .i64 x.pause] := by rw [hG]; exact ((xF.ext new1).ext new2).set_ne (by omega) _
    simp (config := {implicitDefEqProofs := false, maxDischargeDepth := 20}) (disch := first | omega | (simp only [lenE]; done) | (simp only [lenE]; omega) | rfl | (simp only [lenE, markR_len]; done) | (simp only [lenE, markR_len]; omega)) only [runE, mapE, listE, initT_5, initT_6, initT_7, initT_8, resV, oneV, binA, unA, reduceCtorEq, Nat.reduceEqDiff, Nat.reduceAdd, Nat.reduceLT, Nat.reduceLeDiff, Nat.reduceMul, Nat.reduceSub, ↓reduceIte, decide_true, decide_false, Bool.true_eq_false, Bool.false_eq_true, Bool.not_true, Bool.not_false, if_true, if_false, and_true, true_and, memE, celE, w64, Nat.zero_add, Nat.add_zero, Nat.mul_one, putL, and_self, ldn, tm, t0, t1, t4, t5, t6, frV, stP_agg2, hst, pG2.ld2, xG.rd]
    refine rcallH_rc (specCut_rc _ (x.hold * x.daily * (x.made - x.daily) * c) (2 * x.made) ⟨by omega, by omega⟩ ⟨by omega, by omega⟩) ?_
    rintro r new3 ⟨rfl, nr3⟩
    simp (config := {implicitDefEqProofs := false, maxDischargeDepth := 20}) (disch := first | omega | (simp only [lenE]; done) | (simp only [lenE]; omega) | rfl | (simp only [lenE, markR_len]; done) | (simp only [lenE, markR_len]; omega)) only [runE, mapE, listE, initT_5, initT_6, initT_7, initT_8, resV, oneV, binA, unA, reduceCtorEq, Nat.reduceEqDiff, Nat.reduceAdd, Nat.reduceLT, Nat.reduceLeDiff, Nat.reduceMul, Nat.reduceSub, ↓reduceIte, decide_true, decide_false, Bool.true_eq_false, Bool.false_eq_true, Bool.not_true, Bool.not_false, if_true, if_false, and_true, true_and, memE, celE, w64, Nat.zero_add, Nat.add_zero, Nat.mul_one, putL, and_self, ldn]
    refine rcallH_rc (specPlus_rc _ y (fr (x.hold * x.daily * (x.made - x.daily) * c) (2 * x.made)) nn2.1.1 nn2.2.1 n2.1.1 n2.2.1 ok2.1 ok2.2) ?_
    rintro r new4 ⟨rfl, nr4⟩
    rw [← hstep]
    generalize hz : sharedTo L c (k + 1) = z at *
    have q0 := (pG2.ext new3).ext new4
    have r0 := (oG.ext new3).ext new4
    have hst2 := q0.st (off := 0) (vs := [.int .i64 z.1, .int .i64 z.2]) (by simp) rfl
    simp (config := {implicitDefEqProofs := false, maxDischargeDepth := 20}) (disch := first | omega | (simp only [lenE]; done) | (simp only [lenE]; omega) | rfl | (simp only [lenE, markR_len]; done) | (simp only [lenE, markR_len]; omega)) only [runE, mapE, listE, initT_5, initT_6, initT_7, initT_8, resV, oneV, binA, unA, reduceCtorEq, Nat.reduceEqDiff, Nat.reduceAdd, Nat.reduceLT, Nat.reduceLeDiff, Nat.reduceMul, Nat.reduceSub, ↓reduceIte, decide_true, decide_false, Bool.true_eq_false, Bool.false_eq_true, Bool.not_true, Bool.not_false, if_true, if_false, and_true, true_and, memE, celE, w64, Nat.zero_add, Nat.add_zero, Nat.mul_one, putL, and_self, ldn, tm, t0, t1, t4, t5, t6, frV, stP_agg2, hst2]
    refine ⟨⟨k + 1, _, by omega, rfl, ((hXG.app nr3).app nr4).put (by omega) _ _, r0.set_ne (by omega) _, by rw [hz]; exact q0.set_self _ _, by simp⟩, ?_⟩
    simp [intOf]; omega
  · have hlt : ¬ ((k : Int) < L.length) := by omega
    have e : k = L.length := by omega
    subst e
    unfold sharedF
    generalize sharedTo L c L.length = z at *
    have hst := o0.st (off := 0) (vs := [.int .i64 z.1, .int .i64 z.2]) (by simp) rfl
    have hrd := (o0.set_self 28 [.int .i64 z.1, .int .i64 z.2]).rd
    simp (config := {implicitDefEqProofs := false, maxDischargeDepth := 20}) (disch := first | omega | (simp only [lenE]; done) | (simp only [lenE]; omega) | rfl | (simp only [lenE, markR_len]; done) | (simp only [lenE, markR_len]; omega)) only [runE, mapE, listE, initT_5, initT_6, initT_7, initT_8, resV, oneV, binA, unA, reduceCtorEq, Nat.reduceEqDiff, Nat.reduceAdd, Nat.reduceLT, Nat.reduceLeDiff, Nat.reduceMul, Nat.reduceSub, ↓reduceIte, decide_true, decide_false, Bool.true_eq_false, Bool.false_eq_true, Bool.not_true, Bool.not_false, if_true, if_false, and_true, true_and, memE, celE, w64, Nat.zero_add, Nat.add_zero, Nat.mul_one, putL, and_self, ldn, tm, t0, t1, t4, t5, t6, hl, hlt, p0.ld2, frV, stP_agg2, hst, hrd]
    exact ext_ansV (hX.put (Nat.le_refl _) _ _) rfl

theorem implShared_rc (m : Mem) (v : Value) (L : List It) (c : Int) (h : ItemsA m v L) (hF : GoodF L) (hc : 1 ≤ c ∧ c ≤ 400) : RC Try.prog 44 [v, .int .i64 c] m (AnsV (frV (sharedF L c))) := by
  refine rc_of_run mixed ok_impl_made__costOf (by simp) (go_start _ _ _ ?_)
  simp (config := {implicitDefEqProofs := false, maxDischargeDepth := 20}) (disch := first | omega | (simp only [lenE]; done) | (simp only [lenE]; omega) | rfl | (simp only [lenE, markR_len]; done) | (simp only [lenE, markR_len]; omega)) only [runE, mapE, listE, initT_5, initT_6, initT_7, initT_8, resV, oneV, binA, unA, reduceCtorEq, Nat.reduceEqDiff, Nat.reduceAdd, Nat.reduceLT, Nat.reduceLeDiff, Nat.reduceMul, Nat.reduceSub, ↓reduceIte, decide_true, decide_false, Bool.true_eq_false, Bool.false_eq_true, Bool.not_true, Bool.not_false, if_true, if_false, and_true, true_and, memE, celE, w64, Nat.zero_add, Nat.add_zero, Nat.mul_one, putL, and_self, ldn, c_impl_made__costOf, r_impl_made__costOf]
  obtain ⟨E, hE⟩ : ∃ M, M = roM m ++ [⟨.own, 49, [.int .i64 0, .int .i64 0]⟩] := ⟨_, rfl⟩
  rw [← hE]
  have hX : Ext m E := by rw [hE]; exact (Ext.refl m).one _ _
  have o0 : OwnB E m.length 49 [.int .i64 0, .int .i64 0] := by rw [hE]; exact OwnB.here (roM_len m).symm
  clear hE
  refine callH_rc (implCut_rc _ 0 1 ⟨by omega, by omega⟩ ⟨by omega, by omega⟩) ?_
  rintro r new0 ⟨rfl, nr0⟩
  rw [fr_zero]
  have hX0 := hX.app nr0
  have oo := o0.ext new0
  have hlv := ((Sees.ext hX0).items h).len
  simp (config := {implicitDefEqProofs := false, maxDischargeDepth := 20}) (disch := first | omega | (simp only [lenE]; done) | (simp only [lenE]; omega) | rfl | (simp only [lenE, markR_len]; done) | (simp only [lenE, markR_len]; omega)) only [runE, mapE, listE, initT_5, initT_6, initT_7, initT_8, resV, oneV, binA, unA, reduceCtorEq, Nat.reduceEqDiff, Nat.reduceAdd, Nat.reduceLT, Nat.reduceLeDiff, Nat.reduceMul, Nat.reduceSub, ↓reduceIte, decide_true, decide_false, Bool.true_eq_false, Bool.false_eq_true, Bool.not_true, Bool.not_false, if_true, if_false, and_true, true_and, memE, celE, w64, Nat.zero_add, Nat.add_zero, Nat.mul_one, putL, and_self, ldn, frV, stP_agg2, hlv]
  obtain ⟨E0, hE0⟩ : ∃ M, M = E ++ new0 := ⟨_, rfl⟩
  rw [← hE0] at hX0 oo ⊢
  have LE0 : E.length + new0.length = E0.length := by rw [hE0, List.length_append]
  rw [LE0]
  clear hE0
  have hgt : m.length < E0.length := oo.lt
  obtain ⟨E3, hE3⟩ : ∃ M, M = E0 ++ [⟨.own, 49, [.int .i64 0, .int .i64 1]⟩] := ⟨_, rfl⟩
  have hX3 : Ext m E3 := by rw [hE3]; exact hX0.one _ _
  have o3 : OwnB E3 m.length 49 [.int .i64 0, .int .i64 0] := by rw [hE3]; exact oo.ext _
  have p3 : OwnB E3 E0.length 49 [.int .i64 0, .int .i64 1] := by rw [hE3]; exact OwnB.here rfl
  try rw [← hE3]
  clear hE3
  refine loop_inv mixed (fun s => ∃ (k : Nat) (M : Mem), k ≤ L.length ∧ s.m = M ∧ Ext m M ∧ OwnB M m.length 49 [.int .i64 0, .int .i64 0] ∧ OwnB M E0.length 49 [.int .i64 (sharedTo L c k).1, .int .i64 (sharedTo L c k).2] ∧ s.t 1 = .int .i64 c ∧ s.t 4 = .pointer (some ⟨m.length, 0, none⟩) ∧ s.t 5 = .pointer (some ⟨E0.length, 0, none⟩) ∧ s.t 10 = v ∧ s.t 11 = .int .i64 (L.length : Int) ∧ s.t 12 = .int .i64 (k : Int)) (fun s => L.length - (intOf (s.t 12)).toNat)
    ⟨0, _, by omega, rfl, hX3, o3, p3, rfl, rfl, rfl, rfl, rfl, rfl⟩ ?_
  rintro s ⟨k, M, hk, tm, hX, o0, p0, t1, t4, t5, t10, t11, t12⟩
  have hM := (Sees.ext hX).items h
  have hl := hM.len
  have hbd := hM.1
  by_cases hkl : k < L.length
  · have hlt : (k : Int) < L.length := by omega
    have i1 := hM.at_ hkl
    have i2 := hM.ld hkl
    have g := hF.at_ hkl
    have hm := g.made
    have hd := g.daily
    have hs := g.setup
    have h0 := g.hd
    have hh := g.hdm
    have hstep : sharedTo L c (k + 1) = addF (addF (sharedTo L c k) (fr (L.getD k It0).setup c)) (fr ((L.getD k It0).hold * (L.getD k It0).daily * ((L.getD k It0).made - (L.getD k It0).daily) * c) (2 * (L.getD k It0).made)) := rfl
    obtain ⟨nn, nn2⟩ := shared_nums hF hc k (by omega)
    have nn2 := nn2 hkl
    generalize sharedTo L c k = p at *
    generalize L.getD k It0 = x at *
    have hc2 := mul_le2 (a := x.hold * x.daily * (x.made - x.daily)) (x := c) (A := 7020) (B := 400) (by omega) (by omega)
    have n1 := fr_nums (a := x.setup) (b := c) (A := 99) (B := 400) (by omega) (by omega)
    have n2 := fr_nums (a := x.hold * x.daily * (x.made - x.daily) * c) (b := 2 * x.made) (A := 2808000) (B := 80) (by omega) (by omega)
    have ok1 := plus_ok nn.1 nn.2 n1.1 n1.2 (by decide) (by decide)
    have ok2 := plus_ok nn2.1 nn2.2 n2.1 n2.2 (by decide) (by decide)
    have q1 : ∀ b, ldA (M ++ [b]) (some 2) (.pointer (some ⟨E0.length, 0, none⟩)) = some (.agg #[.int .i64 p.1, .int .i64 p.2]) := fun b => (p0.ext [b]).ld2
    simp (config := {implicitDefEqProofs := false, maxDischargeDepth := 20}) (disch := first | omega | (simp only [lenE]; done) | (simp only [lenE]; omega) | rfl | (simp only [lenE, markR_len]; done) | (simp only [lenE, markR_len]; omega)) only [runE, mapE, listE, initT_5, initT_6, initT_7, initT_8, resV, oneV, binA, unA, reduceCtorEq, Nat.reduceEqDiff, Nat.reduceAdd, Nat.reduceLT, Nat.reduceLeDiff, Nat.reduceMul, Nat.reduceSub, ↓reduceIte, decide_true, decide_false, Bool.true_eq_false, Bool.false_eq_true, Bool.not_true, Bool.not_false, if_true, if_false, and_true, true_and, memE, celE, w64, Nat.zero_add, Nat.add_zero, Nat.mul_one, putL, and_self, ldn, tm, t1, t4, t5, t10, t11, t12, hl, hlt, i1, i2, itV, stP_agg5, q1]
    obtain ⟨F, hF2⟩ : ∃ F, F = M ++ [⟨.own, 25, [.int .i64 x.daily, .int .i64 x.setup, .int .i64 x.hold, .int .i64 x.made, .int .i64 x.pause]⟩] := ⟨_, rfl⟩
    rw [← hF2]
    have hXF : Ext m F := by rw [hF2]; exact hX.one _ _
    have pF : OwnB F E0.length 49 [.int .i64 p.1, .int .i64 p.2] := by rw [hF2]; exact p0.ext _
    have oF : OwnB F m.length 49 [.int .i64 0, .int .i64 0] := by rw [hF2]; exact o0.ext _
    clear hF2
    refine rcallH_rc (implCut_rc _ x.setup c ⟨by omega, by omega⟩ ⟨by omega, by omega⟩) ?_
    rintro r new1 ⟨rfl, nr1⟩
    simp (config := {implicitDefEqProofs := false, maxDischargeDepth := 20}) (disch := first | omega | (simp only [lenE]; done) | (simp only [lenE]; omega) | rfl | (simp only [lenE, markR_len]; done) | (simp only [lenE, markR_len]; omega)) only [runE, mapE, listE, initT_5, initT_6, initT_7, initT_8, resV, oneV, binA, unA, reduceCtorEq, Nat.reduceEqDiff, Nat.reduceAdd, Nat.reduceLT, Nat.reduceLeDiff, Nat.reduceMul, Nat.reduceSub, ↓reduceIte, decide_true, decide_false, Bool.true_eq_false, Bool.false_eq_true, Bool.not_true, Bool.not_false, if_true, if_false, and_true, true_and, memE, celE, w64, Nat.zero_add, Nat.add_zero, Nat.mul_one, putL, and_self, ldn]
    refine rcallH_rc (implPlus_rc _ p (fr x.setup c) nn.1.1 nn.2.1 n1.1.1 n1.2.1 ok1.1 ok1.2) ?_
    rintro r new2 ⟨rfl, nr2⟩
    generalize hy : addF p (fr x.setup c) = y at *
    simp (config := {implicitDefEqProofs := false, maxDischargeDepth := 20}) (disch := first | omega | (simp only [lenE]; done) | (simp only [lenE]; omega) | rfl | (simp only [lenE, markR_len]; done) | (simp only [lenE, markR_len]; omega)) only [runE, mapE, listE, initT_5, initT_6, initT_7, initT_8, resV, oneV, binA, unA, reduceCtorEq, Nat.reduceEqDiff, Nat.reduceAdd, Nat.reduceLT, Nat.reduceLeDiff, Nat.reduceMul, Nat.reduceSub, ↓reduceIte, decide_true, decide_false, Bool.true_eq_false, Bool.false_eq_true, Bool.not_true, Bool.not_false, if_true, if_false, and_true, true_and, memE, celE, w64, Nat.zero_add, Nat.add_zero, Nat.mul_one, putL, and_self, ldn]
    refine rcallH_rc (implCut_rc _ (x.hold * x.daily * (x.made - x.daily) * c) (2 * x.made) ⟨by omega, by omega⟩ ⟨by omega, by omega⟩) ?_
    rintro r new3 ⟨rfl, nr3⟩
    simp (config := {implicitDefEqProofs := false, maxDischargeDepth := 20}) (disch := first | omega | (simp only [lenE]; done) | (simp only [lenE]; omega) | rfl | (simp only [lenE, markR_len]; done) | (simp only [lenE, markR_len]; omega)) only [runE, mapE, listE, initT_5, initT_6, initT_7, initT_8, resV, oneV, binA, unA, reduceCtorEq, Nat.reduceEqDiff, Nat.reduceAdd, Nat.reduceLT, Nat.reduceLeDiff, Nat.reduceMul, Nat.reduceSub, ↓reduceIte, decide_true, decide_false, Bool.true_eq_false, Bool.false_eq_true, Bool.not_true, Bool.not_false, if_true, if_false, and_true, true_and, memE, celE, w64, Nat.zero_add, Nat.add_zero, Nat.mul_one, putL, and_self, ldn]
    refine rcallH_rc (implPlus_rc _ y (fr (x.hold * x.daily * (x.made - x.daily) * c) (2 * x.made)) nn2.1.1 nn2.2.1 n2.1.1 n2.2.1 ok2.1 ok2.2) ?_
    rintro r new4 ⟨rfl, nr4⟩
    rw [← hstep]
    generalize hz : sharedTo L c (k + 1) = z at *
    have q0 := (((pF.ext new1).ext new2).ext new3).ext new4
    have r0 := (((oF.ext new1).ext new2).ext new3).ext new4
    have hst2 := q0.st (off := 0) (vs := [.int .i64 z.1, .int .i64 z.2]) (by simp) rfl
    simp (config := {implicitDefEqProofs := false, maxDischargeDepth := 20}) (disch := first | omega | (simp only [lenE]; done) | (simp only [lenE]; omega) | rfl | (simp only [lenE, markR_len]; done) | (simp only [lenE, markR_len]; omega)) only [runE, mapE, listE, initT_5, initT_6, initT_7, initT_8, resV, oneV, binA, unA, reduceCtorEq, Nat.reduceEqDiff, Nat.reduceAdd, Nat.reduceLT, Nat.reduceLeDiff, Nat.reduceMul, Nat.reduceSub, ↓reduceIte, decide_true, decide_false, Bool.true_eq_false, Bool.false_eq_true, Bool.not_true, Bool.not_false, if_true, if_false, and_true, true_and, memE, celE, w64, Nat.zero_add, Nat.add_zero, Nat.mul_one, putL, and_self, ldn, tm, t1, t4, t5, t10, t11, t12, frV, stP_agg2, hst2]
    refine ⟨⟨k + 1, _, by omega, rfl, ((((hXF.app nr1).app nr2).app nr3).app nr4).put (by omega) _ _, r0.set_ne (by omega) _, by rw [hz]; exact q0.set_self _ _, by simp⟩, ?_⟩
    simp [intOf]; omega
  · have hlt : ¬ ((k : Int) < L.length) := by omega
    have e : k = L.length := by omega
    subst e
    unfold sharedF
    generalize sharedTo L c L.length = z at *
    have hst := o0.st (off := 0) (vs := [.int .i64 z.1, .int .i64 z.2]) (by simp) rfl
    have hrd := (o0.set_self 49 [.int .i64 z.1, .int .i64 z.2]).rd
    simp (config := {implicitDefEqProofs := false, maxDischargeDepth := 20}) (disch := first | omega | (simp only [lenE]; done) | (simp only [lenE]; omega) | rfl | (simp only [lenE, markR_len]; done) | (simp only [lenE, markR_len]; omega)) only [runE, mapE, listE, initT_5, initT_6, initT_7, initT_8, resV, oneV, binA, unA, reduceCtorEq, Nat.reduceEqDiff, Nat.reduceAdd, Nat.reduceLT, Nat.reduceLeDiff, Nat.reduceMul, Nat.reduceSub, ↓reduceIte, decide_true, decide_false, Bool.true_eq_false, Bool.false_eq_true, Bool.not_true, Bool.not_false, if_true, if_false, and_true, true_and, memE, celE, w64, Nat.zero_add, Nat.add_zero, Nat.mul_one, putL, and_self, ldn, tm, t1, t4, t5, t10, t11, t12, hlt, p0.ld2, frV, stP_agg2, hst, hrd]
    exact ext_ansV (hX.put (Nat.le_refl _) _ _) rfl

def comOk (L : List It) (c : Int) : Bool := famB L && inR 1 400 c
theorem l8Common_rc (m : Mem) (v : Value) (L : List It) (c : Int) (h : ItemsA m v L) : RC Try.prog 39 [v, .int .i64 c] m (AnsV (.bool (comOk L c))) := by
  refine rc_of_run mixed ok_spec_l8Common (by simp) (go_start _ _ _ ?_)
  unfold comOk
  have hX := Ext.refl m
  simp (config := {implicitDefEqProofs := false, maxDischargeDepth := 20}) (disch := first | omega | (simp only [lenE]; done) | (simp only [lenE]; omega) | rfl | (simp only [lenE, markR_len]; done) | (simp only [lenE, markR_len]; omega)) only [runE, mapE, listE, initT_5, initT_6, initT_7, initT_8, resV, oneV, binA, unA, reduceCtorEq, Nat.reduceEqDiff, Nat.reduceAdd, Nat.reduceLT, Nat.reduceLeDiff, Nat.reduceMul, Nat.reduceSub, ↓reduceIte, decide_true, decide_false, Bool.true_eq_false, Bool.false_eq_true, Bool.not_true, Bool.not_false, if_true, if_false, and_true, true_and, memE, celE, w64, Nat.zero_add, Nat.add_zero, Nat.mul_one, putL, and_self, ldn, c_spec_l8Common, r_spec_l8Common]
  refine callH_rc (l8Family_rc _ v L ((Sees.ext hX).items h)) ?_
  rintro r new0 ⟨rfl, nr0⟩
  have hX := hX.app nr0
  cases g1 : famB L with
  | false =>
    simp (config := {implicitDefEqProofs := false, maxDischargeDepth := 20}) (disch := first | omega | (simp only [lenE]; done) | (simp only [lenE]; omega) | rfl | (simp only [lenE, markR_len]; done) | (simp only [lenE, markR_len]; omega)) only [runE, mapE, listE, initT_5, initT_6, initT_7, initT_8, resV, oneV, binA, unA, reduceCtorEq, Nat.reduceEqDiff, Nat.reduceAdd, Nat.reduceLT, Nat.reduceLeDiff, Nat.reduceMul, Nat.reduceSub, ↓reduceIte, decide_true, decide_false, Bool.true_eq_false, Bool.false_eq_true, Bool.not_true, Bool.not_false, if_true, if_false, and_true, true_and, memE, celE, w64, Nat.zero_add, Nat.add_zero, Nat.mul_one, putL, and_self, ldn, Bool.false_and, Bool.true_and, Bool.and_true, Bool.and_false, Bool.and_self]
    exact ext_ansV hX rfl
  | true =>
  simp (config := {implicitDefEqProofs := false, maxDischargeDepth := 20}) (disch := first | omega | (simp only [lenE]; done) | (simp only [lenE]; omega) | rfl | (simp only [lenE, markR_len]; done) | (simp only [lenE, markR_len]; omega)) only [runE, mapE, listE, initT_5, initT_6, initT_7, initT_8, resV, oneV, binA, unA, reduceCtorEq, Nat.reduceEqDiff, Nat.reduceAdd, Nat.reduceLT, Nat.reduceLeDiff, Nat.reduceMul, Nat.reduceSub, ↓reduceIte, decide_true, decide_false, Bool.true_eq_false, Bool.false_eq_true, Bool.not_true, Bool.not_false, if_true, if_false, and_true, true_and, memE, celE, w64, Nat.zero_add, Nat.add_zero, Nat.mul_one, putL, and_self, ldn]
  refine callH_rc (l1In_rc _ _ _ _) ?_
  rintro r new1 ⟨rfl, rfl⟩
  rw [List.append_nil, show (decide (1 ≤ c) && decide (c ≤ 400)) = inR 1 400 c from rfl]
  simp (config := {implicitDefEqProofs := false, maxDischargeDepth := 20}) (disch := first | omega | (simp only [lenE]; done) | (simp only [lenE]; omega) | rfl | (simp only [lenE, markR_len]; done) | (simp only [lenE, markR_len]; omega)) only [runE, mapE, listE, initT_5, initT_6, initT_7, initT_8, resV, oneV, binA, unA, reduceCtorEq, Nat.reduceEqDiff, Nat.reduceAdd, Nat.reduceLT, Nat.reduceLeDiff, Nat.reduceMul, Nat.reduceSub, ↓reduceIte, decide_true, decide_false, Bool.true_eq_false, Bool.false_eq_true, Bool.not_true, Bool.not_false, if_true, if_false, and_true, true_and, memE, celE, w64, Nat.zero_add, Nat.add_zero, Nat.mul_one, putL, and_self, ldn, Bool.false_and, Bool.true_and, Bool.and_true, Bool.and_false, Bool.and_self]
  exact ext_ansV hX rfl
theorem comOk_iff {L : List It} {c : Int} (h : comOk L c = true) : GoodF L ∧ 1 ≤ c ∧ c ≤ 400 := by
  unfold comOk at h
  rw [Bool.and_eq_true] at h
  exact ⟨goodF_iff.1 h.1, inR_iff.1 h.2⟩
def fitsA (L : List It) (c : Int) : Bool := comOk L c && fitsB L c
def comA (L : List It) (c : Int) : Int × Int := if comOk L c then sharedF L c else (0, 0)
theorem specCycleFits_rc (m : Mem) (v : Value) (L : List It) (c : Int) (h : ItemsA m v L) : RC Try.prog 17 [v, .int .i64 c] m (AnsV (.tuple #[.bool (fitsA L c), .bool (comOk L c)])) := by
  refine rc_of_run mixed ok_spec_CycleFits (by simp) (go_start _ _ _ ?_)
  unfold fitsA
  have hX := Ext.refl m
  simp (config := {implicitDefEqProofs := false, maxDischargeDepth := 20}) (disch := first | omega | (simp only [lenE]; done) | (simp only [lenE]; omega) | rfl | (simp only [lenE, markR_len]; done) | (simp only [lenE, markR_len]; omega)) only [runE, mapE, listE, initT_5, initT_6, initT_7, initT_8, resV, oneV, binA, unA, reduceCtorEq, Nat.reduceEqDiff, Nat.reduceAdd, Nat.reduceLT, Nat.reduceLeDiff, Nat.reduceMul, Nat.reduceSub, ↓reduceIte, decide_true, decide_false, Bool.true_eq_false, Bool.false_eq_true, Bool.not_true, Bool.not_false, if_true, if_false, and_true, true_and, memE, celE, w64, Nat.zero_add, Nat.add_zero, Nat.mul_one, putL, and_self, ldn, c_spec_CycleFits, r_spec_CycleFits]
  refine callH_rc (l8Common_rc _ v L c ((Sees.ext hX).items h)) ?_
  rintro r new0 ⟨rfl, nr0⟩
  have hX := hX.app nr0
  cases g1 : comOk L c with
  | false =>
    simp (config := {implicitDefEqProofs := false, maxDischargeDepth := 20}) (disch := first | omega | (simp only [lenE]; done) | (simp only [lenE]; omega) | rfl | (simp only [lenE, markR_len]; done) | (simp only [lenE, markR_len]; omega)) only [runE, mapE, listE, initT_5, initT_6, initT_7, initT_8, resV, oneV, binA, unA, reduceCtorEq, Nat.reduceEqDiff, Nat.reduceAdd, Nat.reduceLT, Nat.reduceLeDiff, Nat.reduceMul, Nat.reduceSub, ↓reduceIte, decide_true, decide_false, Bool.true_eq_false, Bool.false_eq_true, Bool.not_true, Bool.not_false, if_true, if_false, and_true, true_and, memE, celE, w64, Nat.zero_add, Nat.add_zero, Nat.mul_one, putL, and_self, ldn, Bool.false_and, Bool.true_and, Bool.and_true, Bool.and_false, Bool.and_self]
    exact ext_ansV hX rfl
  | true =>
  obtain ⟨hF, hc⟩ := comOk_iff g1
  simp (config := {implicitDefEqProofs := false, maxDischargeDepth := 20}) (disch := first | omega | (simp only [lenE]; done) | (simp only [lenE]; omega) | rfl | (simp only [lenE, markR_len]; done) | (simp only [lenE, markR_len]; omega)) only [runE, mapE, listE, initT_5, initT_6, initT_7, initT_8, resV, oneV, binA, unA, reduceCtorEq, Nat.reduceEqDiff, Nat.reduceAdd, Nat.reduceLT, Nat.reduceLeDiff, Nat.reduceMul, Nat.reduceSub, ↓reduceIte, decide_true, decide_false, Bool.true_eq_false, Bool.false_eq_true, Bool.not_true, Bool.not_false, if_true, if_false, and_true, true_and, memE, celE, w64, Nat.zero_add, Nat.add_zero, Nat.mul_one, putL, and_self, ldn]
  refine callH_rc (specFits_rc _ v L c ((Sees.ext hX).items h) hF hc) ?_
  rintro r new1 ⟨rfl, nr1⟩
  simp (config := {implicitDefEqProofs := false, maxDischargeDepth := 20}) (disch := first | omega | (simp only [lenE]; done) | (simp only [lenE]; omega) | rfl | (simp only [lenE, markR_len]; done) | (simp only [lenE, markR_len]; omega)) only [runE, mapE, listE, initT_5, initT_6, initT_7, initT_8, resV, oneV, binA, unA, reduceCtorEq, Nat.reduceEqDiff, Nat.reduceAdd, Nat.reduceLT, Nat.reduceLeDiff, Nat.reduceMul, Nat.reduceSub, ↓reduceIte, decide_true, decide_false, Bool.true_eq_false, Bool.false_eq_true, Bool.not_true, Bool.not_false, if_true, if_false, and_true, true_and, memE, celE, w64, Nat.zero_add, Nat.add_zero, Nat.mul_one, putL, and_self, ldn, Bool.false_and, Bool.true_and, Bool.and_true, Bool.and_false, Bool.and_self]
  exact ext_ansV (hX.app nr1) rfl
theorem implCycleFits_rc (m : Mem) (v : Value) (L : List It) (c : Int) (h : ItemsA m v L) : RC Try.prog 16 [v, .int .i64 c] m (AnsV (.tuple #[.bool (fitsA L c), .bool (comOk L c)])) := by
  refine rc_of_run mixed ok_impl_CycleFits (by simp) (go_start _ _ _ ?_)
  unfold fitsA comOk
  have hX := Ext.refl m
  simp (config := {implicitDefEqProofs := false, maxDischargeDepth := 20}) (disch := first | omega | (simp only [lenE]; done) | (simp only [lenE]; omega) | rfl | (simp only [lenE, markR_len]; done) | (simp only [lenE, markR_len]; omega)) only [runE, mapE, listE, initT_5, initT_6, initT_7, initT_8, resV, oneV, binA, unA, reduceCtorEq, Nat.reduceEqDiff, Nat.reduceAdd, Nat.reduceLT, Nat.reduceLeDiff, Nat.reduceMul, Nat.reduceSub, ↓reduceIte, decide_true, decide_false, Bool.true_eq_false, Bool.false_eq_true, Bool.not_true, Bool.not_false, if_true, if_false, and_true, true_and, memE, celE, w64, Nat.zero_add, Nat.add_zero, Nat.mul_one, putL, and_self, ldn, c_impl_CycleFits, r_impl_CycleFits]
  refine callH_rc (isFamily_rc _ v L ((Sees.ext hX).items h)) ?_
  rintro r new0 ⟨rfl, nr0⟩
  have hX := hX.app nr0
  cases g1 : famB L with
  | false =>
    simp (config := {implicitDefEqProofs := false, maxDischargeDepth := 20}) (disch := first | omega | (simp only [lenE]; done) | (simp only [lenE]; omega) | rfl | (simp only [lenE, markR_len]; done) | (simp only [lenE, markR_len]; omega)) only [runE, mapE, listE, initT_5, initT_6, initT_7, initT_8, resV, oneV, binA, unA, reduceCtorEq, Nat.reduceEqDiff, Nat.reduceAdd, Nat.reduceLT, Nat.reduceLeDiff, Nat.reduceMul, Nat.reduceSub, ↓reduceIte, decide_true, decide_false, Bool.true_eq_false, Bool.false_eq_true, Bool.not_true, Bool.not_false, if_true, if_false, and_true, true_and, memE, celE, w64, Nat.zero_add, Nat.add_zero, Nat.mul_one, putL, and_self, ldn, Bool.false_and, Bool.true_and, Bool.and_true, Bool.and_false, Bool.and_self]
    exact ext_ansV hX rfl
  | true =>
  simp (config := {implicitDefEqProofs := false, maxDischargeDepth := 20}) (disch := first | omega | (simp only [lenE]; done) | (simp only [lenE]; omega) | rfl | (simp only [lenE, markR_len]; done) | (simp only [lenE, markR_len]; omega)) only [runE, mapE, listE, initT_5, initT_6, initT_7, initT_8, resV, oneV, binA, unA, reduceCtorEq, Nat.reduceEqDiff, Nat.reduceAdd, Nat.reduceLT, Nat.reduceLeDiff, Nat.reduceMul, Nat.reduceSub, ↓reduceIte, decide_true, decide_false, Bool.true_eq_false, Bool.false_eq_true, Bool.not_true, Bool.not_false, if_true, if_false, and_true, true_and, memE, celE, w64, Nat.zero_add, Nat.add_zero, Nat.mul_one, putL, and_self, ldn]
  refine callH_rc (isCount_rc _ _ _) ?_
  rintro r new1 ⟨rfl, rfl⟩
  rw [List.append_nil]
  cases g2 : inR 1 400 c with
  | false =>
    simp (config := {implicitDefEqProofs := false, maxDischargeDepth := 20}) (disch := first | omega | (simp only [lenE]; done) | (simp only [lenE]; omega) | rfl | (simp only [lenE, markR_len]; done) | (simp only [lenE, markR_len]; omega)) only [runE, mapE, listE, initT_5, initT_6, initT_7, initT_8, resV, oneV, binA, unA, reduceCtorEq, Nat.reduceEqDiff, Nat.reduceAdd, Nat.reduceLT, Nat.reduceLeDiff, Nat.reduceMul, Nat.reduceSub, ↓reduceIte, decide_true, decide_false, Bool.true_eq_false, Bool.false_eq_true, Bool.not_true, Bool.not_false, if_true, if_false, and_true, true_and, memE, celE, w64, Nat.zero_add, Nat.add_zero, Nat.mul_one, putL, and_self, ldn, Bool.false_and, Bool.true_and, Bool.and_true, Bool.and_false, Bool.and_self]
    exact ext_ansV hX rfl
  | true =>
  simp (config := {implicitDefEqProofs := false, maxDischargeDepth := 20}) (disch := first | omega | (simp only [lenE]; done) | (simp only [lenE]; omega) | rfl | (simp only [lenE, markR_len]; done) | (simp only [lenE, markR_len]; omega)) only [runE, mapE, listE, initT_5, initT_6, initT_7, initT_8, resV, oneV, binA, unA, reduceCtorEq, Nat.reduceEqDiff, Nat.reduceAdd, Nat.reduceLT, Nat.reduceLeDiff, Nat.reduceMul, Nat.reduceSub, ↓reduceIte, decide_true, decide_false, Bool.true_eq_false, Bool.false_eq_true, Bool.not_true, Bool.not_false, if_true, if_false, and_true, true_and, memE, celE, w64, Nat.zero_add, Nat.add_zero, Nat.mul_one, putL, and_self, ldn]
  refine callH_rc (implFits_rc _ v L c ((Sees.ext hX).items h) (goodF_iff.1 g1) (inR_iff.1 g2)) ?_
  rintro r new1 ⟨rfl, nr1⟩
  simp (config := {implicitDefEqProofs := false, maxDischargeDepth := 20}) (disch := first | omega | (simp only [lenE]; done) | (simp only [lenE]; omega) | rfl | (simp only [lenE, markR_len]; done) | (simp only [lenE, markR_len]; omega)) only [runE, mapE, listE, initT_5, initT_6, initT_7, initT_8, resV, oneV, binA, unA, reduceCtorEq, Nat.reduceEqDiff, Nat.reduceAdd, Nat.reduceLT, Nat.reduceLeDiff, Nat.reduceMul, Nat.reduceSub, ↓reduceIte, decide_true, decide_false, Bool.true_eq_false, Bool.false_eq_true, Bool.not_true, Bool.not_false, if_true, if_false, and_true, true_and, memE, celE, w64, Nat.zero_add, Nat.add_zero, Nat.mul_one, putL, and_self, ldn, Bool.false_and, Bool.true_and, Bool.and_true, Bool.and_false, Bool.and_self]
  exact ext_ansV (hX.app nr1) rfl
theorem specCommonCost_rc (m : Mem) (v : Value) (L : List It) (c : Int) (h : ItemsA m v L) : RC Try.prog 21 [v, .int .i64 c] m (AnsV (.tuple #[frV (comA L c), .bool (comOk L c)])) := by
  refine rc_of_run mixed ok_spec_CommonCost (by simp) (go_start _ _ _ ?_)
  unfold comA
  simp (config := {implicitDefEqProofs := false, maxDischargeDepth := 20}) (disch := first | omega | (simp only [lenE]; done) | (simp only [lenE]; omega) | rfl | (simp only [lenE, markR_len]; done) | (simp only [lenE, markR_len]; omega)) only [runE, mapE, listE, initT_5, initT_6, initT_7, initT_8, resV, oneV, binA, unA, reduceCtorEq, Nat.reduceEqDiff, Nat.reduceAdd, Nat.reduceLT, Nat.reduceLeDiff, Nat.reduceMul, Nat.reduceSub, ↓reduceIte, decide_true, decide_false, Bool.true_eq_false, Bool.false_eq_true, Bool.not_true, Bool.not_false, if_true, if_false, and_true, true_and, memE, celE, w64, Nat.zero_add, Nat.add_zero, Nat.mul_one, putL, and_self, ldn, c_spec_CommonCost, r_spec_CommonCost]
  obtain ⟨E, hE⟩ : ∃ M, M = roM m ++ [⟨.own, 28, [.int .i64 0, .int .i64 0]⟩] := ⟨_, rfl⟩
  rw [← hE]
  have hX : Ext m E := by rw [hE]; exact (Ext.refl m).one _ _
  have o0 : OwnB E m.length 28 [.int .i64 0, .int .i64 0] := by rw [hE]; exact OwnB.here (roM_len m).symm
  clear hE
  refine callH_rc (l8Common_rc _ v L c ((Sees.ext hX).items h)) ?_
  rintro r new0 ⟨rfl, nr0⟩
  have hX := hX.app nr0
  have o0 := o0.ext new0
  cases g1 : comOk L c with
  | false =>
    have hst := o0.st (off := 0) (vs := [.int .i64 0, .int .i64 0]) (by simp) rfl
    have hrd := (o0.set_self 28 [.int .i64 0, .int .i64 0]).rd
    simp (config := {implicitDefEqProofs := false, maxDischargeDepth := 20}) (disch := first | omega | (simp only [lenE]; done) | (simp only [lenE]; omega) | rfl | (simp only [lenE, markR_len]; done) | (simp only [lenE, markR_len]; omega)) only [runE, mapE, listE, initT_5, initT_6, initT_7, initT_8, resV, oneV, binA, unA, reduceCtorEq, Nat.reduceEqDiff, Nat.reduceAdd, Nat.reduceLT, Nat.reduceLeDiff, Nat.reduceMul, Nat.reduceSub, ↓reduceIte, decide_true, decide_false, Bool.true_eq_false, Bool.false_eq_true, Bool.not_true, Bool.not_false, if_true, if_false, and_true, true_and, memE, celE, w64, Nat.zero_add, Nat.add_zero, Nat.mul_one, putL, and_self, ldn, hst, hrd, frV, stP_agg2, bld0, Bool.false_and, Bool.true_and, Bool.and_true, Bool.and_false, Bool.and_self]
    exact ext_ansV (hX.put (Nat.le_refl _) _ _) rfl
  | true =>
  obtain ⟨hF, hc⟩ := comOk_iff g1
  simp (config := {implicitDefEqProofs := false, maxDischargeDepth := 20}) (disch := first | omega | (simp only [lenE]; done) | (simp only [lenE]; omega) | rfl | (simp only [lenE, markR_len]; done) | (simp only [lenE, markR_len]; omega)) only [runE, mapE, listE, initT_5, initT_6, initT_7, initT_8, resV, oneV, binA, unA, reduceCtorEq, Nat.reduceEqDiff, Nat.reduceAdd, Nat.reduceLT, Nat.reduceLeDiff, Nat.reduceMul, Nat.reduceSub, ↓reduceIte, decide_true, decide_false, Bool.true_eq_false, Bool.false_eq_true, Bool.not_true, Bool.not_false, if_true, if_false, and_true, true_and, memE, celE, w64, Nat.zero_add, Nat.add_zero, Nat.mul_one, putL, and_self, ldn, if_true]
  refine callH_rc (specShared_rc _ v L c ((Sees.ext hX).items h) hF hc) ?_
  rintro r new1 ⟨rfl, nr1⟩
  generalize sharedF L c = z at *
  have hst := (o0.ext new1).st (off := 0) (vs := [.int .i64 z.1, .int .i64 z.2]) (by simp) rfl
  have hrd := ((o0.ext new1).set_self 28 [.int .i64 z.1, .int .i64 z.2]).rd
  simp (config := {implicitDefEqProofs := false, maxDischargeDepth := 20}) (disch := first | omega | (simp only [lenE]; done) | (simp only [lenE]; omega) | rfl | (simp only [lenE, markR_len]; done) | (simp only [lenE, markR_len]; omega)) only [runE, mapE, listE, initT_5, initT_6, initT_7, initT_8, resV, oneV, binA, unA, reduceCtorEq, Nat.reduceEqDiff, Nat.reduceAdd, Nat.reduceLT, Nat.reduceLeDiff, Nat.reduceMul, Nat.reduceSub, ↓reduceIte, decide_true, decide_false, Bool.true_eq_false, Bool.false_eq_true, Bool.not_true, Bool.not_false, if_true, if_false, and_true, true_and, memE, celE, w64, Nat.zero_add, Nat.add_zero, Nat.mul_one, putL, and_self, ldn, hst, hrd, frV, stP_agg2, Bool.false_and, Bool.true_and, Bool.and_true, Bool.and_false, Bool.and_self]
  exact ext_ansV ((hX.app nr1).put (Nat.le_refl _) _ _) rfl
theorem implCommonCost_rc (m : Mem) (v : Value) (L : List It) (c : Int) (h : ItemsA m v L) : RC Try.prog 20 [v, .int .i64 c] m (AnsV (.tuple #[frV (comA L c), .bool (comOk L c)])) := by
  refine rc_of_run mixed ok_impl_CommonCost (by simp) (go_start _ _ _ ?_)
  unfold comA comOk
  simp (config := {implicitDefEqProofs := false, maxDischargeDepth := 20}) (disch := first | omega | (simp only [lenE]; done) | (simp only [lenE]; omega) | rfl | (simp only [lenE, markR_len]; done) | (simp only [lenE, markR_len]; omega)) only [runE, mapE, listE, initT_5, initT_6, initT_7, initT_8, resV, oneV, binA, unA, reduceCtorEq, Nat.reduceEqDiff, Nat.reduceAdd, Nat.reduceLT, Nat.reduceLeDiff, Nat.reduceMul, Nat.reduceSub, ↓reduceIte, decide_true, decide_false, Bool.true_eq_false, Bool.false_eq_true, Bool.not_true, Bool.not_false, if_true, if_false, and_true, true_and, memE, celE, w64, Nat.zero_add, Nat.add_zero, Nat.mul_one, putL, and_self, ldn, c_impl_CommonCost, r_impl_CommonCost]
  obtain ⟨E, hE⟩ : ∃ M, M = roM m ++ [⟨.own, 28, [.int .i64 0, .int .i64 0]⟩] := ⟨_, rfl⟩
  rw [← hE]
  have hX : Ext m E := by rw [hE]; exact (Ext.refl m).one _ _
  have o0 : OwnB E m.length 28 [.int .i64 0, .int .i64 0] := by rw [hE]; exact OwnB.here (roM_len m).symm
  clear hE
  refine callH_rc (isFamily_rc _ v L ((Sees.ext hX).items h)) ?_
  rintro r new0 ⟨rfl, nr0⟩
  have hX := hX.app nr0
  have o0 := o0.ext new0
  cases g1 : famB L with
  | false =>
    have hst := o0.st (off := 0) (vs := [.int .i64 0, .int .i64 0]) (by simp) rfl
    have hrd := (o0.set_self 28 [.int .i64 0, .int .i64 0]).rd
    simp (config := {implicitDefEqProofs := false, maxDischargeDepth := 20}) (disch := first | omega | (simp only [lenE]; done) | (simp only [lenE]; omega) | rfl | (simp only [lenE, markR_len]; done) | (simp only [lenE, markR_len]; omega)) only [runE, mapE, listE, initT_5, initT_6, initT_7, initT_8, resV, oneV, binA, unA, reduceCtorEq, Nat.reduceEqDiff, Nat.reduceAdd, Nat.reduceLT, Nat.reduceLeDiff, Nat.reduceMul, Nat.reduceSub, ↓reduceIte, decide_true, decide_false, Bool.true_eq_false, Bool.false_eq_true, Bool.not_true, Bool.not_false, if_true, if_false, and_true, true_and, memE, celE, w64, Nat.zero_add, Nat.add_zero, Nat.mul_one, putL, and_self, ldn, hst, hrd, frV, stP_agg2, bld0, Bool.false_and, Bool.true_and, Bool.and_true, Bool.and_false, Bool.and_self]
    exact ext_ansV (hX.put (Nat.le_refl _) _ _) rfl
  | true =>
  simp (config := {implicitDefEqProofs := false, maxDischargeDepth := 20}) (disch := first | omega | (simp only [lenE]; done) | (simp only [lenE]; omega) | rfl | (simp only [lenE, markR_len]; done) | (simp only [lenE, markR_len]; omega)) only [runE, mapE, listE, initT_5, initT_6, initT_7, initT_8, resV, oneV, binA, unA, reduceCtorEq, Nat.reduceEqDiff, Nat.reduceAdd, Nat.reduceLT, Nat.reduceLeDiff, Nat.reduceMul, Nat.reduceSub, ↓reduceIte, decide_true, decide_false, Bool.true_eq_false, Bool.false_eq_true, Bool.not_true, Bool.not_false, if_true, if_false, and_true, true_and, memE, celE, w64, Nat.zero_add, Nat.add_zero, Nat.mul_one, putL, and_self, ldn]
  refine callH_rc (isCount_rc _ _ _) ?_
  rintro r new1 ⟨rfl, rfl⟩
  rw [List.append_nil]
  cases g2 : inR 1 400 c with
  | false =>
    have hst := o0.st (off := 0) (vs := [.int .i64 0, .int .i64 0]) (by simp) rfl
    have hrd := (o0.set_self 28 [.int .i64 0, .int .i64 0]).rd
    simp (config := {implicitDefEqProofs := false, maxDischargeDepth := 20}) (disch := first | omega | (simp only [lenE]; done) | (simp only [lenE]; omega) | rfl | (simp only [lenE, markR_len]; done) | (simp only [lenE, markR_len]; omega)) only [runE, mapE, listE, initT_5, initT_6, initT_7, initT_8, resV, oneV, binA, unA, reduceCtorEq, Nat.reduceEqDiff, Nat.reduceAdd, Nat.reduceLT, Nat.reduceLeDiff, Nat.reduceMul, Nat.reduceSub, ↓reduceIte, decide_true, decide_false, Bool.true_eq_false, Bool.false_eq_true, Bool.not_true, Bool.not_false, if_true, if_false, and_true, true_and, memE, celE, w64, Nat.zero_add, Nat.add_zero, Nat.mul_one, putL, and_self, ldn, hst, hrd, frV, stP_agg2, bld0, Bool.false_and, Bool.true_and, Bool.and_true, Bool.and_false, Bool.and_self]
    exact ext_ansV (hX.put (Nat.le_refl _) _ _) rfl
  | true =>
  simp (config := {implicitDefEqProofs := false, maxDischargeDepth := 20}) (disch := first | omega | (simp only [lenE]; done) | (simp only [lenE]; omega) | rfl | (simp only [lenE, markR_len]; done) | (simp only [lenE, markR_len]; omega)) only [runE, mapE, listE, initT_5, initT_6, initT_7, initT_8, resV, oneV, binA, unA, reduceCtorEq, Nat.reduceEqDiff, Nat.reduceAdd, Nat.reduceLT, Nat.reduceLeDiff, Nat.reduceMul, Nat.reduceSub, ↓reduceIte, decide_true, decide_false, Bool.true_eq_false, Bool.false_eq_true, Bool.not_true, Bool.not_false, if_true, if_false, and_true, true_and, memE, celE, w64, Nat.zero_add, Nat.add_zero, Nat.mul_one, putL, and_self, ldn, Bool.false_and, Bool.true_and, Bool.and_true, Bool.and_false, Bool.and_self, if_true]
  refine callH_rc (implShared_rc _ v L c ((Sees.ext hX).items h) (goodF_iff.1 g1) (inR_iff.1 g2)) ?_
  rintro r new1 ⟨rfl, nr1⟩
  generalize sharedF L c = z at *
  have hst := (o0.ext new1).st (off := 0) (vs := [.int .i64 z.1, .int .i64 z.2]) (by simp) rfl
  have hrd := ((o0.ext new1).set_self 28 [.int .i64 z.1, .int .i64 z.2]).rd
  simp (config := {implicitDefEqProofs := false, maxDischargeDepth := 20}) (disch := first | omega | (simp only [lenE]; done) | (simp only [lenE]; omega) | rfl | (simp only [lenE, markR_len]; done) | (simp only [lenE, markR_len]; omega)) only [runE, mapE, listE, initT_5, initT_6, initT_7, initT_8, resV, oneV, binA, unA, reduceCtorEq, Nat.reduceEqDiff, Nat.reduceAdd, Nat.reduceLT, Nat.reduceLeDiff, Nat.reduceMul, Nat.reduceSub, ↓reduceIte, decide_true, decide_false, Bool.true_eq_false, Bool.false_eq_true, Bool.not_true, Bool.not_false, if_true, if_false, and_true, true_and, memE, celE, w64, Nat.zero_add, Nat.add_zero, Nat.mul_one, putL, and_self, ldn, hst, hrd, frV, stP_agg2, Bool.false_and, Bool.true_and, Bool.and_true, Bool.and_false, Bool.and_self]
  exact ext_ansV ((hX.app nr1).put (Nat.le_refl _) _ _) rfl

theorem l8Least_rc (m : Mem) (v : Value) (L : List It) (h : ItemsA m v L) (hF : GoodF L) : RC Try.prog 43 [v] m (AnsV (.int .i64 ((fitL L).getD 0 0))) := by
  refine rc_of_run mixed ok_spec_l8Least (by simp) (go_start _ _ _ ?_)
  simp (config := {implicitDefEqProofs := false, maxDischargeDepth := 20}) (disch := first | omega | (simp only [lenE]; done) | (simp only [lenE]; omega) | rfl | (simp only [lenE, markR_len]; done) | (simp only [lenE, markR_len]; omega)) only [runE, mapE, listE, initT_5, initT_6, initT_7, initT_8, resV, oneV, binA, unA, reduceCtorEq, Nat.reduceEqDiff, Nat.reduceAdd, Nat.reduceLT, Nat.reduceLeDiff, Nat.reduceMul, Nat.reduceSub, ↓reduceIte, decide_true, decide_false, Bool.true_eq_false, Bool.false_eq_true, Bool.not_true, Bool.not_false, if_true, if_false, and_true, true_and, memE, celE, w64, Nat.zero_add, Nat.add_zero, Nat.mul_one, putL, and_self, ldn, c_spec_l8Least, r_spec_l8Least]
  obtain ⟨want, hw⟩ : ∃ want, want = (fitL L).getD 0 0 := ⟨_, rfl⟩
  rw [← hw]
  unfold fitL at hw
  refine loop_inv mixed (fun s => ∃ (k : Nat) (M : Mem), k ≤ 400 ∧ want = ((upFrom (1 + k) (400 - k)).filter (fitsB L)).getD 0 0 ∧ s.m = M ∧ Ext m M ∧ s.t 0 = v ∧ s.t 3 = .int .i64 (1 + (k : Int))) (fun s => 401 - (intOf (s.t 3)).toNat)
    ⟨0, _, by omega, hw, rfl, Ext.refl m, rfl, rfl⟩ ?_
  rintro s ⟨k, M, hk, hwant, tm, hX, t0, t3⟩
  have hM := (Sees.ext hX).items h
  by_cases hk4 : k < 400
  · have hle : (1 + (k : Int)) ≤ 400 := by omega
    simp (config := {implicitDefEqProofs := false, maxDischargeDepth := 20}) (disch := first | omega | (simp only [lenE]; done) | (simp only [lenE]; omega) | rfl | (simp only [lenE, markR_len]; done) | (simp only [lenE, markR_len]; omega)) only [runE, mapE, listE, initT_5, initT_6, initT_7, initT_8, resV, oneV, binA, unA, reduceCtorEq, Nat.reduceEqDiff, Nat.reduceAdd, Nat.reduceLT, Nat.reduceLeDiff, Nat.reduceMul, Nat.reduceSub, ↓reduceIte, decide_true, decide_false, Bool.true_eq_false, Bool.false_eq_true, Bool.not_true, Bool.not_false, if_true, if_false, and_true, true_and, memE, celE, w64, Nat.zero_add, Nat.add_zero, Nat.mul_one, putL, and_self, ldn, tm, t0, t3, hle]
    refine callH_rc (specFits_rc _ v L (1 + (k : Int)) hM hF (by omega)) ?_
    rintro r new ⟨rfl, nrn⟩
    have e0 : (1 + (k : Int)) + 1 = 1 + ((k + 1 : Nat) : Int) := by push_cast; omega
    rw [show 400 - k = (400 - (k + 1)) + 1 by omega, upFrom, e0] at hwant
    cases hf : fitsB L (1 + (k : Int)) with
    | true =>
      rw [List.filter_cons_of_pos hf, List.getD_cons_zero] at hwant
      simp (config := {implicitDefEqProofs := false, maxDischargeDepth := 20}) (disch := first | omega | (simp only [lenE]; done) | (simp only [lenE]; omega) | rfl | (simp only [lenE, markR_len]; done) | (simp only [lenE, markR_len]; omega)) only [runE, mapE, listE, initT_5, initT_6, initT_7, initT_8, resV, oneV, binA, unA, reduceCtorEq, Nat.reduceEqDiff, Nat.reduceAdd, Nat.reduceLT, Nat.reduceLeDiff, Nat.reduceMul, Nat.reduceSub, ↓reduceIte, decide_true, decide_false, Bool.true_eq_false, Bool.false_eq_true, Bool.not_true, Bool.not_false, if_true, if_false, and_true, true_and, memE, celE, w64, Nat.zero_add, Nat.add_zero, Nat.mul_one, putL, and_self, ldn, tm, t0, t3]
      exact ext_ansV (hX.app nrn) (by rw [hwant])
    | false =>
      rw [List.filter_cons_of_neg (by simp [hf])] at hwant
      simp (config := {implicitDefEqProofs := false, maxDischargeDepth := 20}) (disch := first | omega | (simp only [lenE]; done) | (simp only [lenE]; omega) | rfl | (simp only [lenE, markR_len]; done) | (simp only [lenE, markR_len]; omega)) only [runE, mapE, listE, initT_5, initT_6, initT_7, initT_8, resV, oneV, binA, unA, reduceCtorEq, Nat.reduceEqDiff, Nat.reduceAdd, Nat.reduceLT, Nat.reduceLeDiff, Nat.reduceMul, Nat.reduceSub, ↓reduceIte, decide_true, decide_false, Bool.true_eq_false, Bool.false_eq_true, Bool.not_true, Bool.not_false, if_true, if_false, and_true, true_and, memE, celE, w64, Nat.zero_add, Nat.add_zero, Nat.mul_one, putL, and_self, ldn, tm, t0, t3]
      refine ⟨⟨k + 1, _, by omega, hwant, rfl, hX.app nrn, by push_cast; congr 1⟩, ?_⟩
      simp [intOf]; omega
  · have e : k = 400 := by omega
    subst e
    have hle : ¬ ((1 + ((400 : Nat) : Int)) ≤ 400) := by omega
    have hwant : want = 0 := hwant
    simp (config := {implicitDefEqProofs := false, maxDischargeDepth := 20}) (disch := first | omega | (simp only [lenE]; done) | (simp only [lenE]; omega) | rfl | (simp only [lenE, markR_len]; done) | (simp only [lenE, markR_len]; omega)) only [runE, mapE, listE, initT_5, initT_6, initT_7, initT_8, resV, oneV, binA, unA, reduceCtorEq, Nat.reduceEqDiff, Nat.reduceAdd, Nat.reduceLT, Nat.reduceLeDiff, Nat.reduceMul, Nat.reduceSub, ↓reduceIte, decide_true, decide_false, Bool.true_eq_false, Bool.false_eq_true, Bool.not_true, Bool.not_false, if_true, if_false, and_true, true_and, memE, celE, w64, Nat.zero_add, Nat.add_zero, Nat.mul_one, putL, and_self, ldn, tm, t0, t3, hle]
    exact ext_ansV hX (by rw [hwant])
def leastOk (L : List It) : Bool := famB L && decide (0 < (fitL L).length)
def leastN (L : List It) : Int := if famB L then (fitL L).getD 0 0 else 0
theorem fitL_zero (L : List It) : ((fitL L).getD 0 0 == 0) = !decide (0 < (fitL L).length) := by
  cases e : fitL L with
  | nil => rfl
  | cons x l =>
    have := fitL_in (L := L) (c := x) (by rw [e]; simp)
    rw [List.getD_cons_zero, beq_eq_false_iff_ne.2 (by omega)]
    simp
theorem specLeastCommon_rc (m : Mem) (v : Value) (L : List It) (h : ItemsA m v L) : RC Try.prog 19 [v] m (AnsV (.tuple #[.int .i64 (leastN L), .bool (leastOk L)])) := by
  refine rc_of_run mixed ok_spec_LeastCommon (by simp) (go_start _ _ _ ?_)
  unfold leastN leastOk
  have hX := Ext.refl m
  simp (config := {implicitDefEqProofs := false, maxDischargeDepth := 20}) (disch := first | omega | (simp only [lenE]; done) | (simp only [lenE]; omega) | rfl | (simp only [lenE, markR_len]; done) | (simp only [lenE, markR_len]; omega)) only [runE, mapE, listE, initT_5, initT_6, initT_7, initT_8, resV, oneV, binA, unA, reduceCtorEq, Nat.reduceEqDiff, Nat.reduceAdd, Nat.reduceLT, Nat.reduceLeDiff, Nat.reduceMul, Nat.reduceSub, ↓reduceIte, decide_true, decide_false, Bool.true_eq_false, Bool.false_eq_true, Bool.not_true, Bool.not_false, if_true, if_false, and_true, true_and, memE, celE, w64, Nat.zero_add, Nat.add_zero, Nat.mul_one, putL, and_self, ldn, c_spec_LeastCommon, r_spec_LeastCommon]
  refine callH_rc (l8Family_rc _ v L ((Sees.ext hX).items h)) ?_
  rintro r new0 ⟨rfl, nr0⟩
  have hX := hX.app nr0
  cases g1 : famB L with
  | false =>
    simp (config := {implicitDefEqProofs := false, maxDischargeDepth := 20}) (disch := first | omega | (simp only [lenE]; done) | (simp only [lenE]; omega) | rfl | (simp only [lenE, markR_len]; done) | (simp only [lenE, markR_len]; omega)) only [runE, mapE, listE, initT_5, initT_6, initT_7, initT_8, resV, oneV, binA, unA, reduceCtorEq, Nat.reduceEqDiff, Nat.reduceAdd, Nat.reduceLT, Nat.reduceLeDiff, Nat.reduceMul, Nat.reduceSub, ↓reduceIte, decide_true, decide_false, Bool.true_eq_false, Bool.false_eq_true, Bool.not_true, Bool.not_false, if_true, if_false, and_true, true_and, memE, celE, w64, Nat.zero_add, Nat.add_zero, Nat.mul_one, putL, and_self, ldn, Bool.false_and, Bool.true_and, Bool.and_true, Bool.and_false, Bool.and_self]
    exact ext_ansV hX rfl
  | true =>
  have hF := goodF_iff.1 g1
  simp (config := {implicitDefEqProofs := false, maxDischargeDepth := 20}) (disch := first | omega | (simp only [lenE]; done) | (simp only [lenE]; omega) | rfl | (simp only [lenE, markR_len]; done) | (simp only [lenE, markR_len]; omega)) only [runE, mapE, listE, initT_5, initT_6, initT_7, initT_8, resV, oneV, binA, unA, reduceCtorEq, Nat.reduceEqDiff, Nat.reduceAdd, Nat.reduceLT, Nat.reduceLeDiff, Nat.reduceMul, Nat.reduceSub, ↓reduceIte, decide_true, decide_false, Bool.true_eq_false, Bool.false_eq_true, Bool.not_true, Bool.not_false, if_true, if_false, and_true, true_and, memE, celE, w64, Nat.zero_add, Nat.add_zero, Nat.mul_one, putL, and_self, ldn]
  refine callH_rc (l8Least_rc _ v L ((Sees.ext hX).items h) hF) ?_
  rintro r new1 ⟨rfl, nr1⟩
  have hX := hX.app nr1
  have hz := fitL_zero L
  cases g2 : decide (0 < (fitL L).length) with
  | false =>
    rw [g2] at hz
    have hz0 : (fitL L).getD 0 0 = 0 := by simpa using hz
    simp (config := {implicitDefEqProofs := false, maxDischargeDepth := 20}) (disch := first | omega | (simp only [lenE]; done) | (simp only [lenE]; omega) | rfl | (simp only [lenE, markR_len]; done) | (simp only [lenE, markR_len]; omega)) only [runE, mapE, listE, initT_5, initT_6, initT_7, initT_8, resV, oneV, binA, unA, reduceCtorEq, Nat.reduceEqDiff, Nat.reduceAdd, Nat.reduceLT, Nat.reduceLeDiff, Nat.reduceMul, Nat.reduceSub, ↓reduceIte, decide_true, decide_false, Bool.true_eq_false, Bool.false_eq_true, Bool.not_true, Bool.not_false, if_true, if_false, and_true, true_and, memE, celE, w64, Nat.zero_add, Nat.add_zero, Nat.mul_one, putL, and_self, ldn, hz, Bool.false_and, Bool.true_and, Bool.and_true, Bool.and_false, Bool.and_self, Bool.not_false]
    rw [hz0]
    exact ext_ansV hX rfl
  | true =>
  rw [g2] at hz
  simp (config := {implicitDefEqProofs := false, maxDischargeDepth := 20}) (disch := first | omega | (simp only [lenE]; done) | (simp only [lenE]; omega) | rfl | (simp only [lenE, markR_len]; done) | (simp only [lenE, markR_len]; omega)) only [runE, mapE, listE, initT_5, initT_6, initT_7, initT_8, resV, oneV, binA, unA, reduceCtorEq, Nat.reduceEqDiff, Nat.reduceAdd, Nat.reduceLT, Nat.reduceLeDiff, Nat.reduceMul, Nat.reduceSub, ↓reduceIte, decide_true, decide_false, Bool.true_eq_false, Bool.false_eq_true, Bool.not_true, Bool.not_false, if_true, if_false, and_true, true_and, memE, celE, w64, Nat.zero_add, Nat.add_zero, Nat.mul_one, putL, and_self, ldn, hz, Bool.false_and, Bool.true_and, Bool.and_true, Bool.and_false, Bool.and_self, Bool.not_true]
  refine callH_rc (l8Least_rc _ v L ((Sees.ext hX).items h) hF) ?_
  rintro r new2 ⟨rfl, nr2⟩
  simp (config := {implicitDefEqProofs := false, maxDischargeDepth := 20}) (disch := first | omega | (simp only [lenE]; done) | (simp only [lenE]; omega) | rfl | (simp only [lenE, markR_len]; done) | (simp only [lenE, markR_len]; omega)) only [runE, mapE, listE, initT_5, initT_6, initT_7, initT_8, resV, oneV, binA, unA, reduceCtorEq, Nat.reduceEqDiff, Nat.reduceAdd, Nat.reduceLT, Nat.reduceLeDiff, Nat.reduceMul, Nat.reduceSub, ↓reduceIte, decide_true, decide_false, Bool.true_eq_false, Bool.false_eq_true, Bool.not_true, Bool.not_false, if_true, if_false, and_true, true_and, memE, celE, w64, Nat.zero_add, Nat.add_zero, Nat.mul_one, putL, and_self, ldn, Bool.false_and, Bool.true_and, Bool.and_true, Bool.and_false, Bool.and_self, if_true]
  exact ext_ansV (hX.app nr2) rfl

theorem fitTest_rc (m M : Mem) (v : Value) (L : List It) (bid : Nat) (x : Int) (hx : 1 ≤ x ∧ x ≤ 400) (hM : ItemsA M v L) (hb : rdc M bid 0 = some v) (hF : GoodF L) :
    RC Try.prog 61 [.int .i64 x, .pointer (some ⟨bid, 0, none⟩)] M (AnsV (.bool (!fitsB L x))) := by
  refine rc_of_run mixed ok_impl_made__choices_1 (by simp) (go_start _ _ _ ?_)
  have hb' : rdc (roM M) bid 0 = some v := (rdc_roM M bid 0).trans hb
  simp (config := {implicitDefEqProofs := false, maxDischargeDepth := 20}) (disch := first | omega | (simp only [lenE]; done) | (simp only [lenE]; omega) | rfl | (simp only [lenE, markR_len]; done) | (simp only [lenE, markR_len]; omega)) only [runE, mapE, listE, initT_5, initT_6, initT_7, initT_8, resV, oneV, binA, unA, reduceCtorEq, Nat.reduceEqDiff, Nat.reduceAdd, Nat.reduceLT, Nat.reduceLeDiff, Nat.reduceMul, Nat.reduceSub, ↓reduceIte, decide_true, decide_false, Bool.true_eq_false, Bool.false_eq_true, Bool.not_true, Bool.not_false, if_true, if_false, and_true, true_and, memE, celE, w64, Nat.zero_add, Nat.add_zero, Nat.mul_one, putL, and_self, ldn, c_impl_made__choices_1, r_impl_made__choices_1, hb']
  refine callH_rc (implFits_rc _ v L x hM.ro hF hx) ?_
  rintro r new ⟨rfl, nrn⟩
  simp (config := {implicitDefEqProofs := false, maxDischargeDepth := 20}) (disch := first | omega | (simp only [lenE]; done) | (simp only [lenE]; omega) | rfl | (simp only [lenE, markR_len]; done) | (simp only [lenE, markR_len]; omega)) only [runE, mapE, listE, initT_5, initT_6, initT_7, initT_8, resV, oneV, binA, unA, reduceCtorEq, Nat.reduceEqDiff, Nat.reduceAdd, Nat.reduceLT, Nat.reduceLeDiff, Nat.reduceMul, Nat.reduceSub, ↓reduceIte, decide_true, decide_false, Bool.true_eq_false, Bool.false_eq_true, Bool.not_true, Bool.not_false, if_true, if_false, and_true, true_and, memE, celE, w64, Nat.zero_add, Nat.add_zero, Nat.mul_one, putL, and_self, ldn]
  exact ext_ansV ((Ext.refl M).app nrn) rfl
theorem filter_not_not (f : Int → Bool) (l : List Int) : l.filter (fun x => !(!f x)) = l.filter f := by
  congr 1
  funext x
  cases f x <;> rfl
theorem madeChoices_rc (m : Mem) (v : Value) (L : List It) (h : ItemsA m v L) (hF : GoodF L) : RC Try.prog 41 [v] m (fun r new => NoRo new ∧ IntsA (m ++ new) r (fitL L)) := by
  refine rc_of_run mixed ok_impl_made__choices (by simp) (go_start _ _ _ ?_)
  obtain ⟨_, vid, vfl, hv, hcells⟩ := _root_.id h
  subst hv
  simp (config := {implicitDefEqProofs := false, maxDischargeDepth := 20}) (disch := first | omega | (simp only [lenE]; done) | (simp only [lenE]; omega) | rfl | (simp only [lenE, markR_len]; done) | (simp only [lenE, markR_len]; omega)) only [runE, mapE, listE, initT_5, initT_6, initT_7, initT_8, resV, oneV, binA, unA, reduceCtorEq, Nat.reduceEqDiff, Nat.reduceAdd, Nat.reduceLT, Nat.reduceLeDiff, Nat.reduceMul, Nat.reduceSub, ↓reduceIte, decide_true, decide_false, Bool.true_eq_false, Bool.false_eq_true, Bool.not_true, Bool.not_false, if_true, if_false, and_true, true_and, memE, celE, w64, Nat.zero_add, Nat.add_zero, Nat.mul_one, putL, and_self, ldn, c_impl_made__choices, r_impl_made__choices]
  obtain ⟨E, hE⟩ : ∃ M, M = roM m ++ [⟨.own, 63, [.slice (some ⟨vid, 0, none⟩) L.length vfl]⟩] := ⟨_, rfl⟩
  rw [← hE]
  have hX : Ext m E := by rw [hE]; exact (Ext.refl m).one _ _
  have o0 : OwnB E m.length 63 [.slice (some ⟨vid, 0, none⟩) L.length vfl] := by rw [hE]; exact OwnB.here (roM_len m).symm
  clear hE
  refine callH_rc (countsUpTo_rc _ 400 (by omega)) ?_
  rintro r new0 ⟨nr0, w, rfl, hA⟩
  have hX0 := hX.app nr0
  have ob := o0.ext new0
  obtain ⟨h8, rid, rfl2, hr, hlo, hhi, hor⟩ := hA.now
  subst hr
  have hgt := o0.lt
  have hT : TestX rid (E ++ new0) (.func (.func 61) #[] #[.pointer (some ⟨m.length, 0, none⟩)]) (upFrom 1 400) (fun x => !fitsB L x) := by
    refine ⟨_, _, rfl, fun M x hM hx => ?_⟩
    have hx := upFrom_mem.1 hx
    have hI : ItemsA (E ++ new0) (.slice (some ⟨vid, 0, none⟩) L.length vfl) L := (Sees.ext hX0).items h
    have rdX : ∀ (i k : Nat) (u : Value), i ≠ rid → rdc (E ++ new0) i k = some u → rdc M i k = some u := fun i k u hi hu => by
      unfold rdc at hu ⊢
      cases hm : (E ++ new0)[i]? with
      | none => rw [hm] at hu; cases hu
      | some b =>
        rw [hm] at hu
        simp only [] at hu
        split at hu
        · cases hu
        · rename_i hd
          obtain ⟨b', hb, e, hd2⟩ := hM i b hi hm hd
          rw [hb]
          simp only [hd2, if_false, e]
          exact hu
    have hvid : vid < m.length := by
      have hpos := hF.len
      have := hcells 0 0 (by omega) (by decide)
      obtain ⟨u, hu⟩ := itC_some (L.getD 0 It0) (i := 0) (by decide)
      rw [hu] at this
      unfold rdc at this
      cases hm : m[vid]? with
      | none => rw [hm] at this; cases this
      | some b => exact (List.getElem?_eq_some_iff.1 hm).1
    have hIM : ItemsA M (.slice (some ⟨vid, 0, none⟩) L.length vfl) L := by
      obtain ⟨hb9, id2, fl2, he2, hc2⟩ := hI
      cases he2
      refine ⟨hb9, vid, vfl, rfl, fun k i hk hi => ?_⟩
      obtain ⟨u, hu⟩ := itC_some (L.getD k It0) hi
      have := hc2 k i hk hi
      rw [hu] at this ⊢
      exact rdX vid _ _ (by omega) this
    exact fitTest_rc m M _ L m.length x (by omega) hIM (rdX m.length 0 _ (by omega) (ob.rd 0)) hF
  simp (config := {implicitDefEqProofs := false, maxDischargeDepth := 20}) (disch := first | omega | (simp only [lenE]; done) | (simp only [lenE]; omega) | rfl | (simp only [lenE, markR_len]; done) | (simp only [lenE, markR_len]; omega)) only [runE, mapE, listE, initT_5, initT_6, initT_7, initT_8, resV, oneV, binA, unA, reduceCtorEq, Nat.reduceEqDiff, Nat.reduceAdd, Nat.reduceLT, Nat.reduceLeDiff, Nat.reduceMul, Nat.reduceSub, ↓reduceIte, decide_true, decide_false, Bool.true_eq_false, Bool.false_eq_true, Bool.not_true, Bool.not_false, if_true, if_false, and_true, true_and, memE, celE, w64, Nat.zero_add, Nat.add_zero, Nat.mul_one, putL, and_self, ldn, id_eq]
  refine callH_ac (deleteInts_ac (E ++ new0) rid rfl2 _ (upFrom 1 400) (fun x => !fitsB L x) hor h8 hT) ?_
  rintro r M' ⟨hL, hP⟩
  have hXM : Ext m M' := hL.extX hX0 (by omega)
  rw [filter_not_not] at hP
  simp (config := {implicitDefEqProofs := false, maxDischargeDepth := 20}) (disch := first | omega | (simp only [lenE]; done) | (simp only [lenE]; omega) | rfl | (simp only [lenE, markR_len]; done) | (simp only [lenE, markR_len]; omega)) only [runE, mapE, listE, initT_5, initT_6, initT_7, initT_8, resV, oneV, binA, unA, reduceCtorEq, Nat.reduceEqDiff, Nat.reduceAdd, Nat.reduceLT, Nat.reduceLeDiff, Nat.reduceMul, Nat.reduceSub, ↓reduceIte, decide_true, decide_false, Bool.true_eq_false, Bool.false_eq_true, Bool.not_true, Bool.not_false, if_true, if_false, and_true, true_and, memE, celE, w64, Nat.zero_add, Nat.add_zero, Nat.mul_one, putL, and_self, ldn]
  obtain ⟨nn, rfl, hn⟩ := hXM
  refine ⟨nn, rfl, hn, hn, ?_⟩
  refine (hP.at_ (M' := m ++ nn) ?_).ints
  rw [List.getElem?_append_right (by omega), List.getElem?_append_right (by rw [roM_len]; omega), roM_len]
theorem shared_fit {L : List It} (hF : GoodF L) {c : Int} (hc : 1 ≤ c ∧ c ≤ 400) : Fit (sharedF L c) := by
  have := (shared_nums hF hc L.length (Nat.le_refl _)).1
  unfold sharedF
  exact ⟨by omega, by omega, by omega, by omega⟩
theorem paceMade (m : Mem) (v : Value) (L : List It) (h : ItemsA m v L) (hF : GoodF L) : Pace m (.iface 63 v) (fitL L) (sharedF L) := by
  refine ⟨⟨_, _, rfl⟩, ⟨41, v, by kernel_rfl, fun M hM => madeChoices_rc M v L (hM.items h) hF⟩, ⟨44, v, by kernel_rfl, fun M c hM hc => ?_⟩, fun c hc => shared_fit hF (fitL_in hc)⟩
  exact implShared_rc M v L c (hM.items h) hF (fitL_in hc)
theorem implLeastCommon_rc (m : Mem) (v : Value) (L : List It) (h : ItemsA m v L) : RC Try.prog 18 [v] m (AnsV (.tuple #[.int .i64 (leastN L), .bool (leastOk L)])) := by
  refine rc_of_run mixed ok_impl_LeastCommon (by simp) (go_start _ _ _ ?_)
  unfold leastN leastOk
  have hX := Ext.refl m
  simp (config := {implicitDefEqProofs := false, maxDischargeDepth := 20}) (disch := first | omega | (simp only [lenE]; done) | (simp only [lenE]; omega) | rfl | (simp only [lenE, markR_len]; done) | (simp only [lenE, markR_len]; omega)) only [runE, mapE, listE, initT_5, initT_6, initT_7, initT_8, resV, oneV, binA, unA, reduceCtorEq, Nat.reduceEqDiff, Nat.reduceAdd, Nat.reduceLT, Nat.reduceLeDiff, Nat.reduceMul, Nat.reduceSub, ↓reduceIte, decide_true, decide_false, Bool.true_eq_false, Bool.false_eq_true, Bool.not_true, Bool.not_false, if_true, if_false, and_true, true_and, memE, celE, w64, Nat.zero_add, Nat.add_zero, Nat.mul_one, putL, and_self, ldn, c_impl_LeastCommon, r_impl_LeastCommon]
  refine callH_rc (isFamily_rc _ v L ((Sees.ext hX).items h)) ?_
  rintro r new0 ⟨rfl, nr0⟩
  have hX := hX.app nr0
  cases g1 : famB L with
  | false =>
    simp (config := {implicitDefEqProofs := false, maxDischargeDepth := 20}) (disch := first | omega | (simp only [lenE]; done) | (simp only [lenE]; omega) | rfl | (simp only [lenE, markR_len]; done) | (simp only [lenE, markR_len]; omega)) only [runE, mapE, listE, initT_5, initT_6, initT_7, initT_8, resV, oneV, binA, unA, reduceCtorEq, Nat.reduceEqDiff, Nat.reduceAdd, Nat.reduceLT, Nat.reduceLeDiff, Nat.reduceMul, Nat.reduceSub, ↓reduceIte, decide_true, decide_false, Bool.true_eq_false, Bool.false_eq_true, Bool.not_true, Bool.not_false, if_true, if_false, and_true, true_and, memE, celE, w64, Nat.zero_add, Nat.add_zero, Nat.mul_one, putL, and_self, ldn, Bool.false_and, Bool.true_and, Bool.and_true, Bool.and_false, Bool.and_self]
    exact ext_ansV hX rfl
  | true =>
  have hF := goodF_iff.1 g1
  simp (config := {implicitDefEqProofs := false, maxDischargeDepth := 20}) (disch := first | omega | (simp only [lenE]; done) | (simp only [lenE]; omega) | rfl | (simp only [lenE, markR_len]; done) | (simp only [lenE, markR_len]; omega)) only [runE, mapE, listE, initT_5, initT_6, initT_7, initT_8, resV, oneV, binA, unA, reduceCtorEq, Nat.reduceEqDiff, Nat.reduceAdd, Nat.reduceLT, Nat.reduceLeDiff, Nat.reduceMul, Nat.reduceSub, ↓reduceIte, decide_true, decide_false, Bool.true_eq_false, Bool.false_eq_true, Bool.not_true, Bool.not_false, if_true, if_false, and_true, true_and, memE, celE, w64, Nat.zero_add, Nat.add_zero, Nat.mul_one, putL, and_self, ldn]
  refine callH_rc (madeChoices_rc _ v L ((Sees.ext hX).items h) hF) ?_
  rintro w new1 ⟨nr1, hI⟩
  have hX := hX.app nr1
  have hl := hI.len
  by_cases h0 : 0 < (fitL L).length
  · have hne : (((fitL L).length : Int) == 0) = false := by rw [beq_eq_false_iff_ne]; omega
    have i0 : iadA 1 w (.int .i64 0) = some (pAt w 0) := hI.at_ 0 h0
    have l0 := hI.ld 0 h0
    rw [decide_eq_true h0]
    simp (config := {implicitDefEqProofs := false, maxDischargeDepth := 20}) (disch := first | omega | (simp only [lenE]; done) | (simp only [lenE]; omega) | rfl | (simp only [lenE, markR_len]; done) | (simp only [lenE, markR_len]; omega)) only [runE, mapE, listE, initT_5, initT_6, initT_7, initT_8, resV, oneV, binA, unA, reduceCtorEq, Nat.reduceEqDiff, Nat.reduceAdd, Nat.reduceLT, Nat.reduceLeDiff, Nat.reduceMul, Nat.reduceSub, ↓reduceIte, decide_true, decide_false, Bool.true_eq_false, Bool.false_eq_true, Bool.not_true, Bool.not_false, if_true, if_false, and_true, true_and, memE, celE, w64, Nat.zero_add, Nat.add_zero, Nat.mul_one, putL, and_self, ldn, hl, hne, i0, l0, Bool.false_and, Bool.true_and, Bool.and_true, Bool.and_false, Bool.and_self, if_true]
    exact ext_ansV hX rfl
  · have he : (((fitL L).length : Int) == 0) = true := by rw [beq_iff_eq]; omega
    have e : fitL L = [] := List.eq_nil_of_length_eq_zero (by omega)
    rw [decide_eq_false h0]
    simp (config := {implicitDefEqProofs := false, maxDischargeDepth := 20}) (disch := first | omega | (simp only [lenE]; done) | (simp only [lenE]; omega) | rfl | (simp only [lenE, markR_len]; done) | (simp only [lenE, markR_len]; omega)) only [runE, mapE, listE, initT_5, initT_6, initT_7, initT_8, resV, oneV, binA, unA, reduceCtorEq, Nat.reduceEqDiff, Nat.reduceAdd, Nat.reduceLT, Nat.reduceLeDiff, Nat.reduceMul, Nat.reduceSub, ↓reduceIte, decide_true, decide_false, Bool.true_eq_false, Bool.false_eq_true, Bool.not_true, Bool.not_false, if_true, if_false, and_true, true_and, memE, celE, w64, Nat.zero_add, Nat.add_zero, Nat.mul_one, putL, and_self, ldn, hl, he, Bool.false_and, Bool.true_and, Bool.and_true, Bool.and_false, Bool.and_self, if_true]
    rw [e]
    exact ext_ansV hX rfl
def bestComN (L : List It) : Int := if famB L then pickOf (sharedF L) (fitL L) else 0
theorem implBestCommon_rc (m : Mem) (v : Value) (L : List It) (h : ItemsA m v L) : RC Try.prog 22 [v] m (AnsV (.tuple #[.int .i64 (bestComN L), .bool (leastOk L)])) := by
  refine rc_of_run mixed ok_impl_BestCommon (by simp) (go_start _ _ _ ?_)
  unfold bestComN leastOk
  have hX := Ext.refl m
  simp (config := {implicitDefEqProofs := false, maxDischargeDepth := 20}) (disch := first | omega | (simp only [lenE]; done) | (simp only [lenE]; omega) | rfl | (simp only [lenE, markR_len]; done) | (simp only [lenE, markR_len]; omega)) only [runE, mapE, listE, initT_5, initT_6, initT_7, initT_8, resV, oneV, binA, unA, reduceCtorEq, Nat.reduceEqDiff, Nat.reduceAdd, Nat.reduceLT, Nat.reduceLeDiff, Nat.reduceMul, Nat.reduceSub, ↓reduceIte, decide_true, decide_false, Bool.true_eq_false, Bool.false_eq_true, Bool.not_true, Bool.not_false, if_true, if_false, and_true, true_and, memE, celE, w64, Nat.zero_add, Nat.add_zero, Nat.mul_one, putL, and_self, ldn, c_impl_BestCommon, r_impl_BestCommon]
  refine callH_rc (isFamily_rc _ v L ((Sees.ext hX).items h)) ?_
  rintro r new0 ⟨rfl, nr0⟩
  have hX := hX.app nr0
  cases g1 : famB L with
  | false =>
    simp (config := {implicitDefEqProofs := false, maxDischargeDepth := 20}) (disch := first | omega | (simp only [lenE]; done) | (simp only [lenE]; omega) | rfl | (simp only [lenE, markR_len]; done) | (simp only [lenE, markR_len]; omega)) only [runE, mapE, listE, initT_5, initT_6, initT_7, initT_8, resV, oneV, binA, unA, reduceCtorEq, Nat.reduceEqDiff, Nat.reduceAdd, Nat.reduceLT, Nat.reduceLeDiff, Nat.reduceMul, Nat.reduceSub, ↓reduceIte, decide_true, decide_false, Bool.true_eq_false, Bool.false_eq_true, Bool.not_true, Bool.not_false, if_true, if_false, and_true, true_and, memE, celE, w64, Nat.zero_add, Nat.add_zero, Nat.mul_one, putL, and_self, ldn, Bool.false_and, Bool.true_and, Bool.and_true, Bool.and_false, Bool.and_self]
    exact ext_ansV hX rfl
  | true =>
  have hF := goodF_iff.1 g1
  simp (config := {implicitDefEqProofs := false, maxDischargeDepth := 20}) (disch := first | omega | (simp only [lenE]; done) | (simp only [lenE]; omega) | rfl | (simp only [lenE, markR_len]; done) | (simp only [lenE, markR_len]; omega)) only [runE, mapE, listE, initT_5, initT_6, initT_7, initT_8, resV, oneV, binA, unA, reduceCtorEq, Nat.reduceEqDiff, Nat.reduceAdd, Nat.reduceLT, Nat.reduceLeDiff, Nat.reduceMul, Nat.reduceSub, ↓reduceIte, decide_true, decide_false, Bool.true_eq_false, Bool.false_eq_true, Bool.not_true, Bool.not_false, if_true, if_false, and_true, true_and, memE, celE, w64, Nat.zero_add, Nat.add_zero, Nat.mul_one, putL, and_self, ldn]
  refine callH_rc (bestChoice_rc _ _ _ _ (paceMade _ v L ((Sees.ext hX).items h) hF)) ?_
  rintro r new1 ⟨rfl, nr1⟩
  generalize pickOf (sharedF L) (fitL L) = q at *
  simp (config := {implicitDefEqProofs := false, maxDischargeDepth := 20}) (disch := first | omega | (simp only [lenE]; done) | (simp only [lenE]; omega) | rfl | (simp only [lenE, markR_len]; done) | (simp only [lenE, markR_len]; omega)) only [runE, mapE, listE, initT_5, initT_6, initT_7, initT_8, resV, oneV, binA, unA, reduceCtorEq, Nat.reduceEqDiff, Nat.reduceAdd, Nat.reduceLT, Nat.reduceLeDiff, Nat.reduceMul, Nat.reduceSub, ↓reduceIte, decide_true, decide_false, Bool.true_eq_false, Bool.false_eq_true, Bool.not_true, Bool.not_false, if_true, if_false, and_true, true_and, memE, celE, w64, Nat.zero_add, Nat.add_zero, Nat.mul_one, putL, and_self, ldn, ext_2_0, ext_2_1, Bool.false_and, Bool.true_and, Bool.and_true, Bool.and_false, Bool.and_self, if_true]
  exact ext_ansV (hX.app nr1) rfl

end Go.Proofs.Ytbjjkcoecaopcaa.Ab
end
section
namespace Go.Proofs.Ytbjjkcoecaopcaa.Ab
open Go Go.RowKit
set_option linter.unusedVariables false
set_option linter.unusedSimpArgs false
set_option maxRecDepth 10000
theorem cheaper_rc (m : Mem) (v : Value) (L : List It) (a b : Int) (h : ItemsA m v L) (hF : GoodF L) (ha : 1 ≤ a ∧ a ≤ 400) (hb : 1 ≤ b ∧ b ≤ 400) :
    RC Try.prog 46 [v, .int .i64 a, .int .i64 b] m (AnsV (.bool (cheaperB L a b))) := by
  refine rc_of_run mixed ok_spec_l8Cheaper (by simp) (go_start _ _ _ ?_)
  simp (config := {implicitDefEqProofs := false, maxDischargeDepth := 20}) (disch := first | omega | (simp only [lenE]; done) | (simp only [lenE]; omega) | rfl | (simp only [lenE, markR_len]; done) | (simp only [lenE, markR_len]; omega)) only [runE, mapE, listE, initT_5, initT_6, initT_7, initT_8, resV, oneV, binA, unA, reduceCtorEq, Nat.reduceEqDiff, Nat.reduceAdd, Nat.reduceLT, Nat.reduceLeDiff, Nat.reduceMul, Nat.reduceSub, ↓reduceIte, decide_true, decide_false, Bool.true_eq_false, Bool.false_eq_true, Bool.not_true, Bool.not_false, if_true, if_false, and_true, true_and, memE, celE, w64, Nat.zero_add, Nat.add_zero, Nat.mul_one, putL, and_self, ldn, c_spec_l8Cheaper, r_spec_l8Cheaper, bld01, stP_agg2]
  try refine ⟨?_, ?_⟩
  all_goals
    obtain ⟨E, hE⟩ : ∃ M, M = roM m ++ [⟨.own, 28, [.int .i64 0, .int .i64 1]⟩] := ⟨_, rfl⟩
    have hX : Ext m E := by rw [hE]; exact (Ext.refl m).one _ _
    have o0 : OwnB E m.length 28 [.int .i64 0, .int .i64 1] := by rw [hE]; exact OwnB.here (roM_len m).symm
    try rw [← hE]
    clear hE
    refine loop_inv mixed (fun s => ∃ (k : Nat) (M : Mem), k ≤ L.length ∧ s.m = M ∧ Ext m M ∧ OwnB M m.length 28 [.int .i64 (growTo L k).1, .int .i64 (growTo L k).2] ∧ s.t 0 = v ∧ s.t 1 = .int .i64 a ∧ s.t 2 = .int .i64 b ∧ s.t 7 = .int .i64 (setupTo L k) ∧ s.t 8 = .pointer (some ⟨m.length, 0, none⟩) ∧ s.t 9 = .int .i64 (k : Int)) (fun s => L.length - (intOf (s.t 9)).toNat)
      ⟨0, _, by omega, rfl, hX, o0, rfl, rfl, rfl, rfl, rfl, rfl⟩ ?_
    rintro s ⟨k, M, hk, tm, hX, p0, t0, t1, t2, t7, t8, t9⟩
    have hM := (Sees.ext hX).items h
    have hl := hM.len
    have hlen := hF.len
    by_cases hkl : k < L.length
    · have hlt : (k : Int) < L.length := by omega
      have i1 := hM.at_ hkl
      have i2 := hM.ld hkl
      have g := hF.at_ hkl
      have hm := g.made
      have hd := g.daily
      have hs := g.setup
      have h0 := g.hd
      have hh := g.hdm
      have sn := setup_nn hF k (by omega)
      have hset : setupTo L (k + 1) = setupTo L k + (L.getD k It0).setup := rfl
      have hstep : growTo L (k + 1) = addF (growTo L k) (fr ((L.getD k It0).hold * (L.getD k It0).daily * ((L.getD k It0).made - (L.getD k It0).daily)) (2 * (L.getD k It0).made)) := rfl
      have nn := grow_nums hF k (by omega)
      generalize growTo L k = p at *
      generalize setupTo L k = S at *
      generalize L.getD k It0 = x at *
      have n2 := fr_nums (a := x.hold * x.daily * (x.made - x.daily)) (b := 2 * x.made) (A := 7020) (B := 80) (by omega) (by omega)
      have ok2 := plus_ok nn.1 nn.2 n2.1 n2.2 (by decide) (by decide)
      have q1 : ∀ b, ldA (M ++ [b]) (some 2) (.pointer (some ⟨m.length, 0, none⟩)) = some (.agg #[.int .i64 p.1, .int .i64 p.2]) := fun b => (p0.ext [b]).ld2
      simp (config := {implicitDefEqProofs := false, maxDischargeDepth := 20}) (disch := first | omega | (simp only [lenE]; done) | (simp only [lenE]; omega) | rfl | (simp only [lenE, markR_len]; done) | (simp only [lenE, markR_len]; omega)) only [runE, mapE, listE, initT_5, initT_6, initT_7, initT_8, resV, oneV, binA, unA, reduceCtorEq, Nat.reduceEqDiff, Nat.reduceAdd, Nat.reduceLT, Nat.reduceLeDiff, Nat.reduceMul, Nat.reduceSub, ↓reduceIte, decide_true, decide_false, Bool.true_eq_false, Bool.false_eq_true, Bool.not_true, Bool.not_false, if_true, if_false, and_true, true_and, memE, celE, w64, Nat.zero_add, Nat.add_zero, Nat.mul_one, putL, and_self, ldn, tm, t0, t1, t2, t7, t8, t9, hl, hlt, i1, i2, itV, stP_agg5, q1]
      obtain ⟨F, hF2⟩ : ∃ F, F = M ++ [⟨.own, 25, [.int .i64 x.daily, .int .i64 x.setup, .int .i64 x.hold, .int .i64 x.made, .int .i64 x.pause]⟩] := ⟨_, rfl⟩
      rw [← hF2]
      have hXF : Ext m F := by rw [hF2]; exact hX.one _ _
      have pF : OwnB F m.length 28 [.int .i64 p.1, .int .i64 p.2] := by rw [hF2]; exact p0.ext _
      clear hF2
      refine rcallH_rc (specCut_rc _ (x.hold * x.daily * (x.made - x.daily)) (2 * x.made) ⟨by omega, by omega⟩ ⟨by omega, by omega⟩) ?_
      rintro r new3 ⟨rfl, nr3⟩
      simp (config := {implicitDefEqProofs := false, maxDischargeDepth := 20}) (disch := first | omega | (simp only [lenE]; done) | (simp only [lenE]; omega) | rfl | (simp only [lenE, markR_len]; done) | (simp only [lenE, markR_len]; omega)) only [runE, mapE, listE, initT_5, initT_6, initT_7, initT_8, resV, oneV, binA, unA, reduceCtorEq, Nat.reduceEqDiff, Nat.reduceAdd, Nat.reduceLT, Nat.reduceLeDiff, Nat.reduceMul, Nat.reduceSub, ↓reduceIte, decide_true, decide_false, Bool.true_eq_false, Bool.false_eq_true, Bool.not_true, Bool.not_false, if_true, if_false, and_true, true_and, memE, celE, w64, Nat.zero_add, Nat.add_zero, Nat.mul_one, putL, and_self, ldn]
      refine rcallH_rc (specPlus_rc _ p (fr (x.hold * x.daily * (x.made - x.daily)) (2 * x.made)) nn.1.1 nn.2.1 n2.1.1 n2.2.1 ok2.1 ok2.2) ?_
      rintro r new4 ⟨rfl, nr4⟩
      rw [← hstep]
      generalize hz : growTo L (k + 1) = z at *
      have q0 := (pF.ext new3).ext new4
      have hst2 := q0.st (off := 0) (vs := [.int .i64 z.1, .int .i64 z.2]) (by simp) rfl
      simp (config := {implicitDefEqProofs := false, maxDischargeDepth := 20}) (disch := first | omega | (simp only [lenE]; done) | (simp only [lenE]; omega) | rfl | (simp only [lenE, markR_len]; done) | (simp only [lenE, markR_len]; omega)) only [runE, mapE, listE, initT_5, initT_6, initT_7, initT_8, resV, oneV, binA, unA, reduceCtorEq, Nat.reduceEqDiff, Nat.reduceAdd, Nat.reduceLT, Nat.reduceLeDiff, Nat.reduceMul, Nat.reduceSub, ↓reduceIte, decide_true, decide_false, Bool.true_eq_false, Bool.false_eq_true, Bool.not_true, Bool.not_false, if_true, if_false, and_true, true_and, memE, celE, w64, Nat.zero_add, Nat.add_zero, Nat.mul_one, putL, and_self, ldn, tm, t0, t1, t2, t7, t8, t9, frV, stP_agg2, hst2]
      refine ⟨⟨k + 1, _, by omega, rfl, ((hXF.app nr3).app nr4).put (Nat.le_refl _) _ _, by rw [hz]; exact q0.set_self _ _, by rw [hset], by simp⟩, ?_⟩
      simp [intOf]; omega
    · have hlt : ¬ ((k : Int) < L.length) := by omega
      have e : k = L.length := by omega
      subst e
      have nn := grow_nums hF L.length (Nat.le_refl _)
      have sn := setup_nn hF L.length (Nat.le_refl _)
      unfold cheaperB
      generalize growTo L L.length = z at *
      generalize setupTo L L.length = S at *
      have m1 := mul_le2 (a := S) (x := z.2) (A := 396) (B := 5120000) (by omega) (by omega)
      have m2 := mul_le2 (a := S * z.2) (x := b) (A := 2027520000) (B := 400) (by omega) (by omega)
      have m3 := mul_le2 (a := S * z.2) (x := a) (A := 2027520000) (B := 400) (by omega) (by omega)
      have m4 := mul_le2 (a := z.1) (x := a) (A := 1843200000) (B := 400) (by omega) (by omega)
      have m5 := mul_le2 (a := z.1 * a) (x := a) (A := 737280000000) (B := 400) (by omega) (by omega)
      have m6 := mul_le2 (a := z.1 * a * a) (x := b) (A := 294912000000000) (B := 400) (by omega) (by omega)
      have m7 := mul_le2 (a := z.1) (x := b) (A := 1843200000) (B := 400) (by omega) (by omega)
      have m8 := mul_le2 (a := z.1 * b) (x := b) (A := 737280000000) (B := 400) (by omega) (by omega)
      have m9 := mul_le2 (a := z.1 * b * b) (x := a) (A := 294912000000000) (B := 400) (by omega) (by omega)
      simp (config := {implicitDefEqProofs := false, maxDischargeDepth := 20}) (disch := first | omega | (simp only [lenE]; done) | (simp only [lenE]; omega) | rfl | (simp only [lenE, markR_len]; done) | (simp only [lenE, markR_len]; omega)) only [runE, mapE, listE, initT_5, initT_6, initT_7, initT_8, resV, oneV, binA, unA, reduceCtorEq, Nat.reduceEqDiff, Nat.reduceAdd, Nat.reduceLT, Nat.reduceLeDiff, Nat.reduceMul, Nat.reduceSub, ↓reduceIte, decide_true, decide_false, Bool.true_eq_false, Bool.false_eq_true, Bool.not_true, Bool.not_false, if_true, if_false, and_true, true_and, memE, celE, w64, Nat.zero_add, Nat.add_zero, Nat.mul_one, putL, and_self, ldn, tm, t0, t1, t2, t7, t8, t9, hl, hlt, iada_0, iada_1, p0.rd]
      exact ext_ansV hX rfl
theorem specBestCommon_rc (m : Mem) (v : Value) (L : List It) (h : ItemsA m v L) : RC Try.prog 23 [v] m (AnsV (.tuple #[.int .i64 (bestComN L), .bool (leastOk L)])) := by
  refine rc_of_run mixed ok_spec_BestCommon (by simp) (go_start _ _ _ ?_)
  unfold bestComN leastOk
  have hX := Ext.refl m
  simp (config := {implicitDefEqProofs := false, maxDischargeDepth := 20}) (disch := first | omega | (simp only [lenE]; done) | (simp only [lenE]; omega) | rfl | (simp only [lenE, markR_len]; done) | (simp only [lenE, markR_len]; omega)) only [runE, mapE, listE, initT_5, initT_6, initT_7, initT_8, resV, oneV, binA, unA, reduceCtorEq, Nat.reduceEqDiff, Nat.reduceAdd, Nat.reduceLT, Nat.reduceLeDiff, Nat.reduceMul, Nat.reduceSub, ↓reduceIte, decide_true, decide_false, Bool.true_eq_false, Bool.false_eq_true, Bool.not_true, Bool.not_false, if_true, if_false, and_true, true_and, memE, celE, w64, Nat.zero_add, Nat.add_zero, Nat.mul_one, putL, and_self, ldn, c_spec_BestCommon, r_spec_BestCommon]
  refine callH_rc (l8Family_rc _ v L ((Sees.ext hX).items h)) ?_
  rintro r new0 ⟨rfl, nr0⟩
  have hX := hX.app nr0
  cases g1 : famB L with
  | false =>
    simp (config := {implicitDefEqProofs := false, maxDischargeDepth := 20}) (disch := first | omega | (simp only [lenE]; done) | (simp only [lenE]; omega) | rfl | (simp only [lenE, markR_len]; done) | (simp only [lenE, markR_len]; omega)) only [runE, mapE, listE, initT_5, initT_6, initT_7, initT_8, resV, oneV, binA, unA, reduceCtorEq, Nat.reduceEqDiff, Nat.reduceAdd, Nat.reduceLT, Nat.reduceLeDiff, Nat.reduceMul, Nat.reduceSub, ↓reduceIte, decide_true, decide_false, Bool.true_eq_false, Bool.false_eq_true, Bool.not_true, Bool.not_false, if_true, if_false, and_true, true_and, memE, celE, w64, Nat.zero_add, Nat.add_zero, Nat.mul_one, putL, and_self, ldn, Bool.false_and, Bool.true_and, Bool.and_true, Bool.and_false, Bool.and_self]
    exact ext_ansV hX rfl
  | true =>
  have hF := goodF_iff.1 g1
  simp (config := {implicitDefEqProofs := false, maxDischargeDepth := 20}) (disch := first | omega | (simp only [lenE]; done) | (simp only [lenE]; omega) | rfl | (simp only [lenE, markR_len]; done) | (simp only [lenE, markR_len]; omega)) only [runE, mapE, listE, initT_5, initT_6, initT_7, initT_8, resV, oneV, binA, unA, reduceCtorEq, Nat.reduceEqDiff, Nat.reduceAdd, Nat.reduceLT, Nat.reduceLeDiff, Nat.reduceMul, Nat.reduceSub, ↓reduceIte, decide_true, decide_false, Bool.true_eq_false, Bool.false_eq_true, Bool.not_true, Bool.not_false, if_true, if_false, and_true, true_and, memE, celE, w64, Nat.zero_add, Nat.add_zero, Nat.mul_one, putL, and_self, ldn]
  refine callH_rc (l8Least_rc _ v L ((Sees.ext hX).items h) hF) ?_
  rintro r new1 ⟨rfl, nr1⟩
  have hX := hX.app nr1
  have hz := fitL_zero L
  rcases fitL_form hF with h0 | ⟨b0, n, hb0, hbn, hform⟩
  · rw [h0] at hz ⊢
    simp only [List.length_nil, List.getD_nil] at hz ⊢
    simp (config := {implicitDefEqProofs := false, maxDischargeDepth := 20}) (disch := first | omega | (simp only [lenE]; done) | (simp only [lenE]; omega) | rfl | (simp only [lenE, markR_len]; done) | (simp only [lenE, markR_len]; omega)) only [runE, mapE, listE, initT_5, initT_6, initT_7, initT_8, resV, oneV, binA, unA, reduceCtorEq, Nat.reduceEqDiff, Nat.reduceAdd, Nat.reduceLT, Nat.reduceLeDiff, Nat.reduceMul, Nat.reduceSub, ↓reduceIte, decide_true, decide_false, Bool.true_eq_false, Bool.false_eq_true, Bool.not_true, Bool.not_false, if_true, if_false, and_true, true_and, memE, celE, w64, Nat.zero_add, Nat.add_zero, Nat.mul_one, putL, and_self, ldn, hz, Bool.false_and, Bool.true_and, Bool.and_true, Bool.and_false, Bool.and_self, Bool.not_false, show decide ((0 : Nat) < 0) = false from rfl, show ((0 : Int) == 0) = true from rfl]
    exact ext_ansV hX rfl
  · rw [hform] at hz ⊢
    have hlen : decide (0 < (upFrom b0 (n + 1)).length) = true := by rw [upFrom_len]; exact decide_eq_true (by omega)
    have hhead : (upFrom b0 (n + 1)).getD 0 0 = b0 := rfl
    rw [hlen, hhead] at hz ⊢
    simp (config := {implicitDefEqProofs := false, maxDischargeDepth := 20}) (disch := first | omega | (simp only [lenE]; done) | (simp only [lenE]; omega) | rfl | (simp only [lenE, markR_len]; done) | (simp only [lenE, markR_len]; omega)) only [runE, mapE, listE, initT_5, initT_6, initT_7, initT_8, resV, oneV, binA, unA, reduceCtorEq, Nat.reduceEqDiff, Nat.reduceAdd, Nat.reduceLT, Nat.reduceLeDiff, Nat.reduceMul, Nat.reduceSub, ↓reduceIte, decide_true, decide_false, Bool.true_eq_false, Bool.false_eq_true, Bool.not_true, Bool.not_false, if_true, if_false, and_true, true_and, memE, celE, w64, Nat.zero_add, Nat.add_zero, Nat.mul_one, putL, and_self, ldn, hz, Bool.false_and, Bool.true_and, Bool.and_true, Bool.and_false, Bool.and_self, Bool.not_true]
    refine callH_rc (l8Least_rc _ v L ((Sees.ext hX).items h) hF) ?_
    rintro r new2 ⟨rfl, nr2⟩
    have hX := hX.app nr2
    rw [hform, hhead]
    obtain ⟨want, hw⟩ : ∃ want, want = bestIn (cheaperB L) (upFrom (b0 + 1) n) b0 := ⟨_, rfl⟩
    have hpick : pickOf (sharedF L) (upFrom b0 (n + 1)) = want := by
      rw [hw]
      unfold pickOf
      show bestIn (fun a b => lessF (sharedF L a) (sharedF L b)) (upFrom (b0 + 1) n) b0 = _
      refine (bestIn_congr _ _ fun x hx y hy => ?_).symm
      have hx := upFrom_mem.1 hx
      have hy2 : 1 ≤ y ∧ y ≤ 400 := by
        rcases hy with rfl | hy
        · omega
        · have := upFrom_mem.1 hy; omega
      exact cheaper_less hF (by omega) hy2
    rw [hpick]
    clear hpick
    simp (config := {implicitDefEqProofs := false, maxDischargeDepth := 20}) (disch := first | omega | (simp only [lenE]; done) | (simp only [lenE]; omega) | rfl | (simp only [lenE, markR_len]; done) | (simp only [lenE, markR_len]; omega)) only [runE, mapE, listE, initT_5, initT_6, initT_7, initT_8, resV, oneV, binA, unA, reduceCtorEq, Nat.reduceEqDiff, Nat.reduceAdd, Nat.reduceLT, Nat.reduceLeDiff, Nat.reduceMul, Nat.reduceSub, ↓reduceIte, decide_true, decide_false, Bool.true_eq_false, Bool.false_eq_true, Bool.not_true, Bool.not_false, if_true, if_false, and_true, true_and, memE, celE, w64, Nat.zero_add, Nat.add_zero, Nat.mul_one, putL, and_self, ldn, Bool.false_and, Bool.true_and, Bool.and_true, Bool.and_false, Bool.and_self, if_true]
    refine loop_inv mixed (fun s => ∃ (k : Nat) (b : Int) (M : Mem), k ≤ n ∧ (1 ≤ b ∧ b ≤ 400) ∧ want = bestIn (cheaperB L) (upFrom (b0 + 1 + k) (n - k)) b ∧ s.m = M ∧ Ext m M ∧ s.t 0 = v ∧ s.t 4 = .int .i64 b ∧ s.t 5 = .int .i64 (b0 + 1 + (k : Int))) (fun s => 401 - (intOf (s.t 5)).toNat)
      ⟨0, b0, _, by omega, by omega, by simpa using hw, rfl, hX, rfl, rfl, by simp; rfl⟩ ?_
    rintro s ⟨k, b, M, hk, hb, hwant, tm, hX, t0, t4, t5⟩
    have hM := (Sees.ext hX).items h
    by_cases hkn : k < n
    · have hle : (b0 + 1 + (k : Int)) ≤ 400 := by omega
      simp (config := {implicitDefEqProofs := false, maxDischargeDepth := 20}) (disch := first | omega | (simp only [lenE]; done) | (simp only [lenE]; omega) | rfl | (simp only [lenE, markR_len]; done) | (simp only [lenE, markR_len]; omega)) only [runE, mapE, listE, initT_5, initT_6, initT_7, initT_8, resV, oneV, binA, unA, reduceCtorEq, Nat.reduceEqDiff, Nat.reduceAdd, Nat.reduceLT, Nat.reduceLeDiff, Nat.reduceMul, Nat.reduceSub, ↓reduceIte, decide_true, decide_false, Bool.true_eq_false, Bool.false_eq_true, Bool.not_true, Bool.not_false, if_true, if_false, and_true, true_and, memE, celE, w64, Nat.zero_add, Nat.add_zero, Nat.mul_one, putL, and_self, ldn, tm, t0, t4, t5, hle]
      refine callH_rc (cheaper_rc _ v L (b0 + 1 + (k : Int)) b hM hF (by omega) hb) ?_
      rintro r new3 ⟨rfl, nr3⟩
      have e0 : (b0 + 1 + (k : Int)) + 1 = b0 + 1 + ((k + 1 : Nat) : Int) := by push_cast; omega
      rw [show n - k = (n - (k + 1)) + 1 by omega, upFrom, e0] at hwant
      simp only [bestIn] at hwant
      cases hls : cheaperB L (b0 + 1 + (k : Int)) b with
      | true =>
        rw [hls] at hwant
        simp (config := {implicitDefEqProofs := false, maxDischargeDepth := 20}) (disch := first | omega | (simp only [lenE]; done) | (simp only [lenE]; omega) | rfl | (simp only [lenE, markR_len]; done) | (simp only [lenE, markR_len]; omega)) only [runE, mapE, listE, initT_5, initT_6, initT_7, initT_8, resV, oneV, binA, unA, reduceCtorEq, Nat.reduceEqDiff, Nat.reduceAdd, Nat.reduceLT, Nat.reduceLeDiff, Nat.reduceMul, Nat.reduceSub, ↓reduceIte, decide_true, decide_false, Bool.true_eq_false, Bool.false_eq_true, Bool.not_true, Bool.not_false, if_true, if_false, and_true, true_and, memE, celE, w64, Nat.zero_add, Nat.add_zero, Nat.mul_one, putL, and_self, ldn, tm, t0, t4, t5]
        refine ⟨⟨k + 1, b0 + 1 + (k : Int), _, by omega, by omega, by simpa using hwant, rfl, hX.app nr3, rfl, by push_cast; congr 1⟩, ?_⟩
        simp [intOf]; omega
      | false =>
        rw [hls] at hwant
        simp (config := {implicitDefEqProofs := false, maxDischargeDepth := 20}) (disch := first | omega | (simp only [lenE]; done) | (simp only [lenE]; omega) | rfl | (simp only [lenE, markR_len]; done) | (simp only [lenE, markR_len]; omega)) only [runE, mapE, listE, initT_5, initT_6, initT_7, initT_8, resV, oneV, binA, unA, reduceCtorEq, Nat.reduceEqDiff, Nat.reduceAdd, Nat.reduceLT, Nat.reduceLeDiff, Nat.reduceMul, Nat.reduceSub, ↓reduceIte, decide_true, decide_false, Bool.true_eq_false, Bool.false_eq_true, Bool.not_true, Bool.not_false, if_true, if_false, and_true, true_and, memE, celE, w64, Nat.zero_add, Nat.add_zero, Nat.mul_one, putL, and_self, ldn, tm, t0, t4, t5]
        refine ⟨⟨k + 1, b, _, by omega, hb, by simpa using hwant, rfl, hX.app nr3, rfl, by push_cast; congr 1⟩, ?_⟩
        simp [intOf]; omega
    · have e : k = n := by omega
      subst e
      have hle : ¬ ((b0 + 1 + (k : Int)) ≤ 400) := by omega
      rw [Nat.sub_self] at hwant
      have hwant : want = b := hwant
      subst hwant
      simp (config := {implicitDefEqProofs := false, maxDischargeDepth := 20}) (disch := first | omega | (simp only [lenE]; done) | (simp only [lenE]; omega) | rfl | (simp only [lenE, markR_len]; done) | (simp only [lenE, markR_len]; omega)) only [runE, mapE, listE, initT_5, initT_6, initT_7, initT_8, resV, oneV, binA, unA, reduceCtorEq, Nat.reduceEqDiff, Nat.reduceAdd, Nat.reduceLT, Nat.reduceLeDiff, Nat.reduceMul, Nat.reduceSub, ↓reduceIte, decide_true, decide_false, Bool.true_eq_false, Bool.false_eq_true, Bool.not_true, Bool.not_false, if_true, if_false, and_true, true_and, memE, celE, w64, Nat.zero_add, Nat.add_zero, Nat.mul_one, putL, and_self, ldn, tm, t0, t4, t5, hle]
      exact ext_ansV hX rfl
end Go.Proofs.Ytbjjkcoecaopcaa.Ab
end
