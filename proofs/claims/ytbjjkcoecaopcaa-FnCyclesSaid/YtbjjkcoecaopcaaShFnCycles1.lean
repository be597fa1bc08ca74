/- What the law needs of the texts that it rests on. -/
import Derived.Test.YtbjjkcoecaopcaaShFnCycles0
section
namespace Go.Proofs.Ytbjjkcoecaopcaa.Ab
open Go Go.RowKit
set_option linter.unusedVariables false
set_option linter.unusedSimpArgs false
theorem wrap_u64n (n : Nat) (h : n < 18446744073709551616) : IntKind.u64.wrap (n : Int) = (n : Int) := IntWalk.u64_in _ ⟨by omega, by omega⟩
theorem wrap_u64m (n : Nat) : IntKind.u64.wrap (n : Int) = ((n % 18446744073709551616 : Nat) : Int) := by
  have : IntKind.u64.wrap (n : Int) = (n : Int) % 18446744073709551616 := by
    simp [IntKind.wrap, IntKind.bits, IntKind.signed]
  rw [this]; omega
theorem and_low (x : Nat) (h : x < 18446744073709551616) : IntKind.u64.wrap ((BitVec.ofInt IntKind.u64.bits (x : Int) &&& BitVec.ofInt IntKind.u64.bits 4294967295).toNat : Int) = ((x % 4294967296 : Nat) : Int) := by
  have e : (BitVec.ofInt IntKind.u64.bits (x : Int) &&& BitVec.ofInt IntKind.u64.bits 4294967295).toNat = x % 4294967296 := by
    have h1 : (BitVec.ofInt IntKind.u64.bits (x : Int)).toNat = x := by
      show (BitVec.ofInt 64 (x : Int)).toNat = x
      rw [BitVec.toNat_ofInt]
      omega
    have h2 : (BitVec.ofInt IntKind.u64.bits 4294967295).toNat = 2 ^ 32 - 1 := by decide
    rw [BitVec.toNat_and, h1, h2, Nat.and_two_pow_sub_one_eq_mod]
  rw [e, wrap_u64n _ (by omega)]
theorem shr_low (x : Nat) : Int.fdiv (x : Int) (2 ^ (min (Int.toNat 32) IntKind.u64.bits)) = ((x / 4294967296 : Nat) : Int) := by
  have e : (2 ^ (min (Int.toNat 32) IntKind.u64.bits) : Int) = 4294967296 := rfl
  rw [e, Int.fdiv_eq_ediv_of_nonneg _ (by decide)]
  rfl
theorem two_words (x y : Nat) : (x / 4294967296) * (y / 4294967296) + ((x / 4294967296) * (y % 4294967296) + (x % 4294967296) * (y % 4294967296) / 4294967296) / 4294967296 +
    (((x / 4294967296) * (y % 4294967296) + (x % 4294967296) * (y % 4294967296) / 4294967296) % 4294967296 + (x % 4294967296) * (y / 4294967296)) / 4294967296 = x * y / 18446744073709551616 := by
  have hx : x = 4294967296 * (x / 4294967296) + x % 4294967296 := by omega
  have hy : y = 4294967296 * (y / 4294967296) + y % 4294967296 := by omega
  generalize x / 4294967296 = a at *
  generalize x % 4294967296 = b at *
  generalize y / 4294967296 = c at *
  generalize y % 4294967296 = d at *
  have e : x * y = 18446744073709551616 * (a * c) + 4294967296 * (a * d + b * c) + b * d := by rw [hx, hy]; grind
  rw [e]
  generalize a * c = p
  generalize a * d = q
  generalize b * c = r
  generalize b * d = s
  omega
set_option maxHeartbeats 1000000 in
theorem mul64n_rc (m : Mem) (x y : Nat) (hx : x < 9223372036854775808) (hy : y < 9223372036854775808) :
    RC Try.prog 65 [.int .u64 (x : Int), .int .u64 (y : Int)] m (AnsV (.tuple #[.int .u64 ((x * y / 18446744073709551616 : Nat) : Int), .int .u64 ((x * y % 18446744073709551616 : Nat) : Int)])) := by
  refine rc_of_run mixed ok_math_bits_Mul64 (by simp) (go_start _ _ _ ?_)
  have w := two_words x y
  have e1 := and_low x (by omega)
  have e2 := and_low y (by omega)
  have e3 := shr_low x
  have e4 := shr_low y
  have b1 : x % 4294967296 < 4294967296 := by omega
  have b2 : y % 4294967296 < 4294967296 := by omega
  have b3 : x / 4294967296 < 2147483648 := by omega
  have b4 : y / 4294967296 < 2147483648 := by omega
  have elo : IntKind.u64.wrap ((x : Int) * (y : Int)) = ((x * y % 18446744073709551616 : Nat) : Int) := by
    have : (x : Int) * (y : Int) = ((x * y : Nat) : Int) := by push_cast; rfl
    rw [this, wrap_u64m]
  have bhi : x * y / 18446744073709551616 < 18446744073709551616 := by
    have : x * y < 9223372036854775808 * 9223372036854775808 := Nat.mul_lt_mul'' hx hy
    omega
  generalize x * y % 18446744073709551616 = lo at *
  generalize x * y / 18446744073709551616 = hi at *
  generalize x % 4294967296 = x0 at *
  generalize y % 4294967296 = y0 at *
  generalize x / 4294967296 = x1 at *
  generalize y / 4294967296 = y1 at *
  have c1 : x0 * y0 ≤ 4294967295 * 4294967295 := Nat.mul_le_mul (by omega) (by omega)
  have c2 : x1 * y0 ≤ 2147483647 * 4294967295 := Nat.mul_le_mul (by omega) (by omega)
  have c3 : x0 * y1 ≤ 4294967295 * 2147483647 := Nat.mul_le_mul (by omega) (by omega)
  have c4 : x1 * y1 ≤ 2147483647 * 2147483647 := Nat.mul_le_mul (by omega) (by omega)
  have m1 : (x0 : Int) * (y0 : Int) = ((x0 * y0 : Nat) : Int) := by push_cast; rfl
  have m2 : (x1 : Int) * (y0 : Int) = ((x1 * y0 : Nat) : Int) := by push_cast; rfl
  have m3 : (x0 : Int) * (y1 : Int) = ((x0 * y1 : Nat) : Int) := by push_cast; rfl
  have m4 : (x1 : Int) * (y1 : Int) = ((x1 * y1 : Nat) : Int) := by push_cast; rfl
  generalize x0 * y0 = p at *
  generalize x1 * y0 = q at *
  generalize x0 * y1 = r at *
  generalize x1 * y1 = u at *
  have s1 := shr_low p
  generalize g1 : p / 4294967296 = p1 at *
  have a1 : (q : Int) + (p1 : Int) = ((q + p1 : Nat) : Int) := by push_cast; rfl
  generalize g2 : q + p1 = t at *
  have s2 := shr_low t
  have s3 := and_low t (by omega)
  generalize g3 : t / 4294967296 = t1 at *
  generalize g4 : t % 4294967296 = t0 at *
  have a2 : (t0 : Int) + (r : Int) = ((t0 + r : Nat) : Int) := by push_cast; rfl
  generalize g5 : t0 + r = v at *
  have s4 := shr_low v
  generalize g6 : v / 4294967296 = v1 at *
  have a3 : (u : Int) + (t1 : Int) = ((u + t1 : Nat) : Int) := by push_cast; rfl
  generalize g7 : u + t1 = u1 at *
  have a4 : (u1 : Int) + (v1 : Int) = (hi : Int) := by omega
  have lt : ¬ ((32 : Int) < 0) := by decide
  have k1 := wrap_u64n p (by omega)
  have k2 := wrap_u64n q (by omega)
  have k3 := wrap_u64n t (by omega)
  have k4 := wrap_u64n r (by omega)
  have k5 := wrap_u64n v (by omega)
  have k6 := wrap_u64n u (by omega)
  have k7 := wrap_u64n u1 (by omega)
  have k8 := wrap_u64n hi (by omega)
  clear w
  simp (config := {implicitDefEqProofs := false, maxDischargeDepth := 20}) (disch := first | omega | (simp only [lenE]; done) | (simp only [lenE]; omega) | rfl | (simp only [lenE, markR_len]; done) | (simp only [lenE, markR_len]; omega)) only [runE, mapE, listE, initT_5, initT_6, initT_7, initT_8, resV, oneV, binA, unA, reduceCtorEq, Nat.reduceEqDiff, Nat.reduceAdd, Nat.reduceLT, Nat.reduceLeDiff, Nat.reduceMul, Nat.reduceSub, ↓reduceIte, decide_true, decide_false, Bool.true_eq_false, Bool.false_eq_true, Bool.not_true, Bool.not_false, if_true, if_false, and_true, true_and, memE, celE, w64, Nat.zero_add, Nat.add_zero, Nat.mul_one, putL, and_self, ldn, c_math_bits_Mul64, r_math_bits_Mul64, e1, e2, e3, e4, elo, m1, m2, m3, m4, s1, a1, s2, s3, a2, s4, a3, a4, lt, k1, k2, k3, k4, k5, k6, k7, k8]
  exact newQ_nil ⟨rfl, noRo_nil⟩
def cmpI (a b : Int) : Int := if a < b then -1 else if b < a then 1 else 0
theorem isNaN_rc (m : Mem) (a : Int) : RC Try.prog 70 [.int .u64 a] m fun r new => r = .bool false ∧ new = [] := by
  refine rc_of_run mixed ok_cmp_isNaN (by simp) (go_start _ _ _ ?_)
  simp (config := {implicitDefEqProofs := false, maxDischargeDepth := 20}) (disch := first | omega | (simp only [lenE]; done) | (simp only [lenE]; omega) | rfl | (simp only [lenE, markR_len]; done) | (simp only [lenE, markR_len]; omega)) only [runE, mapE, listE, initT_5, initT_6, initT_7, initT_8, resV, oneV, binA, unA, reduceCtorEq, Nat.reduceEqDiff, Nat.reduceAdd, Nat.reduceLT, Nat.reduceLeDiff, Nat.reduceMul, Nat.reduceSub, ↓reduceIte, decide_true, decide_false, Bool.true_eq_false, Bool.false_eq_true, Bool.not_true, Bool.not_false, if_true, if_false, and_true, true_and, memE, celE, w64, Nat.zero_add, Nat.add_zero, Nat.mul_one, putL, and_self, ldn, c_cmp_isNaN, r_cmp_isNaN, bne_self_eq_false]
  exact newQ_nil ⟨rfl, rfl⟩
theorem cmpU_rc (m : Mem) (a b : Int) : RC Try.prog 67 [.int .u64 a, .int .u64 b] m fun r new => r = .int .i64 (cmpI a b) ∧ new = [] := by
  refine rc_of_run mixed ok_cmp_Compare (by simp) (go_start _ _ _ ?_)
  simp (config := {implicitDefEqProofs := false, maxDischargeDepth := 20}) (disch := first | omega | (simp only [lenE]; done) | (simp only [lenE]; omega) | rfl | (simp only [lenE, markR_len]; done) | (simp only [lenE, markR_len]; omega)) only [runE, mapE, listE, initT_5, initT_6, initT_7, initT_8, resV, oneV, binA, unA, reduceCtorEq, Nat.reduceEqDiff, Nat.reduceAdd, Nat.reduceLT, Nat.reduceLeDiff, Nat.reduceMul, Nat.reduceSub, ↓reduceIte, decide_true, decide_false, Bool.true_eq_false, Bool.false_eq_true, Bool.not_true, Bool.not_false, if_true, if_false, and_true, true_and, memE, celE, w64, Nat.zero_add, Nat.add_zero, Nat.mul_one, putL, and_self, ldn, c_cmp_Compare, r_cmp_Compare]
  refine callH_rc (isNaN_rc _ _) ?_
  rintro r new ⟨rfl, rfl⟩
  simp (config := {implicitDefEqProofs := false, maxDischargeDepth := 20}) (disch := first | omega | (simp only [lenE]; done) | (simp only [lenE]; omega) | rfl | (simp only [lenE, markR_len]; done) | (simp only [lenE, markR_len]; omega)) only [runE, mapE, listE, initT_5, initT_6, initT_7, initT_8, resV, oneV, binA, unA, reduceCtorEq, Nat.reduceEqDiff, Nat.reduceAdd, Nat.reduceLT, Nat.reduceLeDiff, Nat.reduceMul, Nat.reduceSub, ↓reduceIte, decide_true, decide_false, Bool.true_eq_false, Bool.false_eq_true, Bool.not_true, Bool.not_false, if_true, if_false, and_true, true_and, memE, celE, w64, Nat.zero_add, Nat.add_zero, Nat.mul_one, putL, and_self, ldn]
  refine callH_rc (isNaN_rc _ _) ?_
  rintro r new ⟨rfl, rfl⟩
  unfold cmpI
  by_cases h1 : a < b
  · simp (config := {implicitDefEqProofs := false, maxDischargeDepth := 20}) (disch := first | omega | (simp only [lenE]; done) | (simp only [lenE]; omega) | rfl | (simp only [lenE, markR_len]; done) | (simp only [lenE, markR_len]; omega)) only [runE, mapE, listE, initT_5, initT_6, initT_7, initT_8, resV, oneV, binA, unA, reduceCtorEq, Nat.reduceEqDiff, Nat.reduceAdd, Nat.reduceLT, Nat.reduceLeDiff, Nat.reduceMul, Nat.reduceSub, ↓reduceIte, decide_true, decide_false, Bool.true_eq_false, Bool.false_eq_true, Bool.not_true, Bool.not_false, if_true, if_false, and_true, true_and, memE, celE, w64, Nat.zero_add, Nat.add_zero, Nat.mul_one, putL, and_self, ldn, h1, gt_iff_lt]
    exact newQ_nil ⟨rfl, rfl⟩
  · by_cases h2 : b < a
    · simp (config := {implicitDefEqProofs := false, maxDischargeDepth := 20}) (disch := first | omega | (simp only [lenE]; done) | (simp only [lenE]; omega) | rfl | (simp only [lenE, markR_len]; done) | (simp only [lenE, markR_len]; omega)) only [runE, mapE, listE, initT_5, initT_6, initT_7, initT_8, resV, oneV, binA, unA, reduceCtorEq, Nat.reduceEqDiff, Nat.reduceAdd, Nat.reduceLT, Nat.reduceLeDiff, Nat.reduceMul, Nat.reduceSub, ↓reduceIte, decide_true, decide_false, Bool.true_eq_false, Bool.false_eq_true, Bool.not_true, Bool.not_false, if_true, if_false, and_true, true_and, memE, celE, w64, Nat.zero_add, Nat.add_zero, Nat.mul_one, putL, and_self, ldn, h1, h2, gt_iff_lt]
      exact newQ_nil ⟨rfl, rfl⟩
    · simp (config := {implicitDefEqProofs := false, maxDischargeDepth := 20}) (disch := first | omega | (simp only [lenE]; done) | (simp only [lenE]; omega) | rfl | (simp only [lenE, markR_len]; done) | (simp only [lenE, markR_len]; omega)) only [runE, mapE, listE, initT_5, initT_6, initT_7, initT_8, resV, oneV, binA, unA, reduceCtorEq, Nat.reduceEqDiff, Nat.reduceAdd, Nat.reduceLT, Nat.reduceLeDiff, Nat.reduceMul, Nat.reduceSub, ↓reduceIte, decide_true, decide_false, Bool.true_eq_false, Bool.false_eq_true, Bool.not_true, Bool.not_false, if_true, if_false, and_true, true_and, memE, celE, w64, Nat.zero_add, Nat.add_zero, Nat.mul_one, putL, and_self, ldn, h1, h2, gt_iff_lt]
      exact newQ_nil ⟨rfl, rfl⟩
theorem orI_rc (m : Mem) (v : Value) (a b : Int) (h : IntsA m v [a, b]) : RC Try.prog 66 [v] m (AnsV (.int .i64 (if a = 0 then b else a))) := by
  refine rc_of_run mixed ok_cmp_Or (by simp) (go_start _ _ _ ?_)
  have hr := h.ro
  have i0 := hr.at_ 0 (by simp)
  have i1 := hr.at_ 1 (by simp)
  have l0 := hr.ld 0 (by simp)
  have l1 := hr.ld 1 (by simp)
  simp only [List.getD_cons_zero, List.getD_cons_succ] at l0 l1
  have hl := hr.len
  simp (config := {implicitDefEqProofs := false, maxDischargeDepth := 20}) (disch := first | omega | (simp only [lenE]; done) | (simp only [lenE]; omega) | rfl | (simp only [lenE, markR_len]; done) | (simp only [lenE, markR_len]; omega)) only [runE, mapE, listE, initT_5, initT_6, initT_7, initT_8, resV, oneV, binA, unA, reduceCtorEq, Nat.reduceEqDiff, Nat.reduceAdd, Nat.reduceLT, Nat.reduceLeDiff, Nat.reduceMul, Nat.reduceSub, ↓reduceIte, decide_true, decide_false, Bool.true_eq_false, Bool.false_eq_true, Bool.not_true, Bool.not_false, if_true, if_false, and_true, true_and, memE, celE, w64, Nat.zero_add, Nat.add_zero, Nat.mul_one, putL, and_self, ldn, c_cmp_Or, r_cmp_Or, hl]
  refine loop_inv mixed (fun s => ∃ k : Nat, k ≤ 2 ∧ (0 < k → a = 0) ∧ (1 < k → b = 0) ∧ s.t 3 = .int .i64 0 ∧ s.t 6 = v ∧ s.t 7 = .int .i64 2 ∧ s.t 8 = .int .i64 (k : Int) ∧ s.m = roM m) (fun s => 2 - (intOf (s.t 8)).toNat)
    ⟨0, by omega, fun h => by omega, fun h => by omega, rfl, rfl, rfl, rfl, rfl⟩ ?_
  rintro s ⟨k, hk, ha, hb, t3, t6, t7, t8, tm⟩
  have hcase : k = 0 ∨ k = 1 ∨ k = 2 := by omega
  rcases hcase with rfl | rfl | rfl
  · by_cases hz : a = 0
    · subst hz
      simp (config := {implicitDefEqProofs := false, maxDischargeDepth := 20}) (disch := first | omega | (simp only [lenE]; done) | (simp only [lenE]; omega) | rfl | (simp only [lenE, markR_len]; done) | (simp only [lenE, markR_len]; omega)) only [runE, mapE, listE, initT_5, initT_6, initT_7, initT_8, resV, oneV, binA, unA, reduceCtorEq, Nat.reduceEqDiff, Nat.reduceAdd, Nat.reduceLT, Nat.reduceLeDiff, Nat.reduceMul, Nat.reduceSub, ↓reduceIte, decide_true, decide_false, Bool.true_eq_false, Bool.false_eq_true, Bool.not_true, Bool.not_false, if_true, if_false, and_true, true_and, memE, celE, w64, Nat.zero_add, Nat.add_zero, Nat.mul_one, putL, and_self, ldn, t3, t6, t7, t8, tm, i0, l0, show ((((0 : Nat) : Int)) < 2) = True by simp, show ((0 : Int) < 2) = True by simp, bne_self_eq_false]
      refine ⟨⟨1, by omega, fun _ => trivial, fun h => by omega, by simp⟩, ?_⟩
      simp [intOf]
    · have hne : (a != 0) = true := by simpa using hz
      simp (config := {implicitDefEqProofs := false, maxDischargeDepth := 20}) (disch := first | omega | (simp only [lenE]; done) | (simp only [lenE]; omega) | rfl | (simp only [lenE, markR_len]; done) | (simp only [lenE, markR_len]; omega)) only [runE, mapE, listE, initT_5, initT_6, initT_7, initT_8, resV, oneV, binA, unA, reduceCtorEq, Nat.reduceEqDiff, Nat.reduceAdd, Nat.reduceLT, Nat.reduceLeDiff, Nat.reduceMul, Nat.reduceSub, ↓reduceIte, decide_true, decide_false, Bool.true_eq_false, Bool.false_eq_true, Bool.not_true, Bool.not_false, if_true, if_false, and_true, true_and, memE, celE, w64, Nat.zero_add, Nat.add_zero, Nat.mul_one, putL, and_self, ldn, t3, t6, t7, t8, tm, i0, l0, show ((((0 : Nat) : Int)) < 2) = True by simp, show ((0 : Int) < 2) = True by simp, hne]
      exact newQ_nil ⟨by rw [if_neg hz], noRo_nil⟩
  · have := ha (by omega)
    subst this
    by_cases hz : b = 0
    · subst hz
      simp (config := {implicitDefEqProofs := false, maxDischargeDepth := 20}) (disch := first | omega | (simp only [lenE]; done) | (simp only [lenE]; omega) | rfl | (simp only [lenE, markR_len]; done) | (simp only [lenE, markR_len]; omega)) only [runE, mapE, listE, initT_5, initT_6, initT_7, initT_8, resV, oneV, binA, unA, reduceCtorEq, Nat.reduceEqDiff, Nat.reduceAdd, Nat.reduceLT, Nat.reduceLeDiff, Nat.reduceMul, Nat.reduceSub, ↓reduceIte, decide_true, decide_false, Bool.true_eq_false, Bool.false_eq_true, Bool.not_true, Bool.not_false, if_true, if_false, and_true, true_and, memE, celE, w64, Nat.zero_add, Nat.add_zero, Nat.mul_one, putL, and_self, ldn, t3, t6, t7, t8, tm, i1, l1, show ((((1 : Nat) : Int)) < 2) = True by simp, show ((1 : Int) < 2) = True by simp, bne_self_eq_false]
      refine ⟨⟨2, by omega, fun _ => trivial, fun _ => trivial, by simp⟩, ?_⟩
      simp [intOf]
    · have hne : (b != 0) = true := by simpa using hz
      simp (config := {implicitDefEqProofs := false, maxDischargeDepth := 20}) (disch := first | omega | (simp only [lenE]; done) | (simp only [lenE]; omega) | rfl | (simp only [lenE, markR_len]; done) | (simp only [lenE, markR_len]; omega)) only [runE, mapE, listE, initT_5, initT_6, initT_7, initT_8, resV, oneV, binA, unA, reduceCtorEq, Nat.reduceEqDiff, Nat.reduceAdd, Nat.reduceLT, Nat.reduceLeDiff, Nat.reduceMul, Nat.reduceSub, ↓reduceIte, decide_true, decide_false, Bool.true_eq_false, Bool.false_eq_true, Bool.not_true, Bool.not_false, if_true, if_false, and_true, true_and, memE, celE, w64, Nat.zero_add, Nat.add_zero, Nat.mul_one, putL, and_self, ldn, t3, t6, t7, t8, tm, i1, l1, show ((((1 : Nat) : Int)) < 2) = True by simp, show ((1 : Int) < 2) = True by simp, hne]
      exact newQ_nil ⟨by simp, noRo_nil⟩
  · have := ha (by omega)
    have := hb (by omega)
    subst a
    subst b
    simp (config := {implicitDefEqProofs := false, maxDischargeDepth := 20}) (disch := first | omega | (simp only [lenE]; done) | (simp only [lenE]; omega) | rfl | (simp only [lenE, markR_len]; done) | (simp only [lenE, markR_len]; omega)) only [runE, mapE, listE, initT_5, initT_6, initT_7, initT_8, resV, oneV, binA, unA, reduceCtorEq, Nat.reduceEqDiff, Nat.reduceAdd, Nat.reduceLT, Nat.reduceLeDiff, Nat.reduceMul, Nat.reduceSub, ↓reduceIte, decide_true, decide_false, Bool.true_eq_false, Bool.false_eq_true, Bool.not_true, Bool.not_false, if_true, if_false, and_true, true_and, memE, celE, w64, Nat.zero_add, Nat.add_zero, Nat.mul_one, putL, and_self, ldn, t3, t6, t7, t8, tm, show ((((2 : Nat) : Int)) < 2) = False by simp, show ((2 : Int) < 2) = False by simp]
    exact newQ_nil ⟨by simp, noRo_nil⟩
theorem words_order {P Q : Nat} : (if cmpI ((P / 18446744073709551616 : Nat) : Int) ((Q / 18446744073709551616 : Nat) : Int) = 0 then cmpI ((P % 18446744073709551616 : Nat) : Int) ((Q % 18446744073709551616 : Nat) : Int) else cmpI ((P / 18446744073709551616 : Nat) : Int) ((Q / 18446744073709551616 : Nat) : Int)) = cmpI (P : Int) (Q : Int) := by
  have h1 : P = 18446744073709551616 * (P / 18446744073709551616) + P % 18446744073709551616 := by omega
  have h2 : Q = 18446744073709551616 * (Q / 18446744073709551616) + Q % 18446744073709551616 := by omega
  have b1 : P % 18446744073709551616 < 18446744073709551616 := by omega
  have b2 : Q % 18446744073709551616 < 18446744073709551616 := by omega
  generalize P / 18446744073709551616 = a at *
  generalize P % 18446744073709551616 = b at *
  generalize Q / 18446744073709551616 = c at *
  generalize Q % 18446744073709551616 = d at *
  unfold cmpI
  by_cases e1 : (a : Int) < c
  · have e2 : (P : Int) < Q := by omega
    simp [e1, e2]
  · by_cases e3 : (c : Int) < a
    · have e2 : ¬ (P : Int) < Q := by omega
      have e4 : (Q : Int) < P := by omega
      simp [e1, e2, e3, e4]
    · have e : a = c := by omega
      subst e
      have q1 : ((P : Int) < Q) ↔ ((b : Int) < d) := by omega
      have q2 : ((Q : Int) < P) ↔ ((d : Int) < b) := by omega
      simp only [Int.lt_irrefl, if_false, if_true, q1, q2]
def cmpF (p q : Int × Int) : Int := cmpI (p.1 * q.2) (q.1 * p.2)
theorem cmpF_neg (p q : Int × Int) : decide (cmpF p q < 0) = lessF p q := by
  unfold cmpF cmpI lessF
  split
  · rename_i h; simp [h]
  · rename_i h
    split
    · simp [h]
    · simp [h]
structure Fit (p : Int × Int) : Prop where
  nn : 0 ≤ p.1
  pos : 0 < p.2
  a : p.1 < 9223372036854775808
  b : p.2 < 9223372036854775808
theorem bsl_two {m : Mem} {e : TypeId} {a b : Int} : bslA m e 1 2 [.int .i64 0, .int .i64 0] [(0, 1, .int .i64 a), (1, 1, .int .i64 b)] = some (.slice (some ⟨m.length, 0, none⟩) 2 1, m ++ [⟨.own, e, [.int .i64 a, .int .i64 b]⟩]) := rfl
theorem cmpFr_rc (m : Mem) (p q : Int × Int) (hp : Fit p) (hq : Fit q) : RC Try.prog 55 [frV p, frV q] m (AnsV (.int .i64 (cmpF p q))) := by
  refine rc_of_run mixed ok_impl_compareFractions (by simp) (go_start _ _ _ ?_)
  obtain ⟨a, b⟩ := p
  obtain ⟨c, d⟩ := q
  obtain ⟨p1, p2, p3, p4⟩ := hp
  obtain ⟨q1, q2, q3, q4⟩ := hq
  simp only [] at p1 p2 p3 p4 q1 q2 q3 q4
  obtain ⟨a, rfl⟩ := Int.eq_ofNat_of_zero_le p1
  obtain ⟨b, rfl⟩ := Int.eq_ofNat_of_zero_le (Int.le_of_lt p2)
  obtain ⟨c, rfl⟩ := Int.eq_ofNat_of_zero_le q1
  obtain ⟨d, rfl⟩ := Int.eq_ofNat_of_zero_le (Int.le_of_lt q2)
  have ka := wrap_u64n a (by omega)
  have kb := wrap_u64n b (by omega)
  have kc := wrap_u64n c (by omega)
  have kd := wrap_u64n d (by omega)
  simp (config := {implicitDefEqProofs := false, maxDischargeDepth := 20}) (disch := first | omega | (simp only [lenE]; done) | (simp only [lenE]; omega) | rfl | (simp only [lenE, markR_len]; done) | (simp only [lenE, markR_len]; omega)) only [runE, mapE, listE, initT_5, initT_6, initT_7, initT_8, resV, oneV, binA, unA, reduceCtorEq, Nat.reduceEqDiff, Nat.reduceAdd, Nat.reduceLT, Nat.reduceLeDiff, Nat.reduceMul, Nat.reduceSub, ↓reduceIte, decide_true, decide_false, Bool.true_eq_false, Bool.false_eq_true, Bool.not_true, Bool.not_false, if_true, if_false, and_true, true_and, memE, celE, w64, Nat.zero_add, Nat.add_zero, Nat.mul_one, putL, and_self, ldn, c_impl_compareFractions, r_impl_compareFractions, frV, iada_0, iada_1, ka, kb, kc, kd]
  obtain ⟨E, hE⟩ : ∃ M, M = roM m ++ [⟨.own, 49, [.int .i64 (a : Int), .int .i64 (b : Int)]⟩] ++ [⟨.own, 49, [.int .i64 (c : Int), .int .i64 (d : Int)]⟩] := ⟨_, rfl⟩
  rw [← hE]
  have hX : Ext m E := by rw [hE]; exact ((Ext.refl m).one _ _).one _ _
  have o0 : OwnB E m.length 49 [.int .i64 (a : Int), .int .i64 (b : Int)] := by rw [hE]; exact (OwnB.here (by simp [roM_len])).ext _
  have o1 : OwnB E (m.length + 1) 49 [.int .i64 (c : Int), .int .i64 (d : Int)] := by rw [hE]; exact OwnB.here (by simp [roM_len])
  clear hE
  refine callH_rc (mul64n_rc _ a d (by omega) (by omega)) ?_
  rintro r new ⟨rfl, nrn⟩
  have w := words_order (P := a * d) (Q := c * b)
  have eF : cmpF ((a : Int), (b : Int)) ((c : Int), (d : Int)) = cmpI ((a * d : Nat) : Int) ((c * b : Nat) : Int) := by
    unfold cmpF; push_cast; rfl
  rw [eF, ← w]
  generalize a * d / 18446744073709551616 = h1 at *
  generalize a * d % 18446744073709551616 = l1 at *
  simp (config := {implicitDefEqProofs := false, maxDischargeDepth := 20}) (disch := first | omega | (simp only [lenE]; done) | (simp only [lenE]; omega) | rfl | (simp only [lenE, markR_len]; done) | (simp only [lenE, markR_len]; omega)) only [runE, mapE, listE, initT_5, initT_6, initT_7, initT_8, resV, oneV, binA, unA, reduceCtorEq, Nat.reduceEqDiff, Nat.reduceAdd, Nat.reduceLT, Nat.reduceLeDiff, Nat.reduceMul, Nat.reduceSub, ↓reduceIte, decide_true, decide_false, Bool.true_eq_false, Bool.false_eq_true, Bool.not_true, Bool.not_false, if_true, if_false, and_true, true_and, memE, celE, w64, Nat.zero_add, Nat.add_zero, Nat.mul_one, putL, and_self, ldn, ext_2_0, ext_2_1, iada_0, iada_1, ka, kb, kc, kd, (o0.ext new).rd, (o1.ext new).rd]
  refine callH_rc (mul64n_rc _ c b (by omega) (by omega)) ?_
  rintro r new2 ⟨rfl, nrn2⟩
  generalize c * b / 18446744073709551616 = h2 at *
  generalize c * b % 18446744073709551616 = l2 at *
  simp (config := {implicitDefEqProofs := false, maxDischargeDepth := 20}) (disch := first | omega | (simp only [lenE]; done) | (simp only [lenE]; omega) | rfl | (simp only [lenE, markR_len]; done) | (simp only [lenE, markR_len]; omega)) only [runE, mapE, listE, initT_5, initT_6, initT_7, initT_8, resV, oneV, binA, unA, reduceCtorEq, Nat.reduceEqDiff, Nat.reduceAdd, Nat.reduceLT, Nat.reduceLeDiff, Nat.reduceMul, Nat.reduceSub, ↓reduceIte, decide_true, decide_false, Bool.true_eq_false, Bool.false_eq_true, Bool.not_true, Bool.not_false, if_true, if_false, and_true, true_and, memE, celE, w64, Nat.zero_add, Nat.add_zero, Nat.mul_one, putL, and_self, ldn, ext_2_0, ext_2_1]
  refine callH_rc (cmpU_rc _ _ _) ?_
  rintro r new3 ⟨rfl, rfl⟩
  rw [List.append_nil]
  simp (config := {implicitDefEqProofs := false, maxDischargeDepth := 20}) (disch := first | omega | (simp only [lenE]; done) | (simp only [lenE]; omega) | rfl | (simp only [lenE, markR_len]; done) | (simp only [lenE, markR_len]; omega)) only [runE, mapE, listE, initT_5, initT_6, initT_7, initT_8, resV, oneV, binA, unA, reduceCtorEq, Nat.reduceEqDiff, Nat.reduceAdd, Nat.reduceLT, Nat.reduceLeDiff, Nat.reduceMul, Nat.reduceSub, ↓reduceIte, decide_true, decide_false, Bool.true_eq_false, Bool.false_eq_true, Bool.not_true, Bool.not_false, if_true, if_false, and_true, true_and, memE, celE, w64, Nat.zero_add, Nat.add_zero, Nat.mul_one, putL, and_self, ldn]
  refine callH_rc (cmpU_rc _ _ _) ?_
  rintro r new3 ⟨rfl, rfl⟩
  rw [List.append_nil]
  generalize cmpI (h1 : Int) (h2 : Int) = x at *
  generalize cmpI (l1 : Int) (l2 : Int) = y at *
  simp (config := {implicitDefEqProofs := false, maxDischargeDepth := 20}) (disch := first | omega | (simp only [lenE]; done) | (simp only [lenE]; omega) | rfl | (simp only [lenE, markR_len]; done) | (simp only [lenE, markR_len]; omega)) only [runE, mapE, listE, initT_5, initT_6, initT_7, initT_8, resV, oneV, binA, unA, reduceCtorEq, Nat.reduceEqDiff, Nat.reduceAdd, Nat.reduceLT, Nat.reduceLeDiff, Nat.reduceMul, Nat.reduceSub, ↓reduceIte, decide_true, decide_false, Bool.true_eq_false, Bool.false_eq_true, Bool.not_true, Bool.not_false, if_true, if_false, and_true, true_and, memE, celE, w64, Nat.zero_add, Nat.add_zero, Nat.mul_one, putL, and_self, ldn, bsl_two]
  have hY : Ext m (E ++ new ++ new2 ++ [⟨.own, 3, [.int .i64 x, .int .i64 y]⟩]) := ((hX.app nrn).app nrn2).one _ _
  have hI := IntsA.own (m := E ++ new ++ new2) (e := 3) (l := [x, y]) (by simp) 1
  rw [List.length_append, List.length_append] at hI
  refine callH_rc (orI_rc _ _ x y hI) ?_
  rintro r new3 ⟨rfl, nrn3⟩
  simp (config := {implicitDefEqProofs := false, maxDischargeDepth := 20}) (disch := first | omega | (simp only [lenE]; done) | (simp only [lenE]; omega) | rfl | (simp only [lenE, markR_len]; done) | (simp only [lenE, markR_len]; omega)) only [runE, mapE, listE, initT_5, initT_6, initT_7, initT_8, resV, oneV, binA, unA, reduceCtorEq, Nat.reduceEqDiff, Nat.reduceAdd, Nat.reduceLT, Nat.reduceLeDiff, Nat.reduceMul, Nat.reduceSub, ↓reduceIte, decide_true, decide_false, Bool.true_eq_false, Bool.false_eq_true, Bool.not_true, Bool.not_false, if_true, if_false, and_true, true_and, memE, celE, w64, Nat.zero_add, Nat.add_zero, Nat.mul_one, putL, and_self, ldn]
  exact ext_ansV (hY.app nrn3) rfl
def Sees (m M : Mem) : Prop := ∀ (i : Nat) (b : Blk), m[i]? = some b → b.kd ≠ .dead → ∃ b', M[i]? = some b' ∧ b'.cs = b.cs ∧ b'.kd ≠ .dead
theorem Sees.refl (m : Mem) : Sees m m := fun i b h hd => ⟨b, h, rfl, hd⟩
theorem Sees.trans {a b c : Mem} (h : Sees a b) (h' : Sees b c) : Sees a c := fun i x hx hd => by
  obtain ⟨y, hy, e, hd2⟩ := h i x hx hd
  obtain ⟨z, hz, e2, hd3⟩ := h' i y hy hd2
  exact ⟨z, hz, e2.trans e, hd3⟩
theorem Sees.ro (m : Mem) : Sees m (roM m) := fun i b h hd => by
  refine ⟨roB b, by rw [roM, List.getElem?_map, h]; rfl, ?_, ?_⟩
  · obtain ⟨kd, e, xs⟩ := b; cases kd <;> first | rfl | exact absurd rfl hd
  · obtain ⟨kd, e, xs⟩ := b; cases kd <;> first | (simp [roB]; done) | exact absurd rfl hd
theorem Sees.app (m new : Mem) : Sees m (m ++ new) := fun i b h hd =>
  ⟨b, by rw [List.getElem?_append_left (List.getElem?_eq_some_iff.1 h).1]; exact h, rfl, hd⟩
theorem Sees.ext {m M : Mem} (h : Ext m M) : Sees m M := by
  obtain ⟨new, rfl, _⟩ := h
  exact (Sees.ro m).trans (Sees.app _ _)
theorem Sees.rdc {m M : Mem} (h : Sees m M) {id k : Nat} {v : Value} (hv : rdc m id k = some v) : Ab.rdc M id k = some v := by
  unfold Ab.rdc at *
  cases hm : m[id]? with
  | none => rw [hm] at hv; cases hv
  | some b =>
    rw [hm] at hv
    simp only [] at hv
    split at hv
    · cases hv
    · rename_i hd
      obtain ⟨b', hb, e, hd2⟩ := h id b hm hd
      rw [hb]
      simp only [hd2, if_false, e]
      exact hv
theorem Sees.rdl {m M : Mem} (h : Sees m M) {id off k : Nat} {vs : List Value} (hv : rdl m id off k = some vs) : Ab.rdl M id off k = some vs := by
  unfold Ab.rdl at *
  cases hm : m[id]? with
  | none => rw [hm] at hv; cases hv
  | some b =>
    rw [hm] at hv
    simp only [] at hv
    split at hv
    · cases hv
    · rename_i hd
      obtain ⟨b', hb, e, hd2⟩ := h id b hm hd
      rw [hb]
      simp only [hd2, if_false, e]
      exact hv
theorem Sees.ints {m M : Mem} (h : Sees m M) {v : Value} {l : List Int} (hi : IntsA m v l) : IntsA M v l := by
  refine ⟨hi.len, hi.bd, hi.at_, fun k hk => ?_, ?_⟩
  · have := hi.ld k hk
    generalize pAt v k = p at *
    unfold ldA at this ⊢
    split at this
    · exact h.rdc this
    · cases this
  · have := hi.src
    unfold slR at this ⊢
    split at this
    · exact this
    · exact h.rdl this
    · cases this
def CmpA (m : Mem) (fv : Value) (l : List Int) (f : Int → Int → Int) : Prop := ∃ g cap, fv = .func (.func g) #[] cap ∧ ∀ M x y, Sees m M → x ∈ l → y ∈ l → RC Try.prog g (.int .i64 x :: .int .i64 y :: cap.toList) M (AnsV (.int .i64 (f x y)))
theorem minFunc_rc (m : Mem) (v fv : Value) (l : List Int) (f : Int → Int → Int) (h : IntsA m v l) (hne : 0 < l.length) (hf : CmpA m fv l f) :
    RC Try.prog 53 [v, fv] m (AnsV (.int .i64 (bestIn (fun a b => decide (f a b < 0)) (l.drop 1) (l.getD 0 0)))) := by
  refine rc_of_run mixed ok_slices_MinFunc (by simp) (go_start _ _ _ ?_)
  obtain ⟨g, cap, rfl, hg⟩ := hf
  have hr := h.ro
  have i0 : iadA 1 v (.int .i64 0) = some (pAt v 0) := hr.at_ 0 hne
  have l0 := hr.ld 0 hne
  have hl := hr.len
  have hlt : ¬ ((l.length : Int) < 1) := by omega
  simp (config := {implicitDefEqProofs := false, maxDischargeDepth := 20}) (disch := first | omega | (simp only [lenE]; done) | (simp only [lenE]; omega) | rfl | (simp only [lenE, markR_len]; done) | (simp only [lenE, markR_len]; omega)) only [runE, mapE, listE, initT_5, initT_6, initT_7, initT_8, resV, oneV, binA, unA, reduceCtorEq, Nat.reduceEqDiff, Nat.reduceAdd, Nat.reduceLT, Nat.reduceLeDiff, Nat.reduceMul, Nat.reduceSub, ↓reduceIte, decide_true, decide_false, Bool.true_eq_false, Bool.false_eq_true, Bool.not_true, Bool.not_false, if_true, if_false, and_true, true_and, memE, celE, w64, Nat.zero_add, Nat.add_zero, Nat.mul_one, putL, and_self, ldn, c_slices_MinFunc, r_slices_MinFunc, hl, hlt, i0, l0]
  obtain ⟨want, hw⟩ : ∃ want, want = bestIn (fun a b => decide (f a b < 0)) (l.drop 1) (l.getD 0 0) := ⟨_, rfl⟩
  rw [← hw]
  have mem0 : ∀ k, k < l.length → l.getD k 0 ∈ l := fun k hk => by
    rw [List.getD_eq_getElem?_getD, List.getElem?_eq_getElem hk]; exact List.getElem_mem hk
  refine loop_inv mixed (fun s => ∃ (k : Nat) (b : Int) (M : Mem), 1 ≤ k ∧ k ≤ l.length ∧ b ∈ l ∧ want = bestIn (fun a b => decide (f a b < 0)) (l.drop k) b ∧ s.m = M ∧ Ext m M ∧ s.t 0 = v ∧ s.t 1 = .func (.func g) #[] cap ∧ s.t 5 = .int .i64 b ∧ s.t 6 = .int .i64 (k : Int)) (fun s => l.length - (intOf (s.t 6)).toNat)
    ⟨1, l.getD 0 0, _, Nat.le_refl _, hne, mem0 0 hne, hw, rfl, Ext.refl m, rfl, rfl, rfl, rfl⟩ ?_
  rintro s ⟨k, b, M, hk1, hk, hb, hwant, tm, hX, t0, t1, t5, t6⟩
  have hM := hX.ints hr
  have hl := hM.len
  have hbd := hM.bd
  by_cases hkl : k < l.length
  · have hlt' : (k : Int) < l.length := by omega
    have ik := hM.at_ k hkl
    have lk := hM.ld k hkl
    simp (config := {implicitDefEqProofs := false, maxDischargeDepth := 20}) (disch := first | omega | (simp only [lenE]; done) | (simp only [lenE]; omega) | rfl | (simp only [lenE, markR_len]; done) | (simp only [lenE, markR_len]; omega)) only [runE, mapE, listE, initT_5, initT_6, initT_7, initT_8, resV, oneV, binA, unA, reduceCtorEq, Nat.reduceEqDiff, Nat.reduceAdd, Nat.reduceLT, Nat.reduceLeDiff, Nat.reduceMul, Nat.reduceSub, ↓reduceIte, decide_true, decide_false, Bool.true_eq_false, Bool.false_eq_true, Bool.not_true, Bool.not_false, if_true, if_false, and_true, true_and, memE, celE, w64, Nat.zero_add, Nat.add_zero, Nat.mul_one, putL, and_self, ldn, tm, t0, t1, t5, t6, hl, hlt', ik, lk, List.append_nil, List.nil_append, List.cons_append]
    refine callH_rc (hg M (l.getD k 0) b (Sees.ext hX) (mem0 k hkl) hb) ?_
    rintro r new ⟨rfl, nrn⟩
    have ik2 := (hM.ext new).at_ k hkl
    have lk2 := (hM.ext new).ld k hkl
    have hdrop : l.drop k = l.getD k 0 :: l.drop (k + 1) := by
      rw [List.drop_eq_getElem_cons hkl, List.getD_eq_getElem?_getD, List.getElem?_eq_getElem hkl]; rfl
    rw [hdrop] at hwant
    simp only [bestIn] at hwant
    by_cases hlt2 : f (l.getD k 0) b < 0
    · rw [if_pos (by simpa using hlt2)] at hwant
      simp (config := {implicitDefEqProofs := false, maxDischargeDepth := 20}) (disch := first | omega | (simp only [lenE]; done) | (simp only [lenE]; omega) | rfl | (simp only [lenE, markR_len]; done) | (simp only [lenE, markR_len]; omega)) only [runE, mapE, listE, initT_5, initT_6, initT_7, initT_8, resV, oneV, binA, unA, reduceCtorEq, Nat.reduceEqDiff, Nat.reduceAdd, Nat.reduceLT, Nat.reduceLeDiff, Nat.reduceMul, Nat.reduceSub, ↓reduceIte, decide_true, decide_false, Bool.true_eq_false, Bool.false_eq_true, Bool.not_true, Bool.not_false, if_true, if_false, and_true, true_and, memE, celE, w64, Nat.zero_add, Nat.add_zero, Nat.mul_one, putL, and_self, ldn, tm, t0, t1, t5, t6, hlt2, ik2, lk2]
      refine ⟨⟨k + 1, _, _, by omega, by omega, mem0 k hkl, hwant, rfl, hX.app nrn, rfl, by simp⟩, ?_⟩
      simp [intOf]; omega
    · rw [if_neg (by simpa using hlt2)] at hwant
      simp (config := {implicitDefEqProofs := false, maxDischargeDepth := 20}) (disch := first | omega | (simp only [lenE]; done) | (simp only [lenE]; omega) | rfl | (simp only [lenE, markR_len]; done) | (simp only [lenE, markR_len]; omega)) only [runE, mapE, listE, initT_5, initT_6, initT_7, initT_8, resV, oneV, binA, unA, reduceCtorEq, Nat.reduceEqDiff, Nat.reduceAdd, Nat.reduceLT, Nat.reduceLeDiff, Nat.reduceMul, Nat.reduceSub, ↓reduceIte, decide_true, decide_false, Bool.true_eq_false, Bool.false_eq_true, Bool.not_true, Bool.not_false, if_true, if_false, and_true, true_and, memE, celE, w64, Nat.zero_add, Nat.add_zero, Nat.mul_one, putL, and_self, ldn, tm, t0, t1, t5, t6, hlt2]
      refine ⟨⟨k + 1, _, _, by omega, by omega, hb, hwant, rfl, hX.app nrn, rfl, by simp⟩, ?_⟩
      simp [intOf]; omega
  · have hlt' : ¬ ((k : Int) < l.length) := by omega
    have hk' : k = l.length := by omega
    subst hk'
    rw [List.drop_length] at hwant
    simp only [bestIn] at hwant
    subst hwant
    simp (config := {implicitDefEqProofs := false, maxDischargeDepth := 20}) (disch := first | omega | (simp only [lenE]; done) | (simp only [lenE]; omega) | rfl | (simp only [lenE, markR_len]; done) | (simp only [lenE, markR_len]; omega)) only [runE, mapE, listE, initT_5, initT_6, initT_7, initT_8, resV, oneV, binA, unA, reduceCtorEq, Nat.reduceEqDiff, Nat.reduceAdd, Nat.reduceLT, Nat.reduceLeDiff, Nat.reduceMul, Nat.reduceSub, ↓reduceIte, decide_true, decide_false, Bool.true_eq_false, Bool.false_eq_true, Bool.not_true, Bool.not_false, if_true, if_false, and_true, true_and, memE, celE, w64, Nat.zero_add, Nat.add_zero, Nat.mul_one, putL, and_self, ldn, tm, t0, t1, t5, t6, hl, hlt']
    exact ext_ansV hX rfl
end Go.Proofs.Ytbjjkcoecaopcaa.Ab
end
section
namespace Go.Proofs.Ytbjjkcoecaopcaa.Ab
open Go Go.RowKit
set_option linter.unusedVariables false
set_option linter.unusedSimpArgs false
set_option maxRecDepth 10000
theorem cells_ifc (t : TypeId) (v : Value) : (Value.iface t v).cells = #[.iface t v] := rfl
structure Pace (m : Mem) (x : Value) (l : List Int) (cost : Int → Int × Int) : Prop where
  ifc : ∃ t v, x = .iface t v
  ch : ∃ f r, invA Try.prog "loop.example/g01111/impl.choices" x = some (f, r) ∧ ∀ M, Sees m M → RC Try.prog f [r] M (fun v new => NoRo new ∧ IntsA (M ++ new) v l)
  co : ∃ f r, invA Try.prog "loop.example/g01111/impl.costOf" x = some (f, r) ∧ ∀ M c, Sees m M → c ∈ l → RC Try.prog f [r, .int .i64 c] M (AnsV (frV (cost c)))
  fit : ∀ c ∈ l, Fit (cost c)
theorem ansO_ints {m : Mem} {l : List Int} {r : Value} {new : Mem} (h : AnsO m (IntsO l) id r new) : NoRo new ∧ IntsA (m ++ new) r l := by
  obtain ⟨hn, v, rfl, hA⟩ := h
  exact ⟨hn, hA.now.in⟩
theorem pickCmp_rc (m M : Mem) (x : Value) (l : List Int) (cost : Int → Int × Int) (id : Nat) (h : Pace m x l cost) (hs : Sees m M) (hx : rdc M id 0 = some x) (a b : Int) (ha : a ∈ l) (hb : b ∈ l) :
    RC Try.prog 54 [.int .i64 a, .int .i64 b, .pointer (some ⟨id, 0, none⟩)] M (AnsV (.int .i64 (cmpF (cost a) (cost b)))) := by
  refine rc_of_run mixed ok_impl_bestChoice_1 (by simp) (go_start _ _ _ ?_)
  obtain ⟨f, r, hinv, hco⟩ := h.co
  have hx' : rdc (roM M) id 0 = some x := (rdc_roM M id 0).trans hx
  have hX := Ext.refl M
  simp (config := {implicitDefEqProofs := false, maxDischargeDepth := 20}) (disch := first | omega | (simp only [lenE]; done) | (simp only [lenE]; omega) | rfl | (simp only [lenE, markR_len]; done) | (simp only [lenE, markR_len]; omega)) only [runE, mapE, listE, initT_5, initT_6, initT_7, initT_8, resV, oneV, binA, unA, reduceCtorEq, Nat.reduceEqDiff, Nat.reduceAdd, Nat.reduceLT, Nat.reduceLeDiff, Nat.reduceMul, Nat.reduceSub, ↓reduceIte, decide_true, decide_false, Bool.true_eq_false, Bool.false_eq_true, Bool.not_true, Bool.not_false, if_true, if_false, and_true, true_and, memE, celE, w64, Nat.zero_add, Nat.add_zero, Nat.mul_one, putL, and_self, ldn, c_impl_bestChoice_1, r_impl_bestChoice_1, hx', hinv]
  refine rcallH_rc (hco _ a (hs.trans (Sees.ext hX)) ha) ?_
  rintro r new ⟨rfl, nrn⟩
  have hx2 := hX.app nrn
  have hr2 := hx2.rd hx
  simp (config := {implicitDefEqProofs := false, maxDischargeDepth := 20}) (disch := first | omega | (simp only [lenE]; done) | (simp only [lenE]; omega) | rfl | (simp only [lenE, markR_len]; done) | (simp only [lenE, markR_len]; omega)) only [runE, mapE, listE, initT_5, initT_6, initT_7, initT_8, resV, oneV, binA, unA, reduceCtorEq, Nat.reduceEqDiff, Nat.reduceAdd, Nat.reduceLT, Nat.reduceLeDiff, Nat.reduceMul, Nat.reduceSub, ↓reduceIte, decide_true, decide_false, Bool.true_eq_false, Bool.false_eq_true, Bool.not_true, Bool.not_false, if_true, if_false, and_true, true_and, memE, celE, w64, Nat.zero_add, Nat.add_zero, Nat.mul_one, putL, and_self, ldn, hr2, hinv]
  refine rcallH_rc (hco _ b (hs.trans (Sees.ext hx2)) hb) ?_
  rintro r new2 ⟨rfl, nrn2⟩
  have hx3 := hx2.app nrn2
  simp (config := {implicitDefEqProofs := false, maxDischargeDepth := 20}) (disch := first | omega | (simp only [lenE]; done) | (simp only [lenE]; omega) | rfl | (simp only [lenE, markR_len]; done) | (simp only [lenE, markR_len]; omega)) only [runE, mapE, listE, initT_5, initT_6, initT_7, initT_8, resV, oneV, binA, unA, reduceCtorEq, Nat.reduceEqDiff, Nat.reduceAdd, Nat.reduceLT, Nat.reduceLeDiff, Nat.reduceMul, Nat.reduceSub, ↓reduceIte, decide_true, decide_false, Bool.true_eq_false, Bool.false_eq_true, Bool.not_true, Bool.not_false, if_true, if_false, and_true, true_and, memE, celE, w64, Nat.zero_add, Nat.add_zero, Nat.mul_one, putL, and_self, ldn]
  refine rcallH_rc (cmpFr_rc _ (cost a) (cost b) (h.fit a ha) (h.fit b hb)) ?_
  rintro r new3 ⟨rfl, nrn3⟩
  simp (config := {implicitDefEqProofs := false, maxDischargeDepth := 20}) (disch := first | omega | (simp only [lenE]; done) | (simp only [lenE]; omega) | rfl | (simp only [lenE, markR_len]; done) | (simp only [lenE, markR_len]; omega)) only [runE, mapE, listE, initT_5, initT_6, initT_7, initT_8, resV, oneV, binA, unA, reduceCtorEq, Nat.reduceEqDiff, Nat.reduceAdd, Nat.reduceLT, Nat.reduceLeDiff, Nat.reduceMul, Nat.reduceSub, ↓reduceIte, decide_true, decide_false, Bool.true_eq_false, Bool.false_eq_true, Bool.not_true, Bool.not_false, if_true, if_false, and_true, true_and, memE, celE, w64, Nat.zero_add, Nat.add_zero, Nat.mul_one, putL, and_self, ldn]
  exact ext_ansV (hx3.app nrn3) rfl
def pickOf (cost : Int → Int × Int) (l : List Int) : Int := bestIn (fun a b => lessF (cost a) (cost b)) (l.drop 1) (l.getD 0 0)
theorem bestChoice_rc (m : Mem) (x : Value) (l : List Int) (cost : Int → Int × Int) (h : Pace m x l cost) :
    RC Try.prog 31 [x] m (AnsV (.tuple #[.int .i64 (pickOf cost l), .bool (decide (0 < l.length))])) := by
  refine rc_of_run mixed ok_impl_bestChoice (by simp) (go_start _ _ _ ?_)
  obtain ⟨t, v, hxe⟩ := h.ifc
  obtain ⟨f, r, hinv, hch⟩ := h.ch
  subst hxe
  simp (config := {implicitDefEqProofs := false, maxDischargeDepth := 20}) (disch := first | omega | (simp only [lenE]; done) | (simp only [lenE]; omega) | rfl | (simp only [lenE, markR_len]; done) | (simp only [lenE, markR_len]; omega)) only [runE, mapE, listE, initT_5, initT_6, initT_7, initT_8, resV, oneV, binA, unA, reduceCtorEq, Nat.reduceEqDiff, Nat.reduceAdd, Nat.reduceLT, Nat.reduceLeDiff, Nat.reduceMul, Nat.reduceSub, ↓reduceIte, decide_true, decide_false, Bool.true_eq_false, Bool.false_eq_true, Bool.not_true, Bool.not_false, if_true, if_false, and_true, true_and, memE, celE, w64, Nat.zero_add, Nat.add_zero, Nat.mul_one, putL, and_self, ldn, c_impl_bestChoice, r_impl_bestChoice, cells_ifc]
  obtain ⟨E, hE⟩ : ∃ M, M = roM m ++ [⟨.own, 76, [.iface t v]⟩] := ⟨_, rfl⟩
  rw [← hE]
  have hX : Ext m E := by rw [hE]; exact (Ext.refl m).one _ _
  have o0 : OwnB E m.length 76 [.iface t v] := by rw [hE]; exact OwnB.here (roM_len m).symm
  clear hE
  have hrd := o0.rd 0
  simp only [List.getElem?_cons_zero] at hrd
  simp (config := {implicitDefEqProofs := false, maxDischargeDepth := 20}) (disch := first | omega | (simp only [lenE]; done) | (simp only [lenE]; omega) | rfl | (simp only [lenE, markR_len]; done) | (simp only [lenE, markR_len]; omega)) only [runE, mapE, listE, initT_5, initT_6, initT_7, initT_8, resV, oneV, binA, unA, reduceCtorEq, Nat.reduceEqDiff, Nat.reduceAdd, Nat.reduceLT, Nat.reduceLeDiff, Nat.reduceMul, Nat.reduceSub, ↓reduceIte, decide_true, decide_false, Bool.true_eq_false, Bool.false_eq_true, Bool.not_true, Bool.not_false, if_true, if_false, and_true, true_and, memE, celE, w64, Nat.zero_add, Nat.add_zero, Nat.mul_one, putL, and_self, ldn, hrd, hinv]
  refine rcallH_rc (hch E (Sees.ext hX)) ?_
  rintro r new ⟨nrn, hI⟩
  have hl := hI.len
  have hX2 := hX.app nrn
  by_cases h0 : 0 < l.length
  · have hne : ((l.length : Int) == 0) = false := by rw [beq_eq_false_iff_ne]; omega
    simp (config := {implicitDefEqProofs := false, maxDischargeDepth := 20}) (disch := first | omega | (simp only [lenE]; done) | (simp only [lenE]; omega) | rfl | (simp only [lenE, markR_len]; done) | (simp only [lenE, markR_len]; omega)) only [runE, mapE, listE, initT_5, initT_6, initT_7, initT_8, resV, oneV, binA, unA, reduceCtorEq, Nat.reduceEqDiff, Nat.reduceAdd, Nat.reduceLT, Nat.reduceLeDiff, Nat.reduceMul, Nat.reduceSub, ↓reduceIte, decide_true, decide_false, Bool.true_eq_false, Bool.false_eq_true, Bool.not_true, Bool.not_false, if_true, if_false, and_true, true_and, memE, celE, w64, Nat.zero_add, Nat.add_zero, Nat.mul_one, putL, and_self, ldn, hl, hne, id_eq]
    have hc : CmpA (E ++ new) (.func (.func 54) #[] #[.pointer (some ⟨m.length, 0, none⟩)]) l (fun a b => cmpF (cost a) (cost b)) :=
      ⟨_, _, rfl, fun M a b hM ha hb => pickCmp_rc m M (.iface t v) l cost m.length h ((Sees.ext hX2).trans hM) (hM.rdc ((o0.ext new).rd 0)) a b ha hb⟩
    refine callH_rc (minFunc_rc _ _ _ l _ hI h0 hc) ?_
    rintro r new2 ⟨rfl, nrn2⟩
    have e : bestIn (fun a b => decide (cmpF (cost a) (cost b) < 0)) (l.drop 1) (l.getD 0 0) = pickOf cost l := by
      unfold pickOf
      congr 1
      funext a b
      exact cmpF_neg _ _
    rw [e]
    obtain ⟨q, hq⟩ : ∃ q, q = pickOf cost l := ⟨_, rfl⟩
    rw [← hq, decide_eq_true h0]
    simp (config := {implicitDefEqProofs := false, maxDischargeDepth := 20}) (disch := first | omega | (simp only [lenE]; done) | (simp only [lenE]; omega) | rfl | (simp only [lenE, markR_len]; done) | (simp only [lenE, markR_len]; omega)) only [runE, mapE, listE, initT_5, initT_6, initT_7, initT_8, resV, oneV, binA, unA, reduceCtorEq, Nat.reduceEqDiff, Nat.reduceAdd, Nat.reduceLT, Nat.reduceLeDiff, Nat.reduceMul, Nat.reduceSub, ↓reduceIte, decide_true, decide_false, Bool.true_eq_false, Bool.false_eq_true, Bool.not_true, Bool.not_false, if_true, if_false, and_true, true_and, memE, celE, w64, Nat.zero_add, Nat.add_zero, Nat.mul_one, putL, and_self, ldn]
    exact ext_ansV (hX2.app nrn2) rfl
  · have e : l = [] := List.eq_nil_of_length_eq_zero (by omega)
    subst e
    simp (config := {implicitDefEqProofs := false, maxDischargeDepth := 20}) (disch := first | omega | (simp only [lenE]; done) | (simp only [lenE]; omega) | rfl | (simp only [lenE, markR_len]; done) | (simp only [lenE, markR_len]; omega)) only [runE, mapE, listE, initT_5, initT_6, initT_7, initT_8, resV, oneV, binA, unA, reduceCtorEq, Nat.reduceEqDiff, Nat.reduceAdd, Nat.reduceLT, Nat.reduceLeDiff, Nat.reduceMul, Nat.reduceSub, ↓reduceIte, decide_true, decide_false, Bool.true_eq_false, Bool.false_eq_true, Bool.not_true, Bool.not_false, if_true, if_false, and_true, true_and, memE, celE, w64, Nat.zero_add, Nat.add_zero, Nat.mul_one, putL, and_self, ldn, hl, id_eq, show ((((([] : List Int).length : Nat)) : Int) == 0) = true by rfl, List.length_nil, show ((((0 : Nat)) : Int) == 0) = true by rfl, show (((0 : Int)) == 0) = true by rfl]
    exact ext_ansV hX2 rfl
theorem countsUpTo_rc (m : Mem) (n : Nat) (hn : n ≤ 100000) : RC Try.prog 60 [.int .i64 (n : Int)] m (AnsO m (IntsO (upFrom 1 n)) id) := by
  refine rc_of_run mixed ok_impl_countsUpTo (by simp) (go_start _ _ _ ?_)
  simp (config := {implicitDefEqProofs := false, maxDischargeDepth := 20}) (disch := first | omega | (simp only [lenE]; done) | (simp only [lenE]; omega) | rfl | (simp only [lenE, markR_len]; done) | (simp only [lenE, markR_len]; omega)) only [runE, mapE, listE, initT_5, initT_6, initT_7, initT_8, resV, oneV, binA, unA, reduceCtorEq, Nat.reduceEqDiff, Nat.reduceAdd, Nat.reduceLT, Nat.reduceLeDiff, Nat.reduceMul, Nat.reduceSub, ↓reduceIte, decide_true, decide_false, Bool.true_eq_false, Bool.false_eq_true, Bool.not_true, Bool.not_false, if_true, if_false, and_true, true_and, memE, celE, w64, Nat.zero_add, Nat.add_zero, Nat.mul_one, putL, and_self, ldn, c_impl_countsUpTo, r_impl_countsUpTo, bsl_none]
  refine loop_inv mixed (fun s => ∃ (k : Nat) (M : Mem) (id : Nat), k ≤ n ∧ s.m = M ∧ Ext m M ∧ m.length ≤ id ∧ OwnR M id (upFrom 1 k) ∧ s.t 3 = .slice (some ⟨id, 0, none⟩) k 1 ∧ s.t 6 = .int .i64 (n : Int) ∧ s.t 7 = .int .i64 (k : Int)) (fun s => n - (intOf (s.t 7)).toNat)
    ⟨0, _, m.length, by omega, rfl, (Ext.refl m).one _ _, Nat.le_refl _, by exact OwnR.here (roM m) [] m.length (roM_len m).symm, by first | rfl | simp [roM_len], rfl, rfl⟩ ?_
  rintro s ⟨k, M, id, hk, tm, hX, hid, ho, t3, t6, t7⟩
  by_cases hkn : k < n
  · have hlt : (k : Int) < n := by omega
    have hap := app_num (x := (k : Int) + 1) ho (by rw [upFrom_len]; omega) rfl (upFrom_len 1 k).symm
    have e : upFrom 1 (k + 1) = upFrom 1 k ++ [(k : Int) + 1] := by rw [upFrom_snoc, Int.add_comm]
    rw [← e] at hap
    simp (config := {implicitDefEqProofs := false, maxDischargeDepth := 20}) (disch := first | omega | (simp only [lenE]; done) | (simp only [lenE]; omega) | rfl | (simp only [lenE, markR_len]; done) | (simp only [lenE, markR_len]; omega)) only [runE, mapE, listE, initT_5, initT_6, initT_7, initT_8, resV, oneV, binA, unA, reduceCtorEq, Nat.reduceEqDiff, Nat.reduceAdd, Nat.reduceLT, Nat.reduceLeDiff, Nat.reduceMul, Nat.reduceSub, ↓reduceIte, decide_true, decide_false, Bool.true_eq_false, Bool.false_eq_true, Bool.not_true, Bool.not_false, if_true, if_false, and_true, true_and, memE, celE, w64, Nat.zero_add, Nat.add_zero, Nat.mul_one, putL, and_self, ldn, tm, t3, t6, t7, hlt, bsl_one, hap]
    refine ⟨⟨k + 1, _, _, by omega, rfl, ((hX.dead hid).one _ _).one _ _, ?_, OwnR.here _ _ _ ?_, rfl, by simp⟩, ?_⟩
    · have := hX.len; omega
    · simp
    · simp [intOf]; omega
  · have hlt : ¬ ((k : Int) < n) := by omega
    have e : k = n := by omega
    subst e
    simp (config := {implicitDefEqProofs := false, maxDischargeDepth := 20}) (disch := first | omega | (simp only [lenE]; done) | (simp only [lenE]; omega) | rfl | (simp only [lenE, markR_len]; done) | (simp only [lenE, markR_len]; omega)) only [runE, mapE, listE, initT_5, initT_6, initT_7, initT_8, resV, oneV, binA, unA, reduceCtorEq, Nat.reduceEqDiff, Nat.reduceAdd, Nat.reduceLT, Nat.reduceLeDiff, Nat.reduceMul, Nat.reduceSub, ↓reduceIte, decide_true, decide_false, Bool.true_eq_false, Bool.false_eq_true, Bool.not_true, Bool.not_false, if_true, if_false, and_true, true_and, memE, celE, w64, Nat.zero_add, Nat.add_zero, Nat.mul_one, putL, and_self, ldn, tm, t3, t6, t7, hlt]
    refine ext_ansO (f := _root_.id) hX fun M' hM => ⟨by rw [upFrom_len]; omega, id, 1, by rw [upFrom_len], hid, ho.lt, ho.at_ (hM _ hid ho.lt)⟩
theorem powers_rc (m : Mem) (x : Value) (hx : x.cells.toList.length = 5) : RC Try.prog 88 [x] m (AnsO m (IntsO [1, 2, 4, 8, 16, 32, 64]) id) := by
  refine rc_of_run mixed ok_impl_doubled__choices (by simp) (go_start _ _ _ ?_)
  simp (config := {implicitDefEqProofs := false, maxDischargeDepth := 20}) (disch := first | omega | (simp only [lenE]; done) | (simp only [lenE]; omega) | rfl | (simp only [lenE, markR_len]; done) | (simp only [lenE, markR_len]; omega)) only [runE, mapE, listE, initT_5, initT_6, initT_7, initT_8, resV, oneV, binA, unA, reduceCtorEq, Nat.reduceEqDiff, Nat.reduceAdd, Nat.reduceLT, Nat.reduceLeDiff, Nat.reduceMul, Nat.reduceSub, ↓reduceIte, decide_true, decide_false, Bool.true_eq_false, Bool.false_eq_true, Bool.not_true, Bool.not_false, if_true, if_false, and_true, true_and, memE, celE, w64, Nat.zero_add, Nat.add_zero, Nat.mul_one, putL, and_self, ldn, c_impl_doubled__choices, r_impl_doubled__choices, bsl_none]
  have hX0 : Ext m (roM m ++ [⟨.own, 58, x.cells.toList⟩]) := (Ext.refl m).one _ _
  obtain ⟨E, hE⟩ : ∃ M, M = roM m ++ [⟨.own, 58, x.cells.toList⟩] := ⟨_, rfl⟩
  rw [← hE] at hX0 ⊢
  have hEl : E.length = m.length + 1 := by rw [hE]; simp [roM_len]
  clear hE
  have facts : ∀ k : Nat, k < 7 → 1 ≤ ([1, 2, 4, 8, 16, 32, 64, 128] : List Int).getD k 0 ∧ ([1, 2, 4, 8, 16, 32, 64, 128] : List Int).getD k 0 ≤ 64 ∧ ([1, 2, 4, 8, 16, 32, 64, 128] : List Int).getD (k + 1) 0 = ([1, 2, 4, 8, 16, 32, 64, 128] : List Int).getD k 0 * 2 ∧ ([1, 2, 4, 8, 16, 32, 64] : List Int).take (k + 1) = ([1, 2, 4, 8, 16, 32, 64] : List Int).take k ++ [([1, 2, 4, 8, 16, 32, 64, 128] : List Int).getD k 0] ∧ (([1, 2, 4, 8, 16, 32, 64] : List Int).take k).length = k := by decide
  refine loop_inv mixed (fun s => ∃ (k : Nat) (M : Mem) (id : Nat), k ≤ 7 ∧ s.m = M ∧ Ext m M ∧ m.length ≤ id ∧ OwnR M id (([1, 2, 4, 8, 16, 32, 64] : List Int).take k) ∧ s.t 3 = .slice (some ⟨id, 0, none⟩) k 1 ∧ s.t 4 = .int .i64 (([1, 2, 4, 8, 16, 32, 64, 128] : List Int).getD k 0)) (fun s => 128 - (intOf (s.t 4)).toNat)
    ⟨0, _, m.length + 1, by omega, rfl, hX0.one _ _, by omega, by exact OwnR.here E [] (m.length + 1) hEl.symm, by first | rfl | simp [hEl], rfl⟩ ?_
  rintro s ⟨k, M, id, hk, tm, hX, hid, ho, t3, t4⟩
  by_cases hk7 : k < 7
  · obtain ⟨f1, f2, f3, f4, f5⟩ := facts k hk7
    generalize ([1, 2, 4, 8, 16, 32, 64, 128] : List Int).getD k 0 = q at *
    have hap := app_num (x := q) ho (by omega) rfl f5.symm
    rw [← f4] at hap
    simp (config := {implicitDefEqProofs := false, maxDischargeDepth := 20}) (disch := first | omega | (simp only [lenE]; done) | (simp only [lenE]; omega) | rfl | (simp only [lenE, markR_len]; done) | (simp only [lenE, markR_len]; omega)) only [runE, mapE, listE, initT_5, initT_6, initT_7, initT_8, resV, oneV, binA, unA, reduceCtorEq, Nat.reduceEqDiff, Nat.reduceAdd, Nat.reduceLT, Nat.reduceLeDiff, Nat.reduceMul, Nat.reduceSub, ↓reduceIte, decide_true, decide_false, Bool.true_eq_false, Bool.false_eq_true, Bool.not_true, Bool.not_false, if_true, if_false, and_true, true_and, memE, celE, w64, Nat.zero_add, Nat.add_zero, Nat.mul_one, putL, and_self, ldn, tm, t3, t4, f2, bsl_one, hap]
    refine ⟨⟨k + 1, _, _, by omega, rfl, ((hX.dead hid).one _ _).one _ _, ?_, OwnR.here _ _ _ ?_, rfl, by rw [f3]⟩, ?_⟩
    · have := hX.len; omega
    · simp
    · simp [intOf]; omega
  · have e : k = 7 := by omega
    subst e
    simp only [List.getD_cons_zero, List.getD_cons_succ] at t4
    simp (config := {implicitDefEqProofs := false, maxDischargeDepth := 20}) (disch := first | omega | (simp only [lenE]; done) | (simp only [lenE]; omega) | rfl | (simp only [lenE, markR_len]; done) | (simp only [lenE, markR_len]; omega)) only [runE, mapE, listE, initT_5, initT_6, initT_7, initT_8, resV, oneV, binA, unA, reduceCtorEq, Nat.reduceEqDiff, Nat.reduceAdd, Nat.reduceLT, Nat.reduceLeDiff, Nat.reduceMul, Nat.reduceSub, ↓reduceIte, decide_true, decide_false, Bool.true_eq_false, Bool.false_eq_true, Bool.not_true, Bool.not_false, if_true, if_false, and_true, true_and, memE, celE, w64, Nat.zero_add, Nat.add_zero, Nat.mul_one, putL, and_self, ldn, tm, t3, t4, show ((128 : Int) ≤ 64) = False by simp]
    refine ext_ansO (f := _root_.id) hX fun M' hM => ⟨by decide, id, 1, rfl, hid, ho.lt, ho.at_ (hM _ hid ho.lt)⟩
end Go.Proofs.Ytbjjkcoecaopcaa.Ab
end
section
namespace Go.Proofs.Ytbjjkcoecaopcaa.Ab
open Go Go.RowKit
set_option linter.unusedVariables false
set_option linter.unusedSimpArgs false
set_option maxRecDepth 10000
theorem OwnB.ld5 {M : Mem} {id : Nat} {e : TypeId} {a b c d f : Value} (h : OwnB M id e [a, b, c, d, f]) : ldA M (some 5) (.pointer (some ⟨id, 0, none⟩)) = some (.agg #[a, b, c, d, f]) := by
  unfold OwnB at h
  simp [ldA, rdn, rdc, h]
theorem daily_fit {x : It} (h : GoodI x) {c : Int} (hc : 1 ≤ c ∧ c ≤ 512) : Fit (dailyF x c) := by
  have := daily_nn h hc
  exact ⟨by omega, by omega, by omega, by omega⟩
theorem daily_mul {x : It} (h : GoodI x) {a b : Int} (ha : 1 ≤ a ∧ a ≤ 512) (hb : 1 ≤ b ∧ b ≤ 512) : 0 ≤ (dailyF x a).1 * (dailyF x b).2 ∧ (dailyF x a).1 * (dailyF x b).2 ≤ 9223372036854775807 := by
  have h1 := daily_nn h ha
  have h2 := daily_nn h hb
  have := mul_le2 (a := (dailyF x a).1) (x := (dailyF x b).2) (A := 47186118) (B := 1024) (by omega) (by omega)
  omega

theorem l8Best_rc (m : Mem) (x : It) (h : GoodI x) : RC Try.prog 32 [itV x] m (AnsV (.int .i64 (bestCyc x))) := by
  refine rc_of_run mixed ok_spec_l8Best (by simp) (go_start _ _ _ ?_)
  simp (config := {implicitDefEqProofs := false, maxDischargeDepth := 20}) (disch := first | omega | (simp only [lenE]; done) | (simp only [lenE]; omega) | rfl | (simp only [lenE, markR_len]; done) | (simp only [lenE, markR_len]; omega)) only [runE, mapE, listE, initT_5, initT_6, initT_7, initT_8, resV, oneV, binA, unA, reduceCtorEq, Nat.reduceEqDiff, Nat.reduceAdd, Nat.reduceLT, Nat.reduceLeDiff, Nat.reduceMul, Nat.reduceSub, ↓reduceIte, decide_true, decide_false, Bool.true_eq_false, Bool.false_eq_true, Bool.not_true, Bool.not_false, if_true, if_false, and_true, true_and, memE, celE, w64, Nat.zero_add, Nat.add_zero, Nat.mul_one, putL, and_self, ldn, c_spec_l8Best, r_spec_l8Best, itV]
  obtain ⟨E, hE⟩ : ∃ M, M = roM m ++ [⟨.own, 25, [.int .i64 x.daily, .int .i64 x.setup, .int .i64 x.hold, .int .i64 x.made, .int .i64 x.pause]⟩] := ⟨_, rfl⟩
  rw [← hE]
  have hX : Ext m E := by rw [hE]; exact ((Ext.refl m).one _ _)
  have LE : E.length = m.length + 1 := by rw [hE]; simp [roM_len]
  have o0 : OwnB E (m.length) 25 [.int .i64 x.daily, .int .i64 x.setup, .int .i64 x.hold, .int .i64 x.made, .int .i64 x.pause] := by rw [hE]; exact OwnB.here (by simp [roM_len])
  clear hE
  obtain ⟨want, hw⟩ : ∃ want, want = bestCyc x := ⟨_, rfl⟩
  rw [← hw]
  unfold bestCyc at hw
  refine loop_inv mixed (fun s => ∃ (k : Nat) (b : Int) (M : Mem), k ≤ 63 ∧ (1 ≤ b ∧ b ≤ 64) ∧ want = bestIn (dailyLt x 1) (upFrom (2 + k) (63 - k)) b ∧ s.m = M ∧ Ext m M ∧ OwnB M m.length 25 [.int .i64 x.daily, .int .i64 x.setup, .int .i64 x.hold, .int .i64 x.made, .int .i64 x.pause] ∧ s.t 1 = .pointer (some ⟨m.length, 0, none⟩) ∧ s.t 3 = .int .i64 b ∧ s.t 4 = .int .i64 (2 + (k : Int))) (fun s => 65 - (intOf (s.t 4)).toNat)
    ⟨0, 1, _, by omega, by omega, hw, rfl, hX, o0, rfl, rfl, rfl⟩ ?_
  rintro s ⟨k, b, M, hk, hb, hwant, tm, hX, o0, t1, t3, t4⟩
  by_cases hk6 : k < 63
  · have hle : (2 + (k : Int)) ≤ 64 := by omega
    simp (config := {implicitDefEqProofs := false, maxDischargeDepth := 20}) (disch := first | omega | (simp only [lenE]; done) | (simp only [lenE]; omega) | rfl | (simp only [lenE, markR_len]; done) | (simp only [lenE, markR_len]; omega)) only [runE, mapE, listE, initT_5, initT_6, initT_7, initT_8, resV, oneV, binA, unA, reduceCtorEq, Nat.reduceEqDiff, Nat.reduceAdd, Nat.reduceLT, Nat.reduceLeDiff, Nat.reduceMul, Nat.reduceSub, ↓reduceIte, decide_true, decide_false, Bool.true_eq_false, Bool.false_eq_true, Bool.not_true, Bool.not_false, if_true, if_false, and_true, true_and, memE, celE, w64, Nat.zero_add, Nat.add_zero, Nat.mul_one, putL, and_self, ldn, tm, t1, t3, t4, hle, o0.ld5]
    refine rcallH_rc (specDaily_rc _ x (2 + (k : Int)) h (by omega)) ?_
    rintro r new ⟨rfl, nrn⟩
    simp (config := {implicitDefEqProofs := false, maxDischargeDepth := 20}) (disch := first | omega | (simp only [lenE]; done) | (simp only [lenE]; omega) | rfl | (simp only [lenE, markR_len]; done) | (simp only [lenE, markR_len]; omega)) only [runE, mapE, listE, initT_5, initT_6, initT_7, initT_8, resV, oneV, binA, unA, reduceCtorEq, Nat.reduceEqDiff, Nat.reduceAdd, Nat.reduceLT, Nat.reduceLeDiff, Nat.reduceMul, Nat.reduceSub, ↓reduceIte, decide_true, decide_false, Bool.true_eq_false, Bool.false_eq_true, Bool.not_true, Bool.not_false, if_true, if_false, and_true, true_and, memE, celE, w64, Nat.zero_add, Nat.add_zero, Nat.mul_one, putL, and_self, ldn, tm, t1, t3, t4, (o0.ext new).ld5]
    refine rcallH_rc (specDaily_rc _ x b h (by omega)) ?_
    rintro r new2 ⟨rfl, nrn2⟩
    simp (config := {implicitDefEqProofs := false, maxDischargeDepth := 20}) (disch := first | omega | (simp only [lenE]; done) | (simp only [lenE]; omega) | rfl | (simp only [lenE, markR_len]; done) | (simp only [lenE, markR_len]; omega)) only [runE, mapE, listE, initT_5, initT_6, initT_7, initT_8, resV, oneV, binA, unA, reduceCtorEq, Nat.reduceEqDiff, Nat.reduceAdd, Nat.reduceLT, Nat.reduceLeDiff, Nat.reduceMul, Nat.reduceSub, ↓reduceIte, decide_true, decide_false, Bool.true_eq_false, Bool.false_eq_true, Bool.not_true, Bool.not_false, if_true, if_false, and_true, true_and, memE, celE, w64, Nat.zero_add, Nat.add_zero, Nat.mul_one, putL, and_self, ldn]
    refine rcallH_rc (specLess_rc _ (dailyF x (2 + (k : Int))) (dailyF x b) (daily_mul h (by omega) (by omega)) (daily_mul h (by omega) (by omega))) ?_
    rintro r new3 ⟨rfl, nrn3⟩
    have hX3 := ((hX.app nrn).app nrn2).app nrn3
    have o3 := ((o0.ext new).ext new2).ext new3
    have e1 : upFrom (2 + (k : Int)) (63 - k) = (2 + (k : Int)) :: upFrom (2 + ((k + 1 : Nat) : Int)) (63 - (k + 1)) := by
      have e0 : (2 + (k : Int)) + 1 = 2 + ((k + 1 : Nat) : Int) := by push_cast; omega
      rw [show 63 - k = (63 - (k + 1)) + 1 by omega, upFrom, e0]
    rw [e1] at hwant
    simp only [bestIn] at hwant
    have e2 : dailyLt x 1 (2 + (k : Int)) b = lessF (dailyF x (2 + (k : Int))) (dailyF x b) := by unfold dailyLt; rw [Int.one_mul, Int.one_mul]
    rw [e2] at hwant
    cases hl : lessF (dailyF x (2 + (k : Int))) (dailyF x b) with
    | true =>
      rw [hl] at hwant
      simp (config := {implicitDefEqProofs := false, maxDischargeDepth := 20}) (disch := first | omega | (simp only [lenE]; done) | (simp only [lenE]; omega) | rfl | (simp only [lenE, markR_len]; done) | (simp only [lenE, markR_len]; omega)) only [runE, mapE, listE, initT_5, initT_6, initT_7, initT_8, resV, oneV, binA, unA, reduceCtorEq, Nat.reduceEqDiff, Nat.reduceAdd, Nat.reduceLT, Nat.reduceLeDiff, Nat.reduceMul, Nat.reduceSub, ↓reduceIte, decide_true, decide_false, Bool.true_eq_false, Bool.false_eq_true, Bool.not_true, Bool.not_false, if_true, if_false, and_true, true_and, memE, celE, w64, Nat.zero_add, Nat.add_zero, Nat.mul_one, putL, and_self, ldn, tm, t1, t3, t4]
      refine ⟨⟨k + 1, 2 + (k : Int), _, by omega, by omega, by simpa using hwant, rfl, hX3, o3, rfl, by push_cast; congr 1⟩, ?_⟩
      simp [intOf]; omega
    | false =>
      rw [hl] at hwant
      simp (config := {implicitDefEqProofs := false, maxDischargeDepth := 20}) (disch := first | omega | (simp only [lenE]; done) | (simp only [lenE]; omega) | rfl | (simp only [lenE, markR_len]; done) | (simp only [lenE, markR_len]; omega)) only [runE, mapE, listE, initT_5, initT_6, initT_7, initT_8, resV, oneV, binA, unA, reduceCtorEq, Nat.reduceEqDiff, Nat.reduceAdd, Nat.reduceLT, Nat.reduceLeDiff, Nat.reduceMul, Nat.reduceSub, ↓reduceIte, decide_true, decide_false, Bool.true_eq_false, Bool.false_eq_true, Bool.not_true, Bool.not_false, if_true, if_false, and_true, true_and, memE, celE, w64, Nat.zero_add, Nat.add_zero, Nat.mul_one, putL, and_self, ldn, tm, t1, t3, t4]
      refine ⟨⟨k + 1, b, _, by omega, hb, by simpa using hwant, rfl, hX3, o3, rfl, by push_cast; congr 1⟩, ?_⟩
      simp [intOf]; omega
  · have e : k = 63 := by omega
    subst e
    have hle : ¬ ((2 + ((63 : Nat) : Int)) ≤ 64) := by omega
    have hwant : want = b := hwant
    subst hwant
    simp (config := {implicitDefEqProofs := false, maxDischargeDepth := 20}) (disch := first | omega | (simp only [lenE]; done) | (simp only [lenE]; omega) | rfl | (simp only [lenE, markR_len]; done) | (simp only [lenE, markR_len]; omega)) only [runE, mapE, listE, initT_5, initT_6, initT_7, initT_8, resV, oneV, binA, unA, reduceCtorEq, Nat.reduceEqDiff, Nat.reduceAdd, Nat.reduceLT, Nat.reduceLeDiff, Nat.reduceMul, Nat.reduceSub, ↓reduceIte, decide_true, decide_false, Bool.true_eq_false, Bool.false_eq_true, Bool.not_true, Bool.not_false, if_true, if_false, and_true, true_and, memE, celE, w64, Nat.zero_add, Nat.add_zero, Nat.mul_one, putL, and_self, ldn, tm, t1, t3, t4, hle]
    exact ext_ansV hX rfl

def bestA (x : It) : Int := if x.good then bestCyc x else 0
def powerA (x : It) : Int := if x.good then powerCyc x else 0
theorem specBestCycle_rc (m : Mem) (x : It) : RC Try.prog 10 [itV x] m (AnsV (.tuple #[.int .i64 (bestA x), .bool x.good])) := by
  refine rc_of_run mixed ok_spec_BestCycle (by simp) (go_start _ _ _ ?_)
  unfold bestA
  simp (config := {implicitDefEqProofs := false, maxDischargeDepth := 20}) (disch := first | omega | (simp only [lenE]; done) | (simp only [lenE]; omega) | rfl | (simp only [lenE, markR_len]; done) | (simp only [lenE, markR_len]; omega)) only [runE, mapE, listE, initT_5, initT_6, initT_7, initT_8, resV, oneV, binA, unA, reduceCtorEq, Nat.reduceEqDiff, Nat.reduceAdd, Nat.reduceLT, Nat.reduceLeDiff, Nat.reduceMul, Nat.reduceSub, ↓reduceIte, decide_true, decide_false, Bool.true_eq_false, Bool.false_eq_true, Bool.not_true, Bool.not_false, if_true, if_false, and_true, true_and, memE, celE, w64, Nat.zero_add, Nat.add_zero, Nat.mul_one, putL, and_self, ldn, c_spec_BestCycle, r_spec_BestCycle, itV]
  obtain ⟨E, hE⟩ : ∃ M, M = roM m ++ [⟨.own, 25, [.int .i64 x.daily, .int .i64 x.setup, .int .i64 x.hold, .int .i64 x.made, .int .i64 x.pause]⟩] := ⟨_, rfl⟩
  rw [← hE]
  have hX : Ext m E := by rw [hE]; exact ((Ext.refl m).one _ _)
  have LE : E.length = m.length + 1 := by rw [hE]; simp [roM_len]
  have o0 : OwnB E (m.length) 25 [.int .i64 x.daily, .int .i64 x.setup, .int .i64 x.hold, .int .i64 x.made, .int .i64 x.pause] := by rw [hE]; exact OwnB.here (by simp [roM_len])
  clear hE
  refine callH_rc (l8Item_rc _ x) ?_
  rintro r new0 ⟨rfl, nr0⟩
  cases hg : x.good with
  | false =>
    simp (config := {implicitDefEqProofs := false, maxDischargeDepth := 20}) (disch := first | omega | (simp only [lenE]; done) | (simp only [lenE]; omega) | rfl | (simp only [lenE, markR_len]; done) | (simp only [lenE, markR_len]; omega)) only [runE, mapE, listE, initT_5, initT_6, initT_7, initT_8, resV, oneV, binA, unA, reduceCtorEq, Nat.reduceEqDiff, Nat.reduceAdd, Nat.reduceLT, Nat.reduceLeDiff, Nat.reduceMul, Nat.reduceSub, ↓reduceIte, decide_true, decide_false, Bool.true_eq_false, Bool.false_eq_true, Bool.not_true, Bool.not_false, if_true, if_false, and_true, true_and, memE, celE, w64, Nat.zero_add, Nat.add_zero, Nat.mul_one, putL, and_self, ldn]
    exact ext_ansV (hX.app nr0) rfl
  | true =>
  simp (config := {implicitDefEqProofs := false, maxDischargeDepth := 20}) (disch := first | omega | (simp only [lenE]; done) | (simp only [lenE]; omega) | rfl | (simp only [lenE, markR_len]; done) | (simp only [lenE, markR_len]; omega)) only [runE, mapE, listE, initT_5, initT_6, initT_7, initT_8, resV, oneV, binA, unA, reduceCtorEq, Nat.reduceEqDiff, Nat.reduceAdd, Nat.reduceLT, Nat.reduceLeDiff, Nat.reduceMul, Nat.reduceSub, ↓reduceIte, decide_true, decide_false, Bool.true_eq_false, Bool.false_eq_true, Bool.not_true, Bool.not_false, if_true, if_false, and_true, true_and, memE, celE, w64, Nat.zero_add, Nat.add_zero, Nat.mul_one, putL, and_self, ldn, (o0.ext new0).ld5]
  refine callH_rc (l8Best_rc _ x (goodI_iff.1 hg)) ?_
  rintro r new1 ⟨rfl, nr1⟩
  obtain ⟨q, hq⟩ : ∃ q, q = bestCyc x := ⟨_, rfl⟩
  rw [← hq]
  simp (config := {implicitDefEqProofs := false, maxDischargeDepth := 20}) (disch := first | omega | (simp only [lenE]; done) | (simp only [lenE]; omega) | rfl | (simp only [lenE, markR_len]; done) | (simp only [lenE, markR_len]; omega)) only [runE, mapE, listE, initT_5, initT_6, initT_7, initT_8, resV, oneV, binA, unA, reduceCtorEq, Nat.reduceEqDiff, Nat.reduceAdd, Nat.reduceLT, Nat.reduceLeDiff, Nat.reduceMul, Nat.reduceSub, ↓reduceIte, decide_true, decide_false, Bool.true_eq_false, Bool.false_eq_true, Bool.not_true, Bool.not_false, if_true, if_false, and_true, true_and, memE, celE, w64, Nat.zero_add, Nat.add_zero, Nat.mul_one, putL, and_self, ldn]
  exact ext_ansV ((hX.app nr0).app nr1) rfl

theorem specPowerCycle_rc (m : Mem) (x : It) : RC Try.prog 13 [itV x] m (AnsV (.tuple #[.int .i64 (powerA x), .bool x.good])) := by
  refine rc_of_run mixed ok_spec_PowerCycle (by simp) (go_start _ _ _ ?_)
  unfold powerA
  simp (config := {implicitDefEqProofs := false, maxDischargeDepth := 20}) (disch := first | omega | (simp only [lenE]; done) | (simp only [lenE]; omega) | rfl | (simp only [lenE, markR_len]; done) | (simp only [lenE, markR_len]; omega)) only [runE, mapE, listE, initT_5, initT_6, initT_7, initT_8, resV, oneV, binA, unA, reduceCtorEq, Nat.reduceEqDiff, Nat.reduceAdd, Nat.reduceLT, Nat.reduceLeDiff, Nat.reduceMul, Nat.reduceSub, ↓reduceIte, decide_true, decide_false, Bool.true_eq_false, Bool.false_eq_true, Bool.not_true, Bool.not_false, if_true, if_false, and_true, true_and, memE, celE, w64, Nat.zero_add, Nat.add_zero, Nat.mul_one, putL, and_self, ldn, c_spec_PowerCycle, r_spec_PowerCycle, itV]
  obtain ⟨E, hE⟩ : ∃ M, M = roM m ++ [⟨.own, 25, [.int .i64 x.daily, .int .i64 x.setup, .int .i64 x.hold, .int .i64 x.made, .int .i64 x.pause]⟩] := ⟨_, rfl⟩
  rw [← hE]
  have hX : Ext m E := by rw [hE]; exact ((Ext.refl m).one _ _)
  have LE : E.length = m.length + 1 := by rw [hE]; simp [roM_len]
  have o0 : OwnB E (m.length) 25 [.int .i64 x.daily, .int .i64 x.setup, .int .i64 x.hold, .int .i64 x.made, .int .i64 x.pause] := by rw [hE]; exact OwnB.here (by simp [roM_len])
  clear hE
  refine callH_rc (l8Item_rc _ x) ?_
  rintro r new0 ⟨rfl, nr0⟩
  cases hg : x.good with
  | false =>
    simp (config := {implicitDefEqProofs := false, maxDischargeDepth := 20}) (disch := first | omega | (simp only [lenE]; done) | (simp only [lenE]; omega) | rfl | (simp only [lenE, markR_len]; done) | (simp only [lenE, markR_len]; omega)) only [runE, mapE, listE, initT_5, initT_6, initT_7, initT_8, resV, oneV, binA, unA, reduceCtorEq, Nat.reduceEqDiff, Nat.reduceAdd, Nat.reduceLT, Nat.reduceLeDiff, Nat.reduceMul, Nat.reduceSub, ↓reduceIte, decide_true, decide_false, Bool.true_eq_false, Bool.false_eq_true, Bool.not_true, Bool.not_false, if_true, if_false, and_true, true_and, memE, celE, w64, Nat.zero_add, Nat.add_zero, Nat.mul_one, putL, and_self, ldn]
    exact ext_ansV (hX.app nr0) rfl
  | true =>
  have h := goodI_iff.1 hg
  simp (config := {implicitDefEqProofs := false, maxDischargeDepth := 20}) (disch := first | omega | (simp only [lenE]; done) | (simp only [lenE]; omega) | rfl | (simp only [lenE, markR_len]; done) | (simp only [lenE, markR_len]; omega)) only [runE, mapE, listE, initT_5, initT_6, initT_7, initT_8, resV, oneV, binA, unA, reduceCtorEq, Nat.reduceEqDiff, Nat.reduceAdd, Nat.reduceLT, Nat.reduceLeDiff, Nat.reduceMul, Nat.reduceSub, ↓reduceIte, decide_true, decide_false, Bool.true_eq_false, Bool.false_eq_true, Bool.not_true, Bool.not_false, if_true, if_false, and_true, true_and, memE, celE, w64, Nat.zero_add, Nat.add_zero, Nat.mul_one, putL, and_self, ldn, if_true]
  obtain ⟨want, hw⟩ : ∃ want, want = powerCyc x := ⟨_, rfl⟩
  rw [← hw]
  unfold powerCyc at hw
  have facts : ∀ k : Nat, k < 6 → 2 ≤ ([2, 4, 8, 16, 32, 64, 128] : List Int).getD k 0 ∧ ([2, 4, 8, 16, 32, 64, 128] : List Int).getD k 0 ≤ 64 ∧ ([2, 4, 8, 16, 32, 64, 128] : List Int).getD (k + 1) 0 = 2 * ([2, 4, 8, 16, 32, 64, 128] : List Int).getD k 0 ∧ ([2, 4, 8, 16, 32, 64] : List Int).drop k = ([2, 4, 8, 16, 32, 64, 128] : List Int).getD k 0 :: ([2, 4, 8, 16, 32, 64] : List Int).drop (k + 1) := by decide
  refine loop_inv mixed (fun s => ∃ (k : Nat) (b : Int) (M : Mem), k ≤ 6 ∧ (1 ≤ b ∧ b ≤ 64) ∧ want = bestIn (dailyLt x 1) (([2, 4, 8, 16, 32, 64] : List Int).drop k) b ∧ s.m = M ∧ Ext m M ∧ OwnB M m.length 25 [.int .i64 x.daily, .int .i64 x.setup, .int .i64 x.hold, .int .i64 x.made, .int .i64 x.pause] ∧ s.t 1 = .pointer (some ⟨m.length, 0, none⟩) ∧ s.t 4 = .int .i64 b ∧ s.t 5 = .int .i64 (([2, 4, 8, 16, 32, 64, 128] : List Int).getD k 0)) (fun s => 128 - (intOf (s.t 5)).toNat)
    ⟨0, 1, _, by omega, by omega, hw, rfl, hX.app nr0, o0.ext new0, rfl, rfl, rfl⟩ ?_
  rintro s ⟨k, b, M, hk, hb, hwant, tm, hX, o0, t1, t3, t4⟩
  by_cases hk6 : k < 6
  · obtain ⟨f1, f2, f3, f4⟩ := facts k hk6
    rw [f4] at hwant
    generalize ([2, 4, 8, 16, 32, 64, 128] : List Int).getD k 0 = c at *
    simp (config := {implicitDefEqProofs := false, maxDischargeDepth := 20}) (disch := first | omega | (simp only [lenE]; done) | (simp only [lenE]; omega) | rfl | (simp only [lenE, markR_len]; done) | (simp only [lenE, markR_len]; omega)) only [runE, mapE, listE, initT_5, initT_6, initT_7, initT_8, resV, oneV, binA, unA, reduceCtorEq, Nat.reduceEqDiff, Nat.reduceAdd, Nat.reduceLT, Nat.reduceLeDiff, Nat.reduceMul, Nat.reduceSub, ↓reduceIte, decide_true, decide_false, Bool.true_eq_false, Bool.false_eq_true, Bool.not_true, Bool.not_false, if_true, if_false, and_true, true_and, memE, celE, w64, Nat.zero_add, Nat.add_zero, Nat.mul_one, putL, and_self, ldn, tm, t1, t3, t4, f2, o0.ld5]
    refine rcallH_rc (specDaily_rc _ x c h (by omega)) ?_
    rintro r new ⟨rfl, nrn⟩
    simp (config := {implicitDefEqProofs := false, maxDischargeDepth := 20}) (disch := first | omega | (simp only [lenE]; done) | (simp only [lenE]; omega) | rfl | (simp only [lenE, markR_len]; done) | (simp only [lenE, markR_len]; omega)) only [runE, mapE, listE, initT_5, initT_6, initT_7, initT_8, resV, oneV, binA, unA, reduceCtorEq, Nat.reduceEqDiff, Nat.reduceAdd, Nat.reduceLT, Nat.reduceLeDiff, Nat.reduceMul, Nat.reduceSub, ↓reduceIte, decide_true, decide_false, Bool.true_eq_false, Bool.false_eq_true, Bool.not_true, Bool.not_false, if_true, if_false, and_true, true_and, memE, celE, w64, Nat.zero_add, Nat.add_zero, Nat.mul_one, putL, and_self, ldn, tm, t1, t3, t4, (o0.ext new).ld5]
    refine rcallH_rc (specDaily_rc _ x b h (by omega)) ?_
    rintro r new2 ⟨rfl, nrn2⟩
    simp (config := {implicitDefEqProofs := false, maxDischargeDepth := 20}) (disch := first | omega | (simp only [lenE]; done) | (simp only [lenE]; omega) | rfl | (simp only [lenE, markR_len]; done) | (simp only [lenE, markR_len]; omega)) only [runE, mapE, listE, initT_5, initT_6, initT_7, initT_8, resV, oneV, binA, unA, reduceCtorEq, Nat.reduceEqDiff, Nat.reduceAdd, Nat.reduceLT, Nat.reduceLeDiff, Nat.reduceMul, Nat.reduceSub, ↓reduceIte, decide_true, decide_false, Bool.true_eq_false, Bool.false_eq_true, Bool.not_true, Bool.not_false, if_true, if_false, and_true, true_and, memE, celE, w64, Nat.zero_add, Nat.add_zero, Nat.mul_one, putL, and_self, ldn]
    refine rcallH_rc (specLess_rc _ (dailyF x c) (dailyF x b) (daily_mul h (by omega) (by omega)) (daily_mul h (by omega) (by omega))) ?_
    rintro r new3 ⟨rfl, nrn3⟩
    have hX3 := ((hX.app nrn).app nrn2).app nrn3
    have o3 := ((o0.ext new).ext new2).ext new3
    simp only [bestIn] at hwant
    have e2 : dailyLt x 1 c b = lessF (dailyF x c) (dailyF x b) := by unfold dailyLt; rw [Int.one_mul, Int.one_mul]
    rw [e2] at hwant
    cases hl : lessF (dailyF x c) (dailyF x b) with
    | true =>
      rw [hl] at hwant
      simp (config := {implicitDefEqProofs := false, maxDischargeDepth := 20}) (disch := first | omega | (simp only [lenE]; done) | (simp only [lenE]; omega) | rfl | (simp only [lenE, markR_len]; done) | (simp only [lenE, markR_len]; omega)) only [runE, mapE, listE, initT_5, initT_6, initT_7, initT_8, resV, oneV, binA, unA, reduceCtorEq, Nat.reduceEqDiff, Nat.reduceAdd, Nat.reduceLT, Nat.reduceLeDiff, Nat.reduceMul, Nat.reduceSub, ↓reduceIte, decide_true, decide_false, Bool.true_eq_false, Bool.false_eq_true, Bool.not_true, Bool.not_false, if_true, if_false, and_true, true_and, memE, celE, w64, Nat.zero_add, Nat.add_zero, Nat.mul_one, putL, and_self, ldn, tm, t1, t3, t4]
      refine ⟨⟨k + 1, c, _, by omega, by omega, by simpa using hwant, rfl, hX3, o3, rfl, by rw [f3]⟩, ?_⟩
      simp [intOf]; omega
    | false =>
      rw [hl] at hwant
      simp (config := {implicitDefEqProofs := false, maxDischargeDepth := 20}) (disch := first | omega | (simp only [lenE]; done) | (simp only [lenE]; omega) | rfl | (simp only [lenE, markR_len]; done) | (simp only [lenE, markR_len]; omega)) only [runE, mapE, listE, initT_5, initT_6, initT_7, initT_8, resV, oneV, binA, unA, reduceCtorEq, Nat.reduceEqDiff, Nat.reduceAdd, Nat.reduceLT, Nat.reduceLeDiff, Nat.reduceMul, Nat.reduceSub, ↓reduceIte, decide_true, decide_false, Bool.true_eq_false, Bool.false_eq_true, Bool.not_true, Bool.not_false, if_true, if_false, and_true, true_and, memE, celE, w64, Nat.zero_add, Nat.add_zero, Nat.mul_one, putL, and_self, ldn, tm, t1, t3, t4]
      refine ⟨⟨k + 1, b, _, by omega, hb, by simpa using hwant, rfl, hX3, o3, rfl, by rw [f3]⟩, ?_⟩
      simp [intOf]; omega
  · have e : k = 6 := by omega
    subst e
    have hwant : want = b := hwant
    subst hwant
    simp only [List.getD_cons_zero, List.getD_cons_succ] at t4
    simp (config := {implicitDefEqProofs := false, maxDischargeDepth := 20}) (disch := first | omega | (simp only [lenE]; done) | (simp only [lenE]; omega) | rfl | (simp only [lenE, markR_len]; done) | (simp only [lenE, markR_len]; omega)) only [runE, mapE, listE, initT_5, initT_6, initT_7, initT_8, resV, oneV, binA, unA, reduceCtorEq, Nat.reduceEqDiff, Nat.reduceAdd, Nat.reduceLT, Nat.reduceLeDiff, Nat.reduceMul, Nat.reduceSub, ↓reduceIte, decide_true, decide_false, Bool.true_eq_false, Bool.false_eq_true, Bool.not_true, Bool.not_false, if_true, if_false, and_true, true_and, memE, celE, w64, Nat.zero_add, Nat.add_zero, Nat.mul_one, putL, and_self, ldn, tm, t1, t3, t4, show ((128 : Int) ≤ 64) = False by simp]
    exact ext_ansV hX rfl

theorem ordChoices_rc (m : Mem) (x : It) : RC Try.prog 87 [itV x] m (AnsO m (IntsO (upFrom 1 64)) id) := by
  refine rc_of_run mixed ok_impl_ordered__choices (by simp) (go_start _ _ _ ?_)
  simp (config := {implicitDefEqProofs := false, maxDischargeDepth := 20}) (disch := first | omega | (simp only [lenE]; done) | (simp only [lenE]; omega) | rfl | (simp only [lenE, markR_len]; done) | (simp only [lenE, markR_len]; omega)) only [runE, mapE, listE, initT_5, initT_6, initT_7, initT_8, resV, oneV, binA, unA, reduceCtorEq, Nat.reduceEqDiff, Nat.reduceAdd, Nat.reduceLT, Nat.reduceLeDiff, Nat.reduceMul, Nat.reduceSub, ↓reduceIte, decide_true, decide_false, Bool.true_eq_false, Bool.false_eq_true, Bool.not_true, Bool.not_false, if_true, if_false, and_true, true_and, memE, celE, w64, Nat.zero_add, Nat.add_zero, Nat.mul_one, putL, and_self, ldn, c_impl_ordered__choices, r_impl_ordered__choices, itV]
  obtain ⟨E, hE⟩ : ∃ M, M = roM m ++ [⟨.own, 51, [.int .i64 x.daily, .int .i64 x.setup, .int .i64 x.hold, .int .i64 x.made, .int .i64 x.pause]⟩] := ⟨_, rfl⟩
  rw [← hE]
  have hX : Ext m E := by rw [hE]; exact ((Ext.refl m).one _ _)
  have LE : E.length = m.length + 1 := by rw [hE]; simp [roM_len]
  have o0 : OwnB E (m.length) 51 [.int .i64 x.daily, .int .i64 x.setup, .int .i64 x.hold, .int .i64 x.made, .int .i64 x.pause] := by rw [hE]; exact OwnB.here (by simp [roM_len])
  clear hE
  refine callH_rc (countsUpTo_rc _ 64 (by omega)) ?_
  rintro r new ⟨nrn, lv, rfl, hA⟩
  simp (config := {implicitDefEqProofs := false, maxDischargeDepth := 20}) (disch := first | omega | (simp only [lenE]; done) | (simp only [lenE]; omega) | rfl | (simp only [lenE, markR_len]; done) | (simp only [lenE, markR_len]; omega)) only [runE, mapE, listE, initT_5, initT_6, initT_7, initT_8, resV, oneV, binA, unA, reduceCtorEq, Nat.reduceEqDiff, Nat.reduceAdd, Nat.reduceLT, Nat.reduceLeDiff, Nat.reduceMul, Nat.reduceSub, ↓reduceIte, decide_true, decide_false, Bool.true_eq_false, Bool.false_eq_true, Bool.not_true, Bool.not_false, if_true, if_false, and_true, true_and, memE, celE, w64, Nat.zero_add, Nat.add_zero, Nat.mul_one, putL, and_self, ldn, id_eq]
  exact Ext.pass hX nrn (IntsO.wide _) hA
theorem paceOrd (m : Mem) (x : It) (h : GoodI x) : Pace m (.iface 51 (itV x)) (upFrom 1 64) (dailyF x) := by
  refine ⟨⟨_, _, rfl⟩, ⟨87, itV x, by kernel_rfl, fun M _ => (ordChoices_rc M x).mono fun _ _ => ansO_ints⟩, ⟨27, itV x, by kernel_rfl, fun M c _ hc => ?_⟩, fun c hc => ?_⟩
  · have := upFrom_mem.1 hc
    exact implDaily_rc M x c h (by omega)
  · have := upFrom_mem.1 hc
    exact daily_fit h (by omega)
theorem paceDbl (m : Mem) (x : It) (h : GoodI x) : Pace m (.iface 58 (itV x)) [1, 2, 4, 8, 16, 32, 64] (dailyF x) := by
  have key : ∀ c ∈ ([1, 2, 4, 8, 16, 32, 64] : List Int), 1 ≤ c ∧ c ≤ 64 := by decide
  refine ⟨⟨_, _, rfl⟩, ⟨88, itV x, by kernel_rfl, fun M _ => (powers_rc M (itV x) rfl).mono fun _ _ => ansO_ints⟩, ⟨27, itV x, by kernel_rfl, fun M c _ hc => ?_⟩, fun c hc => ?_⟩
  · have := key c hc
    exact implDaily_rc M x c h (by omega)
  · have := key c hc
    exact daily_fit h (by omega)

theorem implBestCycle_rc (m : Mem) (x : It) : RC Try.prog 9 [itV x] m (AnsV (.tuple #[.int .i64 (bestA x), .bool x.good])) := by
  refine rc_of_run mixed ok_impl_BestCycle (by simp) (go_start _ _ _ ?_)
  unfold bestA
  simp (config := {implicitDefEqProofs := false, maxDischargeDepth := 20}) (disch := first | omega | (simp only [lenE]; done) | (simp only [lenE]; omega) | rfl | (simp only [lenE, markR_len]; done) | (simp only [lenE, markR_len]; omega)) only [runE, mapE, listE, initT_5, initT_6, initT_7, initT_8, resV, oneV, binA, unA, reduceCtorEq, Nat.reduceEqDiff, Nat.reduceAdd, Nat.reduceLT, Nat.reduceLeDiff, Nat.reduceMul, Nat.reduceSub, ↓reduceIte, decide_true, decide_false, Bool.true_eq_false, Bool.false_eq_true, Bool.not_true, Bool.not_false, if_true, if_false, and_true, true_and, memE, celE, w64, Nat.zero_add, Nat.add_zero, Nat.mul_one, putL, and_self, ldn, c_impl_BestCycle, r_impl_BestCycle, itV]
  obtain ⟨E, hE⟩ : ∃ M, M = roM m ++ [⟨.own, 25, [.int .i64 x.daily, .int .i64 x.setup, .int .i64 x.hold, .int .i64 x.made, .int .i64 x.pause]⟩] := ⟨_, rfl⟩
  rw [← hE]
  have hX : Ext m E := by rw [hE]; exact ((Ext.refl m).one _ _)
  have LE : E.length = m.length + 1 := by rw [hE]; simp [roM_len]
  have o0 : OwnB E (m.length) 25 [.int .i64 x.daily, .int .i64 x.setup, .int .i64 x.hold, .int .i64 x.made, .int .i64 x.pause] := by rw [hE]; exact OwnB.here (by simp [roM_len])
  clear hE
  refine callH_rc (isItem_rc _ x) ?_
  rintro r new0 ⟨rfl, nr0⟩
  cases hg : x.good with
  | false =>
    simp (config := {implicitDefEqProofs := false, maxDischargeDepth := 20}) (disch := first | omega | (simp only [lenE]; done) | (simp only [lenE]; omega) | rfl | (simp only [lenE, markR_len]; done) | (simp only [lenE, markR_len]; omega)) only [runE, mapE, listE, initT_5, initT_6, initT_7, initT_8, resV, oneV, binA, unA, reduceCtorEq, Nat.reduceEqDiff, Nat.reduceAdd, Nat.reduceLT, Nat.reduceLeDiff, Nat.reduceMul, Nat.reduceSub, ↓reduceIte, decide_true, decide_false, Bool.true_eq_false, Bool.false_eq_true, Bool.not_true, Bool.not_false, if_true, if_false, and_true, true_and, memE, celE, w64, Nat.zero_add, Nat.add_zero, Nat.mul_one, putL, and_self, ldn]
    exact ext_ansV (hX.app nr0) rfl
  | true =>
  simp (config := {implicitDefEqProofs := false, maxDischargeDepth := 20}) (disch := first | omega | (simp only [lenE]; done) | (simp only [lenE]; omega) | rfl | (simp only [lenE, markR_len]; done) | (simp only [lenE, markR_len]; omega)) only [runE, mapE, listE, initT_5, initT_6, initT_7, initT_8, resV, oneV, binA, unA, reduceCtorEq, Nat.reduceEqDiff, Nat.reduceAdd, Nat.reduceLT, Nat.reduceLeDiff, Nat.reduceMul, Nat.reduceSub, ↓reduceIte, decide_true, decide_false, Bool.true_eq_false, Bool.false_eq_true, Bool.not_true, Bool.not_false, if_true, if_false, and_true, true_and, memE, celE, w64, Nat.zero_add, Nat.add_zero, Nat.mul_one, putL, and_self, ldn, (o0.ext new0).ld5, bld5]
  refine callH_rc (bestChoice_rc _ _ _ _ (paceOrd _ x (goodI_iff.1 hg))) ?_
  rintro r new1 ⟨rfl, nr1⟩
  have e : pickOf (dailyF x) (upFrom 1 64) = bestCyc x := by
    unfold bestCyc pickOf
    have : (fun a b => lessF (dailyF x a) (dailyF x b)) = dailyLt x 1 := by
      funext a b
      unfold dailyLt
      rw [Int.one_mul, Int.one_mul]
    rw [this]
    rfl
  rw [e]
  obtain ⟨q, hq⟩ : ∃ q, q = bestCyc x := ⟨_, rfl⟩
  rw [← hq]
  have hd : decide (0 < ((upFrom 1 64) : List Int).length) = true := rfl
  rw [hd]
  simp (config := {implicitDefEqProofs := false, maxDischargeDepth := 20}) (disch := first | omega | (simp only [lenE]; done) | (simp only [lenE]; omega) | rfl | (simp only [lenE, markR_len]; done) | (simp only [lenE, markR_len]; omega)) only [runE, mapE, listE, initT_5, initT_6, initT_7, initT_8, resV, oneV, binA, unA, reduceCtorEq, Nat.reduceEqDiff, Nat.reduceAdd, Nat.reduceLT, Nat.reduceLeDiff, Nat.reduceMul, Nat.reduceSub, ↓reduceIte, decide_true, decide_false, Bool.true_eq_false, Bool.false_eq_true, Bool.not_true, Bool.not_false, if_true, if_false, and_true, true_and, memE, celE, w64, Nat.zero_add, Nat.add_zero, Nat.mul_one, putL, and_self, ldn, ext_2_0, ext_2_1]
  exact ext_ansV ((hX.app nr0).app nr1) rfl

theorem implPowerCycle_rc (m : Mem) (x : It) : RC Try.prog 12 [itV x] m (AnsV (.tuple #[.int .i64 (powerA x), .bool x.good])) := by
  refine rc_of_run mixed ok_impl_PowerCycle (by simp) (go_start _ _ _ ?_)
  unfold powerA
  simp (config := {implicitDefEqProofs := false, maxDischargeDepth := 20}) (disch := first | omega | (simp only [lenE]; done) | (simp only [lenE]; omega) | rfl | (simp only [lenE, markR_len]; done) | (simp only [lenE, markR_len]; omega)) only [runE, mapE, listE, initT_5, initT_6, initT_7, initT_8, resV, oneV, binA, unA, reduceCtorEq, Nat.reduceEqDiff, Nat.reduceAdd, Nat.reduceLT, Nat.reduceLeDiff, Nat.reduceMul, Nat.reduceSub, ↓reduceIte, decide_true, decide_false, Bool.true_eq_false, Bool.false_eq_true, Bool.not_true, Bool.not_false, if_true, if_false, and_true, true_and, memE, celE, w64, Nat.zero_add, Nat.add_zero, Nat.mul_one, putL, and_self, ldn, c_impl_PowerCycle, r_impl_PowerCycle, itV]
  obtain ⟨E, hE⟩ : ∃ M, M = roM m ++ [⟨.own, 25, [.int .i64 x.daily, .int .i64 x.setup, .int .i64 x.hold, .int .i64 x.made, .int .i64 x.pause]⟩] := ⟨_, rfl⟩
  rw [← hE]
  have hX : Ext m E := by rw [hE]; exact ((Ext.refl m).one _ _)
  have LE : E.length = m.length + 1 := by rw [hE]; simp [roM_len]
  have o0 : OwnB E (m.length) 25 [.int .i64 x.daily, .int .i64 x.setup, .int .i64 x.hold, .int .i64 x.made, .int .i64 x.pause] := by rw [hE]; exact OwnB.here (by simp [roM_len])
  clear hE
  refine callH_rc (isItem_rc _ x) ?_
  rintro r new0 ⟨rfl, nr0⟩
  cases hg : x.good with
  | false =>
    simp (config := {implicitDefEqProofs := false, maxDischargeDepth := 20}) (disch := first | omega | (simp only [lenE]; done) | (simp only [lenE]; omega) | rfl | (simp only [lenE, markR_len]; done) | (simp only [lenE, markR_len]; omega)) only [runE, mapE, listE, initT_5, initT_6, initT_7, initT_8, resV, oneV, binA, unA, reduceCtorEq, Nat.reduceEqDiff, Nat.reduceAdd, Nat.reduceLT, Nat.reduceLeDiff, Nat.reduceMul, Nat.reduceSub, ↓reduceIte, decide_true, decide_false, Bool.true_eq_false, Bool.false_eq_true, Bool.not_true, Bool.not_false, if_true, if_false, and_true, true_and, memE, celE, w64, Nat.zero_add, Nat.add_zero, Nat.mul_one, putL, and_self, ldn]
    exact ext_ansV (hX.app nr0) rfl
  | true =>
  simp (config := {implicitDefEqProofs := false, maxDischargeDepth := 20}) (disch := first | omega | (simp only [lenE]; done) | (simp only [lenE]; omega) | rfl | (simp only [lenE, markR_len]; done) | (simp only [lenE, markR_len]; omega)) only [runE, mapE, listE, initT_5, initT_6, initT_7, initT_8, resV, oneV, binA, unA, reduceCtorEq, Nat.reduceEqDiff, Nat.reduceAdd, Nat.reduceLT, Nat.reduceLeDiff, Nat.reduceMul, Nat.reduceSub, ↓reduceIte, decide_true, decide_false, Bool.true_eq_false, Bool.false_eq_true, Bool.not_true, Bool.not_false, if_true, if_false, and_true, true_and, memE, celE, w64, Nat.zero_add, Nat.add_zero, Nat.mul_one, putL, and_self, ldn, (o0.ext new0).ld5, bld5]
  refine callH_rc (bestChoice_rc _ _ _ _ (paceDbl _ x (goodI_iff.1 hg))) ?_
  rintro r new1 ⟨rfl, nr1⟩
  have e : pickOf (dailyF x) [1, 2, 4, 8, 16, 32, 64] = powerCyc x := by
    unfold powerCyc pickOf
    have : (fun a b => lessF (dailyF x a) (dailyF x b)) = dailyLt x 1 := by
      funext a b
      unfold dailyLt
      rw [Int.one_mul, Int.one_mul]
    rw [this]
    rfl
  rw [e]
  obtain ⟨q, hq⟩ : ∃ q, q = powerCyc x := ⟨_, rfl⟩
  rw [← hq]
  have hd : decide (0 < ([1, 2, 4, 8, 16, 32, 64] : List Int).length) = true := rfl
  rw [hd]
  simp (config := {implicitDefEqProofs := false, maxDischargeDepth := 20}) (disch := first | omega | (simp only [lenE]; done) | (simp only [lenE]; omega) | rfl | (simp only [lenE, markR_len]; done) | (simp only [lenE, markR_len]; omega)) only [runE, mapE, listE, initT_5, initT_6, initT_7, initT_8, resV, oneV, binA, unA, reduceCtorEq, Nat.reduceEqDiff, Nat.reduceAdd, Nat.reduceLT, Nat.reduceLeDiff, Nat.reduceMul, Nat.reduceSub, ↓reduceIte, decide_true, decide_false, Bool.true_eq_false, Bool.false_eq_true, Bool.not_true, Bool.not_false, if_true, if_false, and_true, true_and, memE, celE, w64, Nat.zero_add, Nat.add_zero, Nat.mul_one, putL, and_self, ldn, ext_2_0, ext_2_1]
  exact ext_ansV ((hX.app nr0).app nr1) rfl

end Go.Proofs.Ytbjjkcoecaopcaa.Ab
end
section
namespace Go.Proofs.Ytbjjkcoecaopcaa.Ab
open Go Go.RowKit
set_option linter.unusedVariables false
set_option linter.unusedSimpArgs false
set_option maxRecDepth 10000
theorem OwnB.ld2 {M : Mem} {id : Nat} {e : TypeId} {a b : Value} (h : OwnB M id e [a, b]) : ldA M (some 2) (.pointer (some ⟨id, 0, none⟩)) = some (.agg #[a, b]) := by
  unfold OwnB at h
  simp [ldA, rdn, rdc, h]
end Go.Proofs.Ytbjjkcoecaopcaa.Ab
end
section
namespace Go.Proofs.Ytbjjkcoecaopcaa
set_option linter.unusedVariables false
theorem GoodF.at_ {L : List It} (h : GoodF L) {k : Nat} (hk : k < L.length) : GoodI (L.getD k It0) := h.all k hk
end Go.Proofs.Ytbjjkcoecaopcaa
end
section
namespace Go.Proofs.Ytbjjkcoecaopcaa.Ab
open Go Go.RowKit
set_option linter.unusedVariables false
set_option linter.unusedSimpArgs false
set_option maxRecDepth 10000
def SeesX (id : Nat) (m M : Mem) : Prop := ∀ (i : Nat) (b : Blk), i ≠ id → m[i]? = some b → b.kd ≠ .dead → ∃ b', M[i]? = some b' ∧ b'.cs = b.cs ∧ b'.kd ≠ .dead
theorem SeesX.of {id : Nat} {m M : Mem} (h : Sees m M) : SeesX id m M := fun i b _ => h i b
theorem SeesX.then {id : Nat} {m M M' : Mem} (h : SeesX id m M) (h' : Sees M M') : SeesX id m M' := fun i b hi hx hd => by
  obtain ⟨y, hy, e, hd2⟩ := h i b hi hx hd
  obtain ⟨z, hz, e2, hd3⟩ := h' i y hy hd2
  exact ⟨z, hz, e2.trans e, hd3⟩
theorem SeesX.set {id : Nat} {m M : Mem} (h : SeesX id m M) (x : Blk) : SeesX id m (M.set id x) := fun i b hi hx hd => by
  obtain ⟨y, hy, e, hd2⟩ := h i b hi hx hd
  exact ⟨y, by rw [List.getElem?_set_ne (Ne.symm hi)]; exact hy, e, hd2⟩
theorem ints_part {m : Mem} {id fl : Nat} {e : TypeId} {cs : List Value} {l : List Int} (h : OwnB m id e cs) (hl : l.length ≤ cs.length) (hb : l.length ≤ 9223372036854775807) (hc : ∀ q, q < l.length → cs[q]? = some (.int .i64 (l.getD q 0))) :
    IntsA m (.slice (some ⟨id, 0, none⟩) l.length fl) l := by
  refine IntsA.of_block hb (fun k hk => by rw [Nat.zero_add, h.rd]; exact hc k hk) ?_
  unfold OwnB at h
  unfold rdl
  rw [h]
  simp only [Nat.zero_add, List.drop_zero]
  rw [if_neg (by simp), if_pos hl]
  congr 1
  apply List.ext_getElem?
  intro i
  by_cases hi : i < l.length
  · rw [List.getElem?_take_of_lt hi, hc i hi, List.getElem?_map, List.getElem?_eq_getElem hi, List.getD_eq_getElem?_getD, List.getElem?_eq_getElem hi]
    rfl
  · rw [List.getElem?_eq_none (by rw [List.length_take]; omega), List.getElem?_eq_none (by rw [List.length_map]; omega)]
def PartA (id : Nat) (M : Mem) (r : Value) (l : List Int) : Prop := l.length ≤ 1048576 ∧ ∃ fl cs, r = .slice (some ⟨id, 0, none⟩) l.length fl ∧ OwnB M id 3 cs ∧ l.length ≤ cs.length ∧ ∀ q, q < l.length → cs[q]? = some (.int .i64 (l.getD q 0))
theorem PartA.ints {id : Nat} {M : Mem} {r : Value} {l : List Int} (h : PartA id M r l) : IntsA M r l := by
  obtain ⟨h8, fl, cs, rfl, ho, hl, hc⟩ := h
  exact ints_part ho hl (by omega) hc
theorem PartA.at_ {id : Nat} {M M' : Mem} {r : Value} {l : List Int} (h : PartA id M r l) (he : M'[id]? = M[id]?) : PartA id M' r l := by
  obtain ⟨h8, fl, cs, rfl, ho, hl, hc⟩ := h
  exact ⟨h8, fl, cs, rfl, ho.at_ he, hl, hc⟩
structure Left (id : Nat) (m M : Mem) : Prop where
  le : m.length ≤ M.length
  same : ∀ i, i < m.length → i ≠ id → M[i]? = m[i]?
  new : ∀ (i : Nat) (k : Blk), m.length ≤ i → M[i]? = some k → k.kd ≠ .ro
  own : (∀ k, m[id]? = some k → k.kd ≠ .ro) → ∀ k, M[id]? = some k → k.kd ≠ .ro
theorem Left.refl (id : Nat) (m : Mem) : Left id m m := ⟨Nat.le_refl _, fun _ _ _ => rfl, fun i k h1 h2 => by have := (List.getElem?_eq_some_iff.1 h2).1; omega, fun h => h⟩
theorem Left.app {id : Nat} {m M new : Mem} (h : Left id m M) (hn : NoRo new) : Left id m (M ++ new) := by
  have := h.le
  refine ⟨by rw [List.length_append]; omega, fun i h1 h2 => by rw [List.getElem?_append_left (by omega)]; exact h.same i h1 h2, fun i k h1 h2 => ?_, fun h0 k h2 => ?_⟩
  · by_cases hi : i < M.length
    · rw [List.getElem?_append_left hi] at h2; exact h.new i k h1 h2
    · rw [List.getElem?_append_right (by omega)] at h2
      exact hn k (List.mem_of_getElem? h2)
  · by_cases hi : id < M.length
    · rw [List.getElem?_append_left hi] at h2; exact h.own h0 k h2
    · rw [List.getElem?_append_right (by omega)] at h2
      exact hn k (List.mem_of_getElem? h2)
theorem Left.set {id : Nat} {m M : Mem} (h : Left id m M) (e : TypeId) (cs : List Value) : Left id m (M.set id ⟨.own, e, cs⟩) := by
  have key : ∀ k, (M.set id ⟨.own, e, cs⟩)[id]? = some k → k.kd ≠ .ro := fun k h2 => by
    rw [List.getElem?_set] at h2
    simp only [if_true] at h2
    split at h2
    · cases h2; simp
    · cases h2
  refine ⟨by rw [List.length_set]; exact h.le, fun i h1 h2 => by rw [List.getElem?_set_ne (Ne.symm h2)]; exact h.same i h1 h2, fun i k h1 h2 => ?_, fun _ => key⟩
  by_cases hi : i = id
  · subst hi; exact key k h2
  · rw [List.getElem?_set_ne (Ne.symm hi)] at h2; exact h.new i k h1 h2
end Go.Proofs.Ytbjjkcoecaopcaa.Ab
end
section
namespace Go.Proofs.Ytbjjkcoecaopcaa.Ab
open Go Go.RowKit
set_option linter.unusedVariables false
set_option linter.unusedSimpArgs false
set_option maxRecDepth 10000
theorem bl_a0 (m : Mem) : bslA m 3 1 6 [.int .i64 0, .int .i64 0, .int .i64 0, .int .i64 0, .int .i64 0, .int .i64 0] [(0, 1, .int .i64 1), (1, 1, .int .i64 2), (2, 1, .int .i64 3), (3, 1, .int .i64 5), (4, 1, .int .i64 8), (5, 1, .int .i64 20)] = some (.slice (some ⟨m.length, 0, none⟩) 6 1, m ++ [rowB [1, 2, 3, 5, 8, 20]]) := rfl
theorem bl_a1 (m : Mem) : bslA m 3 1 6 [.int .i64 0, .int .i64 0, .int .i64 0, .int .i64 0, .int .i64 0, .int .i64 0] [(0, 1, .int .i64 1), (1, 1, .int .i64 5), (2, 1, .int .i64 10), (3, 1, .int .i64 20), (4, 1, .int .i64 50), (5, 1, .int .i64 99)] = some (.slice (some ⟨m.length, 0, none⟩) 6 1, m ++ [rowB [1, 5, 10, 20, 50, 99]]) := rfl
theorem bl_a2 (m : Mem) : bslA m 3 1 5 [.int .i64 0, .int .i64 0, .int .i64 0, .int .i64 0, .int .i64 0] [(0, 1, .int .i64 1), (1, 1, .int .i64 1), (2, 1, .int .i64 2), (3, 1, .int .i64 3), (4, 1, .int .i64 9)] = some (.slice (some ⟨m.length, 0, none⟩) 5 1, m ++ [rowB [1, 1, 2, 3, 9]]) := rfl
theorem bl_a3 (m : Mem) : bslA m 3 1 5 [.int .i64 0, .int .i64 0, .int .i64 0, .int .i64 0, .int .i64 0] [(0, 1, .int .i64 1), (1, 1, .int .i64 2), (2, 1, .int .i64 5), (3, 1, .int .i64 10), (4, 1, .int .i64 20)] = some (.slice (some ⟨m.length, 0, none⟩) 5 1, m ++ [rowB [1, 2, 5, 10, 20]]) := rfl
theorem bl_a4 (m : Mem) : bslA m 3 1 5 [.int .i64 0, .int .i64 0, .int .i64 0, .int .i64 0, .int .i64 0] [(0, 1, .int .i64 0), (1, 1, .int .i64 0), (2, 1, .int .i64 1), (3, 1, .int .i64 2), (4, 1, .int .i64 9)] = some (.slice (some ⟨m.length, 0, none⟩) 5 1, m ++ [rowB [0, 0, 1, 2, 9]]) := rfl
theorem bl_s0 (m : Mem) : bslA m 3 1 4 [.int .i64 0, .int .i64 0, .int .i64 0, .int .i64 0] [(0, 1, .int .i64 0), (1, 1, .int .i64 20), (2, 1, .int .i64 21), (3, 1, .int .i64 (-1))] = some (.slice (some ⟨m.length, 0, none⟩) 4 1, m ++ [rowB [0, 20, 21, -1]]) := rfl
theorem bl_s1 (m : Mem) : bslA m 3 1 3 [.int .i64 0, .int .i64 0, .int .i64 0] [(0, 1, .int .i64 0), (1, 1, .int .i64 99), (2, 1, .int .i64 100)] = some (.slice (some ⟨m.length, 0, none⟩) 3 1, m ++ [rowB [0, 99, 100]]) := rfl
theorem bl_s2 (m : Mem) : bslA m 3 1 3 [.int .i64 0, .int .i64 0, .int .i64 0] [(0, 1, .int .i64 0), (1, 1, .int .i64 9), (2, 1, .int .i64 10)] = some (.slice (some ⟨m.length, 0, none⟩) 3 1, m ++ [rowB [0, 9, 10]]) := rfl
theorem bl_s4 (m : Mem) : bslA m 3 1 3 [.int .i64 0, .int .i64 0, .int .i64 0] [(0, 1, .int .i64 (-1)), (1, 1, .int .i64 9), (2, 1, .int .i64 10)] = some (.slice (some ⟨m.length, 0, none⟩) 3 1, m ++ [rowB [-1, 9, 10]]) := rfl
theorem bl_s3 (m : Mem) (y : Int) : bslA m 3 1 4 [.int .i64 0, .int .i64 0, .int .i64 0, .int .i64 0] [(0, 1, .int .i64 y), (1, 1, .int .i64 40), (2, 1, .int .i64 41), (3, 1, .int .i64 4611686018427387904)] = some (.slice (some ⟨m.length, 0, none⟩) 4 1, m ++ [rowB [y, 40, 41, 4611686018427387904]]) := rfl
theorem bld_it (a b c d f : Value) (x0 x1 x2 x3 x4 : Int) : bldA [a, b, c, d, f] [(0, 1, .int .i64 x0), (1, 1, .int .i64 x1), (2, 1, .int .i64 x2), (3, 1, .int .i64 x3), (4, 1, .int .i64 x4)] = some (.agg #[.int .i64 x0, .int .i64 x1, .int .i64 x2, .int .i64 x3, .int .i64 x4]) := rfl
structure XB (M0 M : Mem) (cb id a bx : Nat) (l : List Int) (e : TypeId) (cs : List Value) : Prop where
  hid : id < M0.length
  hcb : cb < M0.length
  cw : Cw id M0 M
  cur : CurA M cb l id a
  box : OwnB M bx e cs
  ge : M0.length ≤ bx
section
variable {M0 M M2 : Mem} {cb id a a2 bx : Nat} {l : List Int} {e e2 : TypeId} {cs cs2 : List Value}
theorem XB.draw (h : XB M0 M cb id a bx l e cs) (w : Cw id M M2) (k : CurA M2 cb l id a2) : XB M0 M2 cb id a2 bx l e cs :=
  ⟨h.hid, h.hcb, Cw.trans h.hid h.cw w, k, h.box.at_ (w.old bx (by have := h.hid; have := h.ge; omega) h.box.lt), h.ge⟩
theorem XB.ext (h : XB M0 M cb id a bx l e cs) {new : Mem} (hn : NoRo new) : XB M0 (M ++ new) cb id a bx l e cs :=
  ⟨h.hid, h.hcb, h.cw.ext hn, h.cur.ext new, h.box.ext new, h.ge⟩
theorem XB.start (h : CurA M cb l id a) (e : TypeId) (cs : List Value) : XB M (M ++ [⟨.own, e, cs⟩]) cb id a M.length l e cs :=
  ⟨h.lt, h.cblt, (Cw.refl id M).ext (noRo_own noRo_nil), h.ext _, OwnB.here rfl, Nat.le_refl _⟩
theorem XB.new (h : XB M0 M cb id a bx l e cs) (e2 : TypeId) (cs2 : List Value) : XB M0 (M ++ [⟨.own, e2, cs2⟩]) cb id a M.length l e2 cs2 :=
  ⟨h.hid, h.hcb, h.cw.ext (noRo_own noRo_nil), h.cur.ext _, OwnB.here rfl, h.cw.len⟩
theorem XB.put (h : XB M0 M cb id a bx l e cs) (e2 : TypeId) (cs2 : List Value) : XB M0 (M.set bx ⟨.own, e2, cs2⟩) cb id a bx l e2 cs2 := by
  have hid := h.hid
  have hcb := h.hcb
  have hge := h.ge
  exact ⟨hid, hcb, h.cw.put hge (by simp), h.cur.put (by omega) (by omega) _, h.box.set_self _ _, hge⟩
theorem XB.other {b2 : Nat} (h : XB M0 M cb id a bx l e cs) (h2 : XB M0 M cb id a b2 l e2 cs2) (hne : bx ≠ b2) (b : Blk) (hb : b.kd ≠ .ro) : XB M0 (M.set bx b) cb id a b2 l e2 cs2 := by
  have hid := h.hid
  have hcb := h.hcb
  have hge := h.ge
  exact ⟨hid, hcb, h.cw.put hge hb, h.cur.put (by omega) (by omega) _, h2.box.set_ne hne b, h2.ge⟩
end
set_option maxHeartbeats 4000000 in
theorem item_ac (M : Mem) (cb id a : Nat) (l : List Int) (h : CurA M cb l id a) (ha : a ≤ 999999000) :
    AC Try.prog 24 [.pointer (some ⟨id, 0, none⟩)] M fun v M' => ∃ (x : It) (a' : Nat), v = itV x ∧ a' ≤ a + 14 ∧ Cw id M M' ∧ CurA M' cb l id a' := by
  refine ac_of_run mixed ok_spec_l1Cur__item (by simp) (go_start _ _ _ ?_)
  simp (config := {implicitDefEqProofs := false, maxDischargeDepth := 20}) (disch := first | omega | (simp only [lenE]; done) | (simp only [lenE]; omega) | rfl | (simp only [lenE, markR_len]; done) | (simp only [lenE, markR_len]; omega)) only [runE, mapE, listE, initT_5, initT_6, initT_7, initT_8, resV, oneV, binA, unA, reduceCtorEq, Nat.reduceEqDiff, Nat.reduceAdd, Nat.reduceLT, Nat.reduceLeDiff, Nat.reduceMul, Nat.reduceSub, ↓reduceIte, decide_true, decide_false, Bool.true_eq_false, Bool.false_eq_true, Bool.not_true, Bool.not_false, if_true, if_false, and_true, true_and, memE, celE, w64, Nat.zero_add, Nat.add_zero, Nat.mul_one, putL, and_self, ldn, c_spec_l1Cur__item, r_spec_l1Cur__item, bl_a0]
  obtain ⟨E, hE⟩ : ∃ E, E = M ++ [⟨.own, 25, [.int .i64 0, .int .i64 0, .int .i64 0, .int .i64 0, .int .i64 0]⟩] := ⟨_, rfl⟩
  have d : XB M E cb id a M.length l 25 [.int .i64 0, .int .i64 0, .int .i64 0, .int .i64 0, .int .i64 0] := by rw [hE]; exact XB.start h _ _
  have LE : M.length + 1 = E.length := by rw [hE]; simp
  rw [← hE, LE]
  clear hE
  refine callH_ac (among_new E cb id a l [1, 2, 3, 5, 8, 20] d.cur (by omega) rfl rfl (by simp) (by simp)) ?_
  rintro v M1 ⟨y0, -, rfl, w, a1, h1, k⟩
  have d := d.draw w k
  clear w k
  simp (config := {implicitDefEqProofs := false, maxDischargeDepth := 20}) (disch := first | omega | (simp only [lenE]; done) | (simp only [lenE]; omega) | rfl | (simp only [lenE, markR_len]; done) | (simp only [lenE, markR_len]; omega)) only [runE, mapE, listE, initT_5, initT_6, initT_7, initT_8, resV, oneV, binA, unA, reduceCtorEq, Nat.reduceEqDiff, Nat.reduceAdd, Nat.reduceLT, Nat.reduceLeDiff, Nat.reduceMul, Nat.reduceSub, ↓reduceIte, decide_true, decide_false, Bool.true_eq_false, Bool.false_eq_true, Bool.not_true, Bool.not_false, if_true, if_false, and_true, true_and, memE, celE, w64, Nat.zero_add, Nat.add_zero, Nat.mul_one, putL, and_self, ldn, bl_a1]
  refine callH_ac (among_new M1 cb id a1 l [1, 5, 10, 20, 50, 99] d.cur (by omega) rfl rfl (by simp) (by simp)) ?_
  rintro v M2 ⟨y1, -, rfl, w, a2, h2, k⟩
  have d := d.draw w k
  clear w k
  simp (config := {implicitDefEqProofs := false, maxDischargeDepth := 20}) (disch := first | omega | (simp only [lenE]; done) | (simp only [lenE]; omega) | rfl | (simp only [lenE, markR_len]; done) | (simp only [lenE, markR_len]; omega)) only [runE, mapE, listE, initT_5, initT_6, initT_7, initT_8, resV, oneV, binA, unA, reduceCtorEq, Nat.reduceEqDiff, Nat.reduceAdd, Nat.reduceLT, Nat.reduceLeDiff, Nat.reduceMul, Nat.reduceSub, ↓reduceIte, decide_true, decide_false, Bool.true_eq_false, Bool.false_eq_true, Bool.not_true, Bool.not_false, if_true, if_false, and_true, true_and, memE, celE, w64, Nat.zero_add, Nat.add_zero, Nat.mul_one, putL, and_self, ldn, bl_a2]
  refine callH_ac (among_new M2 cb id a2 l [1, 1, 2, 3, 9] d.cur (by omega) rfl rfl (by simp) (by simp)) ?_
  rintro v M3 ⟨y2, -, rfl, w, a3, h3, k⟩
  have d := d.draw w k
  clear w k
  simp (config := {implicitDefEqProofs := false, maxDischargeDepth := 20}) (disch := first | omega | (simp only [lenE]; done) | (simp only [lenE]; omega) | rfl | (simp only [lenE, markR_len]; done) | (simp only [lenE, markR_len]; omega)) only [runE, mapE, listE, initT_5, initT_6, initT_7, initT_8, resV, oneV, binA, unA, reduceCtorEq, Nat.reduceEqDiff, Nat.reduceAdd, Nat.reduceLT, Nat.reduceLeDiff, Nat.reduceMul, Nat.reduceSub, ↓reduceIte, decide_true, decide_false, Bool.true_eq_false, Bool.false_eq_true, Bool.not_true, Bool.not_false, if_true, if_false, and_true, true_and, memE, celE, w64, Nat.zero_add, Nat.add_zero, Nat.mul_one, putL, and_self, ldn, bl_a3]
  refine callH_ac (among_new M3 cb id a3 l [1, 2, 5, 10, 20] d.cur (by omega) rfl rfl (by simp) (by simp)) ?_
  rintro v M4 ⟨y3, -, rfl, w, a4, h4, k⟩
  have d := d.draw w k
  clear w k
  simp (config := {implicitDefEqProofs := false, maxDischargeDepth := 20}) (disch := first | omega | (simp only [lenE]; done) | (simp only [lenE]; omega) | rfl | (simp only [lenE, markR_len]; done) | (simp only [lenE, markR_len]; omega)) only [runE, mapE, listE, initT_5, initT_6, initT_7, initT_8, resV, oneV, binA, unA, reduceCtorEq, Nat.reduceEqDiff, Nat.reduceAdd, Nat.reduceLT, Nat.reduceLeDiff, Nat.reduceMul, Nat.reduceSub, ↓reduceIte, decide_true, decide_false, Bool.true_eq_false, Bool.false_eq_true, Bool.not_true, Bool.not_false, if_true, if_false, and_true, true_and, memE, celE, w64, Nat.zero_add, Nat.add_zero, Nat.mul_one, putL, and_self, ldn]
  refine callH_rc (l1Least_rcK _ _ _) ?_
  rintro r new ⟨rfl, rfl⟩
  rw [List.append_nil]
  generalize min (IntKind.i64.wrap (y0 + y3)) 40 = z3
  simp (config := {implicitDefEqProofs := false, maxDischargeDepth := 20}) (disch := first | omega | (simp only [lenE]; done) | (simp only [lenE]; omega) | rfl | (simp only [lenE, markR_len]; done) | (simp only [lenE, markR_len]; omega)) only [runE, mapE, listE, initT_5, initT_6, initT_7, initT_8, resV, oneV, binA, unA, reduceCtorEq, Nat.reduceEqDiff, Nat.reduceAdd, Nat.reduceLT, Nat.reduceLeDiff, Nat.reduceMul, Nat.reduceSub, ↓reduceIte, decide_true, decide_false, Bool.true_eq_false, Bool.false_eq_true, Bool.not_true, Bool.not_false, if_true, if_false, and_true, true_and, memE, celE, w64, Nat.zero_add, Nat.add_zero, Nat.mul_one, putL, and_self, ldn, bl_a4]
  refine callH_ac (among_new M4 cb id a4 l [0, 0, 1, 2, 9] d.cur (by omega) rfl rfl (by simp) (by simp)) ?_
  rintro v M5 ⟨y4, -, rfl, w, a5, h5, k⟩
  have d := d.draw w k
  clear w k
  simp (config := {implicitDefEqProofs := false, maxDischargeDepth := 20}) (disch := first | omega | (simp only [lenE]; done) | (simp only [lenE]; omega) | rfl | (simp only [lenE, markR_len]; done) | (simp only [lenE, markR_len]; omega)) only [runE, mapE, listE, initT_5, initT_6, initT_7, initT_8, resV, oneV, binA, unA, reduceCtorEq, Nat.reduceEqDiff, Nat.reduceAdd, Nat.reduceLT, Nat.reduceLeDiff, Nat.reduceMul, Nat.reduceSub, ↓reduceIte, decide_true, decide_false, Bool.true_eq_false, Bool.false_eq_true, Bool.not_true, Bool.not_false, if_true, if_false, and_true, true_and, memE, celE, w64, Nat.zero_add, Nat.add_zero, Nat.mul_one, putL, and_self, ldn, bld_it, stP_agg5]
  have dX := d.new 25 [.int .i64 y0, .int .i64 y1, .int .i64 y2, .int .i64 z3, .int .i64 y4]
  have dR := d.ext (new := [⟨.own, 25, [.int .i64 y0, .int .i64 y1, .int .i64 y2, .int .i64 z3, .int .i64 y4]⟩]) (noRo_own noRo_nil)
  have hne : M5.length ≠ M.length := by have := d.box.lt; omega
  obtain ⟨N, hN⟩ : ∃ N, N = M5 ++ [⟨.own, 25, [.int .i64 y0, .int .i64 y1, .int .i64 y2, .int .i64 z3, .int .i64 y4]⟩] := ⟨_, rfl⟩
  rw [← hN] at dX dR ⊢
  clear hN d
  generalize M5.length = bx at *
  refine callH_ac (pick_ac N cb id a5 l 60 dX.cur (by omega) (by omega) (by omega)) ?_
  rintro v N2 ⟨p, rfl, hp0, hp1, w, a6, h6, k⟩
  have dX := dX.draw w k
  have dR := dR.draw w k
  clear w k
  have fin : ∀ (M' : Mem) (a' : Nat) (x0 x1 x2 x3 x4 : Int), a' ≤ a + 14 → XB M M' cb id a' bx l 25 [.int .i64 x0, .int .i64 x1, .int .i64 x2, .int .i64 x3, .int .i64 x4] → XB M M' cb id a' M.length l 25 [.int .i64 0, .int .i64 0, .int .i64 0, .int .i64 0, .int .i64 0] →
      (∀ k, rdc M' bx k = [Value.int .i64 x0, .int .i64 x1, .int .i64 x2, .int .i64 x3, .int .i64 x4][k]?) ∧
      stA M' M.length 0 [.int .i64 x0, .int .i64 x1, .int .i64 x2, .int .i64 x3, .int .i64 x4] = some (M'.set M.length ⟨.own, 25, [.int .i64 x0, .int .i64 x1, .int .i64 x2, .int .i64 x3, .int .i64 x4]⟩) ∧
      (∀ k, rdc (M'.set M.length ⟨.own, 25, [.int .i64 x0, .int .i64 x1, .int .i64 x2, .int .i64 x3, .int .i64 x4]⟩) M.length k = [Value.int .i64 x0, .int .i64 x1, .int .i64 x2, .int .i64 x3, .int .i64 x4][k]?) ∧
      Cw id M (M'.set M.length ⟨.own, 25, [.int .i64 x0, .int .i64 x1, .int .i64 x2, .int .i64 x3, .int .i64 x4]⟩) ∧ CurA (M'.set M.length ⟨.own, 25, [.int .i64 x0, .int .i64 x1, .int .i64 x2, .int .i64 x3, .int .i64 x4]⟩) cb l id a' := by
    intro M' a' x0 x1 x2 x3 x4 _ dX dR
    have q := dR.put 25 [.int .i64 x0, .int .i64 x1, .int .i64 x2, .int .i64 x3, .int .i64 x4]
    exact ⟨fun k => dX.box.rd k, dR.box.st (off := 0) (vs := [.int .i64 x0, .int .i64 x1, .int .i64 x2, .int .i64 x3, .int .i64 x4]) (by simp) rfl, fun k => q.box.rd k, q.cw, q.cur⟩
  by_cases c0 : p = 0
  · have q0 : (p == 0) = true := by simp [c0]
    simp (config := {implicitDefEqProofs := false, maxDischargeDepth := 20}) (disch := first | omega | (simp only [lenE]; done) | (simp only [lenE]; omega) | rfl | (simp only [lenE, markR_len]; done) | (simp only [lenE, markR_len]; omega)) only [runE, mapE, listE, initT_5, initT_6, initT_7, initT_8, resV, oneV, binA, unA, reduceCtorEq, Nat.reduceEqDiff, Nat.reduceAdd, Nat.reduceLT, Nat.reduceLeDiff, Nat.reduceMul, Nat.reduceSub, ↓reduceIte, decide_true, decide_false, Bool.true_eq_false, Bool.false_eq_true, Bool.not_true, Bool.not_false, if_true, if_false, and_true, true_and, memE, celE, w64, Nat.zero_add, Nat.add_zero, Nat.mul_one, putL, and_self, ldn, q0, bl_s0]
    refine callH_ac (among_new N2 cb id a6 l [0, 20, 21, -1] dX.cur (by omega) rfl rfl (by simp) (by simp)) ?_
    rintro v N3 ⟨u, -, rfl, w, a7, h7, k⟩
    have dX := dX.draw w k
    have dR := dR.draw w k
    have s1 : stA N3 bx 0 [.int .i64 u] = some (N3.set bx ⟨.own, 25, [.int .i64 u, .int .i64 y1, .int .i64 y2, .int .i64 z3, .int .i64 y4]⟩) := dX.box.st (off := 0) (vs := [.int .i64 u]) (by simp) rfl
    have dR := dX.other dR hne ⟨.own, 25, [.int .i64 u, .int .i64 y1, .int .i64 y2, .int .i64 z3, .int .i64 y4]⟩ (by simp)
    have dX := dX.put 25 [.int .i64 u, .int .i64 y1, .int .i64 y2, .int .i64 z3, .int .i64 y4]
    simp (config := {implicitDefEqProofs := false, maxDischargeDepth := 20}) (disch := first | omega | (simp only [lenE]; done) | (simp only [lenE]; omega) | rfl | (simp only [lenE, markR_len]; done) | (simp only [lenE, markR_len]; omega)) only [runE, mapE, listE, initT_5, initT_6, initT_7, initT_8, resV, oneV, binA, unA, reduceCtorEq, Nat.reduceEqDiff, Nat.reduceAdd, Nat.reduceLT, Nat.reduceLeDiff, Nat.reduceMul, Nat.reduceSub, ↓reduceIte, decide_true, decide_false, Bool.true_eq_false, Bool.false_eq_true, Bool.not_true, Bool.not_false, if_true, if_false, and_true, true_and, memE, celE, w64, Nat.zero_add, Nat.add_zero, Nat.mul_one, putL, and_self, ldn, s1]
    obtain ⟨N4, hN4⟩ : ∃ N4, N4 = N3.set bx ⟨.own, 25, [.int .i64 u, .int .i64 y1, .int .i64 y2, .int .i64 z3, .int .i64 y4]⟩ := ⟨_, rfl⟩
    rw [← hN4] at dX dR ⊢
    clear hN4
    obtain ⟨f1, f2, f3, f4, f5⟩ := fin N4 a7 u y1 y2 z3 y4 (by omega) dX dR
    simp (config := {implicitDefEqProofs := false, maxDischargeDepth := 20}) (disch := first | omega | (simp only [lenE]; done) | (simp only [lenE]; omega) | rfl | (simp only [lenE, markR_len]; done) | (simp only [lenE, markR_len]; omega)) only [runE, mapE, listE, initT_5, initT_6, initT_7, initT_8, resV, oneV, binA, unA, reduceCtorEq, Nat.reduceEqDiff, Nat.reduceAdd, Nat.reduceLT, Nat.reduceLeDiff, Nat.reduceMul, Nat.reduceSub, ↓reduceIte, decide_true, decide_false, Bool.true_eq_false, Bool.false_eq_true, Bool.not_true, Bool.not_false, if_true, if_false, and_true, true_and, memE, celE, w64, Nat.zero_add, Nat.add_zero, Nat.mul_one, putL, and_self, ldn, f1, stP_agg5, f2, f3]
    exact ⟨⟨u, y1, y2, z3, y4⟩, a7, rfl, by omega, f4, f5⟩
  · have q0 : (p == 0) = false := by simp [c0]
    by_cases c1 : p = 1
    · have q1 : (p == 1) = true := by simp [c1]
      simp (config := {implicitDefEqProofs := false, maxDischargeDepth := 20}) (disch := first | omega | (simp only [lenE]; done) | (simp only [lenE]; omega) | rfl | (simp only [lenE, markR_len]; done) | (simp only [lenE, markR_len]; omega)) only [runE, mapE, listE, initT_5, initT_6, initT_7, initT_8, resV, oneV, binA, unA, reduceCtorEq, Nat.reduceEqDiff, Nat.reduceAdd, Nat.reduceLT, Nat.reduceLeDiff, Nat.reduceMul, Nat.reduceSub, ↓reduceIte, decide_true, decide_false, Bool.true_eq_false, Bool.false_eq_true, Bool.not_true, Bool.not_false, if_true, if_false, and_true, true_and, memE, celE, w64, Nat.zero_add, Nat.add_zero, Nat.mul_one, putL, and_self, ldn, q0, q1, bl_s1]
      refine callH_ac (among_new N2 cb id a6 l [0, 99, 100] dX.cur (by omega) rfl rfl (by simp) (by simp)) ?_
      rintro v N3 ⟨u, -, rfl, w, a7, h7, k⟩
      have dX := dX.draw w k
      have dR := dR.draw w k
      have s1 : stA N3 bx 1 [.int .i64 u] = some (N3.set bx ⟨.own, 25, [.int .i64 y0, .int .i64 u, .int .i64 y2, .int .i64 z3, .int .i64 y4]⟩) := dX.box.st (off := 1) (vs := [.int .i64 u]) (by simp) rfl
      have dR := dX.other dR hne ⟨.own, 25, [.int .i64 y0, .int .i64 u, .int .i64 y2, .int .i64 z3, .int .i64 y4]⟩ (by simp)
      have dX := dX.put 25 [.int .i64 y0, .int .i64 u, .int .i64 y2, .int .i64 z3, .int .i64 y4]
      simp (config := {implicitDefEqProofs := false, maxDischargeDepth := 20}) (disch := first | omega | (simp only [lenE]; done) | (simp only [lenE]; omega) | rfl | (simp only [lenE, markR_len]; done) | (simp only [lenE, markR_len]; omega)) only [runE, mapE, listE, initT_5, initT_6, initT_7, initT_8, resV, oneV, binA, unA, reduceCtorEq, Nat.reduceEqDiff, Nat.reduceAdd, Nat.reduceLT, Nat.reduceLeDiff, Nat.reduceMul, Nat.reduceSub, ↓reduceIte, decide_true, decide_false, Bool.true_eq_false, Bool.false_eq_true, Bool.not_true, Bool.not_false, if_true, if_false, and_true, true_and, memE, celE, w64, Nat.zero_add, Nat.add_zero, Nat.mul_one, putL, and_self, ldn, s1]
      obtain ⟨N4, hN4⟩ : ∃ N4, N4 = N3.set bx ⟨.own, 25, [.int .i64 y0, .int .i64 u, .int .i64 y2, .int .i64 z3, .int .i64 y4]⟩ := ⟨_, rfl⟩
      rw [← hN4] at dX dR ⊢
      clear hN4
      obtain ⟨f1, f2, f3, f4, f5⟩ := fin N4 a7 y0 u y2 z3 y4 (by omega) dX dR
      simp (config := {implicitDefEqProofs := false, maxDischargeDepth := 20}) (disch := first | omega | (simp only [lenE]; done) | (simp only [lenE]; omega) | rfl | (simp only [lenE, markR_len]; done) | (simp only [lenE, markR_len]; omega)) only [runE, mapE, listE, initT_5, initT_6, initT_7, initT_8, resV, oneV, binA, unA, reduceCtorEq, Nat.reduceEqDiff, Nat.reduceAdd, Nat.reduceLT, Nat.reduceLeDiff, Nat.reduceMul, Nat.reduceSub, ↓reduceIte, decide_true, decide_false, Bool.true_eq_false, Bool.false_eq_true, Bool.not_true, Bool.not_false, if_true, if_false, and_true, true_and, memE, celE, w64, Nat.zero_add, Nat.add_zero, Nat.mul_one, putL, and_self, ldn, f1, stP_agg5, f2, f3]
      exact ⟨⟨y0, u, y2, z3, y4⟩, a7, rfl, by omega, f4, f5⟩
    · have q1 : (p == 1) = false := by simp [c1]
      by_cases c2 : p = 2
      · have q2 : (p == 2) = true := by simp [c2]
        simp (config := {implicitDefEqProofs := false, maxDischargeDepth := 20}) (disch := first | omega | (simp only [lenE]; done) | (simp only [lenE]; omega) | rfl | (simp only [lenE, markR_len]; done) | (simp only [lenE, markR_len]; omega)) only [runE, mapE, listE, initT_5, initT_6, initT_7, initT_8, resV, oneV, binA, unA, reduceCtorEq, Nat.reduceEqDiff, Nat.reduceAdd, Nat.reduceLT, Nat.reduceLeDiff, Nat.reduceMul, Nat.reduceSub, ↓reduceIte, decide_true, decide_false, Bool.true_eq_false, Bool.false_eq_true, Bool.not_true, Bool.not_false, if_true, if_false, and_true, true_and, memE, celE, w64, Nat.zero_add, Nat.add_zero, Nat.mul_one, putL, and_self, ldn, q0, q1, q2, bl_s2]
        refine callH_ac (among_new N2 cb id a6 l [0, 9, 10] dX.cur (by omega) rfl rfl (by simp) (by simp)) ?_
        rintro v N3 ⟨u, -, rfl, w, a7, h7, k⟩
        have dX := dX.draw w k
        have dR := dR.draw w k
        have s1 : stA N3 bx 2 [.int .i64 u] = some (N3.set bx ⟨.own, 25, [.int .i64 y0, .int .i64 y1, .int .i64 u, .int .i64 z3, .int .i64 y4]⟩) := dX.box.st (off := 2) (vs := [.int .i64 u]) (by simp) rfl
        have dR := dX.other dR hne ⟨.own, 25, [.int .i64 y0, .int .i64 y1, .int .i64 u, .int .i64 z3, .int .i64 y4]⟩ (by simp)
        have dX := dX.put 25 [.int .i64 y0, .int .i64 y1, .int .i64 u, .int .i64 z3, .int .i64 y4]
        simp (config := {implicitDefEqProofs := false, maxDischargeDepth := 20}) (disch := first | omega | (simp only [lenE]; done) | (simp only [lenE]; omega) | rfl | (simp only [lenE, markR_len]; done) | (simp only [lenE, markR_len]; omega)) only [runE, mapE, listE, initT_5, initT_6, initT_7, initT_8, resV, oneV, binA, unA, reduceCtorEq, Nat.reduceEqDiff, Nat.reduceAdd, Nat.reduceLT, Nat.reduceLeDiff, Nat.reduceMul, Nat.reduceSub, ↓reduceIte, decide_true, decide_false, Bool.true_eq_false, Bool.false_eq_true, Bool.not_true, Bool.not_false, if_true, if_false, and_true, true_and, memE, celE, w64, Nat.zero_add, Nat.add_zero, Nat.mul_one, putL, and_self, ldn, s1]
        obtain ⟨N4, hN4⟩ : ∃ N4, N4 = N3.set bx ⟨.own, 25, [.int .i64 y0, .int .i64 y1, .int .i64 u, .int .i64 z3, .int .i64 y4]⟩ := ⟨_, rfl⟩
        rw [← hN4] at dX dR ⊢
        clear hN4
        obtain ⟨f1, f2, f3, f4, f5⟩ := fin N4 a7 y0 y1 u z3 y4 (by omega) dX dR
        simp (config := {implicitDefEqProofs := false, maxDischargeDepth := 20}) (disch := first | omega | (simp only [lenE]; done) | (simp only [lenE]; omega) | rfl | (simp only [lenE, markR_len]; done) | (simp only [lenE, markR_len]; omega)) only [runE, mapE, listE, initT_5, initT_6, initT_7, initT_8, resV, oneV, binA, unA, reduceCtorEq, Nat.reduceEqDiff, Nat.reduceAdd, Nat.reduceLT, Nat.reduceLeDiff, Nat.reduceMul, Nat.reduceSub, ↓reduceIte, decide_true, decide_false, Bool.true_eq_false, Bool.false_eq_true, Bool.not_true, Bool.not_false, if_true, if_false, and_true, true_and, memE, celE, w64, Nat.zero_add, Nat.add_zero, Nat.mul_one, putL, and_self, ldn, f1, stP_agg5, f2, f3]
        exact ⟨⟨y0, y1, u, z3, y4⟩, a7, rfl, by omega, f4, f5⟩
      · have q2 : (p == 2) = false := by simp [c2]
        by_cases c3 : p = 3
        · have q3 : (p == 3) = true := by simp [c3]
          have rX := dX.box.rd 0
          simp (config := {implicitDefEqProofs := false, maxDischargeDepth := 20}) (disch := first | omega | (simp only [lenE]; done) | (simp only [lenE]; omega) | rfl | (simp only [lenE, markR_len]; done) | (simp only [lenE, markR_len]; omega)) only [runE, mapE, listE, initT_5, initT_6, initT_7, initT_8, resV, oneV, binA, unA, reduceCtorEq, Nat.reduceEqDiff, Nat.reduceAdd, Nat.reduceLT, Nat.reduceLeDiff, Nat.reduceMul, Nat.reduceSub, ↓reduceIte, decide_true, decide_false, Bool.true_eq_false, Bool.false_eq_true, Bool.not_true, Bool.not_false, if_true, if_false, and_true, true_and, memE, celE, w64, Nat.zero_add, Nat.add_zero, Nat.mul_one, putL, and_self, ldn, q0, q1, q2, q3, rX, bl_s3]
          refine callH_ac (among_new N2 cb id a6 l [y0, 40, 41, 4611686018427387904] dX.cur (by omega) rfl rfl (by simp) (by simp)) ?_
          rintro v N3 ⟨u, -, rfl, w, a7, h7, k⟩
          have dX := dX.draw w k
          have dR := dR.draw w k
          have s1 : stA N3 bx 3 [.int .i64 u] = some (N3.set bx ⟨.own, 25, [.int .i64 y0, .int .i64 y1, .int .i64 y2, .int .i64 u, .int .i64 y4]⟩) := dX.box.st (off := 3) (vs := [.int .i64 u]) (by simp) rfl
          have dR := dX.other dR hne ⟨.own, 25, [.int .i64 y0, .int .i64 y1, .int .i64 y2, .int .i64 u, .int .i64 y4]⟩ (by simp)
          have dX := dX.put 25 [.int .i64 y0, .int .i64 y1, .int .i64 y2, .int .i64 u, .int .i64 y4]
          simp (config := {implicitDefEqProofs := false, maxDischargeDepth := 20}) (disch := first | omega | (simp only [lenE]; done) | (simp only [lenE]; omega) | rfl | (simp only [lenE, markR_len]; done) | (simp only [lenE, markR_len]; omega)) only [runE, mapE, listE, initT_5, initT_6, initT_7, initT_8, resV, oneV, binA, unA, reduceCtorEq, Nat.reduceEqDiff, Nat.reduceAdd, Nat.reduceLT, Nat.reduceLeDiff, Nat.reduceMul, Nat.reduceSub, ↓reduceIte, decide_true, decide_false, Bool.true_eq_false, Bool.false_eq_true, Bool.not_true, Bool.not_false, if_true, if_false, and_true, true_and, memE, celE, w64, Nat.zero_add, Nat.add_zero, Nat.mul_one, putL, and_self, ldn, s1]
          obtain ⟨N4, hN4⟩ : ∃ N4, N4 = N3.set bx ⟨.own, 25, [.int .i64 y0, .int .i64 y1, .int .i64 y2, .int .i64 u, .int .i64 y4]⟩ := ⟨_, rfl⟩
          rw [← hN4] at dX dR ⊢
          clear hN4
          obtain ⟨f1, f2, f3, f4, f5⟩ := fin N4 a7 y0 y1 y2 u y4 (by omega) dX dR
          simp (config := {implicitDefEqProofs := false, maxDischargeDepth := 20}) (disch := first | omega | (simp only [lenE]; done) | (simp only [lenE]; omega) | rfl | (simp only [lenE, markR_len]; done) | (simp only [lenE, markR_len]; omega)) only [runE, mapE, listE, initT_5, initT_6, initT_7, initT_8, resV, oneV, binA, unA, reduceCtorEq, Nat.reduceEqDiff, Nat.reduceAdd, Nat.reduceLT, Nat.reduceLeDiff, Nat.reduceMul, Nat.reduceSub, ↓reduceIte, decide_true, decide_false, Bool.true_eq_false, Bool.false_eq_true, Bool.not_true, Bool.not_false, if_true, if_false, and_true, true_and, memE, celE, w64, Nat.zero_add, Nat.add_zero, Nat.mul_one, putL, and_self, ldn, f1, stP_agg5, f2, f3]
          exact ⟨⟨y0, y1, y2, u, y4⟩, a7, rfl, by omega, f4, f5⟩
        · have q3 : (p == 3) = false := by simp [c3]
          by_cases c4 : p = 4
          · have q4 : (p == 4) = true := by simp [c4]
            simp (config := {implicitDefEqProofs := false, maxDischargeDepth := 20}) (disch := first | omega | (simp only [lenE]; done) | (simp only [lenE]; omega) | rfl | (simp only [lenE, markR_len]; done) | (simp only [lenE, markR_len]; omega)) only [runE, mapE, listE, initT_5, initT_6, initT_7, initT_8, resV, oneV, binA, unA, reduceCtorEq, Nat.reduceEqDiff, Nat.reduceAdd, Nat.reduceLT, Nat.reduceLeDiff, Nat.reduceMul, Nat.reduceSub, ↓reduceIte, decide_true, decide_false, Bool.true_eq_false, Bool.false_eq_true, Bool.not_true, Bool.not_false, if_true, if_false, and_true, true_and, memE, celE, w64, Nat.zero_add, Nat.add_zero, Nat.mul_one, putL, and_self, ldn, q0, q1, q2, q3, q4, bl_s4]
            refine callH_ac (among_new N2 cb id a6 l [-1, 9, 10] dX.cur (by omega) rfl rfl (by simp) (by simp)) ?_
            rintro v N3 ⟨u, -, rfl, w, a7, h7, k⟩
            have dX := dX.draw w k
            have dR := dR.draw w k
            have s1 : stA N3 bx 4 [.int .i64 u] = some (N3.set bx ⟨.own, 25, [.int .i64 y0, .int .i64 y1, .int .i64 y2, .int .i64 z3, .int .i64 u]⟩) := dX.box.st (off := 4) (vs := [.int .i64 u]) (by simp) rfl
            have dR := dX.other dR hne ⟨.own, 25, [.int .i64 y0, .int .i64 y1, .int .i64 y2, .int .i64 z3, .int .i64 u]⟩ (by simp)
            have dX := dX.put 25 [.int .i64 y0, .int .i64 y1, .int .i64 y2, .int .i64 z3, .int .i64 u]
            simp (config := {implicitDefEqProofs := false, maxDischargeDepth := 20}) (disch := first | omega | (simp only [lenE]; done) | (simp only [lenE]; omega) | rfl | (simp only [lenE, markR_len]; done) | (simp only [lenE, markR_len]; omega)) only [runE, mapE, listE, initT_5, initT_6, initT_7, initT_8, resV, oneV, binA, unA, reduceCtorEq, Nat.reduceEqDiff, Nat.reduceAdd, Nat.reduceLT, Nat.reduceLeDiff, Nat.reduceMul, Nat.reduceSub, ↓reduceIte, decide_true, decide_false, Bool.true_eq_false, Bool.false_eq_true, Bool.not_true, Bool.not_false, if_true, if_false, and_true, true_and, memE, celE, w64, Nat.zero_add, Nat.add_zero, Nat.mul_one, putL, and_self, ldn, s1]
            obtain ⟨N4, hN4⟩ : ∃ N4, N4 = N3.set bx ⟨.own, 25, [.int .i64 y0, .int .i64 y1, .int .i64 y2, .int .i64 z3, .int .i64 u]⟩ := ⟨_, rfl⟩
            rw [← hN4] at dX dR ⊢
            clear hN4
            obtain ⟨f1, f2, f3, f4, f5⟩ := fin N4 a7 y0 y1 y2 z3 u (by omega) dX dR
            simp (config := {implicitDefEqProofs := false, maxDischargeDepth := 20}) (disch := first | omega | (simp only [lenE]; done) | (simp only [lenE]; omega) | rfl | (simp only [lenE, markR_len]; done) | (simp only [lenE, markR_len]; omega)) only [runE, mapE, listE, initT_5, initT_6, initT_7, initT_8, resV, oneV, binA, unA, reduceCtorEq, Nat.reduceEqDiff, Nat.reduceAdd, Nat.reduceLT, Nat.reduceLeDiff, Nat.reduceMul, Nat.reduceSub, ↓reduceIte, decide_true, decide_false, Bool.true_eq_false, Bool.false_eq_true, Bool.not_true, Bool.not_false, if_true, if_false, and_true, true_and, memE, celE, w64, Nat.zero_add, Nat.add_zero, Nat.mul_one, putL, and_self, ldn, f1, stP_agg5, f2, f3]
            exact ⟨⟨y0, y1, y2, z3, u⟩, a7, rfl, by omega, f4, f5⟩
          · have q4 : (p == 4) = false := by simp [c4]
            simp (config := {implicitDefEqProofs := false, maxDischargeDepth := 20}) (disch := first | omega | (simp only [lenE]; done) | (simp only [lenE]; omega) | rfl | (simp only [lenE, markR_len]; done) | (simp only [lenE, markR_len]; omega)) only [runE, mapE, listE, initT_5, initT_6, initT_7, initT_8, resV, oneV, binA, unA, reduceCtorEq, Nat.reduceEqDiff, Nat.reduceAdd, Nat.reduceLT, Nat.reduceLeDiff, Nat.reduceMul, Nat.reduceSub, ↓reduceIte, decide_true, decide_false, Bool.true_eq_false, Bool.false_eq_true, Bool.not_true, Bool.not_false, if_true, if_false, and_true, true_and, memE, celE, w64, Nat.zero_add, Nat.add_zero, Nat.mul_one, putL, and_self, ldn, q0, q1, q2, q3, q4]
            obtain ⟨f1, f2, f3, f4, f5⟩ := fin N2 a6 y0 y1 y2 z3 y4 (by omega) dX dR
            simp (config := {implicitDefEqProofs := false, maxDischargeDepth := 20}) (disch := first | omega | (simp only [lenE]; done) | (simp only [lenE]; omega) | rfl | (simp only [lenE, markR_len]; done) | (simp only [lenE, markR_len]; omega)) only [runE, mapE, listE, initT_5, initT_6, initT_7, initT_8, resV, oneV, binA, unA, reduceCtorEq, Nat.reduceEqDiff, Nat.reduceAdd, Nat.reduceLT, Nat.reduceLeDiff, Nat.reduceMul, Nat.reduceSub, ↓reduceIte, decide_true, decide_false, Bool.true_eq_false, Bool.false_eq_true, Bool.not_true, Bool.not_false, if_true, if_false, and_true, true_and, memE, celE, w64, Nat.zero_add, Nat.add_zero, Nat.mul_one, putL, and_self, ldn, f1, stP_agg5, f2, f3]
            exact ⟨⟨y0, y1, y2, z3, y4⟩, a6, rfl, by omega, f4, f5⟩
theorem ItemsA.own {M : Mem} {rid fl : Nat} {t : TypeId} {L : List It} (h : OwnB M rid t (itemsC L)) (h5 : L.length ≤ 1000) : ItemsA M (.slice (some ⟨rid, 0, none⟩) L.length fl) L :=
  ⟨by omega, rid, fl, rfl, fun k i hk hi => by rw [h.rd]; exact itemsC_at L k i hk hi⟩
theorem rBig_rc (m : Mem) (cb fl : Nat) (n : Nat) : RC Try.prog 5 [.slice (some ⟨cb, 0, none⟩) n fl] m fun r new => r = .bool (decide (65536 < n)) ∧ new = [] := by
  refine rc_of_run mixed ok_laws_rBig (by simp) (go_start _ _ _ ?_)
  simp (config := {implicitDefEqProofs := false, maxDischargeDepth := 20}) (disch := first | omega | (simp only [lenE]; done) | (simp only [lenE]; omega) | rfl | (simp only [lenE, markR_len]; done) | (simp only [lenE, markR_len]; omega)) only [runE, mapE, listE, initT_5, initT_6, initT_7, initT_8, resV, oneV, binA, unA, reduceCtorEq, Nat.reduceEqDiff, Nat.reduceAdd, Nat.reduceLT, Nat.reduceLeDiff, Nat.reduceMul, Nat.reduceSub, ↓reduceIte, decide_true, decide_false, Bool.true_eq_false, Bool.false_eq_true, Bool.not_true, Bool.not_false, if_true, if_false, and_true, true_and, memE, celE, w64, Nat.zero_add, Nat.add_zero, Nat.mul_one, putL, and_self, ldn, c_laws_rBig, r_laws_rBig, gt_iff_lt]
  refine newQ_nil ⟨?_, rfl⟩
  congr 1
  rw [decide_eq_decide]
  omega
end Go.Proofs.Ytbjjkcoecaopcaa.Ab
end
section
namespace Go.Proofs.Ytbjjkcoecaopcaa.Ab
open Go Go.RowKit
set_option linter.unusedVariables false
set_option linter.unusedSimpArgs false
set_option maxRecDepth 10000
theorem bl_c0 (m : Mem) : bslA m 3 1 4 [.int .i64 0, .int .i64 0, .int .i64 0, .int .i64 0] [(0, 1, .int .i64 0), (1, 1, .int .i64 64), (2, 1, .int .i64 65), (3, 1, .int .i64 (-1))] = some (.slice (some ⟨m.length, 0, none⟩) 4 1, m ++ [rowB [0, 64, 65, -1]]) := rfl
theorem bl_c1 (m : Mem) : bslA m 3 1 10 [.int .i64 0, .int .i64 0, .int .i64 0, .int .i64 0, .int .i64 0, .int .i64 0, .int .i64 0, .int .i64 0, .int .i64 0, .int .i64 0] [(0, 1, .int .i64 1), (1, 1, .int .i64 2), (2, 1, .int .i64 3), (3, 1, .int .i64 4), (4, 1, .int .i64 5), (5, 1, .int .i64 6), (6, 1, .int .i64 8), (7, 1, .int .i64 12), (8, 1, .int .i64 16), (9, 1, .int .i64 30)] = some (.slice (some ⟨m.length, 0, none⟩) 10 1, m ++ [rowB [1, 2, 3, 4, 5, 6, 8, 12, 16, 30]]) := rfl
theorem cycle_ac (M : Mem) (cb id a : Nat) (l : List Int) (h : CurA M cb l id a) (ha : a ≤ 999999000) :
    AC Try.prog 25 [.pointer (some ⟨id, 0, none⟩)] M fun v M' => ∃ (c : Int) (a' : Nat), v = .int .i64 c ∧ a' ≤ a + 4 ∧ Cw id M M' ∧ CurA M' cb l id a' := by
  refine ac_of_run mixed ok_spec_l1Cur__cycle (by simp) (go_start _ _ _ ?_)
  have hid := h.lt
  simp (config := {implicitDefEqProofs := false, maxDischargeDepth := 20}) (disch := first | omega | (simp only [lenE]; done) | (simp only [lenE]; omega) | rfl | (simp only [lenE, markR_len]; done) | (simp only [lenE, markR_len]; omega)) only [runE, mapE, listE, initT_5, initT_6, initT_7, initT_8, resV, oneV, binA, unA, reduceCtorEq, Nat.reduceEqDiff, Nat.reduceAdd, Nat.reduceLT, Nat.reduceLeDiff, Nat.reduceMul, Nat.reduceSub, ↓reduceIte, decide_true, decide_false, Bool.true_eq_false, Bool.false_eq_true, Bool.not_true, Bool.not_false, if_true, if_false, and_true, true_and, memE, celE, w64, Nat.zero_add, Nat.add_zero, Nat.mul_one, putL, and_self, ldn, c_spec_l1Cur__cycle, r_spec_l1Cur__cycle]
  refine callH_ac (one_ac M cb id a l 24 h (by omega) (by omega) (by omega)) ?_
  rintro v M1 ⟨b, rfl, w, a1, h1, k⟩
  cases b with
  | true =>
    simp (config := {implicitDefEqProofs := false, maxDischargeDepth := 20}) (disch := first | omega | (simp only [lenE]; done) | (simp only [lenE]; omega) | rfl | (simp only [lenE, markR_len]; done) | (simp only [lenE, markR_len]; omega)) only [runE, mapE, listE, initT_5, initT_6, initT_7, initT_8, resV, oneV, binA, unA, reduceCtorEq, Nat.reduceEqDiff, Nat.reduceAdd, Nat.reduceLT, Nat.reduceLeDiff, Nat.reduceMul, Nat.reduceSub, ↓reduceIte, decide_true, decide_false, Bool.true_eq_false, Bool.false_eq_true, Bool.not_true, Bool.not_false, if_true, if_false, and_true, true_and, memE, celE, w64, Nat.zero_add, Nat.add_zero, Nat.mul_one, putL, and_self, ldn, bl_c0]
    refine callH_ac (among_new M1 cb id a1 l [0, 64, 65, -1] k (by omega) rfl rfl (by simp) (by simp)) ?_
    rintro v M2 ⟨c, -, rfl, w2, a2, h2, k2⟩
    simp (config := {implicitDefEqProofs := false, maxDischargeDepth := 20}) (disch := first | omega | (simp only [lenE]; done) | (simp only [lenE]; omega) | rfl | (simp only [lenE, markR_len]; done) | (simp only [lenE, markR_len]; omega)) only [runE, mapE, listE, initT_5, initT_6, initT_7, initT_8, resV, oneV, binA, unA, reduceCtorEq, Nat.reduceEqDiff, Nat.reduceAdd, Nat.reduceLT, Nat.reduceLeDiff, Nat.reduceMul, Nat.reduceSub, ↓reduceIte, decide_true, decide_false, Bool.true_eq_false, Bool.false_eq_true, Bool.not_true, Bool.not_false, if_true, if_false, and_true, true_and, memE, celE, w64, Nat.zero_add, Nat.add_zero, Nat.mul_one, putL, and_self, ldn]
    exact ⟨c, a2, rfl, by omega, Cw.trans hid w w2, k2⟩
  | false =>
    simp (config := {implicitDefEqProofs := false, maxDischargeDepth := 20}) (disch := first | omega | (simp only [lenE]; done) | (simp only [lenE]; omega) | rfl | (simp only [lenE, markR_len]; done) | (simp only [lenE, markR_len]; omega)) only [runE, mapE, listE, initT_5, initT_6, initT_7, initT_8, resV, oneV, binA, unA, reduceCtorEq, Nat.reduceEqDiff, Nat.reduceAdd, Nat.reduceLT, Nat.reduceLeDiff, Nat.reduceMul, Nat.reduceSub, ↓reduceIte, decide_true, decide_false, Bool.true_eq_false, Bool.false_eq_true, Bool.not_true, Bool.not_false, if_true, if_false, and_true, true_and, memE, celE, w64, Nat.zero_add, Nat.add_zero, Nat.mul_one, putL, and_self, ldn, bl_c1]
    refine callH_ac (among_new M1 cb id a1 l [1, 2, 3, 4, 5, 6, 8, 12, 16, 30] k (by omega) rfl rfl (by simp) (by simp)) ?_
    rintro v M2 ⟨c, -, rfl, w2, a2, h2, k2⟩
    simp (config := {implicitDefEqProofs := false, maxDischargeDepth := 20}) (disch := first | omega | (simp only [lenE]; done) | (simp only [lenE]; omega) | rfl | (simp only [lenE, markR_len]; done) | (simp only [lenE, markR_len]; omega)) only [runE, mapE, listE, initT_5, initT_6, initT_7, initT_8, resV, oneV, binA, unA, reduceCtorEq, Nat.reduceEqDiff, Nat.reduceAdd, Nat.reduceLT, Nat.reduceLeDiff, Nat.reduceMul, Nat.reduceSub, ↓reduceIte, decide_true, decide_false, Bool.true_eq_false, Bool.false_eq_true, Bool.not_true, Bool.not_false, if_true, if_false, and_true, true_and, memE, celE, w64, Nat.zero_add, Nat.add_zero, Nat.mul_one, putL, and_self, ldn]
    exact ⟨c, a2, rfl, by omega, Cw.trans hid w w2, k2⟩
theorem ext_of {m M' : Mem} (hl : m.length ≤ M'.length) (old : ∀ i, i < m.length → M'[i]? = (roM m)[i]?) (new : ∀ (i : Nat) (b : Blk), m.length ≤ i → M'[i]? = some b → b.kd ≠ .ro) : Ext m M' := by
  have e : M' = roM m ++ M'.drop m.length := by
    apply List.ext_getElem?
    intro i
    by_cases hi : i < m.length
    · rw [List.getElem?_append_left (by rw [roM_len]; exact hi), old i hi]
    · rw [List.getElem?_append_right (by rw [roM_len]; omega), List.getElem?_drop, roM_len, Nat.add_sub_cancel' (by omega)]
  refine ⟨M'.drop m.length, e, fun c hc => ?_⟩
  obtain ⟨j, hj, rfl⟩ := List.getElem_of_mem hc
  have hg : M'[m.length + j]? = some (M'.drop m.length)[j] := by
    rw [← List.getElem?_drop, List.getElem?_eq_getElem hj]
  exact new (m.length + j) _ (by omega) hg
theorem DrawCycleCost_rc (m : Mem) (cb fl : Nat) (l : List Int) (h : BytesA m cb l) :
    RC Try.prog 6 [.slice (some ⟨cb, 0, none⟩) l.length fl] m fun r new => NoRo new ∧ ∃ (x : It) (c : Int), r = .tuple #[itV x, .int .i64 c] := by
  refine rc_of_run mixed ok_spec_DrawCycleCost (by simp) (go_start _ _ _ ?_)
  simp (config := {implicitDefEqProofs := false, maxDischargeDepth := 20}) (disch := first | omega | (simp only [lenE]; done) | (simp only [lenE]; omega) | rfl | (simp only [lenE, markR_len]; done) | (simp only [lenE, markR_len]; omega)) only [runE, mapE, listE, initT_5, initT_6, initT_7, initT_8, resV, oneV, binA, unA, reduceCtorEq, Nat.reduceEqDiff, Nat.reduceAdd, Nat.reduceLT, Nat.reduceLeDiff, Nat.reduceMul, Nat.reduceSub, ↓reduceIte, decide_true, decide_false, Bool.true_eq_false, Bool.false_eq_true, Bool.not_true, Bool.not_false, if_true, if_false, and_true, true_and, memE, celE, w64, Nat.zero_add, Nat.add_zero, Nat.mul_one, putL, and_self, ldn, c_spec_DrawCycleCost, r_spec_DrawCycleCost, bldCur]
  obtain ⟨E, hE⟩ : ∃ E, E = roM m ++ [⟨.own, 25, [.int .i64 0, .int .i64 0, .int .i64 0, .int .i64 0, .int .i64 0]⟩] ++ [⟨.own, 45, [.slice (some ⟨cb, 0, none⟩) l.length fl, .int .i64 0, .int .u64 0]⟩] := ⟨_, rfl⟩
  have hro := h.ro
  have hlt := (List.getElem?_eq_some_iff.1 hro).1
  have LE : E.length = m.length + 2 := by rw [hE]; simp [roM_len]
  have k0 : CurA E cb l (m.length + 1) 0 := by
    refine ⟨?_, h.byte, h.few, (fl, 0), ?_⟩
    · rw [hE, List.getElem?_append_left (by simp; omega), List.getElem?_append_left hlt]; exact hro
    · rw [hE, List.getElem?_append_right (by simp [roM_len])]; simp [roM_len]
  have b0 : OwnB E m.length 25 [.int .i64 0, .int .i64 0, .int .i64 0, .int .i64 0, .int .i64 0] := by rw [hE]; exact (OwnB.here (roM_len m).symm).ext _
  have oldE : ∀ i, i < m.length → E[i]? = (roM m)[i]? := fun i hi => by
    rw [hE, List.getElem?_append_left (by simp [roM_len]; omega), List.getElem?_append_left (by rw [roM_len]; exact hi)]
  have newE : ∀ (i : Nat) (b : Blk), m.length ≤ i → E[i]? = some b → b.kd ≠ .ro := fun i b hi hb => by
    have hil := (List.getElem?_eq_some_iff.1 hb).1
    rw [LE] at hil
    by_cases e : i = m.length
    · subst e
      rw [show E[m.length]? = some ⟨.own, 25, [.int .i64 0, .int .i64 0, .int .i64 0, .int .i64 0, .int .i64 0]⟩ from b0] at hb
      cases hb; simp
    · have : i = m.length + 1 := by omega
      subst this
      obtain ⟨s, hs⟩ := k0.box
      rw [hs] at hb
      cases hb; simp
  try rw [← hE]
  clear hE
  refine callH_ac (item_ac E cb (m.length + 1) 0 l k0 (by omega)) ?_
  rintro v M1 ⟨x, a1, rfl, h1, w, k⟩
  simp (config := {implicitDefEqProofs := false, maxDischargeDepth := 20}) (disch := first | omega | (simp only [lenE]; done) | (simp only [lenE]; omega) | rfl | (simp only [lenE, markR_len]; done) | (simp only [lenE, markR_len]; omega)) only [runE, mapE, listE, initT_5, initT_6, initT_7, initT_8, resV, oneV, binA, unA, reduceCtorEq, Nat.reduceEqDiff, Nat.reduceAdd, Nat.reduceLT, Nat.reduceLeDiff, Nat.reduceMul, Nat.reduceSub, ↓reduceIte, decide_true, decide_false, Bool.true_eq_false, Bool.false_eq_true, Bool.not_true, Bool.not_false, if_true, if_false, and_true, true_and, memE, celE, w64, Nat.zero_add, Nat.add_zero, Nat.mul_one, putL, and_self, ldn]
  refine callH_ac (cycle_ac M1 cb (m.length + 1) a1 l k (by omega)) ?_
  rintro v M2 ⟨c, a2, rfl, h2, w2, k2⟩
  have w3 := Cw.trans (by omega) w w2
  have b2 : OwnB M2 m.length 25 [.int .i64 0, .int .i64 0, .int .i64 0, .int .i64 0, .int .i64 0] := b0.at_ (w3.old m.length (by omega) b0.lt)
  have hX : Ext m M2 := ext_of (by have := w3.len; omega) (fun i hi => (w3.old i (by omega) (by omega)).trans (oldE i hi)) (fun i b hi hb => by
    by_cases e : i = m.length + 1
    · subst e
      obtain ⟨s, hs⟩ := k2.box
      rw [hs] at hb
      cases hb; simp
    · by_cases e2 : i < E.length
      · rw [w3.old i e e2] at hb; exact newE i b hi hb
      · exact w3.new i b (by omega) hb)
  obtain ⟨x0, x1, x2, x3, x4⟩ := x
  have s1 : stA M2 m.length 0 [.int .i64 x0, .int .i64 x1, .int .i64 x2, .int .i64 x3, .int .i64 x4] = some (M2.set m.length ⟨.own, 25, [.int .i64 x0, .int .i64 x1, .int .i64 x2, .int .i64 x3, .int .i64 x4]⟩) := b2.st (off := 0) (vs := [.int .i64 x0, .int .i64 x1, .int .i64 x2, .int .i64 x3, .int .i64 x4]) (by simp) rfl
  have b3 := (b2.set_self 25 [.int .i64 x0, .int .i64 x1, .int .i64 x2, .int .i64 x3, .int .i64 x4]).rd
  simp (config := {implicitDefEqProofs := false, maxDischargeDepth := 20}) (disch := first | omega | (simp only [lenE]; done) | (simp only [lenE]; omega) | rfl | (simp only [lenE, markR_len]; done) | (simp only [lenE, markR_len]; omega)) only [runE, mapE, listE, initT_5, initT_6, initT_7, initT_8, resV, oneV, binA, unA, reduceCtorEq, Nat.reduceEqDiff, Nat.reduceAdd, Nat.reduceLT, Nat.reduceLeDiff, Nat.reduceMul, Nat.reduceSub, ↓reduceIte, decide_true, decide_false, Bool.true_eq_false, Bool.false_eq_true, Bool.not_true, Bool.not_false, if_true, if_false, and_true, true_and, memE, celE, w64, Nat.zero_add, Nat.add_zero, Nat.mul_one, putL, and_self, ldn, itV, stP_agg5, s1, b3]
  obtain ⟨n0, e0, h0⟩ := hX.put (Nat.le_refl _) 25 [.int .i64 x0, .int .i64 x1, .int .i64 x2, .int .i64 x3, .int .i64 x4]
  exact ⟨n0, e0, h0, h0, ⟨x0, x1, x2, x3, x4⟩, c, rfl⟩
theorem rLess_rc (m : Mem) (p q : Int × Int) (h1 : 0 ≤ p.1 * q.2 ∧ p.1 * q.2 ≤ 9223372036854775807) (h2 : 0 ≤ q.1 * p.2 ∧ q.1 * p.2 ≤ 9223372036854775807) :
    RC Try.prog 14 [frV p, frV q] m (AnsV (.bool (lessF p q))) := by
  refine rc_of_run mixed ok_laws_rLess (by simp) (go_start _ _ _ ?_)
  obtain ⟨E, hE⟩ : ∃ E, E = roM m ++ [⟨.own, 28, [.int .i64 p.1, .int .i64 p.2]⟩] ++ [⟨.own, 28, [.int .i64 q.1, .int .i64 q.2]⟩] := ⟨_, rfl⟩
  have hX : Ext m E := by rw [hE]; exact ((Ext.refl m).one _ _).one _ _
  have o1 : OwnB E m.length 28 [.int .i64 p.1, .int .i64 p.2] := by rw [hE]; exact (OwnB.here (roM_len m).symm).ext _
  have o2 : OwnB E (m.length + 1) 28 [.int .i64 q.1, .int .i64 q.2] := by rw [hE]; exact OwnB.here (by simp [roM_len])
  have i0 := fun a => iada_0 a 0 1
  have i1 := fun a => iada_1 a 0 0
  have r10 := o1.rd 0
  have r11 := o1.rd 1
  have r20 := o2.rd 0
  have r21 := o2.rd 1
  rw [hE] at r10 r11 r20 r21
  unfold lessF
  simp (config := {implicitDefEqProofs := false, maxDischargeDepth := 20}) (disch := first | omega | (simp only [lenE]; done) | (simp only [lenE]; omega) | rfl | (simp only [lenE, markR_len]; done) | (simp only [lenE, markR_len]; omega)) only [runE, mapE, listE, initT_5, initT_6, initT_7, initT_8, resV, oneV, binA, unA, reduceCtorEq, Nat.reduceEqDiff, Nat.reduceAdd, Nat.reduceLT, Nat.reduceLeDiff, Nat.reduceMul, Nat.reduceSub, ↓reduceIte, decide_true, decide_false, Bool.true_eq_false, Bool.false_eq_true, Bool.not_true, Bool.not_false, if_true, if_false, and_true, true_and, memE, celE, w64, Nat.zero_add, Nat.add_zero, Nat.mul_one, putL, and_self, ldn, c_laws_rLess, r_laws_rLess, frV, i0, i1, r10, r11, r20, r21]
  rw [hE] at hX
  exact ext_ansV hX rfl
end Go.Proofs.Ytbjjkcoecaopcaa.Ab
end
section
namespace Go.Proofs.Ytbjjkcoecaopcaa
set_option linter.unusedVariables false
def ltC (T R a b : Int) : Bool := decide ((T + R * a * a) * (2 * b) < (T + R * b * b) * (2 * a))
theorem ltC_iff {T R a b : Int} : ltC T R a b = true ↔ (T + R * a * a) * b < (T + R * b * b) * a := by
  unfold ltC
  rw [decide_eq_true_eq]
  have e1 : (T + R * a * a) * (2 * b) = 2 * ((T + R * a * a) * b) := by grind
  have e2 : (T + R * b * b) * (2 * a) = 2 * ((T + R * b * b) * a) := by grind
  rw [e1, e2]; omega
theorem ltC_no {T R a b : Int} : ltC T R a b = false ↔ (T + R * b * b) * a ≤ (T + R * a * a) * b := by
  rw [← Bool.not_eq_true, ltC_iff]; omega
theorem ltC_weak {T R x y c : Int} (hx : 1 ≤ x) (hy : 1 ≤ y) (hc : 1 ≤ c) (h1 : ltC T R x c = true) (h2 : ltC T R y c = false) : ltC T R x y = true := by
  rw [ltC_iff] at *
  rw [ltC_no] at h2
  generalize T + R * x * x = A at *
  generalize T + R * y * y = B at *
  generalize T + R * c * c = C at *
  have a1 := Int.mul_lt_mul_of_pos_right h1 (show 0 < y by omega)
  have a2 := Int.mul_le_mul_of_nonneg_right h2 (show 0 ≤ x by omega)
  have e1 : A * c * y = A * y * c := by grind
  have e2 : C * x * y = C * y * x := by grind
  have e3 : B * c * x = B * x * c := by grind
  rw [e1, e2] at a1
  rw [e3] at a2
  exact Int.lt_of_mul_lt_mul_right (Int.lt_of_lt_of_le a1 a2) (by omega)
theorem ltC_trans {T R x y c : Int} (hx : 1 ≤ x) (hy : 1 ≤ y) (hc : 1 ≤ c) (h1 : ltC T R x c = false) (h2 : ltC T R c y = false) : ltC T R x y = false := by
  cases h : ltC T R x y with
  | false => rfl
  | true =>
    rw [ltC_iff] at h
    rw [ltC_no] at h1 h2
    generalize T + R * x * x = A at *
    generalize T + R * y * y = B at *
    generalize T + R * c * c = C at *
    have a1 := Int.mul_le_mul_of_nonneg_right h1 (show 0 ≤ y by omega)
    have a2 := Int.mul_le_mul_of_nonneg_right h2 (show 0 ≤ x by omega)
    have a3 := Int.mul_lt_mul_of_pos_right h (show 0 < c by omega)
    have e1 : C * x * y = C * y * x := by grind
    have e2 : A * c * y = A * y * c := by grind
    have e3 : B * c * x = B * x * c := by grind
    rw [e1, e2] at a1
    rw [e3] at a2
    omega
theorem ltC_asym {T R x y : Int} (h : ltC T R x y = true) : ltC T R y x = false := by
  rw [ltC_no]; rw [ltC_iff] at h; omega
theorem ltC_self (T R x : Int) : ltC T R x x = false := by rw [ltC_no]; omega
theorem best_up (T R : Int) : ∀ (n : Nat) (a b0 : Int), 1 ≤ b0 → b0 < a → (∀ y, 1 ≤ y → y < a → ltC T R y b0 = false) → (b0 = 1 ∨ ltC T R b0 (b0 - 1) = true) →
    (1 ≤ bestIn (ltC T R) (upFrom a n) b0 ∧ bestIn (ltC T R) (upFrom a n) b0 < a + n) ∧ (∀ y, 1 ≤ y → y < a + n → ltC T R y (bestIn (ltC T R) (upFrom a n) b0) = false) ∧
      (bestIn (ltC T R) (upFrom a n) b0 = 1 ∨ ltC T R (bestIn (ltC T R) (upFrom a n) b0) (bestIn (ltC T R) (upFrom a n) b0 - 1) = true) := by
  intro n
  induction n with
  | zero =>
    intro a b0 h1 h2 h3 h4
    simp only [upFrom, bestIn]
    exact ⟨⟨h1, by omega⟩, fun y hy hy2 => h3 y hy (by omega), h4⟩
  | succ n ih =>
    intro a b0 h1 h2 h3 h4
    simp only [upFrom, bestIn]
    have e : a + ((n + 1 : Nat) : Int) = a + 1 + n := by omega
    rw [e]
    cases hl : ltC T R a b0 with
    | true =>
      rw [if_pos rfl]
      refine ih (a + 1) a (by omega) (by omega) (fun y hy hy2 => ?_) ?_
      · by_cases e : y = a
        · subst e; exact ltC_self _ _ _
        · exact ltC_asym (ltC_weak (by omega) hy h1 hl (h3 y hy (by omega)))
      · exact .inr (ltC_weak (by omega) (by omega) h1 hl (h3 (a - 1) (by omega) (by omega)))
    | false =>
      rw [if_neg (by decide)]
      refine ih (a + 1) b0 h1 (by omega) (fun y hy hy2 => ?_) h4
      by_cases e : y = a
      · subst e; exact hl
      · exact h3 y hy (by omega)
theorem bestIn_least {T R : Int} : ∀ (l : List Int) (b0 : Int), 1 ≤ b0 → (∀ x ∈ l, 1 ≤ x) → 1 ≤ bestIn (ltC T R) l b0 ∧ ltC T R b0 (bestIn (ltC T R) l b0) = false ∧ ∀ x ∈ l, ltC T R x (bestIn (ltC T R) l b0) = false := by
  intro l
  induction l with
  | nil => intro b0 h0 _; exact ⟨h0, ltC_self _ _ _, fun x hx => by cases hx⟩
  | cons y l ih =>
    intro b0 h0 hl
    simp only [bestIn]
    have hy := hl y (by simp)
    cases h : ltC T R y b0 with
    | true =>
      rw [if_pos rfl]
      obtain ⟨i1, i2, i3⟩ := ih y hy fun x hx => hl x (by simp [hx])
      refine ⟨i1, ltC_trans h0 i1 hy (ltC_asym h) i2, fun x hx => ?_⟩
      rcases List.mem_cons.1 hx with rfl | hx
      · exact i2
      · exact i3 x hx
    | false =>
      rw [if_neg (by decide)]
      obtain ⟨i1, i2, i3⟩ := ih b0 h0 fun x hx => hl x (by simp [hx])
      refine ⟨i1, i2, fun x hx => ?_⟩
      rcases List.mem_cons.1 hx with rfl | hx
      · exact ltC_trans hy i1 h0 h i2
      · exact i3 x hx
theorem sq_le {u v : Int} (hv : 0 ≤ v) (h : u * u ≤ v * v) : u ≤ v := by
  rcases Int.lt_or_le v u with h1 | h1
  · have a := Int.mul_lt_mul_of_pos_right h1 (show 0 < u by omega)
    have b := Int.mul_le_mul_of_nonneg_left (Int.le_of_lt h1) hv
    omega
  · exact h1
theorem near_one {T R b q : Int} (hT : 1 ≤ T) (hR : 1 ≤ R) (hb : 1 ≤ b) (hq : 1 ≤ q) (h1 : T ≤ 2 * (R * q * q)) (h2 : R * q * q ≤ 2 * T) : 10000 * ((T + R * q * q) * b) ≤ 10607 * ((T + R * b * b) * q) := by
  have s0 : 0 ≤ (2 * (R * q * q) - T) * (2 * T - R * q * q) := Int.mul_nonneg (by omega) (by omega)
  have s1 : 2 * ((T + R * q * q) * (T + R * q * q)) ≤ 9 * (T * (R * q * q)) := by
    have e : 9 * (T * (R * q * q)) - 2 * ((T + R * q * q) * (T + R * q * q)) = (2 * (R * q * q) - T) * (2 * T - R * q * q) := by grind
    omega
  have s2 : 4 * (T * (R * b * b)) ≤ (T + R * b * b) * (T + R * b * b) := by
    have e : (T + R * b * b) * (T + R * b * b) - 4 * (T * (R * b * b)) = (T - R * b * b) * (T - R * b * b) := by grind
    have : 0 ≤ (T - R * b * b) * (T - R * b * b) := by
      rcases Int.lt_or_le (T - R * b * b) 0 with h | h
      · have := Int.mul_nonneg (show 0 ≤ -(T - R * b * b) by omega) (show 0 ≤ -(T - R * b * b) by omega)
        rw [Int.neg_mul_neg] at this; exact this
      · exact Int.mul_nonneg h h
    omega
  have bb : 0 ≤ b * b := Int.mul_nonneg (by omega) (by omega)
  have qq : 0 ≤ q * q := Int.mul_nonneg (by omega) (by omega)
  have m1 := Int.mul_le_mul_of_nonneg_right s1 bb
  have m2 := Int.mul_le_mul_of_nonneg_right s2 qq
  have y0 : 0 ≤ (T + R * b * b) * q := Int.mul_nonneg (by have := Int.mul_nonneg (Int.mul_nonneg (show 0 ≤ R by omega) (show 0 ≤ b by omega)) (show 0 ≤ b by omega); omega) (by omega)
  generalize hX : (T + R * q * q) * b = X at *
  generalize hY : (T + R * b * b) * q = Y at *
  have x2 : X * X = (T + R * q * q) * (T + R * q * q) * (b * b) := by rw [← hX]; grind
  have y2 : Y * Y = (T + R * b * b) * (T + R * b * b) * (q * q) := by rw [← hY]; grind
  have z1 : 2 * (X * X) ≤ 9 * (T * R * (q * q) * (b * b)) := by
    have e1 : 2 * ((T + R * q * q) * (T + R * q * q)) * (b * b) = 2 * (X * X) := by rw [x2]; grind
    have e2 : 9 * (T * (R * q * q)) * (b * b) = 9 * (T * R * (q * q) * (b * b)) := by grind
    rw [e1, e2] at m1; exact m1
  have z2 : 4 * (T * R * (q * q) * (b * b)) ≤ Y * Y := by
    have e1 : 4 * (T * (R * b * b)) * (q * q) = 4 * (T * R * (q * q) * (b * b)) := by grind
    rw [e1, ← y2] at m2; exact m2
  have yy : 0 ≤ Y * Y := Int.mul_nonneg y0 y0
  refine sq_le (by omega) ?_
  have e1 : 10000 * X * (10000 * X) = 100000000 * (X * X) := by grind
  have e2 : 10607 * Y * (10607 * Y) = 112508449 * (Y * Y) := by grind
  rw [e1, e2]
  omega
theorem near_power {T R b : Int} (hT : 1 ≤ T ∧ T ≤ 198) (hR : 1 ≤ R) (hb : 1 ≤ b) (h1 : b = 1 ∨ R * b * (b - 1) < T) : ∃ q, (q = 1 ∨ q ∈ [2, 4, 8, 16, 32, 64]) ∧ 10000 * ((T + R * q * q) * b) ≤ 10607 * ((T + R * b * b) * q) := by
  by_cases h0 : 2 * T < R
  · have hb1 : b = 1 := by
      rcases h1 with h1 | h1
      · exact h1
      · rcases Int.lt_or_le 1 b with h | h
        · have a := Int.mul_le_mul_of_nonneg_left (show 1 ≤ b * (b - 1) by
            have := Int.mul_le_mul (show 1 ≤ b by omega) (show 1 ≤ b - 1 by omega) (by decide) (by omega); omega) (show 0 ≤ R by omega)
          have e : R * (b * (b - 1)) = R * b * (b - 1) := by grind
          rw [e] at a
          omega
        · omega
    subst hb1
    exact ⟨1, .inl rfl, by omega⟩
  · have go : ∀ q : Int, (q = 1 ∨ q ∈ [2, 4, 8, 16, 32, 64]) → 1 ≤ q → T ≤ 2 * (R * q * q) → R * q * q ≤ 2 * T → ∃ q, (q = 1 ∨ q ∈ [2, 4, 8, 16, 32, 64]) ∧ 10000 * ((T + R * q * q) * b) ≤ 10607 * ((T + R * b * b) * q) :=
      fun q hq h1 h2 h3 => ⟨q, hq, near_one hT.1 hR hb h1 h2 h3⟩
    by_cases c0 : T ≤ 2 * R
    · exact go 1 (.inl rfl) (by decide) (by omega) (by omega)
    by_cases c1 : T ≤ 8 * R
    · exact go 2 (.inr (by simp)) (by decide) (by omega) (by omega)
    by_cases c2 : T ≤ 32 * R
    · exact go 4 (.inr (by simp)) (by decide) (by omega) (by omega)
    by_cases c3 : T ≤ 128 * R
    · exact go 8 (.inr (by simp)) (by decide) (by omega) (by omega)
    · exact go 16 (.inr (by simp)) (by decide) (by omega) (by omega)
theorem daily_ltC {x : It} (h : GoodI x) {a b : Int} (ha : 1 ≤ a ∧ a ≤ 512) (hb : 1 ≤ b ∧ b ≤ 512) : lessF (dailyF x a) (dailyF x b) = ltC (2 * x.setup) (x.hold * x.daily) a b := by
  have h1 := h.hdc ha
  have h2 := h.hdc hb
  have h3 := h.setup
  unfold dailyF
  rw [lessF_fr (by omega) (by omega) (by omega) (by omega)]
  rfl
theorem dailyLt_ltC {x : It} (h : GoodI x) {a b : Int} (ha : 1 ≤ a ∧ a ≤ 512) (hb : 1 ≤ b ∧ b ≤ 512) : dailyLt x 1 a b = ltC (2 * x.setup) (x.hold * x.daily) a b := by
  unfold dailyLt
  rw [Int.one_mul, Int.one_mul]
  exact daily_ltC h ha hb
structure CycFacts (x : It) (b p : Int) : Prop where
  hb : 1 ≤ b ∧ b ≤ 64
  hp : 1 ≤ p ∧ p ≤ 64
  low : x.hold * x.daily * b * (b - 1) < 2 * x.setup
  up : b < 64 → 2 * x.setup ≤ x.hold * x.daily * b * (b + 1)
  least : ∀ c, 1 ≤ c ∧ c ≤ 64 → lessF (dailyF x c) (dailyF x b) = false
  near : 10000 * (dailyF x p).1 * (dailyF x b).2 ≤ 10607 * (dailyF x b).1 * (dailyF x p).2
theorem cyc_facts {x : It} (h : GoodI x) : CycFacts x (bestCyc x) (powerCyc x) := by
  have hs := h.setup
  have hr := h.hd
  obtain ⟨T, hT⟩ : ∃ T, T = 2 * x.setup := ⟨_, rfl⟩
  obtain ⟨R, hR⟩ : ∃ R, R = x.hold * x.daily := ⟨_, rfl⟩
  have eb : bestCyc x = bestIn (ltC T R) (upFrom 2 63) 1 := by
    unfold bestCyc
    rw [hT, hR]
    refine bestIn_congr _ _ fun z hz y hy => ?_
    have := upFrom_mem.1 hz
    refine dailyLt_ltC h (by omega) ?_
    rcases hy with rfl | hy
    · omega
    · have := upFrom_mem.1 hy; omega
  have ep : powerCyc x = bestIn (ltC T R) [2, 4, 8, 16, 32, 64] 1 := by
    unfold powerCyc
    rw [hT, hR]
    refine bestIn_congr _ _ fun z hz y hy => ?_
    simp only [List.mem_cons, List.not_mem_nil, or_false] at hz hy
    exact dailyLt_ltC h (by omega) (by omega)
  obtain ⟨u1, u2, u3⟩ := best_up T R 63 2 1 (by decide) (by decide) (fun y h1 h2 => by
    have : y = 1 := by omega
    subst this; exact ltC_self _ _ _) (.inl rfl)
  obtain ⟨v1, v2, v3⟩ := bestIn_least (T := T) (R := R) [2, 4, 8, 16, 32, 64] 1 (by decide) (fun z hz => by
    simp only [List.mem_cons, List.not_mem_nil, or_false] at hz
    omega)
  have v4 : bestIn (ltC T R) [2, 4, 8, 16, 32, 64] 1 ≤ 64 := by
    rcases bestIn_mem (ltC T R) [2, 4, 8, 16, 32, 64] 1 with h | h
    · rw [h]; decide
    · simp only [List.mem_cons, List.not_mem_nil, or_false] at h
      omega
  rw [← eb] at u1 u2 u3
  rw [← ep] at v1 v2 v3 v4
  generalize bestCyc x = b at *
  generalize powerCyc x = p at *
  have hb : 1 ≤ b ∧ b ≤ 64 := by omega
  have hp : 1 ≤ p ∧ p ≤ 64 := by omega
  have low : R * b * (b - 1) < T := by
    rcases u3 with h1 | h1
    · subst h1; simp; omega
    · rw [ltC_iff] at h1
      have e : (T + R * (b - 1) * (b - 1)) * b - (T + R * b * b) * (b - 1) = T - R * b * (b - 1) := by grind
      omega
  have up : b < 64 → T ≤ R * b * (b + 1) := fun hlt => by
    have h1 := u2 (b + 1) (by omega) (by omega)
    rw [ltC_no] at h1
    have e : (T + R * (b + 1) * (b + 1)) * b - (T + R * b * b) * (b + 1) = R * b * (b + 1) - T := by grind
    omega
  refine ⟨hb, hp, by rw [← hT, ← hR]; exact low, by rw [← hT, ← hR]; exact up, fun c hc => ?_, ?_⟩
  · rw [daily_ltC h (by omega) (by omega), ← hT, ← hR]
    exact u2 c hc.1 (by omega)
  · obtain ⟨q, hq, hn⟩ := near_power (T := T) (R := R) (b := b) (by omega) (by omega) hb.1 (.inr low)
    have hq1 : 1 ≤ q := by
      rcases hq with rfl | hq
      · decide
      · simp only [List.mem_cons, List.not_mem_nil, or_false] at hq; omega
    have hqp : ltC T R q p = false := by
      rcases hq with rfl | hq
      · exact v2
      · exact v3 q hq
    rw [ltC_no] at hqp
    have c1 := h.hdc (c := b) (by omega)
    have c2 := h.hdc (c := p) (by omega)
    rw [← hR] at c1 c2
    have f1 := fr_cross (a := T + R * b * b) (b := 2 * b) (by omega) (by omega)
    have f2 := fr_cross (a := T + R * p * p) (b := 2 * p) (by omega) (by omega)
    have g1 := fr_pos (a := T + R * b * b) (b := 2 * b) (by omega) (by omega)
    have g2 := fr_pos (a := T + R * p * p) (b := 2 * p) (by omega) (by omega)
    have eb : dailyF x b = fr (T + R * b * b) (2 * b) := by rw [hT, hR]; rfl
    have ep : dailyF x p = fr (T + R * p * p) (2 * p) := by rw [hT, hR]; rfl
    rw [eb, ep]
    generalize fr (T + R * b * b) (2 * b) = lo at *
    generalize fr (T + R * p * p) (2 * p) = hi at *
    generalize T + R * b * b = B at *
    generalize T + R * p * p = P at *
    generalize T + R * q * q = Q at *
    -- P q ≤ Q p ; 10000 Q b ≤ 10607 B q
    have s1 := Int.mul_le_mul_of_nonneg_right hqp (show 0 ≤ 10000 * b by omega)
    have s2 := Int.mul_le_mul_of_nonneg_right hn (show 0 ≤ p by omega)
    have e1 : Q * p * (10000 * b) = 10000 * (Q * b) * p := by grind
    have e2 : P * q * (10000 * b) = 10000 * P * b * q := by grind
    have e3 : 10607 * (B * q) * p = 10607 * B * p * q := by grind
    rw [e1, e2] at s1
    rw [e3] at s2
    have s3 : 10000 * P * b ≤ 10607 * B * p := Int.le_of_mul_le_mul_right (Int.le_trans s1 s2) (by omega)
    have s4 := Int.mul_le_mul_of_nonneg_right s3 (show 0 ≤ 2 * (hi.2 * lo.2) by have := Int.mul_pos g2 g1; omega)
    have e4 : 10000 * P * b * (2 * (hi.2 * lo.2)) = 10000 * hi.1 * lo.2 * (4 * p * b) := by
      have : 10000 * P * b * (2 * (hi.2 * lo.2)) = 10000 * (P * hi.2) * lo.2 * (2 * b) := by grind
      rw [this, ← f2]; grind
    have e5 : 10607 * B * p * (2 * (hi.2 * lo.2)) = 10607 * lo.1 * hi.2 * (4 * p * b) := by
      have : 10607 * B * p * (2 * (hi.2 * lo.2)) = 10607 * (B * lo.2) * hi.2 * (2 * p) := by grind
      rw [this, ← f1]; grind
    rw [e4, e5] at s4
    have pb : 0 < 4 * p * b := Int.mul_pos (by omega) (by omega)
    exact Int.le_of_mul_le_mul_right s4 pb
end Go.Proofs.Ytbjjkcoecaopcaa
end
section
namespace Go.Proofs.Ytbjjkcoecaopcaa.Ab
open Go Go.RowKit Go.Proofs
set_option maxRecDepth 100000
def c_laws_FnCycles : ACode := .seq (.reg [⟨(some 2), .mv (.const (.bool false)), none⟩])
 (.seq (.seq (.reg [⟨(some 22), .mv (.tmp 0), none⟩,
  ⟨(some 23), .call (.func 5) [(.tmp 22)], none⟩])
 (.cond (.tmp 23) (.seq (.reg [⟨(some 2), .mv (.const (.bool true)), none⟩])
 (.ret)) (.skip)))
 (.seq (.reg [⟨(some 25), .mv (.tmp 0), none⟩,
  ⟨(some 26), .call (.func 6) [(.tmp 25)], none⟩,
  ⟨(some 24), .mv (.tmp 26), none⟩,
  ⟨(some 27), .ext 0 (.tmp 24), none⟩,
  ⟨(some 28), .ext 1 (.tmp 24), none⟩,
  ⟨(some 3), .alc 25 [(.int .i64 0), (.int .i64 0), (.int .i64 0), (.int .i64 0), (.int .i64 0)], none⟩,
  ⟨none, .st 5 (.tmp 3) (.tmp 27), none⟩,
  ⟨(some 4), .mv (.tmp 28), none⟩])
 (.seq (.reg [⟨(some 30), .ld (some 5) (.tmp 3), none⟩,
  ⟨(some 31), .mv (.tmp 4), none⟩,
  ⟨(some 32), .call (.func 7) [(.tmp 30), (.tmp 31)], none⟩,
  ⟨(some 29), .mv (.tmp 32), none⟩,
  ⟨(some 33), .ext 0 (.tmp 29), none⟩,
  ⟨(some 34), .ext 1 (.tmp 29), none⟩,
  ⟨(some 5), .alc 28 [(.int .i64 0), (.int .i64 0)], none⟩,
  ⟨none, .st 2 (.tmp 5) (.tmp 33), none⟩,
  ⟨(some 6), .mv (.tmp 34), none⟩])
 (.seq (.seq (.reg [⟨(some 36), .ld (some 5) (.tmp 3), none⟩,
  ⟨(some 37), .mv (.tmp 4), none⟩,
  ⟨(some 38), .call (.func 8) [(.tmp 36), (.tmp 37)], none⟩,
  ⟨(some 35), .mv (.tmp 38), none⟩,
  ⟨(some 39), .ext 0 (.tmp 35), none⟩,
  ⟨(some 40), .ext 1 (.tmp 35), none⟩,
  ⟨(some 7), .alc 28 [(.int .i64 0), (.int .i64 0)], none⟩,
  ⟨none, .st 2 (.tmp 7) (.tmp 39), none⟩,
  ⟨(some 8), .mv (.tmp 40), none⟩])
 (.seq (.reg [⟨(some 41), .ld (some 2) (.tmp 5), none⟩,
  ⟨(some 42), .ld (some 2) (.tmp 7), none⟩,
  ⟨(some 43), .aeq true 2 (.tmp 41) (.tmp 42), none⟩,
  ⟨(some 44), .mv (.tmp 43), none⟩,
  ⟨(some 45), .mv (.tmp 6), (some (44, false))⟩,
  ⟨(some 46), .mv (.tmp 8), (some (44, false))⟩,
  ⟨(some 47), .beq true (.tmp 45) (.tmp 46), (some (44, false))⟩,
  ⟨(some 48), .pick (.tmp 44) (.const (.bool true)) (.tmp 47), none⟩])
 (.cond (.tmp 48) (.seq (.reg [⟨(some 2), .mv (.const (.bool false)), none⟩])
 (.ret)) (.skip))))
 (.seq (.reg [⟨(some 50), .ld (some 5) (.tmp 3), none⟩,
  ⟨(some 51), .call (.func 9) [(.tmp 50)], none⟩,
  ⟨(some 49), .mv (.tmp 51), none⟩,
  ⟨(some 52), .ext 0 (.tmp 49), none⟩,
  ⟨(some 53), .ext 1 (.tmp 49), none⟩,
  ⟨(some 9), .mv (.tmp 52), none⟩,
  ⟨(some 10), .mv (.tmp 53), none⟩])
 (.seq (.seq (.reg [⟨(some 55), .ld (some 5) (.tmp 3), none⟩,
  ⟨(some 56), .call (.func 10) [(.tmp 55)], none⟩,
  ⟨(some 54), .mv (.tmp 56), none⟩,
  ⟨(some 57), .ext 0 (.tmp 54), none⟩,
  ⟨(some 58), .ext 1 (.tmp 54), none⟩,
  ⟨(some 11), .mv (.tmp 57), none⟩,
  ⟨(some 12), .mv (.tmp 58), none⟩])
 (.seq (.reg [⟨(some 59), .mv (.tmp 9), none⟩,
  ⟨(some 60), .mv (.tmp 11), none⟩,
  ⟨(some 61), .bin .neq (.tmp 59) (.tmp 60), none⟩,
  ⟨(some 62), .mv (.tmp 61), none⟩,
  ⟨(some 63), .mv (.tmp 10), (some (62, false))⟩,
  ⟨(some 64), .mv (.tmp 12), (some (62, false))⟩,
  ⟨(some 65), .beq true (.tmp 63) (.tmp 64), (some (62, false))⟩,
  ⟨(some 66), .pick (.tmp 62) (.const (.bool true)) (.tmp 65), none⟩,
  ⟨(some 67), .mv (.tmp 66), none⟩,
  ⟨(some 68), .mv (.tmp 10), (some (67, false))⟩,
  ⟨(some 69), .ld (some 5) (.tmp 3), (some (67, false))⟩,
  ⟨(some 70), .call (.func 11) [(.tmp 69)], (some (67, false))⟩,
  ⟨(some 71), .beq true (.tmp 68) (.tmp 70), (some (67, false))⟩,
  ⟨(some 72), .pick (.tmp 67) (.const (.bool true)) (.tmp 71), none⟩])
 (.cond (.tmp 72) (.seq (.reg [⟨(some 2), .mv (.const (.bool false)), none⟩])
 (.ret)) (.skip))))
 (.seq (.reg [⟨(some 74), .ld (some 5) (.tmp 3), none⟩,
  ⟨(some 75), .call (.func 12) [(.tmp 74)], none⟩,
  ⟨(some 73), .mv (.tmp 75), none⟩,
  ⟨(some 76), .ext 0 (.tmp 73), none⟩,
  ⟨(some 77), .ext 1 (.tmp 73), none⟩,
  ⟨(some 13), .mv (.tmp 76), none⟩,
  ⟨(some 14), .mv (.tmp 77), none⟩])
 (.seq (.seq (.reg [⟨(some 79), .ld (some 5) (.tmp 3), none⟩,
  ⟨(some 80), .call (.func 13) [(.tmp 79)], none⟩,
  ⟨(some 78), .mv (.tmp 80), none⟩,
  ⟨(some 81), .ext 0 (.tmp 78), none⟩,
  ⟨(some 82), .ext 1 (.tmp 78), none⟩,
  ⟨(some 15), .mv (.tmp 81), none⟩,
  ⟨(some 16), .mv (.tmp 82), none⟩])
 (.seq (.reg [⟨(some 83), .mv (.tmp 13), none⟩,
  ⟨(some 84), .mv (.tmp 15), none⟩,
  ⟨(some 85), .bin .neq (.tmp 83) (.tmp 84), none⟩,
  ⟨(some 86), .mv (.tmp 85), none⟩,
  ⟨(some 87), .mv (.tmp 14), (some (86, false))⟩,
  ⟨(some 88), .mv (.tmp 16), (some (86, false))⟩,
  ⟨(some 89), .beq true (.tmp 87) (.tmp 88), (some (86, false))⟩,
  ⟨(some 90), .pick (.tmp 86) (.const (.bool true)) (.tmp 89), none⟩,
  ⟨(some 91), .mv (.tmp 90), none⟩,
  ⟨(some 92), .mv (.tmp 14), (some (91, false))⟩,
  ⟨(some 93), .mv (.tmp 10), (some (91, false))⟩,
  ⟨(some 94), .beq true (.tmp 92) (.tmp 93), (some (91, false))⟩,
  ⟨(some 95), .pick (.tmp 91) (.const (.bool true)) (.tmp 94), none⟩])
 (.cond (.tmp 95) (.seq (.reg [⟨(some 2), .mv (.const (.bool false)), none⟩])
 (.ret)) (.skip))))
 (.seq (.seq (.reg [⟨(some 96), .mv (.tmp 10), none⟩,
  ⟨(some 97), .un .not (.tmp 96), none⟩])
 (.cond (.tmp 97) (.seq (.reg [⟨(some 98), .mv (.tmp 6), none⟩,
  ⟨(some 99), .un .not (.tmp 98), none⟩,
  ⟨(some 2), .mv (.tmp 99), none⟩])
 (.ret)) (.skip)))
 (.seq (.reg [⟨(some 101), .ld (some 5) (.tmp 3), none⟩,
  ⟨(some 102), .mv (.tmp 9), none⟩,
  ⟨(some 103), .call (.func 7) [(.tmp 101), (.tmp 102)], none⟩,
  ⟨(some 100), .mv (.tmp 103), none⟩,
  ⟨(some 104), .ext 0 (.tmp 100), none⟩,
  ⟨(some 105), .ext 1 (.tmp 100), none⟩,
  ⟨(some 17), .alc 28 [(.int .i64 0), (.int .i64 0)], none⟩,
  ⟨none, .st 2 (.tmp 17) (.tmp 104), none⟩,
  ⟨(some 18), .mv (.tmp 105), none⟩])
 (.seq (.reg [⟨(some 107), .ld (some 5) (.tmp 3), none⟩,
  ⟨(some 108), .mv (.tmp 13), none⟩,
  ⟨(some 109), .call (.func 7) [(.tmp 107), (.tmp 108)], none⟩,
  ⟨(some 106), .mv (.tmp 109), none⟩,
  ⟨(some 110), .ext 0 (.tmp 106), none⟩,
  ⟨(some 111), .ext 1 (.tmp 106), none⟩,
  ⟨(some 19), .alc 28 [(.int .i64 0), (.int .i64 0)], none⟩,
  ⟨none, .st 2 (.tmp 19) (.tmp 110), none⟩,
  ⟨(some 20), .mv (.tmp 111), none⟩])
 (.seq (.reg [⟨(some 112), .fad 2 (.tmp 3), none⟩,
  ⟨(some 113), .ld none (.tmp 112), none⟩,
  ⟨(some 114), .fad 0 (.tmp 3), none⟩,
  ⟨(some 115), .ld none (.tmp 114), none⟩,
  ⟨(some 116), .bin .mul (.tmp 113) (.tmp 115), none⟩,
  ⟨(some 21), .mv (.tmp 116), none⟩])
 (.seq (.seq (.reg [⟨(some 117), .mv (.tmp 18), none⟩,
  ⟨(some 118), .un .not (.tmp 117), none⟩,
  ⟨(some 119), .mv (.tmp 118), none⟩,
  ⟨(some 120), .mv (.tmp 20), (some (119, false))⟩,
  ⟨(some 121), .un .not (.tmp 120), (some (119, false))⟩,
  ⟨(some 122), .pick (.tmp 119) (.const (.bool true)) (.tmp 121), none⟩,
  ⟨(some 123), .mv (.tmp 122), none⟩,
  ⟨(some 124), .ld (some 2) (.tmp 19), (some (123, false))⟩,
  ⟨(some 125), .ld (some 2) (.tmp 17), (some (123, false))⟩,
  ⟨(some 126), .call (.func 14) [(.tmp 124), (.tmp 125)], (some (123, false))⟩,
  ⟨(some 127), .pick (.tmp 123) (.const (.bool true)) (.tmp 126), none⟩,
  ⟨(some 128), .mv (.tmp 127), none⟩,
  ⟨(some 129), .iada 1 2 (.tmp 19) (.const (.int .i64 0)), (some (128, false))⟩,
  ⟨(some 130), .ld none (.tmp 129), (some (128, false))⟩,
  ⟨(some 131), .bin .mul (.const (.int .i64 10000)) (.tmp 130), (some (128, false))⟩,
  ⟨(some 132), .iada 1 2 (.tmp 17) (.const (.int .i64 1)), (some (128, false))⟩,
  ⟨(some 133), .ld none (.tmp 132), (some (128, false))⟩,
  ⟨(some 134), .bin .mul (.tmp 131) (.tmp 133), (some (128, false))⟩,
  ⟨(some 135), .iada 1 2 (.tmp 17) (.const (.int .i64 0)), (some (128, false))⟩,
  ⟨(some 136), .ld none (.tmp 135), (some (128, false))⟩,
  ⟨(some 137), .bin .mul (.const (.int .i64 10607)) (.tmp 136), (some (128, false))⟩,
  ⟨(some 138), .iada 1 2 (.tmp 19) (.const (.int .i64 1)), (some (128, false))⟩,
  ⟨(some 139), .ld none (.tmp 138), (some (128, false))⟩,
  ⟨(some 140), .bin .mul (.tmp 137) (.tmp 139), (some (128, false))⟩,
  ⟨(some 141), .bin .gtr (.tmp 134) (.tmp 140), (some (128, false))⟩,
  ⟨(some 142), .pick (.tmp 128) (.const (.bool true)) (.tmp 141), none⟩,
  ⟨(some 143), .mv (.tmp 142), none⟩,
  ⟨(some 144), .mv (.tmp 21), (some (143, false))⟩,
  ⟨(some 145), .mv (.tmp 9), (some (143, false))⟩,
  ⟨(some 146), .bin .mul (.tmp 144) (.tmp 145), (some (143, false))⟩,
  ⟨(some 147), .mv (.tmp 9), (some (143, false))⟩,
  ⟨(some 148), .bin .sub (.tmp 147) (.const (.int .i64 1)), (some (143, false))⟩,
  ⟨(some 149), .bin .mul (.tmp 146) (.tmp 148), (some (143, false))⟩,
  ⟨(some 150), .fad 1 (.tmp 3), (some (143, false))⟩,
  ⟨(some 151), .ld none (.tmp 150), (some (143, false))⟩,
  ⟨(some 152), .bin .mul (.const (.int .i64 2)) (.tmp 151), (some (143, false))⟩,
  ⟨(some 153), .bin .geq (.tmp 149) (.tmp 152), (some (143, false))⟩,
  ⟨(some 154), .pick (.tmp 143) (.const (.bool true)) (.tmp 153), none⟩,
  ⟨(some 155), .mv (.tmp 154), none⟩,
  ⟨(some 156), .mv (.tmp 9), (some (155, false))⟩,
  ⟨(some 157), .bin .lss (.tmp 156) (.const (.int .i64 64)), (some (155, false))⟩,
  ⟨(some 158), .mv (.tmp 157), (some (155, false))⟩,
  ⟨(some 159), .mv (.tmp 21), (some (158, true))⟩,
  ⟨(some 160), .mv (.tmp 9), (some (158, true))⟩,
  ⟨(some 161), .bin .mul (.tmp 159) (.tmp 160), (some (158, true))⟩,
  ⟨(some 162), .mv (.tmp 9), (some (158, true))⟩,
  ⟨(some 163), .bin .add (.tmp 162) (.const (.int .i64 1)), (some (158, true))⟩,
  ⟨(some 164), .bin .mul (.tmp 161) (.tmp 163), (some (158, true))⟩,
  ⟨(some 165), .fad 1 (.tmp 3), (some (158, true))⟩,
  ⟨(some 166), .ld none (.tmp 165), (some (158, true))⟩,
  ⟨(some 167), .bin .mul (.const (.int .i64 2)) (.tmp 166), (some (158, true))⟩,
  ⟨(some 168), .bin .lss (.tmp 164) (.tmp 167), (some (158, true))⟩,
  ⟨(some 169), .pick (.tmp 158) (.tmp 168) (.const (.bool false)), (some (155, false))⟩,
  ⟨(some 170), .pick (.tmp 155) (.const (.bool true)) (.tmp 169), none⟩])
 (.cond (.tmp 170) (.seq (.reg [⟨(some 2), .mv (.const (.bool false)), none⟩])
 (.ret)) (.skip)))
 (.seq (.reg [⟨(some 171), .mv (.tmp 6), none⟩,
  ⟨(some 172), .un .not (.tmp 171), none⟩,
  ⟨(some 173), .mv (.tmp 172), none⟩,
  ⟨(some 174), .ld (some 2) (.tmp 5), (some (173, false))⟩,
  ⟨(some 175), .ld (some 2) (.tmp 17), (some (173, false))⟩,
  ⟨(some 176), .call (.func 14) [(.tmp 174), (.tmp 175)], (some (173, false))⟩,
  ⟨(some 177), .un .not (.tmp 176), (some (173, false))⟩,
  ⟨(some 178), .pick (.tmp 173) (.const (.bool true)) (.tmp 177), none⟩,
  ⟨(some 2), .mv (.tmp 178), none⟩])
 (.ret)))))))))))))))
def r_laws_FnCycles : List ARes := [.tmp 2]
theorem ok_laws_FnCycles : FnOk Try.prog 3 179 c_laws_FnCycles r_laws_FnCycles := ⟨⟨Try.f3, _, Try.func3, by kernel_rfl, rfl, rfl, by kernel_rfl, by kernel_rfl⟩⟩
end Go.Proofs.Ytbjjkcoecaopcaa.Ab
end
section
namespace Go.Proofs.Ytbjjkcoecaopcaa.Ab
open Go Go.RowKit
set_option linter.unusedVariables false
set_option linter.unusedSimpArgs false
set_option maxRecDepth 100000
theorem ae_two (a b : Int) : aeqA true 2 (.agg #[.int .i64 a, .int .i64 b]) (.agg #[.int .i64 a, .int .i64 b]) = some (.bool false) := by
  simp [aeqA, intsEq]
theorem mul_fit {a b : Int} (ha : 0 ≤ a ∧ a ≤ 47186118) (hb : 0 ≤ b ∧ b ≤ 1024) : 0 ≤ a * b ∧ a * b ≤ 9223372036854775807 := by
  have := mul_le2 (a := a) (x := b) (A := 47186118) (B := 1024) ha hb
  omega
set_option maxHeartbeats 16000000 in
theorem law_FnCycles (l : List Int) (hb : ∀ x ∈ l, 0 ≤ x ∧ x ≤ 255) :
    AC Try.prog 3 [.slice (some ⟨0, 0, none⟩) l.length 0] [⟨.ro, 5, l.map (Value.int .u8)⟩] fun r _ => r = .bool true := by
  refine ac_of_run mixed ok_laws_FnCycles (by simp) (go_start _ _ _ ?_)
  simp (config := {implicitDefEqProofs := false, maxDischargeDepth := 20}) (disch := first | omega | (simp only [lenE]; done) | (simp only [lenE]; omega) | rfl | (simp only [lenE, markR_len]; done) | (simp only [lenE, markR_len]; omega)) only [runE, mapE, listE, initT_5, initT_6, initT_7, initT_8, resV, oneV, binA, unA, reduceCtorEq, Nat.reduceEqDiff, Nat.reduceAdd, Nat.reduceLT, Nat.reduceLeDiff, Nat.reduceMul, Nat.reduceSub, ↓reduceIte, decide_true, decide_false, Bool.true_eq_false, Bool.false_eq_true, Bool.not_true, Bool.not_false, if_true, if_false, and_true, true_and, memE, celE, w64, Nat.zero_add, Nat.add_zero, Nat.mul_one, putL, and_self, ldn, c_laws_FnCycles, r_laws_FnCycles]
  refine callH_rc (rBig_rc _ 0 0 l.length) ?_
  rintro r new ⟨rfl, rfl⟩
  by_cases hbig : 65536 < l.length
  · simp (config := {implicitDefEqProofs := false, maxDischargeDepth := 20}) (disch := first | omega | (simp only [lenE]; done) | (simp only [lenE]; omega) | rfl | (simp only [lenE, markR_len]; done) | (simp only [lenE, markR_len]; omega)) only [runE, mapE, listE, initT_5, initT_6, initT_7, initT_8, resV, oneV, binA, unA, reduceCtorEq, Nat.reduceEqDiff, Nat.reduceAdd, Nat.reduceLT, Nat.reduceLeDiff, Nat.reduceMul, Nat.reduceSub, ↓reduceIte, decide_true, decide_false, Bool.true_eq_false, Bool.false_eq_true, Bool.not_true, Bool.not_false, if_true, if_false, and_true, true_and, memE, celE, w64, Nat.zero_add, Nat.add_zero, Nat.mul_one, putL, and_self, ldn, decide_eq_true hbig]
  have hB : BytesA [⟨.ro, 5, l.map (Value.int .u8)⟩] 0 l := ⟨⟨.ro, by simp, rfl⟩, hb, by omega⟩
  obtain ⟨M0, hM0⟩ : ∃ M : Mem, M = [⟨.ro, 5, l.map (Value.int .u8)⟩] := ⟨_, rfl⟩
  rw [← hM0] at hB
  rw [List.append_nil, ← hM0]
  clear hM0
  simp (config := {implicitDefEqProofs := false, maxDischargeDepth := 20}) (disch := first | omega | (simp only [lenE]; done) | (simp only [lenE]; omega) | rfl | (simp only [lenE, markR_len]; done) | (simp only [lenE, markR_len]; omega)) only [runE, mapE, listE, initT_5, initT_6, initT_7, initT_8, resV, oneV, binA, unA, reduceCtorEq, Nat.reduceEqDiff, Nat.reduceAdd, Nat.reduceLT, Nat.reduceLeDiff, Nat.reduceMul, Nat.reduceSub, ↓reduceIte, decide_true, decide_false, Bool.true_eq_false, Bool.false_eq_true, Bool.not_true, Bool.not_false, if_true, if_false, and_true, true_and, memE, celE, w64, Nat.zero_add, Nat.add_zero, Nat.mul_one, putL, and_self, ldn, decide_eq_false hbig]
  refine callH_rc (DrawCycleCost_rc _ 0 0 l hB) ?_
  rintro r new ⟨nr, x, c, rfl⟩
  obtain ⟨M, hM⟩ : ∃ M, M = M0 ++ new := ⟨_, rfl⟩
  rw [← hM]
  clear hM nr hB
  obtain ⟨cc, hcc⟩ : ∃ t, t = costC x c := ⟨_, rfl⟩
  obtain ⟨ok, hok⟩ : ∃ t, t = (x.good && inR 1 64 c) := ⟨_, rfl⟩
  obtain ⟨ba, hba⟩ : ∃ t, t = bestA x := ⟨_, rfl⟩
  obtain ⟨pa, hpa⟩ : ∃ t, t = powerA x := ⟨_, rfl⟩
  obtain ⟨gd, hgd⟩ : ∃ t, t = x.good := ⟨_, rfl⟩
  have C1 : ∀ M, RC Try.prog 7 [.agg #[.int .i64 x.daily, .int .i64 x.setup, .int .i64 x.hold, .int .i64 x.made, .int .i64 x.pause], .int .i64 c] M (AnsV (.tuple #[.agg #[.int .i64 cc.1, .int .i64 cc.2], .bool ok])) := fun M => by rw [hcc, hok]; exact implCycleCost_rc _ x c
  have C2 : ∀ M, RC Try.prog 8 [.agg #[.int .i64 x.daily, .int .i64 x.setup, .int .i64 x.hold, .int .i64 x.made, .int .i64 x.pause], .int .i64 c] M (AnsV (.tuple #[.agg #[.int .i64 cc.1, .int .i64 cc.2], .bool ok])) := fun M => by rw [hcc, hok]; exact specCycleCost_rc _ x c
  have C3 : ∀ M, RC Try.prog 9 [.agg #[.int .i64 x.daily, .int .i64 x.setup, .int .i64 x.hold, .int .i64 x.made, .int .i64 x.pause]] M (AnsV (.tuple #[.int .i64 ba, .bool gd])) := fun M => by rw [hba, hgd]; exact implBestCycle_rc _ x
  have C4 : ∀ M, RC Try.prog 10 [.agg #[.int .i64 x.daily, .int .i64 x.setup, .int .i64 x.hold, .int .i64 x.made, .int .i64 x.pause]] M (AnsV (.tuple #[.int .i64 ba, .bool gd])) := fun M => by rw [hba, hgd]; exact specBestCycle_rc _ x
  have C5 : ∀ M, RC Try.prog 11 [.agg #[.int .i64 x.daily, .int .i64 x.setup, .int .i64 x.hold, .int .i64 x.made, .int .i64 x.pause]] M (AnsV (.bool gd)) := fun M => by rw [hgd]; exact isItem_rc _ x
  have C6 : ∀ M, RC Try.prog 12 [.agg #[.int .i64 x.daily, .int .i64 x.setup, .int .i64 x.hold, .int .i64 x.made, .int .i64 x.pause]] M (AnsV (.tuple #[.int .i64 pa, .bool gd])) := fun M => by rw [hpa, hgd]; exact implPowerCycle_rc _ x
  have C7 : ∀ M, RC Try.prog 13 [.agg #[.int .i64 x.daily, .int .i64 x.setup, .int .i64 x.hold, .int .i64 x.made, .int .i64 x.pause]] M (AnsV (.tuple #[.int .i64 pa, .bool gd])) := fun M => by rw [hpa, hgd]; exact specPowerCycle_rc _ x
  simp (config := {implicitDefEqProofs := false, maxDischargeDepth := 20}) (disch := first | omega | (simp only [lenE]; done) | (simp only [lenE]; omega) | rfl | (simp only [lenE, markR_len]; done) | (simp only [lenE, markR_len]; omega)) only [runE, mapE, listE, initT_5, initT_6, initT_7, initT_8, resV, oneV, binA, unA, reduceCtorEq, Nat.reduceEqDiff, Nat.reduceAdd, Nat.reduceLT, Nat.reduceLeDiff, Nat.reduceMul, Nat.reduceSub, ↓reduceIte, decide_true, decide_false, Bool.true_eq_false, Bool.false_eq_true, Bool.not_true, Bool.not_false, if_true, if_false, and_true, true_and, memE, celE, w64, Nat.zero_add, Nat.add_zero, Nat.mul_one, putL, and_self, ldn, Bool.and_self, Bool.and_true, Bool.true_and, Bool.and_false, Bool.false_and, ext_2_0, ext_2_1, bne_self_eq_false, beq_self_eq_true, goG_undef, Bool.not_true, Bool.not_false, itV, stP_agg5]
  have x3 : OwnB (M ++ [⟨.own, 25, [.int .i64 x.daily, .int .i64 x.setup, .int .i64 x.hold, .int .i64 x.made, .int .i64 x.pause]⟩]) M.length 25 [.int .i64 x.daily, .int .i64 x.setup, .int .i64 x.hold, .int .i64 x.made, .int .i64 x.pause] := OwnB.here rfl
  obtain ⟨N1, hN⟩ : ∃ N, N = M ++ [⟨.own, 25, [.int .i64 x.daily, .int .i64 x.setup, .int .i64 x.hold, .int .i64 x.made, .int .i64 x.pause]⟩] := ⟨_, rfl⟩
  rw [← hN] at x3 ⊢
  clear hN
  try simp (config := {implicitDefEqProofs := false, maxDischargeDepth := 20}) (disch := first | omega | (simp only [lenE]; done) | (simp only [lenE]; omega) | rfl | (simp only [lenE, markR_len]; done) | (simp only [lenE, markR_len]; omega)) only [runE, mapE, listE, initT_5, initT_6, initT_7, initT_8, resV, oneV, binA, unA, reduceCtorEq, Nat.reduceEqDiff, Nat.reduceAdd, Nat.reduceLT, Nat.reduceLeDiff, Nat.reduceMul, Nat.reduceSub, ↓reduceIte, decide_true, decide_false, Bool.true_eq_false, Bool.false_eq_true, Bool.not_true, Bool.not_false, if_true, if_false, and_true, true_and, memE, celE, w64, Nat.zero_add, Nat.add_zero, Nat.mul_one, putL, and_self, ldn, Bool.and_self, Bool.and_true, Bool.true_and, Bool.and_false, Bool.false_and, ext_2_0, ext_2_1, bne_self_eq_false, beq_self_eq_true, goG_undef, Bool.not_true, Bool.not_false, x3.rd, x3.ld5]
  refine callH_rc (C1 _) ?_
  rintro r new ⟨rfl, nr⟩
  have x3 := x3.ext new
  obtain ⟨N2, hN⟩ : ∃ N, N = N1 ++ new := ⟨_, rfl⟩
  rw [← hN] at x3 ⊢
  clear hN nr
  try simp (config := {implicitDefEqProofs := false, maxDischargeDepth := 20}) (disch := first | omega | (simp only [lenE]; done) | (simp only [lenE]; omega) | rfl | (simp only [lenE, markR_len]; done) | (simp only [lenE, markR_len]; omega)) only [runE, mapE, listE, initT_5, initT_6, initT_7, initT_8, resV, oneV, binA, unA, reduceCtorEq, Nat.reduceEqDiff, Nat.reduceAdd, Nat.reduceLT, Nat.reduceLeDiff, Nat.reduceMul, Nat.reduceSub, ↓reduceIte, decide_true, decide_false, Bool.true_eq_false, Bool.false_eq_true, Bool.not_true, Bool.not_false, if_true, if_false, and_true, true_and, memE, celE, w64, Nat.zero_add, Nat.add_zero, Nat.mul_one, putL, and_self, ldn, Bool.and_self, Bool.and_true, Bool.true_and, Bool.and_false, Bool.false_and, ext_2_0, ext_2_1, bne_self_eq_false, beq_self_eq_true, goG_undef, Bool.not_true, Bool.not_false, x3.rd, x3.ld5, stP_agg2]
  have b5 : OwnB (N2 ++ [⟨.own, 28, [.int .i64 cc.1, .int .i64 cc.2]⟩]) N2.length 28 [.int .i64 cc.1, .int .i64 cc.2] := OwnB.here rfl
  have x3 := x3.ext [⟨.own, 28, [.int .i64 cc.1, .int .i64 cc.2]⟩]
  obtain ⟨N3, hN⟩ : ∃ N, N = N2 ++ [⟨.own, 28, [.int .i64 cc.1, .int .i64 cc.2]⟩] := ⟨_, rfl⟩
  rw [← hN] at x3 b5 ⊢
  clear hN
  try simp (config := {implicitDefEqProofs := false, maxDischargeDepth := 20}) (disch := first | omega | (simp only [lenE]; done) | (simp only [lenE]; omega) | rfl | (simp only [lenE, markR_len]; done) | (simp only [lenE, markR_len]; omega)) only [runE, mapE, listE, initT_5, initT_6, initT_7, initT_8, resV, oneV, binA, unA, reduceCtorEq, Nat.reduceEqDiff, Nat.reduceAdd, Nat.reduceLT, Nat.reduceLeDiff, Nat.reduceMul, Nat.reduceSub, ↓reduceIte, decide_true, decide_false, Bool.true_eq_false, Bool.false_eq_true, Bool.not_true, Bool.not_false, if_true, if_false, and_true, true_and, memE, celE, w64, Nat.zero_add, Nat.add_zero, Nat.mul_one, putL, and_self, ldn, Bool.and_self, Bool.and_true, Bool.true_and, Bool.and_false, Bool.false_and, ext_2_0, ext_2_1, bne_self_eq_false, beq_self_eq_true, goG_undef, Bool.not_true, Bool.not_false, x3.rd, b5.rd, x3.ld5, b5.ld2]
  refine callH_rc (C2 _) ?_
  rintro r new ⟨rfl, nr⟩
  have x3 := x3.ext new
  have b5 := b5.ext new
  obtain ⟨N4, hN⟩ : ∃ N, N = N3 ++ new := ⟨_, rfl⟩
  rw [← hN] at x3 b5 ⊢
  clear hN nr
  try simp (config := {implicitDefEqProofs := false, maxDischargeDepth := 20}) (disch := first | omega | (simp only [lenE]; done) | (simp only [lenE]; omega) | rfl | (simp only [lenE, markR_len]; done) | (simp only [lenE, markR_len]; omega)) only [runE, mapE, listE, initT_5, initT_6, initT_7, initT_8, resV, oneV, binA, unA, reduceCtorEq, Nat.reduceEqDiff, Nat.reduceAdd, Nat.reduceLT, Nat.reduceLeDiff, Nat.reduceMul, Nat.reduceSub, ↓reduceIte, decide_true, decide_false, Bool.true_eq_false, Bool.false_eq_true, Bool.not_true, Bool.not_false, if_true, if_false, and_true, true_and, memE, celE, w64, Nat.zero_add, Nat.add_zero, Nat.mul_one, putL, and_self, ldn, Bool.and_self, Bool.and_true, Bool.true_and, Bool.and_false, Bool.false_and, ext_2_0, ext_2_1, bne_self_eq_false, beq_self_eq_true, goG_undef, Bool.not_true, Bool.not_false, x3.rd, b5.rd, x3.ld5, b5.ld2, stP_agg2]
  have b7 : OwnB (N4 ++ [⟨.own, 28, [.int .i64 cc.1, .int .i64 cc.2]⟩]) N4.length 28 [.int .i64 cc.1, .int .i64 cc.2] := OwnB.here rfl
  have x3 := x3.ext [⟨.own, 28, [.int .i64 cc.1, .int .i64 cc.2]⟩]
  have b5 := b5.ext [⟨.own, 28, [.int .i64 cc.1, .int .i64 cc.2]⟩]
  obtain ⟨N5, hN⟩ : ∃ N, N = N4 ++ [⟨.own, 28, [.int .i64 cc.1, .int .i64 cc.2]⟩] := ⟨_, rfl⟩
  rw [← hN] at x3 b5 b7 ⊢
  clear hN
  try simp (config := {implicitDefEqProofs := false, maxDischargeDepth := 20}) (disch := first | omega | (simp only [lenE]; done) | (simp only [lenE]; omega) | rfl | (simp only [lenE, markR_len]; done) | (simp only [lenE, markR_len]; omega)) only [runE, mapE, listE, initT_5, initT_6, initT_7, initT_8, resV, oneV, binA, unA, reduceCtorEq, Nat.reduceEqDiff, Nat.reduceAdd, Nat.reduceLT, Nat.reduceLeDiff, Nat.reduceMul, Nat.reduceSub, ↓reduceIte, decide_true, decide_false, Bool.true_eq_false, Bool.false_eq_true, Bool.not_true, Bool.not_false, if_true, if_false, and_true, true_and, memE, celE, w64, Nat.zero_add, Nat.add_zero, Nat.mul_one, putL, and_self, ldn, Bool.and_self, Bool.and_true, Bool.true_and, Bool.and_false, Bool.false_and, ext_2_0, ext_2_1, bne_self_eq_false, beq_self_eq_true, goG_undef, Bool.not_true, Bool.not_false, x3.rd, b5.rd, b7.rd, x3.ld5, b5.ld2, b7.ld2, ae_two]
  clear b7
  refine callH_rc (C3 _) ?_
  rintro r new ⟨rfl, nr⟩
  have x3 := x3.ext new
  have b5 := b5.ext new
  obtain ⟨N6, hN⟩ : ∃ N, N = N5 ++ new := ⟨_, rfl⟩
  rw [← hN] at x3 b5 ⊢
  clear hN nr
  try simp (config := {implicitDefEqProofs := false, maxDischargeDepth := 20}) (disch := first | omega | (simp only [lenE]; done) | (simp only [lenE]; omega) | rfl | (simp only [lenE, markR_len]; done) | (simp only [lenE, markR_len]; omega)) only [runE, mapE, listE, initT_5, initT_6, initT_7, initT_8, resV, oneV, binA, unA, reduceCtorEq, Nat.reduceEqDiff, Nat.reduceAdd, Nat.reduceLT, Nat.reduceLeDiff, Nat.reduceMul, Nat.reduceSub, ↓reduceIte, decide_true, decide_false, Bool.true_eq_false, Bool.false_eq_true, Bool.not_true, Bool.not_false, if_true, if_false, and_true, true_and, memE, celE, w64, Nat.zero_add, Nat.add_zero, Nat.mul_one, putL, and_self, ldn, Bool.and_self, Bool.and_true, Bool.true_and, Bool.and_false, Bool.false_and, ext_2_0, ext_2_1, bne_self_eq_false, beq_self_eq_true, goG_undef, Bool.not_true, Bool.not_false, x3.rd, b5.rd, x3.ld5, b5.ld2]
  refine callH_rc (C4 _) ?_
  rintro r new ⟨rfl, nr⟩
  have x3 := x3.ext new
  have b5 := b5.ext new
  obtain ⟨N7, hN⟩ : ∃ N, N = N6 ++ new := ⟨_, rfl⟩
  rw [← hN] at x3 b5 ⊢
  clear hN nr
  try simp (config := {implicitDefEqProofs := false, maxDischargeDepth := 20}) (disch := first | omega | (simp only [lenE]; done) | (simp only [lenE]; omega) | rfl | (simp only [lenE, markR_len]; done) | (simp only [lenE, markR_len]; omega)) only [runE, mapE, listE, initT_5, initT_6, initT_7, initT_8, resV, oneV, binA, unA, reduceCtorEq, Nat.reduceEqDiff, Nat.reduceAdd, Nat.reduceLT, Nat.reduceLeDiff, Nat.reduceMul, Nat.reduceSub, ↓reduceIte, decide_true, decide_false, Bool.true_eq_false, Bool.false_eq_true, Bool.not_true, Bool.not_false, if_true, if_false, and_true, true_and, memE, celE, w64, Nat.zero_add, Nat.add_zero, Nat.mul_one, putL, and_self, ldn, Bool.and_self, Bool.and_true, Bool.true_and, Bool.and_false, Bool.false_and, ext_2_0, ext_2_1, bne_self_eq_false, beq_self_eq_true, goG_undef, Bool.not_true, Bool.not_false, x3.rd, b5.rd, x3.ld5, b5.ld2]
  refine callH_rc (C5 _) ?_
  rintro r new ⟨rfl, nr⟩
  have x3 := x3.ext new
  have b5 := b5.ext new
  obtain ⟨N8, hN⟩ : ∃ N, N = N7 ++ new := ⟨_, rfl⟩
  rw [← hN] at x3 b5 ⊢
  clear hN nr
  try simp (config := {implicitDefEqProofs := false, maxDischargeDepth := 20}) (disch := first | omega | (simp only [lenE]; done) | (simp only [lenE]; omega) | rfl | (simp only [lenE, markR_len]; done) | (simp only [lenE, markR_len]; omega)) only [runE, mapE, listE, initT_5, initT_6, initT_7, initT_8, resV, oneV, binA, unA, reduceCtorEq, Nat.reduceEqDiff, Nat.reduceAdd, Nat.reduceLT, Nat.reduceLeDiff, Nat.reduceMul, Nat.reduceSub, ↓reduceIte, decide_true, decide_false, Bool.true_eq_false, Bool.false_eq_true, Bool.not_true, Bool.not_false, if_true, if_false, and_true, true_and, memE, celE, w64, Nat.zero_add, Nat.add_zero, Nat.mul_one, putL, and_self, ldn, Bool.and_self, Bool.and_true, Bool.true_and, Bool.and_false, Bool.false_and, ext_2_0, ext_2_1, bne_self_eq_false, beq_self_eq_true, goG_undef, Bool.not_true, Bool.not_false, x3.rd, b5.rd, x3.ld5, b5.ld2]
  refine callH_rc (C6 _) ?_
  rintro r new ⟨rfl, nr⟩
  have x3 := x3.ext new
  have b5 := b5.ext new
  obtain ⟨N9, hN⟩ : ∃ N, N = N8 ++ new := ⟨_, rfl⟩
  rw [← hN] at x3 b5 ⊢
  clear hN nr
  try simp (config := {implicitDefEqProofs := false, maxDischargeDepth := 20}) (disch := first | omega | (simp only [lenE]; done) | (simp only [lenE]; omega) | rfl | (simp only [lenE, markR_len]; done) | (simp only [lenE, markR_len]; omega)) only [runE, mapE, listE, initT_5, initT_6, initT_7, initT_8, resV, oneV, binA, unA, reduceCtorEq, Nat.reduceEqDiff, Nat.reduceAdd, Nat.reduceLT, Nat.reduceLeDiff, Nat.reduceMul, Nat.reduceSub, ↓reduceIte, decide_true, decide_false, Bool.true_eq_false, Bool.false_eq_true, Bool.not_true, Bool.not_false, if_true, if_false, and_true, true_and, memE, celE, w64, Nat.zero_add, Nat.add_zero, Nat.mul_one, putL, and_self, ldn, Bool.and_self, Bool.and_true, Bool.true_and, Bool.and_false, Bool.false_and, ext_2_0, ext_2_1, bne_self_eq_false, beq_self_eq_true, goG_undef, Bool.not_true, Bool.not_false, x3.rd, b5.rd, x3.ld5, b5.ld2]
  refine callH_rc (C7 _) ?_
  rintro r new ⟨rfl, nr⟩
  have x3 := x3.ext new
  have b5 := b5.ext new
  obtain ⟨N10, hN⟩ : ∃ N, N = N9 ++ new := ⟨_, rfl⟩
  rw [← hN] at x3 b5 ⊢
  clear hN nr
  cases hg : gd with
  | false =>
    have : ok = false := by rw [hok, ← hgd, hg]; rfl
    subst this
    simp (config := {implicitDefEqProofs := false, maxDischargeDepth := 20}) (disch := first | omega | (simp only [lenE]; done) | (simp only [lenE]; omega) | rfl | (simp only [lenE, markR_len]; done) | (simp only [lenE, markR_len]; omega)) only [runE, mapE, listE, initT_5, initT_6, initT_7, initT_8, resV, oneV, binA, unA, reduceCtorEq, Nat.reduceEqDiff, Nat.reduceAdd, Nat.reduceLT, Nat.reduceLeDiff, Nat.reduceMul, Nat.reduceSub, ↓reduceIte, decide_true, decide_false, Bool.true_eq_false, Bool.false_eq_true, Bool.not_true, Bool.not_false, if_true, if_false, and_true, true_and, memE, celE, w64, Nat.zero_add, Nat.add_zero, Nat.mul_one, putL, and_self, ldn, Bool.and_self, Bool.and_true, Bool.true_and, Bool.and_false, Bool.false_and, ext_2_0, ext_2_1, bne_self_eq_false, beq_self_eq_true, goG_undef, Bool.not_true, Bool.not_false]
  | true =>
    rw [hg] at hgd
    have hG := goodI_iff.1 hgd.symm
    have fa := cyc_facts hG
    have eb : ba = bestCyc x := by rw [hba]; unfold bestA; rw [← hgd]; rfl
    have ep : pa = powerCyc x := by rw [hpa]; unfold powerA; rw [← hgd]; rfl
    rw [← eb, ← ep] at fa
    have hb1 := fa.hb
    have hp1 := fa.hp
    have n1 := daily_nn hG (c := ba) (by omega)
    have n2 := daily_nn hG (c := pa) (by omega)
    have cb : costC x ba = dailyF x ba ∧ (x.good && inR 1 64 ba) = true := by
      have : (x.good && inR 1 64 ba) = true := by rw [← hgd, Bool.true_and]; exact inR_iff.2 hb1
      exact ⟨by unfold costC; rw [if_pos this], this⟩
    have cp : costC x pa = dailyF x pa ∧ (x.good && inR 1 64 pa) = true := by
      have : (x.good && inR 1 64 pa) = true := by rw [← hgd, Bool.true_and]; exact inR_iff.2 hp1
      exact ⟨by unfold costC; rw [if_pos this], this⟩
    have lp := fa.least pa hp1
    have near := fa.near
    have low := fa.low
    have up := fa.up
    have lc : ok = true → lessF cc (dailyF x ba) = false ∧ (0 ≤ cc.1 ∧ 0 < cc.2 ∧ cc.1 ≤ 47186118 ∧ cc.2 ≤ 1024) := fun h => by
      have h2 := hok.symm.trans h
      have h3 := h2
      rw [Bool.and_eq_true, inR_iff] at h3
      have e1 : cc = dailyF x c := by rw [hcc]; unfold costC; rw [if_pos h2]
      rw [e1]
      exact ⟨fa.least c h3.2, daily_nn hG (by omega)⟩
    have hrt := hG.hd
    have hst := hG.setup
    obtain ⟨lo, hlo⟩ : ∃ t, t = dailyF x ba := ⟨_, rfl⟩
    obtain ⟨hi, hhi⟩ : ∃ t, t = dailyF x pa := ⟨_, rfl⟩
    rw [← hlo] at n1 lp near lc cb
    rw [← hhi] at n2 lp near cp
    have D1 : ∀ M, RC Try.prog 7 [.agg #[.int .i64 x.daily, .int .i64 x.setup, .int .i64 x.hold, .int .i64 x.made, .int .i64 x.pause], .int .i64 ba] M (AnsV (.tuple #[.agg #[.int .i64 lo.1, .int .i64 lo.2], .bool true])) := fun M => by have h := implCycleCost_rc M x ba; rw [cb.1, cb.2] at h; exact h
    have D2 : ∀ M, RC Try.prog 7 [.agg #[.int .i64 x.daily, .int .i64 x.setup, .int .i64 x.hold, .int .i64 x.made, .int .i64 x.pause], .int .i64 pa] M (AnsV (.tuple #[.agg #[.int .i64 hi.1, .int .i64 hi.2], .bool true])) := fun M => by have h := implCycleCost_rc M x pa; rw [cp.1, cp.2] at h; exact h
    have D3 : ∀ M, RC Try.prog 14 [.agg #[.int .i64 hi.1, .int .i64 hi.2], .agg #[.int .i64 lo.1, .int .i64 lo.2]] M (AnsV (.bool false)) := fun M => by have h := rLess_rc M hi lo (mul_fit (by omega) (by omega)) (mul_fit (by omega) (by omega)); rw [lp] at h; exact h
    have D4 : ok = true → ∀ M, RC Try.prog 14 [.agg #[.int .i64 cc.1, .int .i64 cc.2], .agg #[.int .i64 lo.1, .int .i64 lo.2]] M (AnsV (.bool false)) := fun hk M => by have q := lc hk; have h := rLess_rc M cc lo (mul_fit (by omega) (by omega)) (mul_fit (by omega) (by omega)); rw [q.1] at h; exact h
    have k1 := mul_le2 (a := 10000 * hi.1) (x := lo.2) (A := 471861180000) (B := 1024) (by omega) (by omega)
    have k2 := mul_le2 (a := 10607 * lo.1) (x := hi.2) (A := 500503153626) (B := 1024) (by omega) (by omega)
    have k3 := mul_le2 (a := x.hold * x.daily) (x := ba) (A := 180) (B := 64) (by omega) (by omega)
    have k4 := mul_le2 (a := x.hold * x.daily * ba) (x := ba - 1) (A := 11520) (B := 63) (by omega) (by omega)
    have k5 := mul_le2 (a := x.hold * x.daily * ba) (x := ba + 1) (A := 11520) (B := 65) (by omega) (by omega)
    have g1 : ¬ (10607 * lo.1 * hi.2 < 10000 * hi.1 * lo.2) := by omega
    have g2 : ¬ (2 * x.setup ≤ x.hold * x.daily * ba * (ba - 1)) := by omega
    clear near low lp cb cp C1 C2 C3 C4 C5 C6 C7 hcc hok hba hpa fa eb ep hlo hhi
    simp (config := {implicitDefEqProofs := false, maxDischargeDepth := 20}) (disch := first | omega | (simp only [lenE]; done) | (simp only [lenE]; omega) | rfl | (simp only [lenE, markR_len]; done) | (simp only [lenE, markR_len]; omega)) only [runE, mapE, listE, initT_5, initT_6, initT_7, initT_8, resV, oneV, binA, unA, reduceCtorEq, Nat.reduceEqDiff, Nat.reduceAdd, Nat.reduceLT, Nat.reduceLeDiff, Nat.reduceMul, Nat.reduceSub, ↓reduceIte, decide_true, decide_false, Bool.true_eq_false, Bool.false_eq_true, Bool.not_true, Bool.not_false, if_true, if_false, and_true, true_and, memE, celE, w64, Nat.zero_add, Nat.add_zero, Nat.mul_one, putL, and_self, ldn, Bool.and_self, Bool.and_true, Bool.true_and, Bool.and_false, Bool.false_and, ext_2_0, ext_2_1, bne_self_eq_false, beq_self_eq_true, goG_undef, Bool.not_true, Bool.not_false, x3.rd, b5.rd, x3.ld5, b5.ld2]
    refine callH_rc (D1 _) ?_
    rintro r new ⟨rfl, nr⟩
    have x3 := x3.ext new
    have b5 := b5.ext new
    obtain ⟨N11, hN⟩ : ∃ N, N = N10 ++ new := ⟨_, rfl⟩
    rw [← hN] at x3 b5 ⊢
    clear hN nr
    try simp (config := {implicitDefEqProofs := false, maxDischargeDepth := 20}) (disch := first | omega | (simp only [lenE]; done) | (simp only [lenE]; omega) | rfl | (simp only [lenE, markR_len]; done) | (simp only [lenE, markR_len]; omega)) only [runE, mapE, listE, initT_5, initT_6, initT_7, initT_8, resV, oneV, binA, unA, reduceCtorEq, Nat.reduceEqDiff, Nat.reduceAdd, Nat.reduceLT, Nat.reduceLeDiff, Nat.reduceMul, Nat.reduceSub, ↓reduceIte, decide_true, decide_false, Bool.true_eq_false, Bool.false_eq_true, Bool.not_true, Bool.not_false, if_true, if_false, and_true, true_and, memE, celE, w64, Nat.zero_add, Nat.add_zero, Nat.mul_one, putL, and_self, ldn, Bool.and_self, Bool.and_true, Bool.true_and, Bool.and_false, Bool.false_and, ext_2_0, ext_2_1, bne_self_eq_false, beq_self_eq_true, goG_undef, Bool.not_true, Bool.not_false, x3.rd, b5.rd, x3.ld5, b5.ld2, stP_agg2]
    have b17 : OwnB (N11 ++ [⟨.own, 28, [.int .i64 lo.1, .int .i64 lo.2]⟩]) N11.length 28 [.int .i64 lo.1, .int .i64 lo.2] := OwnB.here rfl
    have x3 := x3.ext [⟨.own, 28, [.int .i64 lo.1, .int .i64 lo.2]⟩]
    have b5 := b5.ext [⟨.own, 28, [.int .i64 lo.1, .int .i64 lo.2]⟩]
    obtain ⟨N12, hN⟩ : ∃ N, N = N11 ++ [⟨.own, 28, [.int .i64 lo.1, .int .i64 lo.2]⟩] := ⟨_, rfl⟩
    rw [← hN] at x3 b5 b17 ⊢
    clear hN
    try simp (config := {implicitDefEqProofs := false, maxDischargeDepth := 20}) (disch := first | omega | (simp only [lenE]; done) | (simp only [lenE]; omega) | rfl | (simp only [lenE, markR_len]; done) | (simp only [lenE, markR_len]; omega)) only [runE, mapE, listE, initT_5, initT_6, initT_7, initT_8, resV, oneV, binA, unA, reduceCtorEq, Nat.reduceEqDiff, Nat.reduceAdd, Nat.reduceLT, Nat.reduceLeDiff, Nat.reduceMul, Nat.reduceSub, ↓reduceIte, decide_true, decide_false, Bool.true_eq_false, Bool.false_eq_true, Bool.not_true, Bool.not_false, if_true, if_false, and_true, true_and, memE, celE, w64, Nat.zero_add, Nat.add_zero, Nat.mul_one, putL, and_self, ldn, Bool.and_self, Bool.and_true, Bool.true_and, Bool.and_false, Bool.false_and, ext_2_0, ext_2_1, bne_self_eq_false, beq_self_eq_true, goG_undef, Bool.not_true, Bool.not_false, x3.rd, b5.rd, b17.rd, x3.ld5, b5.ld2, b17.ld2]
    refine callH_rc (D2 _) ?_
    rintro r new ⟨rfl, nr⟩
    have x3 := x3.ext new
    have b5 := b5.ext new
    have b17 := b17.ext new
    obtain ⟨N13, hN⟩ : ∃ N, N = N12 ++ new := ⟨_, rfl⟩
    rw [← hN] at x3 b5 b17 ⊢
    clear hN nr
    try simp (config := {implicitDefEqProofs := false, maxDischargeDepth := 20}) (disch := first | omega | (simp only [lenE]; done) | (simp only [lenE]; omega) | rfl | (simp only [lenE, markR_len]; done) | (simp only [lenE, markR_len]; omega)) only [runE, mapE, listE, initT_5, initT_6, initT_7, initT_8, resV, oneV, binA, unA, reduceCtorEq, Nat.reduceEqDiff, Nat.reduceAdd, Nat.reduceLT, Nat.reduceLeDiff, Nat.reduceMul, Nat.reduceSub, ↓reduceIte, decide_true, decide_false, Bool.true_eq_false, Bool.false_eq_true, Bool.not_true, Bool.not_false, if_true, if_false, and_true, true_and, memE, celE, w64, Nat.zero_add, Nat.add_zero, Nat.mul_one, putL, and_self, ldn, Bool.and_self, Bool.and_true, Bool.true_and, Bool.and_false, Bool.false_and, ext_2_0, ext_2_1, bne_self_eq_false, beq_self_eq_true, goG_undef, Bool.not_true, Bool.not_false, x3.rd, b5.rd, b17.rd, x3.ld5, b5.ld2, b17.ld2, stP_agg2]
    have b19 : OwnB (N13 ++ [⟨.own, 28, [.int .i64 hi.1, .int .i64 hi.2]⟩]) N13.length 28 [.int .i64 hi.1, .int .i64 hi.2] := OwnB.here rfl
    have x3 := x3.ext [⟨.own, 28, [.int .i64 hi.1, .int .i64 hi.2]⟩]
    have b5 := b5.ext [⟨.own, 28, [.int .i64 hi.1, .int .i64 hi.2]⟩]
    have b17 := b17.ext [⟨.own, 28, [.int .i64 hi.1, .int .i64 hi.2]⟩]
    obtain ⟨N14, hN⟩ : ∃ N, N = N13 ++ [⟨.own, 28, [.int .i64 hi.1, .int .i64 hi.2]⟩] := ⟨_, rfl⟩
    rw [← hN] at x3 b5 b17 b19 ⊢
    clear hN
    try simp (config := {implicitDefEqProofs := false, maxDischargeDepth := 20}) (disch := first | omega | (simp only [lenE]; done) | (simp only [lenE]; omega) | rfl | (simp only [lenE, markR_len]; done) | (simp only [lenE, markR_len]; omega)) only [runE, mapE, listE, initT_5, initT_6, initT_7, initT_8, resV, oneV, binA, unA, reduceCtorEq, Nat.reduceEqDiff, Nat.reduceAdd, Nat.reduceLT, Nat.reduceLeDiff, Nat.reduceMul, Nat.reduceSub, ↓reduceIte, decide_true, decide_false, Bool.true_eq_false, Bool.false_eq_true, Bool.not_true, Bool.not_false, if_true, if_false, and_true, true_and, memE, celE, w64, Nat.zero_add, Nat.add_zero, Nat.mul_one, putL, and_self, ldn, Bool.and_self, Bool.and_true, Bool.true_and, Bool.and_false, Bool.false_and, ext_2_0, ext_2_1, bne_self_eq_false, beq_self_eq_true, goG_undef, Bool.not_true, Bool.not_false, x3.rd, b5.rd, b17.rd, b19.rd, x3.ld5, b5.ld2, b17.ld2, b19.ld2]
    refine callH_rc (D3 _) ?_
    rintro r new ⟨rfl, nr⟩
    have x3 := x3.ext new
    have b5 := b5.ext new
    have b17 := b17.ext new
    have b19 := b19.ext new
    obtain ⟨N15, hN⟩ : ∃ N, N = N14 ++ new := ⟨_, rfl⟩
    rw [← hN] at x3 b5 b17 b19 ⊢
    clear hN nr
    have i0 := fun a => iada_0 a 0 1
    have i1 := fun a => iada_1 a 0 0
    have fin : ok = true ∨ ok = false := by cases ok <;> simp
    by_cases h64 : ba < 64
    · have g3 : ¬ (x.hold * x.daily * ba * (ba + 1) < 2 * x.setup) := by have := up h64; omega
      rcases fin with hk | hk
      · subst hk
        simp (config := {implicitDefEqProofs := false, maxDischargeDepth := 20}) (disch := first | omega | (simp only [lenE]; done) | (simp only [lenE]; omega) | rfl | (simp only [lenE, markR_len]; done) | (simp only [lenE, markR_len]; omega)) only [runE, mapE, listE, initT_5, initT_6, initT_7, initT_8, resV, oneV, binA, unA, reduceCtorEq, Nat.reduceEqDiff, Nat.reduceAdd, Nat.reduceLT, Nat.reduceLeDiff, Nat.reduceMul, Nat.reduceSub, ↓reduceIte, decide_true, decide_false, Bool.true_eq_false, Bool.false_eq_true, Bool.not_true, Bool.not_false, if_true, if_false, and_true, true_and, memE, celE, w64, Nat.zero_add, Nat.add_zero, Nat.mul_one, putL, and_self, ldn, Bool.and_self, Bool.and_true, Bool.true_and, Bool.and_false, Bool.false_and, ext_2_0, ext_2_1, bne_self_eq_false, beq_self_eq_true, goG_undef, Bool.not_true, Bool.not_false, x3.rd, b5.rd, b17.rd, b19.rd, x3.ld5, b5.ld2, b17.ld2, b19.ld2, i0, i1, gt_iff_lt, ge_iff_le, g1, g2, h64, g3]
        refine callH_rc (D4 rfl _) ?_
        rintro r new ⟨rfl, nr⟩
        have x3 := x3.ext new
        have b5 := b5.ext new
        have b17 := b17.ext new
        have b19 := b19.ext new
        obtain ⟨N16, hN⟩ : ∃ N, N = N15 ++ new := ⟨_, rfl⟩
        rw [← hN] at x3 b5 b17 b19 ⊢
        clear hN nr
        simp (config := {implicitDefEqProofs := false, maxDischargeDepth := 20}) (disch := first | omega | (simp only [lenE]; done) | (simp only [lenE]; omega) | rfl | (simp only [lenE, markR_len]; done) | (simp only [lenE, markR_len]; omega)) only [runE, mapE, listE, initT_5, initT_6, initT_7, initT_8, resV, oneV, binA, unA, reduceCtorEq, Nat.reduceEqDiff, Nat.reduceAdd, Nat.reduceLT, Nat.reduceLeDiff, Nat.reduceMul, Nat.reduceSub, ↓reduceIte, decide_true, decide_false, Bool.true_eq_false, Bool.false_eq_true, Bool.not_true, Bool.not_false, if_true, if_false, and_true, true_and, memE, celE, w64, Nat.zero_add, Nat.add_zero, Nat.mul_one, putL, and_self, ldn, Bool.and_self, Bool.and_true, Bool.true_and, Bool.and_false, Bool.false_and, ext_2_0, ext_2_1, bne_self_eq_false, beq_self_eq_true, goG_undef, Bool.not_true, Bool.not_false]
      · subst hk
        simp (config := {implicitDefEqProofs := false, maxDischargeDepth := 20}) (disch := first | omega | (simp only [lenE]; done) | (simp only [lenE]; omega) | rfl | (simp only [lenE, markR_len]; done) | (simp only [lenE, markR_len]; omega)) only [runE, mapE, listE, initT_5, initT_6, initT_7, initT_8, resV, oneV, binA, unA, reduceCtorEq, Nat.reduceEqDiff, Nat.reduceAdd, Nat.reduceLT, Nat.reduceLeDiff, Nat.reduceMul, Nat.reduceSub, ↓reduceIte, decide_true, decide_false, Bool.true_eq_false, Bool.false_eq_true, Bool.not_true, Bool.not_false, if_true, if_false, and_true, true_and, memE, celE, w64, Nat.zero_add, Nat.add_zero, Nat.mul_one, putL, and_self, ldn, Bool.and_self, Bool.and_true, Bool.true_and, Bool.and_false, Bool.false_and, ext_2_0, ext_2_1, bne_self_eq_false, beq_self_eq_true, goG_undef, Bool.not_true, Bool.not_false, x3.rd, b5.rd, b17.rd, b19.rd, x3.ld5, b5.ld2, b17.ld2, b19.ld2, i0, i1, gt_iff_lt, ge_iff_le, g1, g2, h64, g3]
    · have h65 : ¬ (ba < 64) := h64
      rcases fin with hk | hk
      · subst hk
        simp (config := {implicitDefEqProofs := false, maxDischargeDepth := 20}) (disch := first | omega | (simp only [lenE]; done) | (simp only [lenE]; omega) | rfl | (simp only [lenE, markR_len]; done) | (simp only [lenE, markR_len]; omega)) only [runE, mapE, listE, initT_5, initT_6, initT_7, initT_8, resV, oneV, binA, unA, reduceCtorEq, Nat.reduceEqDiff, Nat.reduceAdd, Nat.reduceLT, Nat.reduceLeDiff, Nat.reduceMul, Nat.reduceSub, ↓reduceIte, decide_true, decide_false, Bool.true_eq_false, Bool.false_eq_true, Bool.not_true, Bool.not_false, if_true, if_false, and_true, true_and, memE, celE, w64, Nat.zero_add, Nat.add_zero, Nat.mul_one, putL, and_self, ldn, Bool.and_self, Bool.and_true, Bool.true_and, Bool.and_false, Bool.false_and, ext_2_0, ext_2_1, bne_self_eq_false, beq_self_eq_true, goG_undef, Bool.not_true, Bool.not_false, x3.rd, b5.rd, b17.rd, b19.rd, x3.ld5, b5.ld2, b17.ld2, b19.ld2, i0, i1, gt_iff_lt, ge_iff_le, g1, g2, h65]
        refine callH_rc (D4 rfl _) ?_
        rintro r new ⟨rfl, nr⟩
        have x3 := x3.ext new
        have b5 := b5.ext new
        have b17 := b17.ext new
        have b19 := b19.ext new
        obtain ⟨N16, hN⟩ : ∃ N, N = N15 ++ new := ⟨_, rfl⟩
        rw [← hN] at x3 b5 b17 b19 ⊢
        clear hN nr
        simp (config := {implicitDefEqProofs := false, maxDischargeDepth := 20}) (disch := first | omega | (simp only [lenE]; done) | (simp only [lenE]; omega) | rfl | (simp only [lenE, markR_len]; done) | (simp only [lenE, markR_len]; omega)) only [runE, mapE, listE, initT_5, initT_6, initT_7, initT_8, resV, oneV, binA, unA, reduceCtorEq, Nat.reduceEqDiff, Nat.reduceAdd, Nat.reduceLT, Nat.reduceLeDiff, Nat.reduceMul, Nat.reduceSub, ↓reduceIte, decide_true, decide_false, Bool.true_eq_false, Bool.false_eq_true, Bool.not_true, Bool.not_false, if_true, if_false, and_true, true_and, memE, celE, w64, Nat.zero_add, Nat.add_zero, Nat.mul_one, putL, and_self, ldn, Bool.and_self, Bool.and_true, Bool.true_and, Bool.and_false, Bool.false_and, ext_2_0, ext_2_1, bne_self_eq_false, beq_self_eq_true, goG_undef, Bool.not_true, Bool.not_false]
      · subst hk
        simp (config := {implicitDefEqProofs := false, maxDischargeDepth := 20}) (disch := first | omega | (simp only [lenE]; done) | (simp only [lenE]; omega) | rfl | (simp only [lenE, markR_len]; done) | (simp only [lenE, markR_len]; omega)) only [runE, mapE, listE, initT_5, initT_6, initT_7, initT_8, resV, oneV, binA, unA, reduceCtorEq, Nat.reduceEqDiff, Nat.reduceAdd, Nat.reduceLT, Nat.reduceLeDiff, Nat.reduceMul, Nat.reduceSub, ↓reduceIte, decide_true, decide_false, Bool.true_eq_false, Bool.false_eq_true, Bool.not_true, Bool.not_false, if_true, if_false, and_true, true_and, memE, celE, w64, Nat.zero_add, Nat.add_zero, Nat.mul_one, putL, and_self, ldn, Bool.and_self, Bool.and_true, Bool.true_and, Bool.and_false, Bool.false_and, ext_2_0, ext_2_1, bne_self_eq_false, beq_self_eq_true, goG_undef, Bool.not_true, Bool.not_false, x3.rd, b5.rd, b17.rd, b19.rd, x3.ld5, b5.ld2, b17.ld2, b19.ld2, i0, i1, gt_iff_lt, ge_iff_le, g1, g2, h65]
end Go.Proofs.Ytbjjkcoecaopcaa.Ab
end
section
namespace Go.Proofs.Ytbjjkcoecaopcaa.Ab
open Go Go.RowKit
set_option linter.unusedVariables false
theorem ws_word : ∀ (p r : List Char), p.all (fun c => c != ' ') = true → wordsSigns (p ++ ' ' :: r) = p :: wordsSigns r
  | [], r, _ => by rw [List.nil_append, wordsSigns]
  | c :: p, r, h => by
    rw [List.all_cons, Bool.and_eq_true] at h
    have hc : c ≠ ' ' := by simpa using h.1
    rw [List.cons_append, wordsSigns, ws_word p r h.2]
    intro e; exact hc e
def sumW : List Char := ['d', '7', 'e', '2', '6', '6', '3', 'b', 'e', '1', '3', '2', '0', 'b', '9', 'd', 'd', '3', 'e', 'c', '6', '4', '5', '2', 'a', '2', 'c', '1', '1', 'b', '4', '2', '2', 'b', '6', '4', 'a', '0', '9', '1', '6', '8', 'f', '6', 'a', 'a', '5', 'c', '1', '2', '8', 'b', '0', 'e', '7', '9', '2', '4', '6', 'c', '6', '0', 'b', '9']
def restW : List Char := ['a', 't', ' ', 'l', 'o', 'o', 'p', '.', 'e', 'x', 'a', 'm', 'p', 'l', 'e', '/', 'g', '0', '1', '1', '1', '1', '/', 'l', 'a', 'w', 's', '.', 'F', 'n', 'C', 'y', 'c', 'l', 'e', 's', ' ', 'l', 'o', 'o', 'p', '.', 'e', 'x', 'a', 'm', 'p', 'l', 'e', '/', 'g', '0', '1', '1', '1', '1', '/', 'l', 'a', 'w', 's', '.', 'F', 'n', 'C', 'o', 'm', 'm', 'o', 'n']
set_option maxRecDepth 100000 in
theorem head_is : Try.prog.initOrder = String.ofList (['h', 'a', 'r', 'n', 'e', 's', 's'] ++ ' ' :: (sumW ++ ' ' :: (['c', 'u', 't'] ++ ' ' :: restW))) := by kernel_rfl
set_option maxRecDepth 100000 in
theorem sum_ok : isSumSigns sumW = true := by kernel_rfl
theorem head_words : behindMainWord (wordsSigns Try.prog.initOrder.toList) = ['c', 'u', 't'] :: wordsSigns restW := by
  rw [head_is, String.toList_ofList, ws_word _ _ (by decide), ws_word _ _ (by decide), ws_word _ _ (by decide)]
  simp only [behindMainWord, sum_ok, Bool.and_true]
  rfl
set_option maxRecDepth 100000 in
theorem strip_cut (X : List (List Char)) : stripLifts liftWords (['c', 'u', 't'] :: X) = ([], ['c', 'u', 't'] :: X) := by kernel_rfl
theorem lifts_gen (P : Program) (X : List (List Char)) (h : behindMainWord (wordsSigns P.initOrder.toList) = ['c', 'u', 't'] :: X) : P.headLifts = [] := by
  unfold Program.headLifts
  rw [h, strip_cut]
  rfl
theorem enters_gen (P : Program) (X : List (List Char)) (h : behindMainWord (wordsSigns P.initOrder.toList) = ['c', 'u', 't'] :: X) (h1 : P.laysLater = false) (h2 : P.bearsReflect = false) (h3 : P.doorFits [] = true) : P.mayEnter = true := by
  unfold Program.mayEnter
  rw [h]
  simp only [strip_cut, h1, h2, h3]
  rfl
theorem finals_gen (P : Program) (X : List (List Char)) (h : behindMainWord (wordsSigns P.initOrder.toList) = ['c', 'u', 't'] :: X) : P.liftsFinal = false := by
  unfold Program.liftsFinal
  rw [lifts_gen P X h, h]
  rfl
theorem make_gen (P : Program) (X : List (List Char)) (h : behindMainWord (wordsSigns P.initOrder.toList) = ['c', 'u', 't'] :: X) : P.make = some .cut := by
  unfold Program.make
  rw [h]
  rfl
set_option maxRecDepth 100000 in
theorem enters : Try.prog.mayEnter = true := enters_gen _ _ head_words (by kernel_rfl) (by kernel_rfl) (by kernel_rfl)
theorem no_finals : Try.prog.liftsFinal = false := finals_gen _ _ head_words
theorem makes : Try.prog.make = some .cut := make_gen _ _ head_words
end Go.Proofs.Ytbjjkcoecaopcaa.Ab
end
