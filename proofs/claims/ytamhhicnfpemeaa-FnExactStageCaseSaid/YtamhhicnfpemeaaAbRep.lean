/- Rows of one number, over and over: slices.Repeat. -/
import Derived.Test.YtamhhicnfpemeaaAbObj2
namespace Go.Proofs.Ytamhhicnfpemeaa.Ab
open Go Go.RowKit
set_option linter.unusedVariables false
set_option linter.unusedSimpArgs false

theorem u64_small {n : Nat} (h : n ≤ 8) : IntKind.u64.wrap (n : Int) = n := by
  have : n = 0 ∨ n = 1 ∨ n = 2 ∨ n = 3 ∨ n = 4 ∨ n = 5 ∨ n = 6 ∨ n = 7 ∨ n = 8 := by omega
  rcases this with rfl | rfl | rfl | rfl | rfl | rfl | rfl | rfl | rfl <;> rfl
theorem and_small {n : Nat} (h : n ≤ 8) : IntKind.u64.wrap ((BitVec.ofInt IntKind.u64.bits (n : Int) &&& BitVec.ofInt IntKind.u64.bits 4294967295).toNat : Int) = n := by
  have : n = 0 ∨ n = 1 ∨ n = 2 ∨ n = 3 ∨ n = 4 ∨ n = 5 ∨ n = 6 ∨ n = 7 ∨ n = 8 := by omega
  rcases this with rfl | rfl | rfl | rfl | rfl | rfl | rfl | rfl | rfl <;> rfl
theorem shr_small {n : Nat} (h : n ≤ 8) : Int.fdiv (n : Int) (2 ^ (min (Int.toNat 32) IntKind.u64.bits)) = 0 := by
  have : n = 0 ∨ n = 1 ∨ n = 2 ∨ n = 3 ∨ n = 4 ∨ n = 5 ∨ n = 6 ∨ n = 7 ∨ n = 8 := by omega
  rcases this with rfl | rfl | rfl | rfl | rfl | rfl | rfl | rfl | rfl <;> rfl
theorem mul64_rc (m : Mem) (n : Nat) (h : n ≤ 8) : RC Try.prog 165 [.int .u64 1, .int .u64 n] m fun r new => r = .tuple #[.int .u64 0, .int .u64 n] ∧ new = [] := by
  refine rc_of_run mixed ok_math_bits_Mul64 (by simp) (go_start _ _ _ ?_)
  have a1 : IntKind.u64.wrap ((BitVec.ofInt IntKind.u64.bits (1 : Int) &&& BitVec.ofInt IntKind.u64.bits 4294967295).toNat : Int) = 1 := rfl
  have a0 : IntKind.u64.wrap ((BitVec.ofInt IntKind.u64.bits (0 : Int) &&& BitVec.ofInt IntKind.u64.bits 4294967295).toNat : Int) = 0 := rfl
  have s1 : Int.fdiv (1 : Int) (2 ^ (min (Int.toNat 32) IntKind.u64.bits)) = 0 := rfl
  have s0 : Int.fdiv (0 : Int) (2 ^ (min (Int.toNat 32) IntKind.u64.bits)) = 0 := rfl
  have z0 : IntKind.u64.wrap 0 = 0 := rfl
  have lt : ¬ ((32 : Int) < 0) := by decide
  simp (config := {implicitDefEqProofs := false, maxDischargeDepth := 20}) (disch := first | omega | (simp only [lenE]; done) | (simp only [lenE]; omega) | rfl | (simp only [lenE, markR_len]; done) | (simp only [lenE, markR_len]; omega)) only [runE, mapE, listE, initT_5, initT_6, initT_7, initT_8, resV, oneV, binA, unA, reduceCtorEq, Nat.reduceEqDiff, Nat.reduceAdd, Nat.reduceLT, Nat.reduceLeDiff, Nat.reduceMul, Nat.reduceSub, ↓reduceIte, decide_true, decide_false, Bool.true_eq_false, Bool.false_eq_true, Bool.not_true, Bool.not_false, if_true, if_false, and_true, true_and, memE, celE, w64, Nat.zero_add, Nat.add_zero, Nat.mul_one, putL, and_self, ldn, c_math_bits_Mul64, r_math_bits_Mul64, a1, a0, s1, s0, z0, lt, and_small h, shr_small h, u64_small h, Int.zero_mul, Int.one_mul, Int.mul_zero, Int.zero_add, Int.add_zero]
  exact newQ_nil ⟨rfl, rfl⟩
theorem bmul_rc (m : Mem) (n : Nat) (h : n ≤ 8) : RC Try.prog 148 [.int .u64 1, .int .u64 n] m fun r new => r = .tuple #[.int .u64 0, .int .u64 n] ∧ new = [] := by
  refine rc_of_run mixed ok_math_bits_Mul (by simp) (go_start _ _ _ ?_)
  simp (config := {implicitDefEqProofs := false, maxDischargeDepth := 20}) (disch := first | omega | (simp only [lenE]; done) | (simp only [lenE]; omega) | rfl | (simp only [lenE, markR_len]; done) | (simp only [lenE, markR_len]; omega)) only [runE, mapE, listE, initT_5, initT_6, initT_7, initT_8, resV, oneV, binA, unA, reduceCtorEq, Nat.reduceEqDiff, Nat.reduceAdd, Nat.reduceLT, Nat.reduceLeDiff, Nat.reduceMul, Nat.reduceSub, ↓reduceIte, decide_true, decide_false, Bool.true_eq_false, Bool.false_eq_true, Bool.not_true, Bool.not_false, if_true, if_false, and_true, true_and, memE, celE, w64, Nat.zero_add, Nat.add_zero, Nat.mul_one, putL, and_self, ldn, c_math_bits_Mul, r_math_bits_Mul]
  refine callH_rc (mul64_rc _ n h) ?_
  rintro r new ⟨rfl, rfl⟩
  rw [List.append_nil]
  simp (config := {implicitDefEqProofs := false, maxDischargeDepth := 20}) (disch := first | omega | (simp only [lenE]; done) | (simp only [lenE]; omega) | rfl | (simp only [lenE, markR_len]; done) | (simp only [lenE, markR_len]; omega)) only [runE, mapE, listE, initT_5, initT_6, initT_7, initT_8, resV, oneV, binA, unA, reduceCtorEq, Nat.reduceEqDiff, Nat.reduceAdd, Nat.reduceLT, Nat.reduceLeDiff, Nat.reduceMul, Nat.reduceSub, ↓reduceIte, decide_true, decide_false, Bool.true_eq_false, Bool.false_eq_true, Bool.not_true, Bool.not_false, if_true, if_false, and_true, true_and, memE, celE, w64, Nat.zero_add, Nat.add_zero, Nat.mul_one, putL, and_self, ldn, ext_2_0, ext_2_1]
  exact newQ_nil ⟨rfl, rfl⟩

theorem putL_app' (A : List Value) : ∀ (vs B : List Value), vs.length ≤ B.length → putL (A ++ B) A.length vs = A ++ (vs ++ B.drop vs.length) := by
  intro vs
  induction vs generalizing A with
  | nil => intro B _; simp [putL]
  | cons x vs ih =>
    intro B h
    cases B with
    | nil => simp at h
    | cons b B =>
      rw [putL, List.set_append_right _ _ (Nat.le_refl _), Nat.sub_self, List.set_cons_zero]
      have := ih (A ++ [x]) B (by simpa using h)
      rw [List.length_append, List.length_singleton, List.append_assoc, List.singleton_append] at this
      rw [this]; simp
/-- A row that is filled with x up to j. -/
def repR (x : Int) (j n : Nat) : List Int := List.replicate j x ++ List.replicate (n - j) 0
theorem repR_len {x : Int} {j n : Nat} (h : j ≤ n) : (repR x j n).length = n := by simp [repR]; omega
theorem repR_full (x : Int) (n : Nat) : repR x n n = List.replicate n x := by simp [repR]
theorem repR_none (x : Int) (n : Nat) : repR x 0 n = List.replicate n 0 := by simp [repR]
theorem repR_put {x : Int} {j n q : Nat} (h : j + q ≤ n) : putL ((repR x j n).map (Value.int .i64)) j (List.replicate q (Value.int .i64 x)) = (repR x (j + q) n).map (Value.int .i64) := by
  unfold repR
  rw [List.map_append, List.map_append]
  have := putL_app' ((List.replicate j x).map (Value.int .i64)) (List.replicate q (Value.int .i64 x)) ((List.replicate (n - j) (0 : Int)).map (Value.int .i64)) (by simp; omega)
  simp only [List.length_map, List.length_replicate] at this
  rw [this]
  simp only [List.map_replicate, List.drop_replicate, List.replicate_append_replicate, ← List.append_assoc]
  rw [show n - j - q = n - (j + q) by omega]
theorem rep_copy {M : Mem} {id j n q fl : Nat} {x : Int} {v : Value} {xs : List Int} (h : OwnR M id (repR x j n)) (hj : j ≤ n) (hi : IntsA M v xs) (hq : q = min xs.length (n - j)) (hx : xs.take q = List.replicate q x) :
    cpyA M 1 (.slice (some ⟨id, j, none⟩) (n - j) fl) v = some (.int .i64 (q : Nat), M.set id (rowB (repR x (j + q) n))) := by
  unfold cpyA
  rw [hi.src]
  simp only [hi.lenOf, ← hq, Nat.mul_one, onesB_ints, if_true]
  rw [← List.map_take, hx, List.map_replicate]
  have hr := repR_len (x := x) hj
  have := OwnB.st (M := M) (id := id) (e := 3) (cs := (repR x j n).map (Value.int .i64)) h (off := j) (vs := List.replicate q (Value.int .i64 x)) (by simp [hr]; omega) (by simp [onesB, Value.oneCell'])
  rw [this, repR_put (by omega)]

set_option maxHeartbeats 1000000 in
theorem repeat_rc (m : Mem) (v : Value) (x : Int) (n : Nat) (h : IntsA m v [x]) (h8 : n ≤ 8) : RC Try.prog 121 [v, .int .i64 n] m (AnsR m (List.replicate n x)) := by
  refine rc_of_run mixed ok_slices_Repeat (by simp) (go_start _ _ _ ?_)
  have hv := h.ro
  have n0 : ¬ ((n : Int) < 0) := by omega
  have z1 : IntKind.u64.wrap 1 = 1 := rfl
  have hl := hv.len
  simp only [List.length_singleton, Int.natCast_one] at hl
  simp (config := {implicitDefEqProofs := false, maxDischargeDepth := 20}) (disch := first | omega | (simp only [lenE]; done) | (simp only [lenE]; omega) | rfl | (simp only [lenE, markR_len]; done) | (simp only [lenE, markR_len]; omega)) only [runE, mapE, listE, initT_5, initT_6, initT_7, initT_8, resV, oneV, binA, unA, reduceCtorEq, Nat.reduceEqDiff, Nat.reduceAdd, Nat.reduceLT, Nat.reduceLeDiff, Nat.reduceMul, Nat.reduceSub, ↓reduceIte, decide_true, decide_false, Bool.true_eq_false, Bool.false_eq_true, Bool.not_true, Bool.not_false, if_true, if_false, and_true, true_and, memE, celE, w64, Nat.zero_add, Nat.add_zero, Nat.mul_one, putL, and_self, ldn, c_slices_Repeat, r_slices_Repeat, n0, hl, z1, u64_small h8]
  refine callH_rc (bmul_rc _ n h8) ?_
  rintro r new ⟨rfl, rfl⟩
  rw [List.append_nil]
  have g0 : ¬ ((0 : Int) < 0) := by omega
  have g1 : ¬ ((9223372036854775807 : Int) < n) := by omega
  have mk := fun M => mksA_nat M 3 8 n (.int .i64 0) (by omega)
  have o0 : OwnR (roM m ++ [⟨.own, 3, List.replicate n (.int .i64 0)⟩]) m.length (repR x 0 n) := by
    rw [repR_none]; exact OwnR.zeros (by simp [roM_len])
  have c1 := rep_copy (fl := 1) (q := min 1 n) o0 (Nat.zero_le _) (hv.ext _) (by simp) (by
    rcases Nat.eq_zero_or_pos n with hz | hz
    · rw [hz]; simp
    · rw [show min 1 n = 1 by omega]; rfl)
  rw [Nat.sub_zero, Nat.zero_add] at c1
  simp (config := {implicitDefEqProofs := false, maxDischargeDepth := 20}) (disch := first | omega | (simp only [lenE]; done) | (simp only [lenE]; omega) | rfl | (simp only [lenE, markR_len]; done) | (simp only [lenE, markR_len]; omega)) only [runE, mapE, listE, initT_5, initT_6, initT_7, initT_8, resV, oneV, binA, unA, reduceCtorEq, Nat.reduceEqDiff, Nat.reduceAdd, Nat.reduceLT, Nat.reduceLeDiff, Nat.reduceMul, Nat.reduceSub, ↓reduceIte, decide_true, decide_false, Bool.true_eq_false, Bool.false_eq_true, Bool.not_true, Bool.not_false, if_true, if_false, and_true, true_and, memE, celE, w64, Nat.zero_add, Nat.add_zero, Nat.mul_one, putL, and_self, ldn, ext_2_0, ext_2_1, gt_iff_lt, g0, g1, goG_undef, mk, c1]
  have hx0 : Ext m ((roM m ++ [(⟨.own, 3, List.replicate n (.int .i64 0)⟩ : Blk)]).set m.length (rowB (repR x (min 1 n) n))) := (Ext.refl m).grow (Grow.put (M0 := roM m) ((Grow.refl _).one _ _) (by rw [roM_len]; exact Nat.le_refl _) _ _)
  refine loop_inv mixed (fun s => ∃ (j : Nat) (M : Mem), j ≤ n ∧ min 1 n ≤ j ∧ s.m = M ∧ Ext m M ∧ OwnR M m.length (repR x j n) ∧ s.t 7 = .slice (some ⟨m.length, 0, none⟩) n 1 ∧ s.t 8 = .int .i64 j) (fun s => n - (intOf (s.t 8)).toNat)
    ⟨min 1 n, _, by omega, by omega, rfl, hx0, OwnR.set_self o0, rfl, rfl⟩ ?_
  rintro s ⟨j, M, hj, hj1, tm, hx, ho, t7, t8⟩
  by_cases hlt : j < n
  · have hlt' : (j : Int) < n := by omega
    have s1 : slcA 1 (.slice (some ⟨m.length, 0, none⟩) n 1) (some (.int .i64 j)) none = some (.slice (some ⟨m.length, j, none⟩) (n - j) 0) := by
      simp [slcA, boundA, hj]
    have s2 : slcA 1 (.slice (some ⟨m.length, 0, none⟩) n 1) none (some (.int .i64 j)) = some (.slice (some ⟨m.length, 0, none⟩) j 1) := by
      simp [slcA, boundA, hj]
    have hrl := repR_len (x := x) hj
    obtain ⟨v2, e2, i2⟩ := (ho.ints (by omega) 1).pre (hi := j) (by omega)
    rw [hrl, s2] at e2
    cases e2
    have hcut : cutL (repR x j n) 0 j = List.replicate j x := by
      unfold cutL repR
      rw [List.drop_zero, List.take_append_of_le_length (by simp), List.take_of_length_le (by simp)]
    rw [hcut] at i2
    have c2 := rep_copy (fl := 0) (q := min j (n - j)) ho hj i2 (by simp) (by rw [List.take_replicate]; congr 1; omega)
    simp (config := {implicitDefEqProofs := false, maxDischargeDepth := 20}) (disch := first | omega | (simp only [lenE]; done) | (simp only [lenE]; omega) | rfl | (simp only [lenE, markR_len]; done) | (simp only [lenE, markR_len]; omega)) only [runE, mapE, listE, initT_5, initT_6, initT_7, initT_8, resV, oneV, binA, unA, reduceCtorEq, Nat.reduceEqDiff, Nat.reduceAdd, Nat.reduceLT, Nat.reduceLeDiff, Nat.reduceMul, Nat.reduceSub, ↓reduceIte, decide_true, decide_false, Bool.true_eq_false, Bool.false_eq_true, Bool.not_true, Bool.not_false, if_true, if_false, and_true, true_and, memE, celE, w64, Nat.zero_add, Nat.add_zero, Nat.mul_one, putL, and_self, ldn, tm, t7, t8, hlt', Option.map_none, s1, s2, c2]
    refine ⟨⟨j + min j (n - j), _, by omega, by omega, rfl, ?_, OwnR.set_self ho, rfl⟩, by simp only [intOf]; omega⟩
    obtain ⟨n0, rfl, hn⟩ := hx
    exact (Ext.refl m).grow (Grow.put (M0 := roM m) ((Grow.refl _).app hn) (by rw [roM_len]; exact Nat.le_refl _) _ _)
  · have hlt' : ¬ ((j : Int) < n) := by omega
    have e : j = n := by omega
    subst e
    rw [repR_full] at ho
    simp (config := {implicitDefEqProofs := false, maxDischargeDepth := 20}) (disch := first | omega | (simp only [lenE]; done) | (simp only [lenE]; omega) | rfl | (simp only [lenE, markR_len]; done) | (simp only [lenE, markR_len]; omega)) only [runE, mapE, listE, initT_5, initT_6, initT_7, initT_8, resV, oneV, binA, unA, reduceCtorEq, Nat.reduceEqDiff, Nat.reduceAdd, Nat.reduceLT, Nat.reduceLeDiff, Nat.reduceMul, Nat.reduceSub, ↓reduceIte, decide_true, decide_false, Bool.true_eq_false, Bool.false_eq_true, Bool.not_true, Bool.not_false, if_true, if_false, and_true, true_and, memE, celE, w64, Nat.zero_add, Nat.add_zero, Nat.mul_one, putL, and_self, ldn, tm, t7, t8, hlt']
    exact ext_ansR hx ho (by omega) (by simp) (by simp; omega)
end Go.Proofs.Ytamhhicnfpemeaa.Ab
