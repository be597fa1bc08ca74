/- Policies: bills, the best move, by both programs. -/
import Derived.Test.YtddnedngjijpoaaAbPol2
namespace Go.Proofs.Ytddnedngjijpoaa.Ab
open Go Go.RowKit
set_option linter.unusedVariables false
set_option linter.unusedSimpArgs false

theorem pmul_in {p : Pr} (hg : GoodP p) {y : Int} (hy : -10 ≤ y ∧ y ≤ 10) {n : Nat} (hn : n ≤ 5) : -90 ≤ p.unit * y ∧ p.unit * y ≤ 90 ∧ -288000000 ≤ p.unit * y * p.pow n ∧ p.unit * y * p.pow n ≤ 288000000 := by
  have h1 := hg.unit
  have hp := hg.pow5 hn
  rcases Int.le_total 0 y with h | h
  · have a := mul_in' (A := 9) (B := 10) h1 (x := y) (by omega)
    have b := mul_in' (A := 90) (B := 3200000) a (x := p.pow n) (by omega)
    omega
  · have a := mul_in' (A := 9) (B := 10) h1 (x := -y) (by omega)
    have b := mul_in' (A := 90) (B := 3200000) a (x := p.pow n) (by omega)
    rw [Int.mul_neg] at a
    rw [Int.mul_neg, Int.neg_mul] at b
    omega
theorem l6Bill_rc (m : Mem) (v vn : Value) (p : Pr) (next : List Int) (x y : Int) (n : Nat) (h : ProcA m v p) (hn : IntsA m vn next) (hg : GoodP p) (hl : next.length = 21) (hB : rowIn 30000000000000000 next) (hy : p.may y) (hx : x = (n : Int) + 1) (hn4 : n ≤ 4) :
    RC Try.prog 139 [v, vn, .int .i64 y, .int .i64 x] m (AnsV (.int .i64 (p.bill next y n))) := by
  subst hx
  refine rc_of_run mixed ok_spec_l6Bill (by simp) (go_start _ _ _ ?_)
  obtain ⟨u, rfl, hu⟩ := h.ro
  have hfl := hg.floor
  have hy1 := hy.1
  have hy2 := hy.2
  have hm := pmul_in hg (y := y) (by omega) (n := n + 1) (by omega)
  have ha := hg.after hB (by decide) hn4 hy
  simp (config := {implicitDefEqProofs := false, maxDischargeDepth := 20}) (disch := first | omega | (simp only [lenE]; done) | (simp only [lenE]; omega) | rfl | (simp only [lenE, markR_len]; done) | (simp only [lenE, markR_len]; omega)) only [runE, mapE, listE, initT_5, initT_6, initT_7, initT_8, resV, oneV, binA, unA, reduceCtorEq, Nat.reduceEqDiff, Nat.reduceAdd, Nat.reduceLT, Nat.reduceLeDiff, Nat.reduceMul, Nat.reduceSub, ↓reduceIte, decide_true, decide_false, Bool.true_eq_false, Bool.false_eq_true, Bool.not_true, Bool.not_false, if_true, if_false, and_true, true_and, memE, celE, w64, Nat.zero_add, Nat.add_zero, Nat.mul_one, putL, and_self, ldn, c_spec_l6Bill, r_spec_l6Bill]
  refine rcallH_rc (l6Power_rc _ _ p _ (n + 1) (ProcA.mk (hu.ext _)) hg (by omega) (by omega)) ?_
  rintro r new ⟨rfl, nr⟩
  simp (config := {implicitDefEqProofs := false, maxDischargeDepth := 20}) (disch := first | omega | (simp only [lenE]; done) | (simp only [lenE]; omega) | rfl | (simp only [lenE, markR_len]; done) | (simp only [lenE, markR_len]; omega)) only [runE, mapE, listE, initT_5, initT_6, initT_7, initT_8, resV, oneV, binA, unA, reduceCtorEq, Nat.reduceEqDiff, Nat.reduceAdd, Nat.reduceLT, Nat.reduceLeDiff, Nat.reduceMul, Nat.reduceSub, ↓reduceIte, decide_true, decide_false, Bool.true_eq_false, Bool.false_eq_true, Bool.not_true, Bool.not_false, if_true, if_false, and_true, true_and, memE, celE, w64, Nat.zero_add, Nat.add_zero, Nat.mul_one, putL, and_self, ldn]
  refine rcallH_rc (l6After_rc _ _ vn p next _ y n (ProcA.mk ((hu.ext _).ext _)) ((hn.ro.ext _).ext _) hg hl hB hy rfl hn4) ?_
  rintro r new' ⟨rfl, nr'⟩
  simp (config := {implicitDefEqProofs := false, maxDischargeDepth := 20}) (disch := first | omega | (simp only [lenE]; done) | (simp only [lenE]; omega) | rfl | (simp only [lenE, markR_len]; done) | (simp only [lenE, markR_len]; omega)) only [runE, mapE, listE, initT_5, initT_6, initT_7, initT_8, resV, oneV, binA, unA, reduceCtorEq, Nat.reduceEqDiff, Nat.reduceAdd, Nat.reduceLT, Nat.reduceLeDiff, Nat.reduceMul, Nat.reduceSub, ↓reduceIte, decide_true, decide_false, Bool.true_eq_false, Bool.false_eq_true, Bool.not_true, Bool.not_false, if_true, if_false, and_true, true_and, memE, celE, w64, Nat.zero_add, Nat.add_zero, Nat.mul_one, putL, and_self, ldn]
  try simp only [List.append_assoc, List.cons_append, List.nil_append, List.append_nil]
  exact ⟨_, rfl, by (repeat (first | exact noRo_nil | assumption | apply noRo_own | apply noRo_dead | apply noRo_app)), rfl, by (repeat (first | exact noRo_nil | assumption | apply noRo_own | apply noRo_dead | apply noRo_app))⟩
theorem move_bd {p : Pr} (hg : GoodP p) {next : List Int} (hB : rowIn 30000000000000000 next) {x y : Int} {n : Nat} (hn : n ≤ 4) (hx : -10 ≤ x) (hy : p.may y) :
    0 ≤ p.ord x y * p.pow (n + 1) ∧ p.ord x y * p.pow (n + 1) ≤ 892800000 ∧ -700000000000000000 ≤ p.ord x y * p.pow (n + 1) + p.after next y n ∧ p.ord x y * p.pow (n + 1) + p.after next y n ≤ 700000000000000000 := by
  have := hg.move hB (by decide) hn hx hy
  unfold Pr.move at this
  omega
theorem l6Best_rc (m : Mem) (v vn : Value) (p : Pr) (next : List Int) (x z : Int) (n : Nat) (h : ProcA m v p) (hn : IntsA m vn next) (hg : GoodP p) (hl : next.length = 21) (hB : rowIn 30000000000000000 next) (hx : -10 ≤ x ∧ x ≤ 10) (hz : z = (n : Int) + 1) (hn4 : n ≤ 4) :
    RC Try.prog 100 [v, vn, .int .i64 x, .int .i64 z] m (AnsV (.tuple #[.int .i64 (p.up next x n), .int .i64 (p.move next x (p.up next x n) n)])) := by
  subst hz
  refine rc_of_run mixed ok_spec_l6Best (by simp) (go_start _ _ _ ?_)
  obtain ⟨u, rfl, hu⟩ := h.ro
  have hlo := Pr.lo_in hg hx
  have hfl := hg.floor
  simp (config := {implicitDefEqProofs := false, maxDischargeDepth := 20}) (disch := first | omega | (simp only [lenE]; done) | (simp only [lenE]; omega) | rfl | (simp only [lenE, markR_len]; done) | (simp only [lenE, markR_len]; omega)) only [runE, mapE, listE, initT_5, initT_6, initT_7, initT_8, resV, oneV, binA, unA, reduceCtorEq, Nat.reduceEqDiff, Nat.reduceAdd, Nat.reduceLT, Nat.reduceLeDiff, Nat.reduceMul, Nat.reduceSub, ↓reduceIte, decide_true, decide_false, Bool.true_eq_false, Bool.false_eq_true, Bool.not_true, Bool.not_false, if_true, if_false, and_true, true_and, memE, celE, w64, Nat.zero_add, Nat.add_zero, Nat.mul_one, putL, and_self, ldn, c_spec_l6Best, r_spec_l6Best]
  refine loop_inv mixed (fun s => ∃ (y best least : Int) (M : Mem), p.lo x - 1 ≤ y ∧ y ≤ 10 ∧ (y = 10 ∨ (IsLeast (fun y => p.move next x y n) (y + 1) 10 best ∧ least = p.move next x best n)) ∧ s.m = M ∧ Ext m M ∧ BoxA M m.length [.int .i64 p.turns, u, .int .i64 p.setup, .int .i64 p.unit, .int .i64 p.hold, .int .i64 p.back] ∧
      s.t 1 = vn ∧ s.t 2 = .int .i64 x ∧ s.t 3 = .int .i64 ((n : Int) + 1) ∧ s.t 4 = .pointer (some ⟨m.length, 0, none⟩) ∧ s.t 10 = .int .i64 best ∧ s.t 11 = .int .i64 least ∧ s.t 12 = .int .i64 y) (fun s => (intOf (s.t 12) + 20).toNat)
    ⟨10, 0, 0, _, by omega, by omega, .inl rfl, rfl, (Ext.refl m).one _ _, BoxA.here _ _ _ (roM_len m).symm, rfl, rfl, rfl, rfl, rfl, rfl, rfl⟩ ?_
  rintro s ⟨y, best, least, M, hy1, hy2, hbest, tm, hX, hb, t1, t2, t3, t4, t10, t11, t12⟩
  have hiu := hX.ints hu
  simp (config := {implicitDefEqProofs := false, maxDischargeDepth := 20}) (disch := first | omega | (simp only [lenE]; done) | (simp only [lenE]; omega) | rfl | (simp only [lenE, markR_len]; done) | (simp only [lenE, markR_len]; omega)) only [runE, mapE, listE, initT_5, initT_6, initT_7, initT_8, resV, oneV, binA, unA, reduceCtorEq, Nat.reduceEqDiff, Nat.reduceAdd, Nat.reduceLT, Nat.reduceLeDiff, Nat.reduceMul, Nat.reduceSub, ↓reduceIte, decide_true, decide_false, Bool.true_eq_false, Bool.false_eq_true, Bool.not_true, Bool.not_false, if_true, if_false, and_true, true_and, memE, celE, w64, Nat.zero_add, Nat.add_zero, Nat.mul_one, putL, and_self, ldn, tm, t1, t2, t3, t4, t10, t11, t12, hb.rdk]
  refine callH_rc (l6Floor_rc M _ p (ProcA.mk hiu) hg) ?_
  rintro r new ⟨rfl, nr⟩
  simp (config := {implicitDefEqProofs := false, maxDischargeDepth := 20}) (disch := first | omega | (simp only [lenE]; done) | (simp only [lenE]; omega) | rfl | (simp only [lenE, markR_len]; done) | (simp only [lenE, markR_len]; omega)) only [runE, mapE, listE, initT_5, initT_6, initT_7, initT_8, resV, oneV, binA, unA, reduceCtorEq, Nat.reduceEqDiff, Nat.reduceAdd, Nat.reduceLT, Nat.reduceLeDiff, Nat.reduceMul, Nat.reduceSub, ↓reduceIte, decide_true, decide_false, Bool.true_eq_false, Bool.false_eq_true, Bool.not_true, Bool.not_false, if_true, if_false, and_true, true_and, memE, celE, w64, Nat.zero_add, Nat.add_zero, Nat.mul_one, putL, and_self, ldn]
  refine callH_rc (l1Most6_rc _ _ _) ?_
  rintro r new0 ⟨rfl, rfl⟩
  have hX := hX.app nr
  have hb := hb.ext new
  have hiu := hiu.ext new
  obtain ⟨M', hM'⟩ : ∃ M', M' = M ++ new := ⟨_, rfl⟩
  rw [← hM'] at hX hb hiu
  rw [List.append_nil, ← hM']
  rw [show max x p.floor = p.lo x from rfl]
  by_cases hge : p.lo x ≤ y
  · have hmay : p.may y := ⟨by omega, hy2⟩
    have hmv := move_bd hg hB hn4 hx.1 hmay
    simp (config := {implicitDefEqProofs := false, maxDischargeDepth := 20}) (disch := first | omega | (simp only [lenE]; done) | (simp only [lenE]; omega) | rfl | (simp only [lenE, markR_len]; done) | (simp only [lenE, markR_len]; omega)) only [runE, mapE, listE, initT_5, initT_6, initT_7, initT_8, resV, oneV, binA, unA, reduceCtorEq, Nat.reduceEqDiff, Nat.reduceAdd, Nat.reduceLT, Nat.reduceLeDiff, Nat.reduceMul, Nat.reduceSub, ↓reduceIte, decide_true, decide_false, Bool.true_eq_false, Bool.false_eq_true, Bool.not_true, Bool.not_false, if_true, if_false, and_true, true_and, memE, celE, w64, Nat.zero_add, Nat.add_zero, Nat.mul_one, putL, and_self, ldn, ge_iff_le, hge, t1, t2, t3, t4, t10, t11, t12, hb.rdk]
    refine rcallH_rc (l6Order_rc M' _ p x y (ProcA.mk hiu) hg hx (by omega)) ?_
    rintro r n1 ⟨rfl, nr1⟩
    have hb1 := hb.ext n1
    simp (config := {implicitDefEqProofs := false, maxDischargeDepth := 20}) (disch := first | omega | (simp only [lenE]; done) | (simp only [lenE]; omega) | rfl | (simp only [lenE, markR_len]; done) | (simp only [lenE, markR_len]; omega)) only [runE, mapE, listE, initT_5, initT_6, initT_7, initT_8, resV, oneV, binA, unA, reduceCtorEq, Nat.reduceEqDiff, Nat.reduceAdd, Nat.reduceLT, Nat.reduceLeDiff, Nat.reduceMul, Nat.reduceSub, ↓reduceIte, decide_true, decide_false, Bool.true_eq_false, Bool.false_eq_true, Bool.not_true, Bool.not_false, if_true, if_false, and_true, true_and, memE, celE, w64, Nat.zero_add, Nat.add_zero, Nat.mul_one, putL, and_self, ldn, t1, t2, t3, t4, t10, t11, t12, hb1.rdk]
    refine rcallH_rc (l6Power_rc (M' ++ n1) _ p _ (n + 1) (ProcA.mk (hiu.ext _)) hg (by omega) (by omega)) ?_
    rintro r n2 ⟨rfl, nr2⟩
    have hb2 := hb1.ext n2
    simp (config := {implicitDefEqProofs := false, maxDischargeDepth := 20}) (disch := first | omega | (simp only [lenE]; done) | (simp only [lenE]; omega) | rfl | (simp only [lenE, markR_len]; done) | (simp only [lenE, markR_len]; omega)) only [runE, mapE, listE, initT_5, initT_6, initT_7, initT_8, resV, oneV, binA, unA, reduceCtorEq, Nat.reduceEqDiff, Nat.reduceAdd, Nat.reduceLT, Nat.reduceLeDiff, Nat.reduceMul, Nat.reduceSub, ↓reduceIte, decide_true, decide_false, Bool.true_eq_false, Bool.false_eq_true, Bool.not_true, Bool.not_false, if_true, if_false, and_true, true_and, memE, celE, w64, Nat.zero_add, Nat.add_zero, Nat.mul_one, putL, and_self, ldn, t1, t2, t3, t4, t10, t11, t12, hb2.rdk]
    refine rcallH_rc (l6After_rc (M' ++ n1 ++ n2) _ vn p next _ y n (ProcA.mk ((hiu.ext _).ext _)) ((hn.xt2 hX |>.ext _).ext _) hg hl hB hmay rfl hn4) ?_
    rintro r n3 ⟨rfl, nr3⟩
    have hb3 := hb2.ext n3
    have hX3 := ((hX.app nr1).app nr2).app nr3
    have hmv' : p.ord x y * p.pow (n + 1) + p.after next y n = p.move next x y n := rfl
    by_cases h10 : y = 10
    · subst h10
      simp (config := {implicitDefEqProofs := false, maxDischargeDepth := 20}) (disch := first | omega | (simp only [lenE]; done) | (simp only [lenE]; omega) | rfl | (simp only [lenE, markR_len]; done) | (simp only [lenE, markR_len]; omega)) only [runE, mapE, listE, initT_5, initT_6, initT_7, initT_8, resV, oneV, binA, unA, reduceCtorEq, Nat.reduceEqDiff, Nat.reduceAdd, Nat.reduceLT, Nat.reduceLeDiff, Nat.reduceMul, Nat.reduceSub, ↓reduceIte, decide_true, decide_false, Bool.true_eq_false, Bool.false_eq_true, Bool.not_true, Bool.not_false, if_true, if_false, and_true, true_and, memE, celE, w64, Nat.zero_add, Nat.add_zero, Nat.mul_one, putL, and_self, ldn, t1, t2, t3, t4, t10, t11, t12, beq_self_eq_true]
      refine ⟨⟨_, _, _, _, by omega, by omega, .inr ⟨?_, hmv'⟩, rfl, hX3, hb3, rfl, rfl, rfl⟩, ?_⟩
      · simpa using IsLeast.one (fun y => p.move next x y n) 10
      · simp [intOf]
    · have hne : ((y : Int) == 10) = false := by simp [h10]
      rcases hbest with hbest | ⟨hle, hleast⟩
      · exact absurd hbest h10
      · have hd := hle.down
        rw [show y + 1 - 1 = y by omega] at hd
        by_cases hc : p.move next x y n ≤ p.move next x best n
        · rw [if_pos hc] at hd
          have hc' : p.ord x y * p.pow (n + 1) + p.after next y n ≤ least := by rw [hleast, hmv']; exact hc
          simp (config := {implicitDefEqProofs := false, maxDischargeDepth := 20}) (disch := first | omega | (simp only [lenE]; done) | (simp only [lenE]; omega) | rfl | (simp only [lenE, markR_len]; done) | (simp only [lenE, markR_len]; omega)) only [runE, mapE, listE, initT_5, initT_6, initT_7, initT_8, resV, oneV, binA, unA, reduceCtorEq, Nat.reduceEqDiff, Nat.reduceAdd, Nat.reduceLT, Nat.reduceLeDiff, Nat.reduceMul, Nat.reduceSub, ↓reduceIte, decide_true, decide_false, Bool.true_eq_false, Bool.false_eq_true, Bool.not_true, Bool.not_false, if_true, if_false, and_true, true_and, memE, celE, w64, Nat.zero_add, Nat.add_zero, Nat.mul_one, putL, and_self, ldn, t1, t2, t3, t4, t10, t11, t12, hne, hc']
          refine ⟨⟨y - 1, y, _, _, by omega, by omega, .inr ⟨by rw [show y - 1 + 1 = y by omega]; exact hd, hmv'⟩, rfl, hX3, hb3, rfl, rfl, rfl⟩, ?_⟩
          simp [intOf]; omega
        · rw [if_neg hc] at hd
          have hc' : ¬ (p.ord x y * p.pow (n + 1) + p.after next y n ≤ least) := by rw [hleast, hmv']; exact hc
          simp (config := {implicitDefEqProofs := false, maxDischargeDepth := 20}) (disch := first | omega | (simp only [lenE]; done) | (simp only [lenE]; omega) | rfl | (simp only [lenE, markR_len]; done) | (simp only [lenE, markR_len]; omega)) only [runE, mapE, listE, initT_5, initT_6, initT_7, initT_8, resV, oneV, binA, unA, reduceCtorEq, Nat.reduceEqDiff, Nat.reduceAdd, Nat.reduceLT, Nat.reduceLeDiff, Nat.reduceMul, Nat.reduceSub, ↓reduceIte, decide_true, decide_false, Bool.true_eq_false, Bool.false_eq_true, Bool.not_true, Bool.not_false, if_true, if_false, and_true, true_and, memE, celE, w64, Nat.zero_add, Nat.add_zero, Nat.mul_one, putL, and_self, ldn, t1, t2, t3, t4, t10, t11, t12, hne, hc']
          refine ⟨⟨y - 1, best, least, _, by omega, by omega, .inr ⟨by rw [show y - 1 + 1 = y by omega]; exact hd, hleast⟩, rfl, hX3, hb3, rfl, rfl, rfl⟩, ?_⟩
          simp [intOf]; omega
  · rcases hbest with hbest | ⟨hle, hleast⟩
    · omega
    · have e : y + 1 = p.lo x := by omega
      rw [e] at hle
      have e2 := hle.uniq (Pr.up_least hg next hx n)
      simp (config := {implicitDefEqProofs := false, maxDischargeDepth := 20}) (disch := first | omega | (simp only [lenE]; done) | (simp only [lenE]; omega) | rfl | (simp only [lenE, markR_len]; done) | (simp only [lenE, markR_len]; omega)) only [runE, mapE, listE, initT_5, initT_6, initT_7, initT_8, resV, oneV, binA, unA, reduceCtorEq, Nat.reduceEqDiff, Nat.reduceAdd, Nat.reduceLT, Nat.reduceLeDiff, Nat.reduceMul, Nat.reduceSub, ↓reduceIte, decide_true, decide_false, Bool.true_eq_false, Bool.false_eq_true, Bool.not_true, Bool.not_false, if_true, if_false, and_true, true_and, memE, celE, w64, Nat.zero_add, Nat.add_zero, Nat.mul_one, putL, and_self, ldn, ge_iff_le, hge, t1, t2, t3, t4, t10, t11, t12]
      rw [hleast, e2]
      exact ext_ansV2 hX
theorem askedCost_rc (m : Mem) (v vn : Value) (p : Pr) (next : List Int) (x y : Int) (n : Nat) (h : ProcA m v p) (hn : IntsA m vn next) (hg : GoodP p) (hl : next.length = 21) (hB : rowIn 30000000000000000 next) (hy : p.may y) (hx : p.turns - x = (n : Int) + 1) (hx0 : 0 ≤ x) (hn4 : n ≤ 4) :
    RC Try.prog 138 [v, .int .i64 x, .int .i64 y, vn] m (AnsV (.int .i64 (p.after next y n))) := by
  refine rc_of_run mixed ok_impl_askedCost (by simp) (go_start _ _ _ ?_)
  obtain ⟨u, rfl, hu⟩ := h.ro
  have hlen := hg.len
  have ht := hg.turns
  have hpow := hg.pow5 (n := n) (by omega)
  have hfl := hg.floor
  have hy1 := hy.1
  have hy2 := hy.2
  simp (config := {implicitDefEqProofs := false, maxDischargeDepth := 20}) (disch := first | omega | (simp only [lenE]; done) | (simp only [lenE]; omega) | rfl | (simp only [lenE, markR_len]; done) | (simp only [lenE, markR_len]; omega)) only [runE, mapE, listE, initT_5, initT_6, initT_7, initT_8, resV, oneV, binA, unA, reduceCtorEq, Nat.reduceEqDiff, Nat.reduceAdd, Nat.reduceLT, Nat.reduceLeDiff, Nat.reduceMul, Nat.reduceSub, ↓reduceIte, decide_true, decide_false, Bool.true_eq_false, Bool.false_eq_true, Bool.not_true, Bool.not_false, if_true, if_false, and_true, true_and, memE, celE, w64, Nat.zero_add, Nat.add_zero, Nat.mul_one, putL, and_self, ldn, c_impl_askedCost, r_impl_askedCost, hu.len]
  refine loop_inv mixed (fun s => ∃ (k : Nat) (M : Mem), k ≤ p.w.length ∧ s.m = M ∧ Ext m M ∧ BoxA M m.length [.int .i64 p.turns, u, .int .i64 p.setup, .int .i64 p.unit, .int .i64 p.hold, .int .i64 p.back] ∧ s.t 1 = .int .i64 x ∧ s.t 2 = .int .i64 y ∧ s.t 3 = vn ∧ s.t 4 = .pointer (some ⟨m.length, 0, none⟩) ∧ s.t 9 = .int .i64 (wsum p.w (p.part next y n) k) ∧ s.t 13 = u ∧ s.t 14 = .int .i64 p.w.length ∧ s.t 15 = .int .i64 k) (fun s => p.w.length - (intOf (s.t 15)).toNat)
    ⟨0, _, by omega, rfl, (Ext.refl m).one _ _, BoxA.here _ _ _ (roM_len m).symm, rfl, rfl, rfl, rfl, rfl, rfl, rfl, rfl⟩ ?_
  rintro s ⟨k, M, hk, tm, hX, hb, t1, t2, t3, t4, t9, t13, t14, t15⟩
  have hiu := hX.ints hu
  by_cases hlt : k < p.w.length
  · have hlt' : (k : Int) < p.w.length := by omega
    have hin := hn.xt2 hX
    have hd := hy.lv hlt
    obtain ⟨a1, a2⟩ := at_of hin hl (z := y - k + 10) (by omega) (by omega)
    have f1 := hg.part hB hn4 hd.1 hd.2
    have f2 := hg.term hB (by decide) hn4 hd.1 hd.2
    have f3 := hg.wsum hB (by decide) hn4 hy k (by omega)
    have f4 := hg.wsum hB (by decide) hn4 hy (k + 1) (by omega)
    have f5 := hg.kept hd
    rw [wsum_s] at f4
    unfold Pr.part at f1 f2 f4
    simp (config := {implicitDefEqProofs := false, maxDischargeDepth := 20}) (disch := first | omega | (simp only [lenE]; done) | (simp only [lenE]; omega) | rfl | (simp only [lenE, markR_len]; done) | (simp only [lenE, markR_len]; omega)) only [runE, mapE, listE, initT_5, initT_6, initT_7, initT_8, resV, oneV, binA, unA, reduceCtorEq, Nat.reduceEqDiff, Nat.reduceAdd, Nat.reduceLT, Nat.reduceLeDiff, Nat.reduceMul, Nat.reduceSub, ↓reduceIte, decide_true, decide_false, Bool.true_eq_false, Bool.false_eq_true, Bool.not_true, Bool.not_false, if_true, if_false, and_true, true_and, memE, celE, w64, Nat.zero_add, Nat.add_zero, Nat.mul_one, putL, and_self, ldn, tm, t1, t2, t3, t4, t9, t13, t14, t15, hlt', hb.rdk, hiu.len, hiu.at_ k hlt, hiu.ld k hlt]
    refine rcallH_rc (levelCost_rc M _ p (y - k) (ProcA.mk hiu) hg hd) ?_
    rintro r new ⟨rfl, nr⟩
    have hb2 := hb.ext new
    simp (config := {implicitDefEqProofs := false, maxDischargeDepth := 20}) (disch := first | omega | (simp only [lenE]; done) | (simp only [lenE]; omega) | rfl | (simp only [lenE, markR_len]; done) | (simp only [lenE, markR_len]; omega)) only [runE, mapE, listE, initT_5, initT_6, initT_7, initT_8, resV, oneV, binA, unA, reduceCtorEq, Nat.reduceEqDiff, Nat.reduceAdd, Nat.reduceLT, Nat.reduceLeDiff, Nat.reduceMul, Nat.reduceSub, ↓reduceIte, decide_true, decide_false, Bool.true_eq_false, Bool.false_eq_true, Bool.not_true, Bool.not_false, if_true, if_false, and_true, true_and, memE, celE, w64, Nat.zero_add, Nat.add_zero, Nat.mul_one, putL, and_self, ldn, tm, t1, t2, t3, t4, t9, t15, hb2.rdk]
    refine rcallH_rc (powerFrom_rc (M ++ new) _ p _ n (ProcA.mk (hiu.ext new)) hg (by omega) (by omega)) ?_
    rintro r new' ⟨rfl, nr'⟩
    have hb3 := hb2.ext new'
    simp (config := {implicitDefEqProofs := false, maxDischargeDepth := 20}) (disch := first | omega | (simp only [lenE]; done) | (simp only [lenE]; omega) | rfl | (simp only [lenE, markR_len]; done) | (simp only [lenE, markR_len]; omega)) only [runE, mapE, listE, initT_5, initT_6, initT_7, initT_8, resV, oneV, binA, unA, reduceCtorEq, Nat.reduceEqDiff, Nat.reduceAdd, Nat.reduceLT, Nat.reduceLeDiff, Nat.reduceMul, Nat.reduceSub, ↓reduceIte, decide_true, decide_false, Bool.true_eq_false, Bool.false_eq_true, Bool.not_true, Bool.not_false, if_true, if_false, and_true, true_and, memE, celE, w64, Nat.zero_add, Nat.add_zero, Nat.mul_one, putL, and_self, ldn, tm, t1, t2, t3, t4, t9, t15, hb3.rdk]
    refine rcallH_rc (placeOf_rc (M ++ new ++ new') _ hd) ?_
    rintro r n2 ⟨rfl, rfl⟩
    simp (config := {implicitDefEqProofs := false, maxDischargeDepth := 20}) (disch := first | omega | (simp only [lenE]; done) | (simp only [lenE]; omega) | rfl | (simp only [lenE, markR_len]; done) | (simp only [lenE, markR_len]; omega)) only [runE, mapE, listE, initT_5, initT_6, initT_7, initT_8, resV, oneV, binA, unA, reduceCtorEq, Nat.reduceEqDiff, Nat.reduceAdd, Nat.reduceLT, Nat.reduceLeDiff, Nat.reduceMul, Nat.reduceSub, ↓reduceIte, decide_true, decide_false, Bool.true_eq_false, Bool.false_eq_true, Bool.not_true, Bool.not_false, if_true, if_false, and_true, true_and, memE, celE, w64, Nat.zero_add, Nat.add_zero, Nat.mul_one, putL, and_self, ldn, tm, t1, t2, t3, t4, t9, t13, t14, t15, a1, ldA_ext (ldA_ext a2)]
    refine ⟨⟨k + 1, _, by omega, rfl, (hX.app nr).app nr', hb3, rfl, by simp⟩, ?_⟩
    simp [intOf]; omega
  · have hlt' : ¬ ((k : Int) < p.w.length) := by omega
    have e : k = p.w.length := by omega
    simp (config := {implicitDefEqProofs := false, maxDischargeDepth := 20}) (disch := first | omega | (simp only [lenE]; done) | (simp only [lenE]; omega) | rfl | (simp only [lenE, markR_len]; done) | (simp only [lenE, markR_len]; omega)) only [runE, mapE, listE, initT_5, initT_6, initT_7, initT_8, resV, oneV, binA, unA, reduceCtorEq, Nat.reduceEqDiff, Nat.reduceAdd, Nat.reduceLT, Nat.reduceLeDiff, Nat.reduceMul, Nat.reduceSub, ↓reduceIte, decide_true, decide_false, Bool.true_eq_false, Bool.false_eq_true, Bool.not_true, Bool.not_false, if_true, if_false, and_true, true_and, memE, celE, w64, Nat.zero_add, Nat.add_zero, Nat.mul_one, putL, and_self, ldn, tm, t1, t2, t3, t4, t9, t13, t14, t15, hlt']
    rw [e]
    exact ext_ansV2 hX
abbrev moveV (t x y : Int) : Value := .agg #[.int .i64 t, .int .i64 x, .int .i64 y]
theorem moveCost_rc (m : Mem) (v vn : Value) (p : Pr) (next : List Int) (t x y : Int) (n : Nat) (h : ProcA m v p) (hn : IntsA m vn next) (hg : GoodP p) (hl : next.length = 21) (hB : rowIn 30000000000000000 next) (hx : -10 ≤ x ∧ x ≤ 10) (hy : p.may y) (hxy : x ≤ y) (ht : p.turns - t = (n : Int) + 1) (ht0 : 0 ≤ t) (hn4 : n ≤ 4) :
    RC Try.prog 118 [v, moveV t x y, vn] m (AnsV (.int .i64 (p.move next x y n))) := by
  refine rc_of_run mixed ok_impl_moveCost (by simp) (go_start _ _ _ ?_)
  obtain ⟨u, rfl, hu⟩ := h.ro
  have hmv := move_bd hg hB hn4 hx.1 hy
  simp (config := {implicitDefEqProofs := false, maxDischargeDepth := 20}) (disch := first | omega | (simp only [lenE]; done) | (simp only [lenE]; omega) | rfl | (simp only [lenE, markR_len]; done) | (simp only [lenE, markR_len]; omega)) only [runE, mapE, listE, initT_5, initT_6, initT_7, initT_8, resV, oneV, binA, unA, reduceCtorEq, Nat.reduceEqDiff, Nat.reduceAdd, Nat.reduceLT, Nat.reduceLeDiff, Nat.reduceMul, Nat.reduceSub, ↓reduceIte, decide_true, decide_false, Bool.true_eq_false, Bool.false_eq_true, Bool.not_true, Bool.not_false, if_true, if_false, and_true, true_and, memE, celE, w64, Nat.zero_add, Nat.add_zero, Nat.mul_one, putL, and_self, ldn, c_impl_moveCost, r_impl_moveCost]
  refine rcallH_rc (liftCost_rc _ _ p x y (ProcA.mk ((hu.ext _).ext _)) hg hx hy.2 hxy) ?_
  rintro r n1 ⟨rfl, nr1⟩
  simp (config := {implicitDefEqProofs := false, maxDischargeDepth := 20}) (disch := first | omega | (simp only [lenE]; done) | (simp only [lenE]; omega) | rfl | (simp only [lenE, markR_len]; done) | (simp only [lenE, markR_len]; omega)) only [runE, mapE, listE, initT_5, initT_6, initT_7, initT_8, resV, oneV, binA, unA, reduceCtorEq, Nat.reduceEqDiff, Nat.reduceAdd, Nat.reduceLT, Nat.reduceLeDiff, Nat.reduceMul, Nat.reduceSub, ↓reduceIte, decide_true, decide_false, Bool.true_eq_false, Bool.false_eq_true, Bool.not_true, Bool.not_false, if_true, if_false, and_true, true_and, memE, celE, w64, Nat.zero_add, Nat.add_zero, Nat.mul_one, putL, and_self, ldn]
  refine rcallH_rc (powerFrom_rc _ _ p t (n + 1) (ProcA.mk (((hu.ext _).ext _).ext _)) hg (by omega) (by omega)) ?_
  rintro r n2 ⟨rfl, nr2⟩
  simp (config := {implicitDefEqProofs := false, maxDischargeDepth := 20}) (disch := first | omega | (simp only [lenE]; done) | (simp only [lenE]; omega) | rfl | (simp only [lenE, markR_len]; done) | (simp only [lenE, markR_len]; omega)) only [runE, mapE, listE, initT_5, initT_6, initT_7, initT_8, resV, oneV, binA, unA, reduceCtorEq, Nat.reduceEqDiff, Nat.reduceAdd, Nat.reduceLT, Nat.reduceLeDiff, Nat.reduceMul, Nat.reduceSub, ↓reduceIte, decide_true, decide_false, Bool.true_eq_false, Bool.false_eq_true, Bool.not_true, Bool.not_false, if_true, if_false, and_true, true_and, memE, celE, w64, Nat.zero_add, Nat.add_zero, Nat.mul_one, putL, and_self, ldn]
  refine rcallH_rc (askedCost_rc _ _ vn p next t y n (ProcA.mk ((((hu.ext _).ext _).ext _).ext _)) ((((hn.ro.ext _).ext _).ext _).ext _) hg hl hB hy ht ht0 hn4) ?_
  rintro r n3 ⟨rfl, nr3⟩
  simp (config := {implicitDefEqProofs := false, maxDischargeDepth := 20}) (disch := first | omega | (simp only [lenE]; done) | (simp only [lenE]; omega) | rfl | (simp only [lenE, markR_len]; done) | (simp only [lenE, markR_len]; omega)) only [runE, mapE, listE, initT_5, initT_6, initT_7, initT_8, resV, oneV, binA, unA, reduceCtorEq, Nat.reduceEqDiff, Nat.reduceAdd, Nat.reduceLT, Nat.reduceLeDiff, Nat.reduceMul, Nat.reduceSub, ↓reduceIte, decide_true, decide_false, Bool.true_eq_false, Bool.false_eq_true, Bool.not_true, Bool.not_false, if_true, if_false, and_true, true_and, memE, celE, w64, Nat.zero_add, Nat.add_zero, Nat.mul_one, putL, and_self, ldn]
  try simp only [List.append_assoc, List.cons_append, List.nil_append, List.append_nil]
  exact ⟨_, rfl, by (repeat (first | exact noRo_nil | assumption | apply noRo_own | apply noRo_dead | apply noRo_app)), rfl, by (repeat (first | exact noRo_nil | assumption | apply noRo_own | apply noRo_dead | apply noRo_app))⟩
theorem bld_move (t x y : Int) : bldA [.int .i64 0, .int .i64 0, .int .i64 0] [(0, 1, .int .i64 t), (1, 1, .int .i64 x), (2, 1, .int .i64 y)] = some (.agg #[.int .i64 t, .int .i64 x, .int .i64 y]) := rfl
theorem bestMove_rc (m : Mem) (v vn : Value) (p : Pr) (next : List Int) (t x : Int) (n : Nat) (h : ProcA m v p) (hn : IntsA m vn next) (hg : GoodP p) (hl : next.length = 21) (hB : rowIn 30000000000000000 next) (hx : -10 ≤ x ∧ x ≤ 10) (ht : p.turns - t = (n : Int) + 1) (ht0 : 0 ≤ t) (hn4 : n ≤ 4) :
    RC Try.prog 97 [v, .int .i64 t, .int .i64 x, vn] m (AnsV (moveV t x (p.up next x n))) := by
  refine rc_of_run mixed ok_impl_bestMove (by simp) (go_start _ _ _ ?_)
  obtain ⟨u, rfl, hu⟩ := h.ro
  have hlo := Pr.lo_in hg hx
  have hfl := hg.floor
  have hlen := hg.len
  have hup := Pr.up_least hg next hx n
  simp (config := {implicitDefEqProofs := false, maxDischargeDepth := 20}) (disch := first | omega | (simp only [lenE]; done) | (simp only [lenE]; omega) | rfl | (simp only [lenE, markR_len]; done) | (simp only [lenE, markR_len]; omega)) only [runE, mapE, listE, initT_5, initT_6, initT_7, initT_8, resV, oneV, binA, unA, reduceCtorEq, Nat.reduceEqDiff, Nat.reduceAdd, Nat.reduceLT, Nat.reduceLeDiff, Nat.reduceMul, Nat.reduceSub, ↓reduceIte, decide_true, decide_false, Bool.true_eq_false, Bool.false_eq_true, Bool.not_true, Bool.not_false, if_true, if_false, and_true, true_and, memE, celE, w64, Nat.zero_add, Nat.add_zero, Nat.mul_one, putL, and_self, ldn, c_impl_bestMove, r_impl_bestMove]
  refine callH_rc (floorOf_rc _ _ p (ProcA.mk ((hu.ext _).ext _)) hlen.2) ?_
  rintro r new ⟨rfl, nr⟩
  simp (config := {implicitDefEqProofs := false, maxDischargeDepth := 20}) (disch := first | omega | (simp only [lenE]; done) | (simp only [lenE]; omega) | rfl | (simp only [lenE, markR_len]; done) | (simp only [lenE, markR_len]; omega)) only [runE, mapE, listE, initT_5, initT_6, initT_7, initT_8, resV, oneV, binA, unA, reduceCtorEq, Nat.reduceEqDiff, Nat.reduceAdd, Nat.reduceLT, Nat.reduceLeDiff, Nat.reduceMul, Nat.reduceSub, ↓reduceIte, decide_true, decide_false, Bool.true_eq_false, Bool.false_eq_true, Bool.not_true, Bool.not_false, if_true, if_false, and_true, true_and, memE, celE, w64, Nat.zero_add, Nat.add_zero, Nat.mul_one, putL, and_self, ldn, bld_move]
  rw [show max x p.floor = p.lo x from rfl]
  have hX : Ext m (roM m ++ [⟨.own, 26, [.int .i64 p.turns, u, .int .i64 p.setup, .int .i64 p.unit, .int .i64 p.hold, .int .i64 p.back]⟩] ++ [⟨.own, 83, [.int .i64 0, .int .i64 0, .int .i64 0]⟩] ++ new ++ [⟨.own, 83, [.int .i64 t, .int .i64 x, .int .i64 (p.lo x)]⟩]) := ((((Ext.refl m).one _ _).one _ _).app nr).one _ _
  obtain ⟨M, hM⟩ : ∃ M', M' = roM m ++ [⟨.own, 26, [.int .i64 p.turns, u, .int .i64 p.setup, .int .i64 p.unit, .int .i64 p.hold, .int .i64 p.back]⟩] ++ [⟨.own, 83, [.int .i64 0, .int .i64 0, .int .i64 0]⟩] ++ new ++ [⟨.own, 83, [.int .i64 t, .int .i64 x, .int .i64 (p.lo x)]⟩] := ⟨_, rfl⟩
  have hb1 : OwnB M m.length 26 [.int .i64 p.turns, u, .int .i64 p.setup, .int .i64 p.unit, .int .i64 p.hold, .int .i64 p.back] := by
    rw [hM]; exact (((OwnB.here (roM_len m).symm).ext _).ext _).ext _
  have hb2 : OwnB M (m.length + 1) 83 [.int .i64 0, .int .i64 0, .int .i64 0] := by
    rw [hM]; exact ((OwnB.here (by simp [roM_len])).ext _).ext _
  have hb3 : OwnB M (m.length + 1 + 1 + new.length) 83 [.int .i64 t, .int .i64 x, .int .i64 (p.lo x)] := by
    rw [hM]; exact OwnB.here (by simp [roM_len]; omega)
  try rw [← hM]
  rw [← hM] at hX
  refine callH_rc (moveCost_rc M _ vn p next t x (p.lo x) n (ProcA.mk (hX.ints hu)) (hn.xt2 hX) hg hl hB hx ⟨by omega, by omega⟩ hlo.1 ht ht0 hn4) ?_
  rintro r n2 ⟨rfl, nr2⟩
  have hb3' := hb3.ext n2
  simp (config := {implicitDefEqProofs := false, maxDischargeDepth := 20}) (disch := first | omega | (simp only [lenE]; done) | (simp only [lenE]; omega) | rfl | (simp only [lenE, markR_len]; done) | (simp only [lenE, markR_len]; omega)) only [runE, mapE, listE, initT_5, initT_6, initT_7, initT_8, resV, oneV, binA, unA, reduceCtorEq, Nat.reduceEqDiff, Nat.reduceAdd, Nat.reduceLT, Nat.reduceLeDiff, Nat.reduceMul, Nat.reduceSub, ↓reduceIte, decide_true, decide_false, Bool.true_eq_false, Bool.false_eq_true, Bool.not_true, Bool.not_false, if_true, if_false, and_true, true_and, memE, celE, w64, Nat.zero_add, Nat.add_zero, Nat.mul_one, putL, and_self, ldn, hb3'.rd]
  refine loop_inv mixed (fun s => ∃ (k : Nat) (b least : Int) (M : Mem), p.lo x + k ≤ 10 ∧ IsLeast (fun y => p.move next x y n) (p.lo x) (p.lo x + k) b ∧ least = p.move next x b n ∧ s.m = M ∧ Ext m M ∧ OwnB M m.length 26 [.int .i64 p.turns, u, .int .i64 p.setup, .int .i64 p.unit, .int .i64 p.hold, .int .i64 p.back] ∧
      OwnB M (m.length + 1) 83 [.int .i64 0, .int .i64 0, .int .i64 0] ∧ OwnB M (m.length + 1 + 1 + new.length) 83 [.int .i64 t, .int .i64 x, .int .i64 b] ∧
      s.t 1 = .int .i64 t ∧ s.t 2 = .int .i64 x ∧ s.t 3 = vn ∧ s.t 4 = .pointer (some ⟨m.length, 0, none⟩) ∧ s.t 8 = .pointer (some ⟨m.length + 1, 0, none⟩) ∧ s.t 9 = .pointer (some ⟨m.length + 1 + 1 + new.length, 0, none⟩) ∧ s.t 10 = .int .i64 least ∧ s.t 11 = .int .i64 (p.lo x + k + 1)) (fun s => (20 - intOf (s.t 11)).toNat)
    ⟨0, p.lo x, _, _, by omega, by simpa using IsLeast.one (fun y => p.move next x y n) (p.lo x), rfl, rfl, hX.app nr2, hb1.ext _, hb2.ext _, hb3.ext _, rfl, rfl, rfl, rfl, rfl, rfl, rfl, by simp only [put_t, put_t', put_m, putT_t, putT_t', putT_m, init_t, init_m, initT_0, initT_1, initT_2, initT_3, initT_4, initT_5, initT_6, initT_7, initT_8, Nat.reduceEqDiff, ↓reduceIte]; simp⟩ ?_
  rintro s ⟨k, b, least, M, hk, hle, hleast, tm, hX, hb1, hb2, hb3, t1, t2, t3, t4, t8, t9, t10, t11⟩
  by_cases hlt : p.lo x + k + 1 ≤ 10
  · have hmay : p.may (p.lo x + k + 1) := ⟨by omega, hlt⟩
    obtain ⟨M2, hM2⟩ : ∃ M', M' = M ++ [⟨.own, 83, [.int .i64 t, .int .i64 x, .int .i64 (p.lo x + k + 1)]⟩] := ⟨_, rfl⟩
    have hX2 : Ext m M2 := by rw [hM2]; exact hX.one _ _
    have hc1 : OwnB M2 m.length 26 [.int .i64 p.turns, u, .int .i64 p.setup, .int .i64 p.unit, .int .i64 p.hold, .int .i64 p.back] := by rw [hM2]; exact hb1.ext _
    have hc2 : OwnB M2 (m.length + 1) 83 [.int .i64 0, .int .i64 0, .int .i64 0] := by rw [hM2]; exact hb2.ext _
    have hc3 : OwnB M2 (m.length + 1 + 1 + new.length) 83 [.int .i64 t, .int .i64 x, .int .i64 b] := by rw [hM2]; exact hb3.ext _
    have hc4 : OwnB M2 M.length 83 [.int .i64 t, .int .i64 x, .int .i64 (p.lo x + k + 1)] := by rw [hM2]; exact OwnB.here rfl
    simp (config := {implicitDefEqProofs := false, maxDischargeDepth := 20}) (disch := first | omega | (simp only [lenE]; done) | (simp only [lenE]; omega) | rfl | (simp only [lenE, markR_len]; done) | (simp only [lenE, markR_len]; omega)) only [runE, mapE, listE, initT_5, initT_6, initT_7, initT_8, resV, oneV, binA, unA, reduceCtorEq, Nat.reduceEqDiff, Nat.reduceAdd, Nat.reduceLT, Nat.reduceLeDiff, Nat.reduceMul, Nat.reduceSub, ↓reduceIte, decide_true, decide_false, Bool.true_eq_false, Bool.false_eq_true, Bool.not_true, Bool.not_false, if_true, if_false, and_true, true_and, memE, celE, w64, Nat.zero_add, Nat.add_zero, Nat.mul_one, putL, and_self, ldn, tm, t1, t2, t3, t4, t8, t9, t10, t11, hlt, bld_move, hb1.rd]
    try rw [← hM2]
    simp (config := {implicitDefEqProofs := false, maxDischargeDepth := 20}) (disch := first | omega | (simp only [lenE]; done) | (simp only [lenE]; omega) | rfl | (simp only [lenE, markR_len]; done) | (simp only [lenE, markR_len]; omega)) only [runE, mapE, listE, initT_5, initT_6, initT_7, initT_8, resV, oneV, binA, unA, reduceCtorEq, Nat.reduceEqDiff, Nat.reduceAdd, Nat.reduceLT, Nat.reduceLeDiff, Nat.reduceMul, Nat.reduceSub, ↓reduceIte, decide_true, decide_false, Bool.true_eq_false, Bool.false_eq_true, Bool.not_true, Bool.not_false, if_true, if_false, and_true, true_and, memE, celE, w64, Nat.zero_add, Nat.add_zero, Nat.mul_one, putL, and_self, ldn, t1, t2, t3, t4, t8, t9, t10, t11, hc1.rd, hc4.rd]
    refine callH_rc (moveCost_rc M2 _ vn p next t x _ n (ProcA.mk (hX2.ints hu)) (hn.xt2 hX2) hg hl hB hx hmay (by omega) ht ht0 hn4) ?_
    rintro r n2 ⟨rfl, nr2⟩
    have hd := hle.up
    have hX3 := hX2.app nr2
    have hl2 := hX2.len
    by_cases hc : p.move next x (p.lo x + k + 1) n < p.move next x b n
    · rw [if_pos hc] at hd
      have hc' : p.move next x (p.lo x + k + 1) n < least := by rw [hleast]; exact hc
      have hst := (hc3.ext n2).st (off := 0) (vs := [.int .i64 t, .int .i64 x, .int .i64 (p.lo x + k + 1)]) (by simp) rfl
      have hrd := (hc4.ext n2).rd
      simp (config := {implicitDefEqProofs := false, maxDischargeDepth := 20}) (disch := first | omega | (simp only [lenE]; done) | (simp only [lenE]; omega) | rfl | (simp only [lenE, markR_len]; done) | (simp only [lenE, markR_len]; omega)) only [runE, mapE, listE, initT_5, initT_6, initT_7, initT_8, resV, oneV, binA, unA, reduceCtorEq, Nat.reduceEqDiff, Nat.reduceAdd, Nat.reduceLT, Nat.reduceLeDiff, Nat.reduceMul, Nat.reduceSub, ↓reduceIte, decide_true, decide_false, Bool.true_eq_false, Bool.false_eq_true, Bool.not_true, Bool.not_false, if_true, if_false, and_true, true_and, memE, celE, w64, Nat.zero_add, Nat.add_zero, Nat.mul_one, putL, and_self, ldn, t1, t2, t3, t4, t8, t9, t10, t11, hc', hrd, hst]
      refine ⟨⟨k + 1, p.lo x + k + 1, _, _, by omega, by rw [Int.natCast_add, ← Int.add_assoc]; exact hd, rfl, rfl, hX3.put (by omega) _ _, OwnB.set_ne (hc1.ext n2) (by omega) _, OwnB.set_ne (hc2.ext n2) (by omega) _, (hc3.ext n2).set_self _ _, rfl, by congr 1; simp; omega⟩, ?_⟩
      simp [intOf]; omega
    · rw [if_neg hc] at hd
      have hc' : ¬ (p.move next x (p.lo x + k + 1) n < least) := by rw [hleast]; exact hc
      simp (config := {implicitDefEqProofs := false, maxDischargeDepth := 20}) (disch := first | omega | (simp only [lenE]; done) | (simp only [lenE]; omega) | rfl | (simp only [lenE, markR_len]; done) | (simp only [lenE, markR_len]; omega)) only [runE, mapE, listE, initT_5, initT_6, initT_7, initT_8, resV, oneV, binA, unA, reduceCtorEq, Nat.reduceEqDiff, Nat.reduceAdd, Nat.reduceLT, Nat.reduceLeDiff, Nat.reduceMul, Nat.reduceSub, ↓reduceIte, decide_true, decide_false, Bool.true_eq_false, Bool.false_eq_true, Bool.not_true, Bool.not_false, if_true, if_false, and_true, true_and, memE, celE, w64, Nat.zero_add, Nat.add_zero, Nat.mul_one, putL, and_self, ldn, t1, t2, t3, t4, t8, t9, t10, t11, hc']
      refine ⟨⟨k + 1, b, least, _, by omega, by rw [Int.natCast_add, ← Int.add_assoc]; exact hd, hleast, rfl, hX3, hc1.ext _, hc2.ext _, hc3.ext _, rfl, by congr 1; simp; omega⟩, ?_⟩
      simp [intOf]; omega
  · have e : p.lo x + k = 10 := by omega
    rw [e] at hle
    have e2 := hle.uniq hup
    have hst := hb2.st (off := 0) (vs := [.int .i64 t, .int .i64 x, .int .i64 b]) (by simp) rfl
    have hrd := ((hb2.set_self 83 [.int .i64 t, .int .i64 x, .int .i64 b])).rd
    simp (config := {implicitDefEqProofs := false, maxDischargeDepth := 20}) (disch := first | omega | (simp only [lenE]; done) | (simp only [lenE]; omega) | rfl | (simp only [lenE, markR_len]; done) | (simp only [lenE, markR_len]; omega)) only [runE, mapE, listE, initT_5, initT_6, initT_7, initT_8, resV, oneV, binA, unA, reduceCtorEq, Nat.reduceEqDiff, Nat.reduceAdd, Nat.reduceLT, Nat.reduceLeDiff, Nat.reduceMul, Nat.reduceSub, ↓reduceIte, decide_true, decide_false, Bool.true_eq_false, Bool.false_eq_true, Bool.not_true, Bool.not_false, if_true, if_false, and_true, true_and, memE, celE, w64, Nat.zero_add, Nat.add_zero, Nat.mul_one, putL, and_self, ldn, tm, t1, t2, t3, t4, t8, t9, t10, t11, hlt, hb3.rd, hst, hrd]
    rw [e2]
    exact ext_ansV2 (hX.put (id := m.length + 1) (by omega) _ _)
end Go.Proofs.Ytddnedngjijpoaa.Ab
