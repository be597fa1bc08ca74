/- One period with chances: the contracts of the functions over distributions that need no memory. -/
import Derived.Test.YtdcheilmjooacaaAbBasis
import Derived.Test.YtdcheilmjooacaaChMath
import Derived.Test.YtdcheilmjooacaaAbWts
namespace Go.Proofs.Ytdcheilmjooacaa.Ab
open Go Go.RowKit
set_option linter.unusedVariables false
set_option linter.unusedSimpArgs false

theorem ext0 (m : Mem) : Ext m (roM m) := Ext.refl m
theorem IntsA.xt {m M : Mem} {v : Value} {l : List Int} (h : IntsA m v l) (hx : Ext m M) : IntsA M v l := hx.ints h.ro

theorem distB_no {w : List Int} (h : (decide ((1 : Int) ≤ (w.length : Int)) && decide ((w.length : Int) ≤ 16)) = false) : distB w = false := by
  cases hd : distB w with
  | false => rfl
  | true =>
    have := dist_iff.1 hd
    have := this.len
    have := (dist_iff.1 hd).l16
    simp at h; omega
theorem sum_small {w : List Int} (hl : w.length ≤ 16) (hw : Go.Proofs.Ytdcheilmjooacaa.rowB w w.length 1000 = true) (k : Nat) (hk : k ≤ w.length) : -4611686018427387904 ≤ sumTo w k ∧ sumTo w k ≤ 4611686018427387904 := by
  have := sumTo_in (rowB_iff.1 hw).1 k hk
  omega
theorem _root_.Go.Proofs.Ytdcheilmjooacaa.Dist.small {w : List Int} (h : Dist w) (k : Nat) (hk : k ≤ w.length) : -4611686018427387904 ≤ sumTo w k ∧ sumTo w k ≤ 4611686018427387904 := by
  have := h.sum k
  have := h.l16
  omega

/-! The sums. -/
theorem sumTo_cut0 (l : List Int) {hi : Nat} (h : hi ≤ l.length) (k : Nat) (hk : k ≤ hi) : sumTo (cutL l 0 hi) k = sumTo l k := by
  unfold sumTo cutL; rw [List.drop_zero, List.take_take, Nat.min_eq_left hk]
theorem weightUpTo_rc (m : Mem) (v : Value) (w : List Int) (q : Nat) (h : IntsA m v w) (hd : Dist w) (hq : q ≤ 20) :
    RC Try.prog 111 [v, .int .i64 q] m fun r new => r = .int .i64 (upF w q) ∧ new = [] := by
  refine rc_of_run mixed ok_impl_weightUpTo (by simp) (go_start _ _ _ ?_)
  have hr := h.ro
  have hl := hd.l16
  obtain ⟨v', e, d⟩ := hr.pre (hi := min (q + 1) w.length) (by omega)
  have e2 : min ((q : Int) + 1) (w.length : Int) = ((min (q + 1) w.length : Nat) : Int) := by omega
  simp (config := {implicitDefEqProofs := false, maxDischargeDepth := 20}) (disch := first | omega | (simp only [lenE]; done) | (simp only [lenE]; omega) | rfl | (simp only [lenE, markR_len]; done) | (simp only [lenE, markR_len]; omega)) only [runE, mapE, listE, initT_5, initT_6, initT_7, initT_8, resV, oneV, binA, unA, reduceCtorEq, Nat.reduceEqDiff, Nat.reduceAdd, Nat.reduceLT, Nat.reduceLeDiff, Nat.reduceMul, Nat.reduceSub, ↓reduceIte, decide_true, decide_false, Bool.true_eq_false, Bool.false_eq_true, Bool.not_true, Bool.not_false, if_true, if_false, and_true, true_and, memE, celE, w64, Nat.zero_add, Nat.add_zero, Nat.mul_one, putL, and_self, ldn, c_impl_weightUpTo, r_impl_weightUpTo, hr.len, e2, Option.map_none, e]
  have hc : (cutL w 0 (min (q + 1) w.length)).length = min (q + 1) w.length := by rw [cutL_len (by omega), Nat.sub_zero]
  refine callH_rc (sumOf_rc _ v' _ d fun k hk => by rw [sumTo_cut0 w (by omega) k (by omega)]; exact hd.small k (by omega)) ?_
  rintro r new ⟨rfl, rfl⟩
  simp (config := {implicitDefEqProofs := false, maxDischargeDepth := 20}) (disch := first | omega | (simp only [lenE]; done) | (simp only [lenE]; omega) | rfl | (simp only [lenE, markR_len]; done) | (simp only [lenE, markR_len]; omega)) only [runE, mapE, listE, initT_5, initT_6, initT_7, initT_8, resV, oneV, binA, unA, reduceCtorEq, Nat.reduceEqDiff, Nat.reduceAdd, Nat.reduceLT, Nat.reduceLeDiff, Nat.reduceMul, Nat.reduceSub, ↓reduceIte, decide_true, decide_false, Bool.true_eq_false, Bool.false_eq_true, Bool.not_true, Bool.not_false, if_true, if_false, and_true, true_and, memE, celE, w64, Nat.zero_add, Nat.add_zero, Nat.mul_one, putL, and_self, ldn]
  refine newQ_nil ⟨?_, rfl⟩
  rw [hc, sumTo_cut0 w (by omega) _ (Nat.le_refl _)]; rfl

/-! Whether the numbers are valid. -/
def ordB (w : List Int) (q : Int) : Bool := distB w && inB 15 q
def chB (o u : Int) : Bool := inB 20 o && inB 20 u
theorem ordB_yes {w : List Int} {q : Int} (h : ordB w q = true) : Dist w ∧ ∃ n : Nat, q = n ∧ n ≤ 15 := by
  unfold ordB at h
  rw [Bool.and_eq_true, dist_iff, inB_iff] at h
  exact ⟨h.1, q.toNat, by omega, by omega⟩
theorem chB_yes {o u : Int} (h : chB o u = true) : (0 ≤ o ∧ o ≤ 20) ∧ (0 ≤ u ∧ u ≤ 20) := by
  unfold chB at h
  rw [Bool.and_eq_true, inB_iff, inB_iff] at h
  exact h
end Go.Proofs.Ytdcheilmjooacaa.Ab
