/- Contracts of markets: pieces and their sales, the first greatest number, profits. -/
import Derived.Test.YtdcheilmjooacaaAbMk1
namespace Go.Proofs.Ytdcheilmjooacaa.Ab
open Go Go.RowKit
set_option linter.unusedVariables false
set_option linter.unusedSimpArgs false

theorem IntsA.cutFromM {m : Mem} {v : Value} {l : List Int} (h : IntsA m v l) {lo : Nat} (h1 : lo ≤ l.length) :
    ∃ v', slcA 1 v (some (.int .i64 lo)) none = some v' ∧ IntsA m v' (l.drop lo) := by
  obtain ⟨v', e, d⟩ := h.cut h1 (Nat.le_refl _)
  have : cutL l lo l.length = l.drop lo := by unfold cutL; rw [List.take_length]
  rw [this] at d
  refine ⟨v', ?_, d⟩
  rw [← e]
  rcases h.form with ⟨rfl, rfl⟩ | ⟨id, off, fl, rfl⟩
  · rfl
  · simp [slcA, boundA]
theorem IntsA.tail {m : Mem} {v : Value} {x : Int} {l : List Int} (h : IntsA m v (x :: l)) :
    ∃ v', slcA 1 v (some (.int .i64 1)) none = some v' ∧ IntsA m v' l := by
  obtain ⟨v', e, d⟩ := h.cutFromM (lo := 1) (by simp)
  exact ⟨v', e, d⟩
theorem PieceO.ptr {t : TypeId} {l : List Int} {lo hi : Nat} {M : Mem} {v : Value} (h : PieceO t l lo hi M v) : ∃ A, v = .pointer A := by
  match l, h with
  | [], h => exact ⟨_, h⟩
  | [_], h => exact ⟨_, h⟩
  | x :: y :: l, ⟨id, n, a, _⟩ => exact ⟨_, a⟩
theorem bld_piece (a : Int) (A : Option Addr) : bldA [.int .i64 0, .pointer none] [(0, 1, .int .i64 a), (1, 1, .pointer A)] = some (.agg #[.int .i64 a, .pointer A]) := rfl
theorem piecesFor_rc : ∀ (l : List Int) (x : Int) (m : Mem) (v : Value), IntsA m v (x :: l) → l.length ≤ 16 → (∀ y ∈ l, 0 ≤ y ∧ y ≤ 1000) →
    RC Try.prog 107 [v] m (AnsO m (PieceO 93 (x :: l)) id)
  | [], x, m, v, h, _, _ => by
    refine rc_of_run mixed ok_impl_piecesFor (by simp) (go_start _ _ _ ?_)
    obtain ⟨v', e, d⟩ := h.ro.tail
    have hd := d.len
    simp only [List.length_nil] at hd
    simp (config := {implicitDefEqProofs := false, maxDischargeDepth := 20}) (disch := first | omega | (simp only [lenE]; done) | (simp only [lenE]; omega) | rfl | (simp only [lenE, markR_len]; done) | (simp only [lenE, markR_len]; omega)) only [runE, mapE, listE, initT_5, initT_6, initT_7, initT_8, resV, oneV, binA, unA, reduceCtorEq, Nat.reduceEqDiff, Nat.reduceAdd, Nat.reduceLT, Nat.reduceLeDiff, Nat.reduceMul, Nat.reduceSub, ↓reduceIte, decide_true, decide_false, Bool.true_eq_false, Bool.false_eq_true, Bool.not_true, Bool.not_false, if_true, if_false, and_true, true_and, memE, celE, w64, Nat.zero_add, Nat.add_zero, Nat.mul_one, putL, and_self, ldn, c_impl_piecesFor, r_impl_piecesFor, Option.map_none, e, hd, show ((((0 : Nat) : Int)) == 0) = true from rfl]
    exact ext_ansO (f := _root_.id) (Ext.refl m) fun M' hM => rfl
  | y :: l, x, m, v, h, h16, hw => by
    refine rc_of_run mixed ok_impl_piecesFor (by simp) (go_start _ _ _ ?_)
    obtain ⟨v', e, d⟩ := h.ro.tail
    have hd := d.len
    have hne : (((l.length + 1 : Nat) : Int) == 0) = false := by rw [beq_eq_false_iff_ne]; omega
    simp (config := {implicitDefEqProofs := false, maxDischargeDepth := 20}) (disch := first | omega | (simp only [lenE]; done) | (simp only [lenE]; omega) | rfl | (simp only [lenE, markR_len]; done) | (simp only [lenE, markR_len]; omega)) only [runE, mapE, listE, initT_5, initT_6, initT_7, initT_8, resV, oneV, binA, unA, reduceCtorEq, Nat.reduceEqDiff, Nat.reduceAdd, Nat.reduceLT, Nat.reduceLeDiff, Nat.reduceMul, Nat.reduceSub, ↓reduceIte, decide_true, decide_false, Bool.true_eq_false, Bool.false_eq_true, Bool.not_true, Bool.not_false, if_true, if_false, and_true, true_and, memE, celE, w64, Nat.zero_add, Nat.add_zero, Nat.mul_one, putL, and_self, ldn, c_impl_piecesFor, r_impl_piecesFor, Option.map_none, e, hd, hne]
    have hb : ∀ k : Nat, k ≤ (y :: l).length → -4611686018427387904 ≤ sumTo (y :: l) k ∧ sumTo (y :: l) k ≤ 4611686018427387904 := fun k hk => by
      have := sumTo_bound (by decide) hw k
      omega
    refine callH_rc (sumOf_rc _ v' _ d hb) ?_
    rintro r n1 ⟨rfl, rfl⟩
    simp (config := {implicitDefEqProofs := false, maxDischargeDepth := 20}) (disch := first | omega | (simp only [lenE]; done) | (simp only [lenE]; omega) | rfl | (simp only [lenE, markR_len]; done) | (simp only [lenE, markR_len]; omega)) only [runE, mapE, listE, initT_5, initT_6, initT_7, initT_8, resV, oneV, binA, unA, reduceCtorEq, Nat.reduceEqDiff, Nat.reduceAdd, Nat.reduceLT, Nat.reduceLeDiff, Nat.reduceMul, Nat.reduceSub, ↓reduceIte, decide_true, decide_false, Bool.true_eq_false, Bool.false_eq_true, Bool.not_true, Bool.not_false, if_true, if_false, and_true, true_and, memE, celE, w64, Nat.zero_add, Nat.add_zero, Nat.mul_one, putL, and_self, ldn]
    rw [show sumTo (y :: l) (l.length + 1) = (y :: l).sum from sumL (l := y :: l)]
    have IH := piecesFor_rc l y (roM m) v' d (by simp at h16; omega) fun z hz => hw z (List.mem_cons_of_mem _ hz)
    obtain ⟨K, hK⟩ : ∃ K, K = roM m := ⟨_, rfl⟩
    have hX : Ext m K := by rw [hK]; exact Ext.refl m
    rw [← hK] at IH ⊢
    refine callH_rc IH ?_
    rintro r n2 ⟨nr2, w, rfl, hP⟩
    obtain ⟨A, rfl⟩ := hP.now.ptr
    obtain ⟨S, hS⟩ : ∃ S, S = (y :: l).sum := ⟨_, rfl⟩
    rw [← hS]
    obtain ⟨E, hE⟩ : ∃ E, E = K ++ n2 := ⟨_, rfl⟩
    have hXE : Ext m E := by rw [hE]; exact hX.app nr2
    have LE : E.length = K.length + n2.length := by rw [hE, List.length_append]
    have LK : K.length = m.length := by rw [hK, roM_len]
    rw [← hE] at hP ⊢
    simp (config := {implicitDefEqProofs := false, maxDischargeDepth := 20}) (disch := first | omega | (simp only [lenE]; done) | (simp only [lenE]; omega) | rfl | (simp only [lenE, markR_len]; done) | (simp only [lenE, markR_len]; omega)) only [runE, mapE, listE, initT_5, initT_6, initT_7, initT_8, resV, oneV, binA, unA, reduceCtorEq, Nat.reduceEqDiff, Nat.reduceAdd, Nat.reduceLT, Nat.reduceLeDiff, Nat.reduceMul, Nat.reduceSub, ↓reduceIte, decide_true, decide_false, Bool.true_eq_false, Bool.false_eq_true, Bool.not_true, Bool.not_false, if_true, if_false, and_true, true_and, memE, celE, w64, Nat.zero_add, Nat.add_zero, Nat.mul_one, putL, and_self, ldn, bld_piece]
    refine ext_ansO (f := _root_.id) (hXE.one _ _) fun M' hM => ⟨E.length, .pointer A, rfl, by omega, by simp, ?_, ?_⟩
    · rw [← hS]
      exact (OwnB.here rfl).at_ (hM _ (by omega) (by simp))
    · refine PieceO.wide _ _ _ _ _ _ _ _ (by omega) (by simp; omega) (hP.2.2 M' fun i h1 h2 => ?_)
      rw [hM i (by omega) (by simp; omega), List.getElem?_append_left (by omega)]
theorem nilcM (a : Addr) : nilcA (.pointer (some a)) = some (.pointer (some a)) := rfl
theorem sold_rc : ∀ (l : List Int) (x : Int) (q : Nat) (m : Mem) (v : Value), PieceA (x :: l) m v → l.length ≤ 16 → (∀ y ∈ l, 0 ≤ y ∧ y ≤ 1000) → q ≤ 16 →
    RC Try.prog 108 [v, .int .i64 q] m fun r new => r = .int .i64 (salP (x :: l) q) ∧ new = []
  | [], x, q, m, v, h, _, _, _ => by
    refine rc_of_run mixed ok_impl_piece__sold (by simp) (go_start _ _ _ ?_)
    obtain rfl : v = .pointer none := h
    simp (config := {implicitDefEqProofs := false, maxDischargeDepth := 20}) (disch := first | omega | (simp only [lenE]; done) | (simp only [lenE]; omega) | rfl | (simp only [lenE, markR_len]; done) | (simp only [lenE, markR_len]; omega)) only [runE, mapE, listE, initT_5, initT_6, initT_7, initT_8, resV, oneV, binA, unA, reduceCtorEq, Nat.reduceEqDiff, Nat.reduceAdd, Nat.reduceLT, Nat.reduceLeDiff, Nat.reduceMul, Nat.reduceSub, ↓reduceIte, decide_true, decide_false, Bool.true_eq_false, Bool.false_eq_true, Bool.not_true, Bool.not_false, if_true, if_false, and_true, true_and, memE, celE, w64, Nat.zero_add, Nat.add_zero, Nat.mul_one, putL, and_self, ldn, c_impl_piece__sold, r_impl_piece__sold]
    exact newQ_nil ⟨by rw [salP_one], rfl⟩
  | y :: l, x, 0, m, v, h, _, _, _ => by
    refine rc_of_run mixed ok_impl_piece__sold (by simp) (go_start _ _ _ ?_)
    obtain ⟨id, n, rfl, r0, r1, hp⟩ := h.ro
    simp (config := {implicitDefEqProofs := false, maxDischargeDepth := 20}) (disch := first | omega | (simp only [lenE]; done) | (simp only [lenE]; omega) | rfl | (simp only [lenE, markR_len]; done) | (simp only [lenE, markR_len]; omega)) only [runE, mapE, listE, initT_5, initT_6, initT_7, initT_8, resV, oneV, binA, unA, reduceCtorEq, Nat.reduceEqDiff, Nat.reduceAdd, Nat.reduceLT, Nat.reduceLeDiff, Nat.reduceMul, Nat.reduceSub, ↓reduceIte, decide_true, decide_false, Bool.true_eq_false, Bool.false_eq_true, Bool.not_true, Bool.not_false, if_true, if_false, and_true, true_and, memE, celE, w64, Nat.zero_add, Nat.add_zero, Nat.mul_one, putL, and_self, ldn, c_impl_piece__sold, r_impl_piece__sold, show ((((0 : Nat) : Int)) == 0) = true from rfl]
    exact newQ_nil ⟨by rw [salP_zero], rfl⟩
  | y :: l, x, q + 1, m, v, h, h16, hw, hq => by
    refine rc_of_run mixed ok_impl_piece__sold (by simp) (go_start _ _ _ ?_)
    obtain ⟨id, n, rfl, r0, r1, hp⟩ := h.ro
    have hne : (((q + 1 : Nat) : Int) == 0) = false := by rw [beq_eq_false_iff_ne]; omega
    have e1 : ((q + 1 : Nat) : Int) - 1 = (q : Int) := by omega
    have hl16 : l.length ≤ 16 := by simp at h16; omega
    have hw' : ∀ z ∈ l, 0 ≤ z ∧ z ≤ 1000 := fun z hz => hw z (List.mem_cons_of_mem _ hz)
    have s1 : 0 ≤ (y :: l).sum ∧ (y :: l).sum ≤ 16000 := by
      have := sumTo_bound (by decide) hw (y :: l).length
      rw [sumTo_all (Nat.le_refl _)] at this
      simp only [List.length_cons] at this h16
      omega
    have s2 : 0 ≤ salP (y :: l) q ∧ salP (y :: l) q ≤ 1000000 := by
      rw [sal_P]
      have hin : ∀ j : Nat, j ≤ (y :: l).length → 0 ≤ salF (y :: l) q j ∧ salF (y :: l) q j ≤ 16000 * j := by
        intro j
        induction j with
        | zero => intro _; simp [salF, wsum]
        | succ j ih =>
          intro hj
          have := ih (by omega)
          have b1 := getD_bound (by decide) hw j
          have b2 : 0 ≤ (y :: l).getD j 0 * min (q : Int) j ∧ (y :: l).getD j 0 * min (q : Int) j ≤ 1000 * 16 := mul_bound b1.1 b1.2 (by omega) (by omega)
          rw [sal_s]; omega
      have := hin (y :: l).length (Nat.le_refl _)
      simp only [List.length_cons] at h16
      unfold sal
      simp only [List.length_cons] at this ⊢
      omega
    simp (config := {implicitDefEqProofs := false, maxDischargeDepth := 20}) (disch := first | omega | (simp only [lenE]; done) | (simp only [lenE]; omega) | rfl | (simp only [lenE, markR_len]; done) | (simp only [lenE, markR_len]; omega)) only [runE, mapE, listE, initT_5, initT_6, initT_7, initT_8, resV, oneV, binA, unA, reduceCtorEq, Nat.reduceEqDiff, Nat.reduceAdd, Nat.reduceLT, Nat.reduceLeDiff, Nat.reduceMul, Nat.reduceSub, ↓reduceIte, decide_true, decide_false, Bool.true_eq_false, Bool.false_eq_true, Bool.not_true, Bool.not_false, if_true, if_false, and_true, true_and, memE, celE, w64, Nat.zero_add, Nat.add_zero, Nat.mul_one, putL, and_self, ldn, c_impl_piece__sold, r_impl_piece__sold, hne, r0, r1, e1, nilcM]
    refine rcallH_rc (sold_rc l y q (roM m) n hp hl16 hw' (by omega)) ?_
    rintro r new ⟨rfl, rfl⟩
    simp (config := {implicitDefEqProofs := false, maxDischargeDepth := 20}) (disch := first | omega | (simp only [lenE]; done) | (simp only [lenE]; omega) | rfl | (simp only [lenE, markR_len]; done) | (simp only [lenE, markR_len]; omega)) only [runE, mapE, listE, initT_5, initT_6, initT_7, initT_8, resV, oneV, binA, unA, reduceCtorEq, Nat.reduceEqDiff, Nat.reduceAdd, Nat.reduceLT, Nat.reduceLeDiff, Nat.reduceMul, Nat.reduceSub, ↓reduceIte, decide_true, decide_false, Bool.true_eq_false, Bool.false_eq_true, Bool.not_true, Bool.not_false, if_true, if_false, and_true, true_and, memE, celE, w64, Nat.zero_add, Nat.add_zero, Nat.mul_one, putL, and_self, ldn]
    refine newQ_nil ⟨?_, rfl⟩
    rw [salP_next]
theorem _root_.Go.Proofs.Ytdcheilmjooacaa.GoodM.cons {k : Mk} (h : GoodM k) : ∃ x l, k.w = x :: l := by
  have := h.dist.len
  match hw : k.w with
  | [] => rw [hw] at this; simp at this
  | x :: l => exact ⟨x, l, rfl⟩
theorem m9_small {k : Mk} (h : GoodM k) (j : Nat) (hj : j ≤ k.w.length) : -4611686018427387904 ≤ sumTo k.w j ∧ sumTo k.w j ≤ 4611686018427387904 := h.dist.small j hj
theorem salesOf_rc (m : Mem) (v : Value) (k : Mk) (q : Nat) (h : MkA m v k) (hg : GoodM k) (hq : q ≤ 8) :
    RC Try.prog 78 [v, .int .i64 q] m (AnsV (.tuple #[.int .i64 (sal k.w q), .int .i64 (tot k.w * q - sal k.w q)])) := by
  refine rc_of_run mixed ok_impl_salesOf (by simp) (go_start _ _ _ ?_)
  obtain ⟨u, rfl, hu⟩ := h.ro
  simp (config := {implicitDefEqProofs := false, maxDischargeDepth := 20}) (disch := first | omega | (simp only [lenE]; done) | (simp only [lenE]; omega) | rfl | (simp only [lenE, markR_len]; done) | (simp only [lenE, markR_len]; omega)) only [runE, mapE, listE, initT_5, initT_6, initT_7, initT_8, resV, oneV, binA, unA, reduceCtorEq, Nat.reduceEqDiff, Nat.reduceAdd, Nat.reduceLT, Nat.reduceLeDiff, Nat.reduceMul, Nat.reduceSub, ↓reduceIte, decide_true, decide_false, Bool.true_eq_false, Bool.false_eq_true, Bool.not_true, Bool.not_false, if_true, if_false, and_true, true_and, memE, celE, w64, Nat.zero_add, Nat.add_zero, Nat.mul_one, putL, and_self, ldn, c_impl_salesOf, r_impl_salesOf]
  obtain ⟨E, hE⟩ : ∃ M, M = roM m ++ [⟨.own, 27, [u, .int .i64 k.price, .int .i64 k.make, .int .i64 k.left]⟩] := ⟨_, rfl⟩
  rw [← hE]
  have hX : Ext m E := by rw [hE]; exact ((Ext.refl m).one _ _)
  have o0 : OwnB E (m.length) 27 [u, .int .i64 k.price, .int .i64 k.make, .int .i64 k.left] := by rw [hE]; exact OwnB.here (by simp [roM_len])
  have hu2 : IntsA E u k.w := by rw [hE]; exact hu.ext _
  clear hE
  obtain ⟨x, l, hw⟩ := hg.cons
  have hl9 := hg.l9
  have r0 := o0.rd 0
  simp only [List.getElem?_cons_zero] at r0
  have hwt : ∀ y ∈ l, 0 ≤ y ∧ y ≤ 1000 := fun y hy => hg.dist.wt y (by rw [hw]; exact List.mem_cons_of_mem _ hy)
  have hll : l.length ≤ 16 := by rw [hw] at hl9; simp at hl9; omega
  have P1 := piecesFor_rc l x E u (by rw [← hw]; exact hu2) hll hwt
  try simp (config := {implicitDefEqProofs := false, maxDischargeDepth := 20}) (disch := first | omega | (simp only [lenE]; done) | (simp only [lenE]; omega) | rfl | (simp only [lenE, markR_len]; done) | (simp only [lenE, markR_len]; omega)) only [runE, mapE, listE, initT_5, initT_6, initT_7, initT_8, resV, oneV, binA, unA, reduceCtorEq, Nat.reduceEqDiff, Nat.reduceAdd, Nat.reduceLT, Nat.reduceLeDiff, Nat.reduceMul, Nat.reduceSub, ↓reduceIte, decide_true, decide_false, Bool.true_eq_false, Bool.false_eq_true, Bool.not_true, Bool.not_false, if_true, if_false, and_true, true_and, memE, celE, w64, Nat.zero_add, Nat.add_zero, Nat.mul_one, putL, and_self, ldn, r0]
  refine callH_rc P1 ?_
  rintro r n1 ⟨nr1, w, rfl, hP⟩
  obtain ⟨F, hF⟩ : ∃ F, F = E ++ n1 := ⟨_, rfl⟩
  have hXF : Ext m F := by rw [hF]; exact hX.app nr1
  have o1 : OwnB F (m.length) 27 [u, .int .i64 k.price, .int .i64 k.make, .int .i64 k.left] := by rw [hF]; exact o0.ext _
  have hu3 : IntsA F u k.w := by rw [hF]; exact hu2.ext _
  rw [← hF] at hP ⊢
  have hPA := hP.now.in
  have q0 := o1.rd 0
  simp only [List.getElem?_cons_zero] at q0
  simp (config := {implicitDefEqProofs := false, maxDischargeDepth := 20}) (disch := first | omega | (simp only [lenE]; done) | (simp only [lenE]; omega) | rfl | (simp only [lenE, markR_len]; done) | (simp only [lenE, markR_len]; omega)) only [runE, mapE, listE, initT_5, initT_6, initT_7, initT_8, resV, oneV, binA, unA, reduceCtorEq, Nat.reduceEqDiff, Nat.reduceAdd, Nat.reduceLT, Nat.reduceLeDiff, Nat.reduceMul, Nat.reduceSub, ↓reduceIte, decide_true, decide_false, Bool.true_eq_false, Bool.false_eq_true, Bool.not_true, Bool.not_false, if_true, if_false, and_true, true_and, memE, celE, w64, Nat.zero_add, Nat.add_zero, Nat.mul_one, putL, and_self, ldn]
  refine callH_rc (sold_rc l x q F r hPA hll hwt (by omega)) ?_
  rintro r n2 ⟨rfl, rfl⟩
  rw [← hw, sal_P, List.append_nil]
  simp (config := {implicitDefEqProofs := false, maxDischargeDepth := 20}) (disch := first | omega | (simp only [lenE]; done) | (simp only [lenE]; omega) | rfl | (simp only [lenE, markR_len]; done) | (simp only [lenE, markR_len]; omega)) only [runE, mapE, listE, initT_5, initT_6, initT_7, initT_8, resV, oneV, binA, unA, reduceCtorEq, Nat.reduceEqDiff, Nat.reduceAdd, Nat.reduceLT, Nat.reduceLeDiff, Nat.reduceMul, Nat.reduceSub, ↓reduceIte, decide_true, decide_false, Bool.true_eq_false, Bool.false_eq_true, Bool.not_true, Bool.not_false, if_true, if_false, and_true, true_and, memE, celE, w64, Nat.zero_add, Nat.add_zero, Nat.mul_one, putL, and_self, ldn, q0]
  refine callH_rc (sumOf_rc _ u k.w hu3 fun j hj => m9_small hg j hj) ?_
  rintro r n3 ⟨rfl, rfl⟩
  rw [List.append_nil]
  have b1 := sal_in hg hq
  have b2 := hg.tot
  have b3 : 0 ≤ tot k.w * (q : Int) := Int.mul_nonneg (by omega) (by omega)
  rw [show sumTo k.w k.w.length = tot k.w from rfl]
  simp (config := {implicitDefEqProofs := false, maxDischargeDepth := 20}) (disch := first | omega | (simp only [lenE]; done) | (simp only [lenE]; omega) | rfl | (simp only [lenE, markR_len]; done) | (simp only [lenE, markR_len]; omega)) only [runE, mapE, listE, initT_5, initT_6, initT_7, initT_8, resV, oneV, binA, unA, reduceCtorEq, Nat.reduceEqDiff, Nat.reduceAdd, Nat.reduceLT, Nat.reduceLeDiff, Nat.reduceMul, Nat.reduceSub, ↓reduceIte, decide_true, decide_false, Bool.true_eq_false, Bool.false_eq_true, Bool.not_true, Bool.not_false, if_true, if_false, and_true, true_and, memE, celE, w64, Nat.zero_add, Nat.add_zero, Nat.mul_one, putL, and_self, ldn]
  exact ext_ansV hXF rfl
/-! The first greatest number. -/
def gL (l : List Int) : Nat := argG (fun i => l.getD i 0) (l.length - 1)
theorem slMaxM_rc (m : Mem) (v : Value) (l : List Int) (h : IntsA m v l) (hl : 0 < l.length) :
    RC Try.prog 109 [v] m fun r new => r = .int .i64 (l.getD (gL l) 0) ∧ new = [] := by
  refine rc_of_run mixed ok_slices_Max (by simp) (go_start _ _ _ ?_)
  have hr := h.ro
  have h1 : ¬ ((l.length : Int) < 1) := by omega
  have a0 : iadA 1 v (.int .i64 0) = some (pAt v 0) := hr.at_ 0 hl
  simp (config := {implicitDefEqProofs := false, maxDischargeDepth := 20}) (disch := first | omega | (simp only [lenE]; done) | (simp only [lenE]; omega) | rfl | (simp only [lenE, markR_len]; done) | (simp only [lenE, markR_len]; omega)) only [runE, mapE, listE, initT_5, initT_6, initT_7, initT_8, resV, oneV, binA, unA, reduceCtorEq, Nat.reduceEqDiff, Nat.reduceAdd, Nat.reduceLT, Nat.reduceLeDiff, Nat.reduceMul, Nat.reduceSub, ↓reduceIte, decide_true, decide_false, Bool.true_eq_false, Bool.false_eq_true, Bool.not_true, Bool.not_false, if_true, if_false, and_true, true_and, memE, celE, w64, Nat.zero_add, Nat.add_zero, Nat.mul_one, putL, and_self, ldn, c_slices_Max, r_slices_Max, hr.len, h1, a0, hr.ld 0 hl]
  refine loop_inv mixed (fun s => ∃ (k : Nat), k < l.length ∧ s.t 0 = v ∧ s.t 3 = .int .i64 (l.getD (argG (fun i => l.getD i 0) k) 0) ∧ s.t 4 = .int .i64 ((k + 1 : Nat) : Int) ∧ s.m = roM m) (fun s => l.length + 1 - (intOf (s.t 4)).toNat) ⟨0, hl, rfl, rfl, rfl, rfl⟩ ?_
  rintro s ⟨k, hk, t0, t3, t4, tm⟩
  have bd := hr.bd
  by_cases hlt : k + 1 < l.length
  · have hlt' : ((k + 1 : Nat) : Int) < l.length := by omega
    have e : max (l.getD (argG (fun i => l.getD i 0) k) 0) (l.getD (k + 1) 0) = l.getD (argG (fun i => l.getD i 0) (k + 1)) 0 := by
      simp only [argG]
      by_cases hc : l.getD (argG (fun i => l.getD i 0) k) 0 < l.getD (k + 1) 0
      · rw [if_pos hc]; omega
      · rw [if_neg hc]; omega
    simp (config := {implicitDefEqProofs := false, maxDischargeDepth := 20}) (disch := first | omega | (simp only [lenE]; done) | (simp only [lenE]; omega) | rfl | (simp only [lenE, markR_len]; done) | (simp only [lenE, markR_len]; omega)) only [runE, mapE, listE, initT_5, initT_6, initT_7, initT_8, resV, oneV, binA, unA, reduceCtorEq, Nat.reduceEqDiff, Nat.reduceAdd, Nat.reduceLT, Nat.reduceLeDiff, Nat.reduceMul, Nat.reduceSub, ↓reduceIte, decide_true, decide_false, Bool.true_eq_false, Bool.false_eq_true, Bool.not_true, Bool.not_false, if_true, if_false, and_true, true_and, memE, celE, w64, Nat.zero_add, Nat.add_zero, Nat.mul_one, putL, and_self, ldn, t0, t3, t4, tm, hr.len, hr.at_ (k + 1) hlt, hr.ld (k + 1) hlt, hlt']
    exact ⟨⟨k + 1, hlt, by rw [← e], by congr 1⟩, by simp [intOf]; omega⟩
  · have hlt' : ¬ (((k + 1 : Nat) : Int) < l.length) := by omega
    have e : k = l.length - 1 := by omega
    simp (config := {implicitDefEqProofs := false, maxDischargeDepth := 20}) (disch := first | omega | (simp only [lenE]; done) | (simp only [lenE]; omega) | rfl | (simp only [lenE, markR_len]; done) | (simp only [lenE, markR_len]; omega)) only [runE, mapE, listE, initT_5, initT_6, initT_7, initT_8, resV, oneV, binA, unA, reduceCtorEq, Nat.reduceEqDiff, Nat.reduceAdd, Nat.reduceLT, Nat.reduceLeDiff, Nat.reduceMul, Nat.reduceSub, ↓reduceIte, decide_true, decide_false, Bool.true_eq_false, Bool.false_eq_true, Bool.not_true, Bool.not_false, if_true, if_false, and_true, true_and, memE, celE, w64, Nat.zero_add, Nat.add_zero, Nat.mul_one, putL, and_self, ldn, t0, t3, t4, tm, hr.len, hlt']
    exact newQ_nil ⟨by rw [gL, e], rfl⟩
theorem slIndexM_rc (m : Mem) (v : Value) (l : List Int) (a : Nat) (x : Int) (h : IntsA m v l) (ha : a < l.length) (hx : x = l.getD a 0) (hf : ∀ j, j < a → l.getD j 0 ≠ l.getD a 0) :
    RC Try.prog 110 [v, .int .i64 x] m fun r new => r = .int .i64 a ∧ new = [] := by
  refine rc_of_run mixed ok_slices_Index (by simp) (go_start _ _ _ ?_)
  have i := h.ro
  simp (config := {implicitDefEqProofs := false, maxDischargeDepth := 20}) (disch := first | omega | (simp only [lenE]; done) | (simp only [lenE]; omega) | rfl | (simp only [lenE, markR_len]; done) | (simp only [lenE, markR_len]; omega)) only [runE, mapE, listE, initT_5, initT_6, initT_7, initT_8, resV, oneV, binA, unA, reduceCtorEq, Nat.reduceEqDiff, Nat.reduceAdd, Nat.reduceLT, Nat.reduceLeDiff, Nat.reduceMul, Nat.reduceSub, ↓reduceIte, decide_true, decide_false, Bool.true_eq_false, Bool.false_eq_true, Bool.not_true, Bool.not_false, if_true, if_false, and_true, true_and, memE, celE, w64, Nat.zero_add, Nat.add_zero, Nat.mul_one, putL, and_self, ldn, c_slices_Index, r_slices_Index, i.len]
  refine loop_inv mixed (fun s => ∃ j : Nat, j ≤ a ∧ s.t 0 = v ∧ s.t 1 = .int .i64 x ∧ s.t 7 = .int .i64 l.length ∧ s.t 8 = .int .i64 j ∧ s.m = roM m) (fun s => l.length - (intOf (s.t 8)).toNat)
    ⟨0, by omega, rfl, rfl, rfl, rfl, rfl⟩ ?_
  rintro s ⟨j, hj, t0, t1, t7, t8, tm⟩
  have bd := i.bd
  have hlt : j < l.length := by omega
  have hlt' : (j : Int) < l.length := by omega
  by_cases e : j = a
  · subst e
    have hb : (x == l.getD j 0) = true := by rw [hx]; exact beq_self_eq_true _
    simp (config := {implicitDefEqProofs := false, maxDischargeDepth := 20}) (disch := first | omega | (simp only [lenE]; done) | (simp only [lenE]; omega) | rfl | (simp only [lenE, markR_len]; done) | (simp only [lenE, markR_len]; omega)) only [runE, mapE, listE, initT_5, initT_6, initT_7, initT_8, resV, oneV, binA, unA, reduceCtorEq, Nat.reduceEqDiff, Nat.reduceAdd, Nat.reduceLT, Nat.reduceLeDiff, Nat.reduceMul, Nat.reduceSub, ↓reduceIte, decide_true, decide_false, Bool.true_eq_false, Bool.false_eq_true, Bool.not_true, Bool.not_false, if_true, if_false, and_true, true_and, memE, celE, w64, Nat.zero_add, Nat.add_zero, Nat.mul_one, putL, and_self, ldn, tm, t0, t1, t7, t8, hlt', i.at_ j hlt, i.ld j hlt, hb]
    exact newQ_nil ⟨rfl, rfl⟩
  · have hs := hf j (by omega)
    have hb : (x == l.getD j 0) = false := by rw [beq_eq_false_iff_ne, hx]; exact fun h => hs h.symm
    simp (config := {implicitDefEqProofs := false, maxDischargeDepth := 20}) (disch := first | omega | (simp only [lenE]; done) | (simp only [lenE]; omega) | rfl | (simp only [lenE, markR_len]; done) | (simp only [lenE, markR_len]; omega)) only [runE, mapE, listE, initT_5, initT_6, initT_7, initT_8, resV, oneV, binA, unA, reduceCtorEq, Nat.reduceEqDiff, Nat.reduceAdd, Nat.reduceLT, Nat.reduceLeDiff, Nat.reduceMul, Nat.reduceSub, ↓reduceIte, decide_true, decide_false, Bool.true_eq_false, Bool.false_eq_true, Bool.not_true, Bool.not_false, if_true, if_false, and_true, true_and, memE, celE, w64, Nat.zero_add, Nat.add_zero, Nat.mul_one, putL, and_self, ldn, tm, t0, t1, t7, t8, hlt', i.at_ j hlt, i.ld j hlt, hb]
    exact ⟨⟨j + 1, by omega, by simp⟩, by simp [intOf]; omega⟩
theorem firstGreatest_rc (m : Mem) (v : Value) (l : List Int) (h : IntsA m v l) (hl : 0 < l.length) :
    RC Try.prog 88 [v] m fun r new => r = .tuple #[.int .i64 (gL l), .int .i64 (l.getD (gL l) 0)] ∧ new = [] := by
  refine rc_of_run mixed ok_impl_firstGreatest (by simp) (go_start _ _ _ ?_)
  have i := h.ro
  simp (config := {implicitDefEqProofs := false, maxDischargeDepth := 20}) (disch := first | omega | (simp only [lenE]; done) | (simp only [lenE]; omega) | rfl | (simp only [lenE, markR_len]; done) | (simp only [lenE, markR_len]; omega)) only [runE, mapE, listE, initT_5, initT_6, initT_7, initT_8, resV, oneV, binA, unA, reduceCtorEq, Nat.reduceEqDiff, Nat.reduceAdd, Nat.reduceLT, Nat.reduceLeDiff, Nat.reduceMul, Nat.reduceSub, ↓reduceIte, decide_true, decide_false, Bool.true_eq_false, Bool.false_eq_true, Bool.not_true, Bool.not_false, if_true, if_false, and_true, true_and, memE, celE, w64, Nat.zero_add, Nat.add_zero, Nat.mul_one, putL, and_self, ldn, c_impl_firstGreatest, r_impl_firstGreatest]
  refine callH_rc (slMaxM_rc _ v l i hl) ?_
  rintro r n1 ⟨rfl, rfl⟩
  rw [List.append_nil]
  simp (config := {implicitDefEqProofs := false, maxDischargeDepth := 20}) (disch := first | omega | (simp only [lenE]; done) | (simp only [lenE]; omega) | rfl | (simp only [lenE, markR_len]; done) | (simp only [lenE, markR_len]; omega)) only [runE, mapE, listE, initT_5, initT_6, initT_7, initT_8, resV, oneV, binA, unA, reduceCtorEq, Nat.reduceEqDiff, Nat.reduceAdd, Nat.reduceLT, Nat.reduceLeDiff, Nat.reduceMul, Nat.reduceSub, ↓reduceIte, decide_true, decide_false, Bool.true_eq_false, Bool.false_eq_true, Bool.not_true, Bool.not_false, if_true, if_false, and_true, true_and, memE, celE, w64, Nat.zero_add, Nat.add_zero, Nat.mul_one, putL, and_self, ldn]
  refine callH_rc (slIndexM_rc _ v l (gL l) _ i (by have := argG_le (fun i => l.getD i 0) (l.length - 1); unfold gL; omega) rfl fun j hj => ?_) ?_
  · have := argG_first (fun i => l.getD i 0) (l.length - 1) j hj
    unfold gL
    omega
  rintro r n2 ⟨rfl, rfl⟩
  rw [List.append_nil]
  simp (config := {implicitDefEqProofs := false, maxDischargeDepth := 20}) (disch := first | omega | (simp only [lenE]; done) | (simp only [lenE]; omega) | rfl | (simp only [lenE, markR_len]; done) | (simp only [lenE, markR_len]; omega)) only [runE, mapE, listE, initT_5, initT_6, initT_7, initT_8, resV, oneV, binA, unA, reduceCtorEq, Nat.reduceEqDiff, Nat.reduceAdd, Nat.reduceLT, Nat.reduceLeDiff, Nat.reduceMul, Nat.reduceSub, ↓reduceIte, decide_true, decide_false, Bool.true_eq_false, Bool.false_eq_true, Bool.not_true, Bool.not_false, if_true, if_false, and_true, true_and, memE, celE, w64, Nat.zero_add, Nat.add_zero, Nat.mul_one, putL, and_self, ldn]
  exact newQ_nil ⟨rfl, rfl⟩
/-! The quotient order. -/
theorem criticalOrder_rc (m : Mem) (v : Value) (w : List Int) (o u : Int) (h : IntsA m v w) (hd : Dist w) (ho : 0 ≤ o ∧ o ≤ 100) (hu : 0 ≤ u ∧ u ≤ 100) :
    RC Try.prog 90 [v, .int .i64 o, .int .i64 u] m fun r new => r = .int .i64 (critF w o u) ∧ new = [] := by
  refine rc_of_run mixed ok_impl_criticalOrder (by simp) (go_start _ _ _ ?_)
  have hr := h.ro
  have ht := tot_in hd
  have hp : 0 ≤ u * tot w ∧ u * tot w ≤ 1600000 := mul_in (A := 100) (B := 16000) hu (by omega)
  simp (config := {implicitDefEqProofs := false, maxDischargeDepth := 20}) (disch := first | omega | (simp only [lenE]; done) | (simp only [lenE]; omega) | rfl | (simp only [lenE, markR_len]; done) | (simp only [lenE, markR_len]; omega)) only [runE, mapE, listE, initT_5, initT_6, initT_7, initT_8, resV, oneV, binA, unA, reduceCtorEq, Nat.reduceEqDiff, Nat.reduceAdd, Nat.reduceLT, Nat.reduceLeDiff, Nat.reduceMul, Nat.reduceSub, ↓reduceIte, decide_true, decide_false, Bool.true_eq_false, Bool.false_eq_true, Bool.not_true, Bool.not_false, if_true, if_false, and_true, true_and, memE, celE, w64, Nat.zero_add, Nat.add_zero, Nat.mul_one, putL, and_self, ldn, c_impl_criticalOrder, r_impl_criticalOrder]
  refine callH_rc (sumOf_rc _ v w hr hd.small) ?_
  rintro r n1 ⟨rfl, rfl⟩
  rw [show sumTo w w.length = tot w from rfl, List.append_nil]
  simp (config := {implicitDefEqProofs := false, maxDischargeDepth := 20}) (disch := first | omega | (simp only [lenE]; done) | (simp only [lenE]; omega) | rfl | (simp only [lenE, markR_len]; done) | (simp only [lenE, markR_len]; omega)) only [runE, mapE, listE, initT_5, initT_6, initT_7, initT_8, resV, oneV, binA, unA, reduceCtorEq, Nat.reduceEqDiff, Nat.reduceAdd, Nat.reduceLT, Nat.reduceLeDiff, Nat.reduceMul, Nat.reduceSub, ↓reduceIte, decide_true, decide_false, Bool.true_eq_false, Bool.false_eq_true, Bool.not_true, Bool.not_false, if_true, if_false, and_true, true_and, memE, celE, w64, Nat.zero_add, Nat.add_zero, Nat.mul_one, putL, and_self, ldn]
  have hl := hd.l16
  refine loop_inv mixed (fun s => ∃ j : Nat, j ≤ 16 ∧ (∀ i, i < j → low w o u i) ∧ s.t 0 = v ∧ s.t 1 = .int .i64 o ∧ s.t 2 = .int .i64 u ∧ s.t 7 = .int .i64 (u * tot w) ∧ s.t 8 = .int .i64 j ∧ s.m = roM m) (fun s => 20 - (intOf (s.t 8)).toNat)
    ⟨0, by omega, fun i hi => absurd hi (by omega), rfl, rfl, rfl, rfl, rfl, rfl⟩ ?_
  rintro s ⟨j, hj, hlow, t0, t1, t2, t7, t8, tm⟩
  have hup := up_in hd j
  have hq : 0 ≤ (o + u) * upF w j ∧ (o + u) * upF w j ≤ 3200000 := mul_in (A := 200) (B := 16000) (by omega) (by omega)
  simp (config := {implicitDefEqProofs := false, maxDischargeDepth := 20}) (disch := first | omega | (simp only [lenE]; done) | (simp only [lenE]; omega) | rfl | (simp only [lenE, markR_len]; done) | (simp only [lenE, markR_len]; omega)) only [runE, mapE, listE, initT_5, initT_6, initT_7, initT_8, resV, oneV, binA, unA, reduceCtorEq, Nat.reduceEqDiff, Nat.reduceAdd, Nat.reduceLT, Nat.reduceLeDiff, Nat.reduceMul, Nat.reduceSub, ↓reduceIte, decide_true, decide_false, Bool.true_eq_false, Bool.false_eq_true, Bool.not_true, Bool.not_false, if_true, if_false, and_true, true_and, memE, celE, w64, Nat.zero_add, Nat.add_zero, Nat.mul_one, putL, and_self, ldn, tm, t0, t1, t2, t7, t8]
  refine callH_rc (weightUpTo_rc _ v w j hr hd (by omega)) ?_
  rintro r n2 ⟨rfl, rfl⟩
  rw [List.append_nil]
  by_cases hlo : (o + u) * upF w j < u * tot w
  · have := low_lt hd ho.1 (q := j) hlo
    simp (config := {implicitDefEqProofs := false, maxDischargeDepth := 20}) (disch := first | omega | (simp only [lenE]; done) | (simp only [lenE]; omega) | rfl | (simp only [lenE, markR_len]; done) | (simp only [lenE, markR_len]; omega)) only [runE, mapE, listE, initT_5, initT_6, initT_7, initT_8, resV, oneV, binA, unA, reduceCtorEq, Nat.reduceEqDiff, Nat.reduceAdd, Nat.reduceLT, Nat.reduceLeDiff, Nat.reduceMul, Nat.reduceSub, ↓reduceIte, decide_true, decide_false, Bool.true_eq_false, Bool.false_eq_true, Bool.not_true, Bool.not_false, if_true, if_false, and_true, true_and, memE, celE, w64, Nat.zero_add, Nat.add_zero, Nat.mul_one, putL, and_self, ldn, tm, t0, t1, t2, t7, t8, hlo]
    refine ⟨⟨j + 1, by omega, fun i hi => ?_, by simp⟩, by simp [intOf]; omega⟩
    by_cases e : i = j
    · rw [e]; exact hlo
    · exact hlow i (by omega)
  · simp (config := {implicitDefEqProofs := false, maxDischargeDepth := 20}) (disch := first | omega | (simp only [lenE]; done) | (simp only [lenE]; omega) | rfl | (simp only [lenE, markR_len]; done) | (simp only [lenE, markR_len]; omega)) only [runE, mapE, listE, initT_5, initT_6, initT_7, initT_8, resV, oneV, binA, unA, reduceCtorEq, Nat.reduceEqDiff, Nat.reduceAdd, Nat.reduceLT, Nat.reduceLeDiff, Nat.reduceMul, Nat.reduceSub, ↓reduceIte, decide_true, decide_false, Bool.true_eq_false, Bool.false_eq_true, Bool.not_true, Bool.not_false, if_true, if_false, and_true, true_and, memE, celE, w64, Nat.zero_add, Nat.add_zero, Nat.mul_one, putL, and_self, ldn, tm, t0, t1, t2, t7, t8, hlo]
    refine newQ_nil ⟨?_, rfl⟩
    rw [crit_uniq hd ho.1 hlo hlow]
end Go.Proofs.Ytdcheilmjooacaa.Ab
