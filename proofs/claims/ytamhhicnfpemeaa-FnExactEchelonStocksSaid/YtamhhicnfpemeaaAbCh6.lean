/- Chains: echelon stocks, written in place. -/
import Derived.Test.YtamhhicnfpemeaaAbCh4
namespace Go.Proofs.Ytamhhicnfpemeaa.Ab
open Go Go.RowKit
set_option linter.unusedVariables false
set_option linter.unusedSimpArgs false

/-- The sum of the last d rows' numbers at a place. -/
def echV (S : List (List Int)) : Nat → Nat → Int
  | 0, _ => 0
  | d + 1, t => (S.getD (S.length - 1 - d) []).getD t 0 + echV S d t
def echRow (S : List (List Int)) (n s : Nat) : List Int := (List.range n).map (echV S (S.length - s))
def echT (S : List (List Int)) (n : Nat) : List (List Int) := (List.range S.length).map (echRow S n)
theorem echT_len (S : List (List Int)) (n : Nat) : (echT S n).length = S.length := by simp [echT]
theorem echT_at {S : List (List Int)} {n s : Nat} (h : s < S.length) : (echT S n).getD s [] = echRow S n s := by simp [echT, List.getD_eq_getElem?_getD, h]
theorem echRow_len (S : List (List Int)) (n s : Nat) : (echRow S n s).length = n := by simp [echRow]
theorem echRow_at {S : List (List Int)} {n s t : Nat} (h : t < n) : (echRow S n s).getD t 0 = echV S (S.length - s) t := by simp [echRow, List.getD_eq_getElem?_getD, h]
theorem rowsC_set {T : List (List Int)} {R F : Nat → Nat} {s : Nat} {r : List Int} (hs : s < T.length) (hl : r.length = (T.getD s []).length) : rowsC (T.set s r) R F = rowsC T R F := by
  apply List.ext_getElem?
  intro i
  by_cases hi : i < T.length
  · rw [rowsC_at hi, rowsC_at (by rw [List.length_set]; exact hi)]
    by_cases e : i = s
    · subst e
      rw [List.getD_eq_getElem?_getD, List.getElem?_set_self hi, Option.getD_some, hl]
    · rw [List.getD_eq_getElem?_getD, List.getElem?_set_ne (Ne.symm e), ← List.getD_eq_getElem?_getD]
  · rw [List.getElem?_eq_none (by rw [rowsC_len, List.length_set]; omega), List.getElem?_eq_none (by rw [rowsC_len]; omega)]
/-- A row of a table is written. -/
theorem TabX.put {T : List (List Int)} {lo hi : Nat} {M : Mem} {id : Nat} {R F : Nat → Nat} (h : TabX T lo hi M id R F) {s : Nat} {r : List Int} (hs : s < T.length) (hl : r.length = (T.getD s []).length) : TabX (T.set s r) lo hi (M.set (R s) (Ab.rowB r)) id R F := by
  have hne : R s ≠ id := fun e2 => by
    have c' : M[R s]? = some (Ab.rowB (T.getD s [])) := (h.2.2.2.1 s hs).2.2
    have d : M[id]? = some ⟨.own, 24, rowsC T R F⟩ := h.2.2.1
    rw [e2, d] at c'
    cases c'
  refine ⟨h.1, h.2.1, by rw [rowsC_set hs hl]; exact h.2.2.1.set_ne hne _, fun j hj => ?_, fun i j hi hj => h.2.2.2.2 i j (by simpa using hi) (by simpa using hj)⟩
  rw [List.length_set] at hj
  obtain ⟨a, b, c⟩ := h.2.2.2.1 j hj
  refine ⟨a, b, ?_⟩
  by_cases e : j = s
  · subst e
    rw [List.getD_eq_getElem?_getD, List.getElem?_set_self hj, Option.getD_some]
    exact c.set_self
  · rw [List.getD_eq_getElem?_getD, List.getElem?_set_ne (Ne.symm e), ← List.getD_eq_getElem?_getD]
    exact c.set_ne fun e2 => e (h.2.2.2.2 j s hj hs e2.symm)
theorem TabO.X {T : List (List Int)} {lo hi : Nat} {M : Mem} {v : Value} (h : TabO T lo hi M v) : ∃ id fl R F, v = .slice (some ⟨id, 0, none⟩) T.length fl ∧ TabX T lo hi M id R F ∧ T.length ≤ 1048576 ∧ tsz T T.length ≤ 1048576 := by
  obtain ⟨hl, hs, id, fl, R, F, rfl, a, b, ho, hr, hd⟩ := h
  exact ⟨id, fl, R, F, rfl, ⟨a, b, ho, hr, hd⟩, hl, hs⟩
/-- What the table holds when k stages are done, and t periods of the next one. -/
def EchAt (S : List (List Int)) (n k t : Nat) (U : List (List Int)) : Prop :=
  U.length = S.length ∧ (∀ j, j < S.length → (U.getD j []).length = n) ∧ ∀ j i, j < S.length → i < n → (U.getD j []).getD i 0 = if S.length ≤ j + 1 + k ∨ (j + 2 + k = S.length ∧ i < t) then echV S (S.length - j) i else (S.getD j []).getD i 0
theorem EchAt.zero {S : List (List Int)} {n : Nat} (h : ∀ j, j < S.length → (S.getD j []).length = n) : EchAt S n 0 0 S := by
  refine ⟨rfl, h, fun j i hj hi => ?_⟩
  split
  · rename_i hc
    have e : j = S.length - 1 := by omega
    rw [show S.length - j = 0 + 1 by omega]
    simp only [echV, Int.add_zero]
    rw [e, Nat.sub_zero]
  · rfl
theorem EchAt.round {S U : List (List Int)} {n k : Nat} (h : EchAt S n k n U) : EchAt S n (k + 1) 0 U := by
  refine ⟨h.1, h.2.1, fun j i hj hi => ?_⟩
  rw [h.2.2 j i hj hi]
  by_cases c1 : S.length ≤ j + 1 + (k + 1)
  · rw [if_pos (by omega), if_pos (by omega)]
  · rw [if_neg (by omega), if_neg (by omega)]
theorem EchAt.next {S U : List (List Int)} {n k t s : Nat} (h : EchAt S n k t U) (hs : s + 2 + k = S.length) (ht : t < n) : EchAt S n k (t + 1) (U.set s ((U.getD s []).set t ((U.getD s []).getD t 0 + (U.getD (s + 1) []).getD t 0))) := by
  have e1 := h.2.2 s t (by omega) ht
  rw [if_neg (by omega)] at e1
  have e2 := h.2.2 (s + 1) t (by omega) ht
  rw [if_pos (by omega)] at e2
  have ln := h.2.1 s (by omega)
  refine ⟨by rw [List.length_set]; exact h.1, fun j hj => ?_, fun j i hj hi => ?_⟩
  · by_cases e : j = s
    · subst e
      rw [List.getD_eq_getElem?_getD, List.getElem?_set_self (by rw [h.1]; omega), Option.getD_some, List.length_set]; exact ln
    · rw [List.getD_eq_getElem?_getD, List.getElem?_set_ne (Ne.symm e), ← List.getD_eq_getElem?_getD]; exact h.2.1 j hj
  · by_cases e : j = s
    · subst e
      rw [show ((U.set j ((U.getD j []).set t ((U.getD j []).getD t 0 + (U.getD (j + 1) []).getD t 0))).getD j []) = ((U.getD j []).set t ((U.getD j []).getD t 0 + (U.getD (j + 1) []).getD t 0)) by
        rw [List.getD_eq_getElem?_getD, List.getElem?_set_self (by rw [h.1]; omega), Option.getD_some]]
      by_cases e3 : i = t
      · subst e3
        rw [if_pos (by omega), List.getD_eq_getElem?_getD (l := List.set _ _ _), List.getElem?_set_self (by omega), Option.getD_some, e1, e2, show S.length - j = (S.length - (j + 1)) + 1 by omega]
        simp only [echV]
        rw [show S.length - 1 - (S.length - (j + 1)) = j by omega]
      · rw [List.getD_eq_getElem?_getD (l := List.set _ _ _), List.getElem?_set_ne (Ne.symm e3), ← List.getD_eq_getElem?_getD, h.2.2 j i hj hi]
        by_cases c1 : i < t
        · rw [if_pos (by omega), if_pos (by omega)]
        · rw [if_neg (by omega), if_neg (by omega)]
    · rw [show ((U.set s ((U.getD s []).set t ((U.getD s []).getD t 0 + (U.getD (s + 1) []).getD t 0))).getD j []) = U.getD j [] by
        rw [List.getD_eq_getElem?_getD, List.getElem?_set_ne (Ne.symm e), ← List.getD_eq_getElem?_getD]]
      rw [h.2.2 j i hj hi]
      by_cases c1 : S.length ≤ j + 1 + k
      · rw [if_pos (by omega), if_pos (by omega)]
      · rw [if_neg (by omega), if_neg (by omega)]
theorem ext_getD {α : Type} {a b : List α} {z : α} {n : Nat} (h1 : a.length = n) (h2 : b.length = n) (h : ∀ i, i < n → a.getD i z = b.getD i z) : a = b := by
  apply List.ext_getElem (by omega)
  intro i hi hj
  have := h i (by omega)
  rw [List.getD_eq_getElem?_getD, List.getD_eq_getElem?_getD, List.getElem?_eq_getElem hi, List.getElem?_eq_getElem hj] at this
  simpa using this
theorem EchAt.done {S U : List (List Int)} {n k : Nat} (h : EchAt S n k 0 U) (hk : S.length ≤ k + 1) : U = echT S n := by
  refine ext_getD (z := []) h.1 (echT_len S n) fun j hj => ?_
  rw [echT_at hj]
  refine ext_getD (z := 0) (h.2.1 j hj) (echRow_len S n j) fun i hi => ?_
  rw [h.2.2 j i hj hi, if_pos (by omega), echRow_at hi]
def ech7A (c : Ch) (T : List (List Int)) : List (List Int) := if two7 c T then echT (stocksT c.need T) c.need.length else []
theorem stocksT_bd {c : Ch} {T : List (List Int)} (h2 : two7 c T = true) (j i : Nat) (hj : j < T.length) (hi : i < c.need.length) : 0 ≤ ((stocksT c.need T).getD j []).getD i 0 ∧ ((stocksT c.need T).getD j []).getD i 0 ≤ 720 := by
  obtain ⟨g1, g2, g3⟩ := two7_rows h2
  have hall : StageP (T.getD j []) (outR c.need T j) c.need.length := by
    unfold two7 at h2
    rw [Bool.and_eq_true] at h2
    exact (cplanB_iff.1 h2.2).2 j hj
  have hob := out_bd g1 g3 j
  have hl := hall.len
  rw [stocksT_at hj, stocksL_at (by omega)]
  refine ⟨hall.stk i hi, ?_⟩
  have n6 := g1.n6
  have := nowK_bd hall.bd hob.2 (k := i + 1) (by omega) (by omega) (by omega)
  unfold nowK at this
  unfold stk; omega
theorem echV_bd {c : Ch} {T : List (List Int)} (h2 : two7 c T = true) (d i : Nat) (hd : d ≤ T.length) (hi : i < c.need.length) : 0 ≤ echV (stocksT c.need T) d i ∧ echV (stocksT c.need T) d i ≤ 720 * d := by
  induction d with
  | zero => simp [echV]
  | succ d ih =>
    have := ih (by omega)
    have := stocksT_bd h2 (T.length - 1 - d) i (by omega) hi
    simp only [echV, stocksT_len]
    omega
theorem specEch7_rc (m : Mem) (v vt : Value) (c : Ch) (T : List (List Int)) (h : ChA m v c) (hT : TabA m vt T) : RC Try.prog 51 [v, vt] m (AnsO m (TabO (ech7A c T)) fun v => .tuple #[v, .bool (two7 c T)]) := by
  refine rc_of_run mixed ok_spec_EchelonStocks (by simp) (go_start _ _ _ ?_)
  obtain ⟨a, b, d, rfl, ha, hb, hd⟩ := h.ro
  have hX0 := (Ext.refl m).one 26 [a, b, d]
  have b0 : OwnB (roM m ++ [⟨.own, 26, [a, b, d]⟩]) m.length 26 [a, b, d] := OwnB.here (roM_len m).symm
  unfold ech7A
  simp (config := {implicitDefEqProofs := false, maxDischargeDepth := 20}) (disch := first | omega | (simp only [lenE]; done) | (simp only [lenE]; omega) | rfl | (simp only [lenE, markR_len]; done) | (simp only [lenE, markR_len]; omega)) only [runE, mapE, listE, initT_5, initT_6, initT_7, initT_8, resV, oneV, binA, unA, reduceCtorEq, Nat.reduceEqDiff, Nat.reduceAdd, Nat.reduceLT, Nat.reduceLeDiff, Nat.reduceMul, Nat.reduceSub, ↓reduceIte, decide_true, decide_false, Bool.true_eq_false, Bool.false_eq_true, Bool.not_true, Bool.not_false, if_true, if_false, and_true, true_and, memE, celE, w64, Nat.zero_add, Nat.add_zero, Nat.mul_one, putL, and_self, ldn, c_spec_EchelonStocks, r_spec_EchelonStocks]
  refine callH_rc (l7Two_rc _ _ vt c T (ChA.mk (ha.ext _) (hb.ext _) (hd.ext _)) (TabA.xt hT hX0)) ?_
  rintro r n1 ⟨rfl, nr1⟩
  cases h2 : two7 c T with
  | false =>
    simp (config := {implicitDefEqProofs := false, maxDischargeDepth := 20}) (disch := first | omega | (simp only [lenE]; done) | (simp only [lenE]; omega) | rfl | (simp only [lenE, markR_len]; done) | (simp only [lenE, markR_len]; omega)) only [runE, mapE, listE, initT_5, initT_6, initT_7, initT_8, resV, oneV, binA, unA, reduceCtorEq, Nat.reduceEqDiff, Nat.reduceAdd, Nat.reduceLT, Nat.reduceLeDiff, Nat.reduceMul, Nat.reduceSub, ↓reduceIte, decide_true, decide_false, Bool.true_eq_false, Bool.false_eq_true, Bool.not_true, Bool.not_false, if_true, if_false, and_true, true_and, memE, celE, w64, Nat.zero_add, Nat.add_zero, Nat.mul_one, putL, and_self, ldn, bsl_no]
    exact ext_noTab (f := fun v => .tuple #[v, .bool false]) (hX0.app nr1) (by simp [roM_len]; omega)
  | true =>
    obtain ⟨g1, g2, g3⟩ := two7_rows h2
    have s3 := g1.s3
    have s1 := g1.s1
    have n6 := g1.n6
    have hX1 := hX0.app nr1
    have b1 := b0.ext n1
    obtain ⟨M1, hM1⟩ : ∃ M1, M1 = roM m ++ [⟨.own, 26, [a, b, d]⟩] ++ n1 := ⟨_, rfl⟩
    simp (config := {implicitDefEqProofs := false, maxDischargeDepth := 20}) (disch := first | omega | (simp only [lenE]; done) | (simp only [lenE]; omega) | rfl | (simp only [lenE, markR_len]; done) | (simp only [lenE, markR_len]; omega)) only [runE, mapE, listE, initT_5, initT_6, initT_7, initT_8, resV, oneV, binA, unA, reduceCtorEq, Nat.reduceEqDiff, Nat.reduceAdd, Nat.reduceLT, Nat.reduceLeDiff, Nat.reduceMul, Nat.reduceSub, ↓reduceIte, decide_true, decide_false, Bool.true_eq_false, Bool.false_eq_true, Bool.not_true, Bool.not_false, if_true, if_false, and_true, true_and, memE, celE, w64, Nat.zero_add, Nat.add_zero, Nat.mul_one, putL, and_self, ldn]
    rw [← hM1] at hX1 b1 ⊢
    refine callH_rc (l7Stocks_rc _ _ vt c T (ChA.mk (hX1.ints ha) (hX1.ints hb) (hX1.ints hd)) (TabA.xt hT hX1) g1 (by omega) g3) ?_
    rintro r n2 ⟨nr2, w, hwe, hw⟩
    rw [id_eq] at hwe
    subst r
    obtain ⟨id, fl, R, F, rfl, hTX, tl, ts⟩ := hw.now.X
    have b2 := b1.ext n2
    have hX2 := hX1.app nr2
    have hl1 := hX1.len
    have b1l := b1.lt
    obtain ⟨S, hS⟩ : ∃ S, S = stocksT c.need T := ⟨_, rfl⟩
    have Sl : S.length = T.length := by rw [hS, stocksT_len]
    have Srow : ∀ j, j < S.length → (S.getD j []).length = c.need.length := fun j hj => by rw [hS, stocksT_at (by omega), stocksL_len]; exact (g3 j (by omega)).1
    have Sbd := fun j i hj hi => stocksT_bd h2 j i hj hi
    have Ebd := fun d i hd hi => echV_bd h2 d i hd hi
    rw [← hS] at hTX Sbd Ebd ⊢
    obtain ⟨M2, hM2⟩ : ∃ M2, M2 = M1 ++ n2 := ⟨_, rfl⟩
    rw [← List.length_append] at hTX
    rw [← hM2] at hTX b2 hX2 ⊢
    simp (config := {implicitDefEqProofs := false, maxDischargeDepth := 20}) (disch := first | omega | (simp only [lenE]; done) | (simp only [lenE]; omega) | rfl | (simp only [lenE, markR_len]; done) | (simp only [lenE, markR_len]; omega)) only [runE, mapE, listE, initT_5, initT_6, initT_7, initT_8, resV, oneV, binA, unA, reduceCtorEq, Nat.reduceEqDiff, Nat.reduceAdd, Nat.reduceLT, Nat.reduceLeDiff, Nat.reduceMul, Nat.reduceSub, ↓reduceIte, decide_true, decide_false, Bool.true_eq_false, Bool.false_eq_true, Bool.not_true, Bool.not_false, if_true, if_false, and_true, true_and, memE, celE, w64, Nat.zero_add, Nat.add_zero, Nat.mul_one, putL, and_self, ldn]
    refine loop_inv mixed (fun s => ∃ (k : Nat) (M : Mem) (U : List (List Int)), k + 1 ≤ S.length ∧ s.m = M ∧ Ext m M ∧ M.length = M2.length ∧ OwnB M m.length 26 [a, b, d] ∧ TabX U M1.length M2.length M id R F ∧ EchAt S c.need.length k 0 U ∧ s.t 2 = .pointer (some ⟨m.length, 0, none⟩) ∧ s.t 6 = .slice (some ⟨id, 0, none⟩) S.length fl ∧ s.t 7 = .int .i64 ((S.length : Int) - 2 - k)) (fun s => (intOf (s.t 7) + 1).toNat)
      ⟨0, M2, S, by omega, rfl, hX2, rfl, b2, hTX, EchAt.zero Srow, rfl, rfl, by simp only [put_t, put_t', put_m, putT_t, putT_t', putT_m, init_t, init_m, initT_0, initT_1, initT_2, initT_3, initT_4, initT_5, initT_6, initT_7, initT_8, Nat.reduceEqDiff, ↓reduceIte]; simp⟩ ?_
    rintro s ⟨k, M, U, hk, tm, hX, hML, hbx, hU, hE, t2, t6, t7⟩
    by_cases hge : (0 : Int) ≤ (S.length : Int) - 2 - k
    · obtain ⟨q, hq⟩ : ∃ q : Nat, q + 2 + k = S.length := ⟨S.length - 2 - k, by omega⟩
      have ez : (S.length : Int) - 2 - k = (q : Int) := by omega
      rw [ez] at t7 hge
      simp (config := {implicitDefEqProofs := false, maxDischargeDepth := 20}) (disch := first | omega | (simp only [lenE]; done) | (simp only [lenE]; omega) | rfl | (simp only [lenE, markR_len]; done) | (simp only [lenE, markR_len]; omega)) only [runE, mapE, listE, initT_5, initT_6, initT_7, initT_8, resV, oneV, binA, unA, reduceCtorEq, Nat.reduceEqDiff, Nat.reduceAdd, Nat.reduceLT, Nat.reduceLeDiff, Nat.reduceMul, Nat.reduceSub, ↓reduceIte, decide_true, decide_false, Bool.true_eq_false, Bool.false_eq_true, Bool.not_true, Bool.not_false, if_true, if_false, and_true, true_and, memE, celE, w64, Nat.zero_add, Nat.add_zero, Nat.mul_one, putL, and_self, ldn, tm, t2, t6, t7, ge_iff_le, hge]
      refine loop_inv mixed (fun s => ∃ (t : Nat) (M : Mem) (U : List (List Int)), t ≤ c.need.length ∧ s.m = M ∧ Ext m M ∧ M.length = M2.length ∧ OwnB M m.length 26 [a, b, d] ∧ TabX U M1.length M2.length M id R F ∧ EchAt S c.need.length k t U ∧ s.t 2 = .pointer (some ⟨m.length, 0, none⟩) ∧ s.t 6 = .slice (some ⟨id, 0, none⟩) S.length fl ∧ s.t 7 = .int .i64 (q : Int) ∧ s.t 8 = .int .i64 (t : Int)) (fun s => c.need.length - (intOf (s.t 8)).toNat)
        ⟨0, M, U, by omega, tm, hX, hML, hbx, hU, hE, t2, t6, t7, rfl⟩ ?_
      rintro s ⟨t, M, U, ht, tm, hX, hML, hbx, hU, hE, t2, t6, t7, t8⟩
      have ha' := hX.ints ha
      by_cases hlt : t < c.need.length
      · have hlt' : (t : Int) < c.need.length := by omega
        have ec : (q : Int) + 1 = ((q + 1 : Nat) : Int) := by omega
        have hUl := hE.1
        have r1 := hU.row (j := q) (by omega) (by rw [hE.2.1 q (by omega)]; omega)
        have r2 := hU.row (j := q + 1) (by omega) (by rw [hE.2.1 (q + 1) (by omega)]; omega)
        have ql := hE.2.1 q (by omega)
        have ql2 := hE.2.1 (q + 1) (by omega)
        have v1 := hE.2.2 q t (by omega) hlt
        rw [if_neg (by omega)] at v1
        have v2 := hE.2.2 (q + 1) t (by omega) hlt
        rw [if_pos (by omega)] at v2
        have w1 := Sbd q t (by omega) hlt
        have w2 := Ebd (S.length - (q + 1)) t (by omega) hlt
        rw [← v1] at w1
        rw [← v2] at w2
        rw [ql] at r1
        rw [ql2] at r2
        have hown := (hU.2.2.2.1 q (by omega)).2.2
        have hst := hown.st (off := t) (x := (U.getD q []).getD t 0 + (U.getD (q + 1) []).getD t 0) (by omega)
        have hRq := (hU.2.2.2.1 q (by omega))
        have i1 : iadA 1 (.slice (some ⟨id, 0, none⟩) S.length fl) (.int .i64 (q : Int)) = some (.pointer (some ⟨id, q, none⟩)) := iad0 rfl (by omega)
        have i2 : iadA 1 (.slice (some ⟨id, 0, none⟩) S.length fl) (.int .i64 ((q + 1 : Nat) : Int)) = some (.pointer (some ⟨id, q + 1, none⟩)) := iad0 rfl (by omega)
        have j1 : iadA 1 (.slice (some ⟨R q, 0, none⟩) c.need.length (F q)) (.int .i64 (t : Int)) = some (.pointer (some ⟨R q, t, none⟩)) := iad0 rfl (by omega)
        have j2 : iadA 1 (.slice (some ⟨R (q + 1), 0, none⟩) c.need.length (F (q + 1))) (.int .i64 (t : Int)) = some (.pointer (some ⟨R (q + 1), t, none⟩)) := iad0 rfl (by omega)
        have k1 := hown.rd' (i := t) (by omega)
        have k2 := (hU.2.2.2.1 (q + 1) (by omega)).2.2.rd' (i := t) (by omega)
        simp (config := {implicitDefEqProofs := false, maxDischargeDepth := 20}) (disch := first | omega | (simp only [lenE]; done) | (simp only [lenE]; omega) | rfl | (simp only [lenE, markR_len]; done) | (simp only [lenE, markR_len]; omega)) only [runE, mapE, listE, initT_5, initT_6, initT_7, initT_8, resV, oneV, binA, unA, reduceCtorEq, Nat.reduceEqDiff, Nat.reduceAdd, Nat.reduceLT, Nat.reduceLeDiff, Nat.reduceMul, Nat.reduceSub, ↓reduceIte, decide_true, decide_false, Bool.true_eq_false, Bool.false_eq_true, Bool.not_true, Bool.not_false, if_true, if_false, and_true, true_and, memE, celE, w64, Nat.zero_add, Nat.add_zero, Nat.mul_one, putL, and_self, ldn, tm, t2, t6, t7, t8, hbx.rd, ha'.len, hlt', i1, r1.1, j1, k1, ec, i2, r2.1, j2, k2, hst]
        refine ⟨⟨t + 1, _, _, by omega, rfl, hX.put (by omega) _ _, by simp [hML], hbx.set_ne (by omega) _, hU.put (by omega) (by rw [List.length_set]), hE.next hq hlt, by simp⟩, ?_⟩
        simp [intOf]; omega
      · have hlt' : ¬ ((t : Int) < c.need.length) := by omega
        have e : t = c.need.length := by omega
        subst e
        simp (config := {implicitDefEqProofs := false, maxDischargeDepth := 20}) (disch := first | omega | (simp only [lenE]; done) | (simp only [lenE]; omega) | rfl | (simp only [lenE, markR_len]; done) | (simp only [lenE, markR_len]; omega)) only [runE, mapE, listE, initT_5, initT_6, initT_7, initT_8, resV, oneV, binA, unA, reduceCtorEq, Nat.reduceEqDiff, Nat.reduceAdd, Nat.reduceLT, Nat.reduceLeDiff, Nat.reduceMul, Nat.reduceSub, ↓reduceIte, decide_true, decide_false, Bool.true_eq_false, Bool.false_eq_true, Bool.not_true, Bool.not_false, if_true, if_false, and_true, true_and, memE, celE, w64, Nat.zero_add, Nat.add_zero, Nat.mul_one, putL, and_self, ldn, tm, t2, t6, t7, t8, hbx.rd, ha'.len, hlt']
        refine ⟨⟨k + 1, M, U, by omega, rfl, hX, hML, hbx, hU, hE.round, by congr 1; omega⟩, ?_⟩
        simp [intOf]
    · simp (config := {implicitDefEqProofs := false, maxDischargeDepth := 20}) (disch := first | omega | (simp only [lenE]; done) | (simp only [lenE]; omega) | rfl | (simp only [lenE, markR_len]; done) | (simp only [lenE, markR_len]; omega)) only [runE, mapE, listE, initT_5, initT_6, initT_7, initT_8, resV, oneV, binA, unA, reduceCtorEq, Nat.reduceEqDiff, Nat.reduceAdd, Nat.reduceLT, Nat.reduceLeDiff, Nat.reduceMul, Nat.reduceSub, ↓reduceIte, decide_true, decide_false, Bool.true_eq_false, Bool.false_eq_true, Bool.not_true, Bool.not_false, if_true, if_false, and_true, true_and, memE, celE, w64, Nat.zero_add, Nat.add_zero, Nat.mul_one, putL, and_self, ldn, tm, t2, t6, t7, ge_iff_le, hge]
      have e := hE.done (by omega)
      subst e
      have hl2 := echT_len S c.need.length
      refine ext_ansO (f := fun v => .tuple #[v, .bool true]) hX fun M' hM => ?_
      have := (hU.at_ (M' := M') fun i h1 h2 => hM i (by omega) (by omega)).obj (fl := fl) (by omega) (by
        have := tsz_bd (T := echT S c.need.length) (n := 6) (fun j hj => by rw [echT_at (by omega), echRow_len]; exact n6) (echT S c.need.length).length (Nat.le_refl _)
        omega)
      rw [hl2] at this
      exact TabO.wide _ _ _ _ _ _ _ hl1 (by omega) this
theorem implEch7_rc (m : Mem) (v vt : Value) (c : Ch) (T : List (List Int)) (h : ChA m v c) (hT : TabA m vt T) : RC Try.prog 52 [v, vt] m (AnsO m (TabO (ech7A c T)) fun v => .tuple #[v, .bool (two7 c T)]) := by
  refine rc_of_run mixed ok_impl_EchelonStocks (by simp) (go_start _ _ _ ?_)
  obtain ⟨a, b, d, rfl, ha, hb, hd⟩ := h.ro
  have hX0 := (Ext.refl m).one 26 [a, b, d]
  unfold ech7A
  obtain ⟨M1, hM1⟩ : ∃ M1, M1 = roM m ++ [⟨.own, 26, [a, b, d]⟩] := ⟨_, rfl⟩
  simp (config := {implicitDefEqProofs := false, maxDischargeDepth := 20}) (disch := first | omega | (simp only [lenE]; done) | (simp only [lenE]; omega) | rfl | (simp only [lenE, markR_len]; done) | (simp only [lenE, markR_len]; omega)) only [runE, mapE, listE, initT_5, initT_6, initT_7, initT_8, resV, oneV, binA, unA, reduceCtorEq, Nat.reduceEqDiff, Nat.reduceAdd, Nat.reduceLT, Nat.reduceLeDiff, Nat.reduceMul, Nat.reduceSub, ↓reduceIte, decide_true, decide_false, Bool.true_eq_false, Bool.false_eq_true, Bool.not_true, Bool.not_false, if_true, if_false, and_true, true_and, memE, celE, w64, Nat.zero_add, Nat.add_zero, Nat.mul_one, putL, and_self, ldn, c_impl_EchelonStocks, r_impl_EchelonStocks]
  rw [← hM1] at hX0 ⊢
  have hX1 := hX0
  refine callH_rc (implStocks7_rc _ _ vt c T (ChA.mk (hX1.ints ha) (hX1.ints hb) (hX1.ints hd)) (TabA.xt hT hX1)) ?_
  rintro r n2 ⟨nr2, w, rfl, hw⟩
  unfold stocks7A at hw
  cases h2 : two7 c T with
  | false =>
    simp (config := {implicitDefEqProofs := false, maxDischargeDepth := 20}) (disch := first | omega | (simp only [lenE]; done) | (simp only [lenE]; omega) | rfl | (simp only [lenE, markR_len]; done) | (simp only [lenE, markR_len]; omega)) only [runE, mapE, listE, initT_5, initT_6, initT_7, initT_8, resV, oneV, binA, unA, reduceCtorEq, Nat.reduceEqDiff, Nat.reduceAdd, Nat.reduceLT, Nat.reduceLeDiff, Nat.reduceMul, Nat.reduceSub, ↓reduceIte, decide_true, decide_false, Bool.true_eq_false, Bool.false_eq_true, Bool.not_true, Bool.not_false, if_true, if_false, and_true, true_and, memE, celE, w64, Nat.zero_add, Nat.add_zero, Nat.mul_one, putL, and_self, ldn, ext20, ext21, bsl_no]
    exact ext_noTab (f := fun v => .tuple #[v, .bool false]) (hX1.app nr2) (by simp)
  | true =>
    rw [h2, if_pos rfl] at hw
    obtain ⟨g1, g2, g3⟩ := two7_rows h2
    have s3 := g1.s3
    have s1 := g1.s1
    have n6 := g1.n6
    obtain ⟨id, fl, R, F, rfl, hTX, tl, ts⟩ := hw.now.X
    have hX2 := hX1.app nr2
    have hl1 := hX1.len
    obtain ⟨S, hS⟩ : ∃ S, S = stocksT c.need T := ⟨_, rfl⟩
    have Sl : S.length = T.length := by rw [hS, stocksT_len]
    have Srow : ∀ j, j < S.length → (S.getD j []).length = c.need.length := fun j hj => by rw [hS, stocksT_at (by omega), stocksL_len]; exact (g3 j (by omega)).1
    have Sbd := fun j i hj hi => stocksT_bd h2 j i hj hi
    have Ebd := fun d i hd hi => echV_bd h2 d i hd hi
    rw [← hS] at hTX Sbd Ebd ⊢
    obtain ⟨M2, hM2⟩ : ∃ M2, M2 = M1 ++ n2 := ⟨_, rfl⟩
    rw [← List.length_append] at hTX
    rw [← hM2] at hTX hX2 ⊢
    simp (config := {implicitDefEqProofs := false, maxDischargeDepth := 20}) (disch := first | omega | (simp only [lenE]; done) | (simp only [lenE]; omega) | rfl | (simp only [lenE, markR_len]; done) | (simp only [lenE, markR_len]; omega)) only [runE, mapE, listE, initT_5, initT_6, initT_7, initT_8, resV, oneV, binA, unA, reduceCtorEq, Nat.reduceEqDiff, Nat.reduceAdd, Nat.reduceLT, Nat.reduceLeDiff, Nat.reduceMul, Nat.reduceSub, ↓reduceIte, decide_true, decide_false, Bool.true_eq_false, Bool.false_eq_true, Bool.not_true, Bool.not_false, if_true, if_false, and_true, true_and, memE, celE, w64, Nat.zero_add, Nat.add_zero, Nat.mul_one, putL, and_self, ldn, ext20, ext21]
    refine loop_inv mixed (fun s => ∃ (k : Nat) (M : Mem) (U : List (List Int)), k + 1 ≤ S.length ∧ s.m = M ∧ Ext m M ∧ M.length = M2.length ∧ TabX U M1.length M2.length M id R F ∧ EchAt S c.need.length k 0 U ∧ s.t 6 = .slice (some ⟨id, 0, none⟩) S.length fl ∧ s.t 8 = .int .i64 ((S.length : Int) - 2 - k)) (fun s => (intOf (s.t 8) + 1).toNat)
      ⟨0, M2, S, by omega, rfl, hX2, rfl, hTX, EchAt.zero Srow, rfl, by simp only [put_t, put_t', put_m, putT_t, putT_t', putT_m, init_t, init_m, initT_0, initT_1, initT_2, initT_3, initT_4, initT_5, initT_6, initT_7, initT_8, Nat.reduceEqDiff, ↓reduceIte]; simp⟩ ?_
    rintro s ⟨k, M, U, hk, tm, hX, hML, hU, hE, t6, t8⟩
    by_cases hge : (0 : Int) ≤ (S.length : Int) - 2 - k
    · obtain ⟨q, hq⟩ : ∃ q : Nat, q + 2 + k = S.length := ⟨S.length - 2 - k, by omega⟩
      have ez : (S.length : Int) - 2 - k = (q : Int) := by omega
      have ec : (q : Int) + 1 = ((q + 1 : Nat) : Int) := by omega
      rw [ez] at t8 hge
      have hUl := hE.1
      have r2 := hU.row (j := q + 1) (by omega) (by rw [hE.2.1 (q + 1) (by omega)]; omega)
      rw [hE.2.1 (q + 1) (by omega)] at r2
      have i2 : iadA 1 (.slice (some ⟨id, 0, none⟩) S.length fl) (.int .i64 ((q + 1 : Nat) : Int)) = some (.pointer (some ⟨id, q + 1, none⟩)) := iad0 rfl (by omega)
      simp (config := {implicitDefEqProofs := false, maxDischargeDepth := 20}) (disch := first | omega | (simp only [lenE]; done) | (simp only [lenE]; omega) | rfl | (simp only [lenE, markR_len]; done) | (simp only [lenE, markR_len]; omega)) only [runE, mapE, listE, initT_5, initT_6, initT_7, initT_8, resV, oneV, binA, unA, reduceCtorEq, Nat.reduceEqDiff, Nat.reduceAdd, Nat.reduceLT, Nat.reduceLeDiff, Nat.reduceMul, Nat.reduceSub, ↓reduceIte, decide_true, decide_false, Bool.true_eq_false, Bool.false_eq_true, Bool.not_true, Bool.not_false, if_true, if_false, and_true, true_and, memE, celE, w64, Nat.zero_add, Nat.add_zero, Nat.mul_one, putL, and_self, ldn, tm, t6, t8, ge_iff_le, hge, ec, i2, r2.1]
      refine loop_inv mixed (fun s => ∃ (t : Nat) (M : Mem) (U : List (List Int)), t ≤ c.need.length ∧ s.m = M ∧ Ext m M ∧ M.length = M2.length ∧ TabX U M1.length M2.length M id R F ∧ EchAt S c.need.length k t U ∧ s.t 6 = .slice (some ⟨id, 0, none⟩) S.length fl ∧ s.t 8 = .int .i64 (q : Int) ∧ s.t 31 = .slice (some ⟨R (q + 1), 0, none⟩) c.need.length (F (q + 1)) ∧ s.t 32 = .int .i64 (c.need.length : Int) ∧ s.t 33 = .int .i64 (t : Int)) (fun s => c.need.length - (intOf (s.t 33)).toNat)
        ⟨0, M, U, by omega, tm, hX, hML, hU, hE, t6, t8, rfl, rfl, rfl⟩ ?_
      rintro s ⟨t, M, U, ht, tm, hX, hML, hU, hE, t6, t8, t31, t32, t33⟩
      by_cases hlt : t < c.need.length
      · have hlt' : (t : Int) < c.need.length := by omega
        have hUl := hE.1
        have r1 := hU.row (j := q) (by omega) (by rw [hE.2.1 q (by omega)]; omega)
        have ql := hE.2.1 q (by omega)
        have ql2 := hE.2.1 (q + 1) (by omega)
        have v1 := hE.2.2 q t (by omega) hlt
        rw [if_neg (by omega)] at v1
        have v2 := hE.2.2 (q + 1) t (by omega) hlt
        rw [if_pos (by omega)] at v2
        have w1 := Sbd q t (by omega) hlt
        have w2 := Ebd (S.length - (q + 1)) t (by omega) hlt
        rw [← v1] at w1
        rw [← v2] at w2
        rw [ql] at r1
        have hown := (hU.2.2.2.1 q (by omega)).2.2
        have hst := hown.st (off := t) (x := (U.getD q []).getD t 0 + (U.getD (q + 1) []).getD t 0) (by omega)
        have hRq := (hU.2.2.2.1 q (by omega))
        have i1 : iadA 1 (.slice (some ⟨id, 0, none⟩) S.length fl) (.int .i64 (q : Int)) = some (.pointer (some ⟨id, q, none⟩)) := iad0 rfl (by omega)
        have j1 : iadA 1 (.slice (some ⟨R q, 0, none⟩) c.need.length (F q)) (.int .i64 (t : Int)) = some (.pointer (some ⟨R q, t, none⟩)) := iad0 rfl (by omega)
        have j2 : iadA 1 (.slice (some ⟨R (q + 1), 0, none⟩) c.need.length (F (q + 1))) (.int .i64 (t : Int)) = some (.pointer (some ⟨R (q + 1), t, none⟩)) := iad0 rfl (by omega)
        have k1 := hown.rd' (i := t) (by omega)
        have k2 := (hU.2.2.2.1 (q + 1) (by omega)).2.2.rd' (i := t) (by omega)
        simp (config := {implicitDefEqProofs := false, maxDischargeDepth := 20}) (disch := first | omega | (simp only [lenE]; done) | (simp only [lenE]; omega) | rfl | (simp only [lenE, markR_len]; done) | (simp only [lenE, markR_len]; omega)) only [runE, mapE, listE, initT_5, initT_6, initT_7, initT_8, resV, oneV, binA, unA, reduceCtorEq, Nat.reduceEqDiff, Nat.reduceAdd, Nat.reduceLT, Nat.reduceLeDiff, Nat.reduceMul, Nat.reduceSub, ↓reduceIte, decide_true, decide_false, Bool.true_eq_false, Bool.false_eq_true, Bool.not_true, Bool.not_false, if_true, if_false, and_true, true_and, memE, celE, w64, Nat.zero_add, Nat.add_zero, Nat.mul_one, putL, and_self, ldn, tm, t6, t8, t31, t32, t33, hlt', i1, r1.1, j1, k1, j2, k2, hst]
        refine ⟨⟨t + 1, _, _, by omega, rfl, hX.put (by omega) _ _, by simp [hML], hU.put (by omega) (by rw [List.length_set]), hE.next hq hlt, by simp⟩, ?_⟩
        simp [intOf]; omega
      · have hlt' : ¬ ((t : Int) < c.need.length) := by omega
        have e : t = c.need.length := by omega
        subst e
        simp (config := {implicitDefEqProofs := false, maxDischargeDepth := 20}) (disch := first | omega | (simp only [lenE]; done) | (simp only [lenE]; omega) | rfl | (simp only [lenE, markR_len]; done) | (simp only [lenE, markR_len]; omega)) only [runE, mapE, listE, initT_5, initT_6, initT_7, initT_8, resV, oneV, binA, unA, reduceCtorEq, Nat.reduceEqDiff, Nat.reduceAdd, Nat.reduceLT, Nat.reduceLeDiff, Nat.reduceMul, Nat.reduceSub, ↓reduceIte, decide_true, decide_false, Bool.true_eq_false, Bool.false_eq_true, Bool.not_true, Bool.not_false, if_true, if_false, and_true, true_and, memE, celE, w64, Nat.zero_add, Nat.add_zero, Nat.mul_one, putL, and_self, ldn, tm, t6, t8, t31, t32, t33, hlt']
        refine ⟨⟨k + 1, M, U, by omega, rfl, hX, hML, hU, hE.round, by congr 1; omega⟩, ?_⟩
        simp [intOf]
    · simp (config := {implicitDefEqProofs := false, maxDischargeDepth := 20}) (disch := first | omega | (simp only [lenE]; done) | (simp only [lenE]; omega) | rfl | (simp only [lenE, markR_len]; done) | (simp only [lenE, markR_len]; omega)) only [runE, mapE, listE, initT_5, initT_6, initT_7, initT_8, resV, oneV, binA, unA, reduceCtorEq, Nat.reduceEqDiff, Nat.reduceAdd, Nat.reduceLT, Nat.reduceLeDiff, Nat.reduceMul, Nat.reduceSub, ↓reduceIte, decide_true, decide_false, Bool.true_eq_false, Bool.false_eq_true, Bool.not_true, Bool.not_false, if_true, if_false, and_true, true_and, memE, celE, w64, Nat.zero_add, Nat.add_zero, Nat.mul_one, putL, and_self, ldn, tm, t6, t8, ge_iff_le, hge]
      have e := hE.done (by omega)
      subst e
      have hl2 := echT_len S c.need.length
      refine ext_ansO (f := fun v => .tuple #[v, .bool true]) hX fun M' hM => ?_
      have := (hU.at_ (M' := M') fun i h1 h2 => hM i (by omega) (by omega)).obj (fl := fl) (by omega) (by
        have := tsz_bd (T := echT S c.need.length) (n := 6) (fun j hj => by rw [echT_at (by omega), echRow_len]; exact n6) (echT S c.need.length).length (Nat.le_refl _)
        omega)
      rw [hl2] at this
      exact TabO.wide _ _ _ _ _ _ _ hl1 (by omega) this
end Go.Proofs.Ytamhhicnfpemeaa.Ab
