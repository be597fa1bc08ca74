/- What fits of common cycles, and what they cost. -/
import Derived.Test.YtmjnjhdacliieaaAbFam1
import Derived.Test.YtmjnjhdacliieaaComMath
namespace Go.Proofs.Ytmjnjhdacliieaa.Ab
open Go Go.RowKit
set_option linter.unusedVariables false
set_option linter.unusedSimpArgs false
set_option maxRecDepth 10000

theorem plus_ok {p q : Int × Int} {A B C D : Int} (h1 : 0 ≤ p.1 ∧ p.1 ≤ A) (h2 : 0 < p.2 ∧ p.2 ≤ B) (h3 : 0 ≤ q.1 ∧ q.1 ≤ C) (h4 : 0 < q.2 ∧ q.2 ≤ D) (hn : A * D + C * B ≤ 9223372036854775807) (hd : B * D ≤ 9223372036854775807) :
    p.1 * q.2 + q.1 * p.2 ≤ 9223372036854775807 ∧ p.2 * q.2 ≤ 9223372036854775807 := by
  have m1 := mul_le2 (a := p.1) (x := q.2) (A := A) (B := D) h1 (by omega)
  have m2 := mul_le2 (a := q.1) (x := p.2) (A := C) (B := B) h3 (by omega)
  have m3 := mul_le2 (a := p.2) (x := q.2) (A := B) (B := D) (by omega) (by omega)
  omega
theorem bd_nums {D V : Int} {p : Int × Int} {A B : Int} (hD : 0 < D) (hp : Bd D V p) (hV : 0 ≤ V) (h1 : V * D ≤ A) (h2 : D ≤ B) : (0 ≤ p.1 ∧ p.1 ≤ A) ∧ (0 < p.2 ∧ p.2 ≤ B) := by
  have d1 := hp.den hD
  have v1 : p.1 ≤ V * D := Int.le_trans hp.le (Int.mul_le_mul_of_nonneg_left d1 hV)
  exact ⟨⟨hp.nn, by omega⟩, ⟨hp.pos, by omega⟩⟩
theorem fr_nums {a b A B : Int} (ha : 0 ≤ a ∧ a ≤ A) (hb : 0 < b ∧ b ≤ B) : (0 ≤ (fr a b).1 ∧ (fr a b).1 ≤ A) ∧ (0 < (fr a b).2 ∧ (fr a b).2 ≤ B) := by
  have := fr_spec ha.1 hb.1
  omega
theorem taken_nums {L : List It} (h : GoodF L) {c : Int} (hc : 1 ≤ c ∧ c ≤ 400) (n : Nat) (hn : n ≤ L.length) : (0 ≤ (takenTo L c n).1 ∧ (takenTo L c n).1 ≤ 4188160000) ∧ (0 < (takenTo L c n).2 ∧ (takenTo L c n).2 ≤ 2560000) := by
  have hD := prodM_bd h L.length (Nat.le_refl _)
  have hl := h.len
  refine bd_nums (by omega) (taken_bd h hc n hn) (by omega) ?_ hD.2
  have := mul_le2 (a := 409 * (n : Int)) (x := prodM L L.length) (A := 1636) (B := 2560000) (by omega) (by omega)
  omega
theorem shared_nums {L : List It} (h : GoodF L) {c : Int} (hc : 1 ≤ c ∧ c ≤ 400) (n : Nat) (hn : n ≤ L.length) : ((0 ≤ (sharedTo L c n).1 ∧ (sharedTo L c n).1 ≤ 295925760000000) ∧ (0 < (sharedTo L c n).2 ∧ (sharedTo L c n).2 ≤ 2048000000)) ∧
    (n < L.length → ((0 ≤ (addF (sharedTo L c n) (fr (L.getD n It0).setup c)).1 ∧ (addF (sharedTo L c n) (fr (L.getD n It0).setup c)).1 ≤ 295925760000000) ∧ (0 < (addF (sharedTo L c n) (fr (L.getD n It0).setup c)).2 ∧ (addF (sharedTo L c n) (fr (L.getD n It0).setup c)).2 ≤ 2048000000))) := by
  have hD := prodM_bd h L.length (Nat.le_refl _)
  have hl := h.len
  have hDD := mul_le2 (a := 2 * c) (x := prodM L L.length) (A := 800) (B := 2560000) (by omega) (by omega)
  have hDp : 0 < 2 * c * prodM L L.length := Int.mul_pos (by omega) (by omega)
  obtain ⟨b1, b2⟩ := shared_bd h hc n hn
  constructor
  · refine bd_nums hDp b1 (by omega) ?_ (by omega)
    have := mul_le2 (a := 36099 * (n : Int)) (x := 2 * c * prodM L L.length) (A := 144396) (B := 2048000000) (by omega) (by omega)
    omega
  · intro hlt
    refine bd_nums hDp (b2 hlt) (by omega) ?_ (by omega)
    have := mul_le2 (a := 36099 * (n : Int) + 99) (x := 2 * c * prodM L L.length) (A := 144396) (B := 2048000000) (by omega) (by omega)
    omega
theorem grow_nums {L : List It} (h : GoodF L) (n : Nat) (hn : n ≤ L.length) : (0 ≤ (growTo L n).1 ∧ (growTo L n).1 ≤ 1843200000) ∧ (0 < (growTo L n).2 ∧ (growTo L n).2 ≤ 5120000) := by
  have hD := prodM_bd h L.length (Nat.le_refl _)
  have hl := h.len
  refine bd_nums (by omega) (grow_bd h n hn) (by omega) ?_ (by omega)
  have := mul_le2 (a := 90 * (n : Int)) (x := 2 * prodM L L.length) (A := 360) (B := 5120000) (by omega) (by omega)
  omega
theorem bld01 (a b : Value) : bldA [a, b] [(0, 1, .int .i64 0), (1, 1, .int .i64 1)] = some (.agg #[.int .i64 0, .int .i64 1]) := rfl
theorem ItemsA.flds {m : Mem} {v : Value} {L : List It} (h : ItemsA m v L) {k : Nat} (hk : k < L.length) : ∃ p0 p3 p4, (fadA 0 (pItem v k) = some p0 ∧ ldA m none p0 = some (.int .i64 (L.getD k It0).daily)) ∧ (fadA 3 (pItem v k) = some p3 ∧ ldA m none p3 = some (.int .i64 (L.getD k It0).made)) ∧ (fadA 4 (pItem v k) = some p4 ∧ ldA m none p4 = some (.int .i64 (L.getD k It0).pause)) := by
  obtain ⟨p0, a0, b0⟩ := h.fld hk 0 (by decide)
  obtain ⟨p3, a3, b3⟩ := h.fld hk 3 (by decide)
  obtain ⟨p4, a4, b4⟩ := h.fld hk 4 (by decide)
  exact ⟨p0, p3, p4, ⟨a0, b0⟩, ⟨a3, b3⟩, ⟨a4, b4⟩⟩

theorem specFits_rc (m : Mem) (v : Value) (L : List It) (c : Int) (h : ItemsA m v L) (hF : GoodF L) (hc : 1 ≤ c ∧ c ≤ 400) : RC Try.prog 80 [v, .int .i64 c] m (AnsV (.bool (fitsB L c))) := by
  refine rc_of_run mixed ok_spec_l8Fits (by simp) (go_start _ _ _ ?_)
  simp (config := {implicitDefEqProofs := false, maxDischargeDepth := 20}) (disch := first | omega | (simp only [lenE]; done) | (simp only [lenE]; omega) | rfl | (simp only [lenE, markR_len]; done) | (simp only [lenE, markR_len]; omega)) only [runE, mapE, listE, initT_5, initT_6, initT_7, initT_8, resV, oneV, binA, unA, reduceCtorEq, Nat.reduceEqDiff, Nat.reduceAdd, Nat.reduceLT, Nat.reduceLeDiff, Nat.reduceMul, Nat.reduceSub, ↓reduceIte, decide_true, decide_false, Bool.true_eq_false, Bool.false_eq_true, Bool.not_true, Bool.not_false, if_true, if_false, and_true, true_and, memE, celE, w64, Nat.zero_add, Nat.add_zero, Nat.mul_one, putL, and_self, ldn, c_spec_l8Fits, r_spec_l8Fits, bld01, stP_agg2]
  obtain ⟨E, hE⟩ : ∃ M, M = roM m ++ [⟨.own, 28, [.int .i64 0, .int .i64 1]⟩] := ⟨_, rfl⟩
  have hX : Ext m E := by rw [hE]; exact (Ext.refl m).one _ _
  have o0 : OwnB E m.length 28 [.int .i64 0, .int .i64 1] := by rw [hE]; exact OwnB.here (roM_len m).symm
  try rw [← hE]
  clear hE
  refine loop_inv mixed (fun s => ∃ (k : Nat) (M : Mem), k ≤ L.length ∧ s.m = M ∧ Ext m M ∧ OwnB M m.length 28 [.int .i64 (takenTo L c k).1, .int .i64 (takenTo L c k).2] ∧ s.t 0 = v ∧ s.t 1 = .int .i64 c ∧ s.t 5 = .pointer (some ⟨m.length, 0, none⟩) ∧ s.t 6 = .int .i64 (k : Int)) (fun s => L.length - (intOf (s.t 6)).toNat)
    ⟨0, _, by omega, rfl, hX, o0, rfl, rfl, rfl, rfl⟩ ?_
  rintro s ⟨k, M, hk, tm, hX, p0, t0, t1, t5, t6⟩
  have hM := (Sees.ext hX).items h
  have hl := hM.len
  have hbd := hM.1
  by_cases hkl : k < L.length
  · have hlt : (k : Int) < L.length := by omega
    have i1 := hM.at_ hkl
    obtain ⟨q0, q3, q4, ⟨a0, b0⟩, ⟨a3, b3⟩, ⟨a4, b4⟩⟩ := hM.flds hkl
    have g := hF.at_ hkl
    have tp := taken_part g hc
    have hm := g.made
    have hd := g.daily
    have hstep : takenTo L c (k + 1) = addF (takenTo L c k) (fr ((L.getD k It0).pause * (L.getD k It0).made + (L.getD k It0).daily * c) (L.getD k It0).made) := rfl
    have nn := taken_nums hF hc k (by omega)
    generalize takenTo L c k = p at *
    generalize L.getD k It0 = x at *
    have nq := fr_nums (a := x.pause * x.made + x.daily * c) (b := x.made) (A := 8360) (B := 40) (by omega) (by omega)
    have ok := plus_ok nn.1 nn.2 nq.1 nq.2 (by decide) (by decide)
    simp (config := {implicitDefEqProofs := false, maxDischargeDepth := 20}) (disch := first | omega | (simp only [lenE]; done) | (simp only [lenE]; omega) | rfl | (simp only [lenE, markR_len]; done) | (simp only [lenE, markR_len]; omega)) only [runE, mapE, listE, initT_5, initT_6, initT_7, initT_8, resV, oneV, binA, unA, reduceCtorEq, Nat.reduceEqDiff, Nat.reduceAdd, Nat.reduceLT, Nat.reduceLeDiff, Nat.reduceMul, Nat.reduceSub, ↓reduceIte, decide_true, decide_false, Bool.true_eq_false, Bool.false_eq_true, Bool.not_true, Bool.not_false, if_true, if_false, and_true, true_and, memE, celE, w64, Nat.zero_add, Nat.add_zero, Nat.mul_one, putL, and_self, ldn, tm, t0, t1, t5, t6, hl, hlt, i1, a0, b0, a3, b3, a4, b4, p0.ld2]
    refine rcallH_rc (specCut_rc _ (x.pause * x.made + x.daily * c) x.made ⟨by omega, by omega⟩ ⟨by omega, by omega⟩) ?_
    rintro r new1 ⟨rfl, nr1⟩
    simp (config := {implicitDefEqProofs := false, maxDischargeDepth := 20}) (disch := first | omega | (simp only [lenE]; done) | (simp only [lenE]; omega) | rfl | (simp only [lenE, markR_len]; done) | (simp only [lenE, markR_len]; omega)) only [runE, mapE, listE, initT_5, initT_6, initT_7, initT_8, resV, oneV, binA, unA, reduceCtorEq, Nat.reduceEqDiff, Nat.reduceAdd, Nat.reduceLT, Nat.reduceLeDiff, Nat.reduceMul, Nat.reduceSub, ↓reduceIte, decide_true, decide_false, Bool.true_eq_false, Bool.false_eq_true, Bool.not_true, Bool.not_false, if_true, if_false, and_true, true_and, memE, celE, w64, Nat.zero_add, Nat.add_zero, Nat.mul_one, putL, and_self, ldn]
    refine rcallH_rc (specPlus_rc _ p (fr (x.pause * x.made + x.daily * c) x.made) nn.1.1 nn.2.1 nq.1.1 nq.2.1 ok.1 ok.2) ?_
    rintro r new2 ⟨rfl, nr2⟩
    rw [← hstep]
    generalize hz : takenTo L c (k + 1) = z at *
    have q0 := (p0.ext new1).ext new2
    have hst := q0.st (off := 0) (vs := [.int .i64 z.1, .int .i64 z.2]) (by simp) rfl
    simp (config := {implicitDefEqProofs := false, maxDischargeDepth := 20}) (disch := first | omega | (simp only [lenE]; done) | (simp only [lenE]; omega) | rfl | (simp only [lenE, markR_len]; done) | (simp only [lenE, markR_len]; omega)) only [runE, mapE, listE, initT_5, initT_6, initT_7, initT_8, resV, oneV, binA, unA, reduceCtorEq, Nat.reduceEqDiff, Nat.reduceAdd, Nat.reduceLT, Nat.reduceLeDiff, Nat.reduceMul, Nat.reduceSub, ↓reduceIte, decide_true, decide_false, Bool.true_eq_false, Bool.false_eq_true, Bool.not_true, Bool.not_false, if_true, if_false, and_true, true_and, memE, celE, w64, Nat.zero_add, Nat.add_zero, Nat.mul_one, putL, and_self, ldn, tm, t0, t1, t5, t6, frV, stP_agg2, hst]
    refine ⟨⟨k + 1, _, by omega, rfl, ((hX.app nr1).app nr2).put (by omega) _ _, by rw [hz]; exact q0.set_self _ _, by simp⟩, ?_⟩
    simp [intOf]; omega
  · have hlt : ¬ ((k : Int) < L.length) := by omega
    have e : k = L.length := by omega
    subst e
    have nn := taken_nums hF hc L.length (Nat.le_refl _)
    unfold fitsB
    generalize takenTo L c L.length = z at *
    have mm := mul_le2 (a := c) (x := z.2) (A := 400) (B := 2560000) (by omega) (by omega)
    simp (config := {implicitDefEqProofs := false, maxDischargeDepth := 20}) (disch := first | omega | (simp only [lenE]; done) | (simp only [lenE]; omega) | rfl | (simp only [lenE, markR_len]; done) | (simp only [lenE, markR_len]; omega)) only [runE, mapE, listE, initT_5, initT_6, initT_7, initT_8, resV, oneV, binA, unA, reduceCtorEq, Nat.reduceEqDiff, Nat.reduceAdd, Nat.reduceLT, Nat.reduceLeDiff, Nat.reduceMul, Nat.reduceSub, ↓reduceIte, decide_true, decide_false, Bool.true_eq_false, Bool.false_eq_true, Bool.not_true, Bool.not_false, if_true, if_false, and_true, true_and, memE, celE, w64, Nat.zero_add, Nat.add_zero, Nat.mul_one, putL, and_self, ldn, tm, t0, t1, t5, t6, hl, hlt, iada_0, iada_1, p0.rd]
    exact ext_ansV hX rfl

theorem cmpF_le (p q : Int × Int) : decide (cmpF p q ≤ 0) = decide (p.1 * q.2 ≤ q.1 * p.2) := by
  unfold cmpF cmpI
  generalize p.1 * q.2 = a
  generalize q.1 * p.2 = b
  congr 1
  apply propext
  split
  · constructor <;> intro <;> omega
  · split
    · constructor <;> intro <;> omega
    · constructor <;> intro <;> omega
theorem implFits_rc (m : Mem) (v : Value) (L : List It) (c : Int) (h : ItemsA m v L) (hF : GoodF L) (hc : 1 ≤ c ∧ c ≤ 400) : RC Try.prog 81 [v, .int .i64 c] m (AnsV (.bool (fitsB L c))) := by
  refine rc_of_run mixed ok_impl_made__fits (by simp) (go_start _ _ _ ?_)
  simp (config := {implicitDefEqProofs := false, maxDischargeDepth := 20}) (disch := first | omega | (simp only [lenE]; done) | (simp only [lenE]; omega) | rfl | (simp only [lenE, markR_len]; done) | (simp only [lenE, markR_len]; omega)) only [runE, mapE, listE, initT_5, initT_6, initT_7, initT_8, resV, oneV, binA, unA, reduceCtorEq, Nat.reduceEqDiff, Nat.reduceAdd, Nat.reduceLT, Nat.reduceLeDiff, Nat.reduceMul, Nat.reduceSub, ↓reduceIte, decide_true, decide_false, Bool.true_eq_false, Bool.false_eq_true, Bool.not_true, Bool.not_false, if_true, if_false, and_true, true_and, memE, celE, w64, Nat.zero_add, Nat.add_zero, Nat.mul_one, putL, and_self, ldn, c_impl_made__fits, r_impl_made__fits]
  refine callH_rc (implCut_rc _ 0 1 ⟨by omega, by omega⟩ ⟨by omega, by omega⟩) ?_
  rintro r new0 ⟨rfl, nr0⟩
  rw [fr_zero]
  have hX0 := (Ext.refl m).app nr0
  have hlv := ((Sees.ext hX0).items h).len
  simp (config := {implicitDefEqProofs := false, maxDischargeDepth := 20}) (disch := first | omega | (simp only [lenE]; done) | (simp only [lenE]; omega) | rfl | (simp only [lenE, markR_len]; done) | (simp only [lenE, markR_len]; omega)) only [runE, mapE, listE, initT_5, initT_6, initT_7, initT_8, resV, oneV, binA, unA, reduceCtorEq, Nat.reduceEqDiff, Nat.reduceAdd, Nat.reduceLT, Nat.reduceLeDiff, Nat.reduceMul, Nat.reduceSub, ↓reduceIte, decide_true, decide_false, Bool.true_eq_false, Bool.false_eq_true, Bool.not_true, Bool.not_false, if_true, if_false, and_true, true_and, memE, celE, w64, Nat.zero_add, Nat.add_zero, Nat.mul_one, putL, and_self, ldn, frV, stP_agg2, hlv]
  obtain ⟨E0, hE0⟩ : ∃ M, M = roM m ++ new0 := ⟨_, rfl⟩
  rw [← hE0] at hX0 ⊢
  have LE0 : m.length + new0.length = E0.length := by rw [hE0, List.length_append, roM_len]
  rw [LE0]
  clear hE0
  obtain ⟨E, hE⟩ : ∃ M, M = E0 ++ [⟨.own, 67, [.int .i64 0, .int .i64 1]⟩] := ⟨_, rfl⟩
  have hX : Ext m E := by rw [hE]; exact hX0.one _ _
  have o0 : OwnB E E0.length 67 [.int .i64 0, .int .i64 1] := by rw [hE]; exact OwnB.here rfl
  have hge := hX0.len
  try rw [← hE]
  clear hE
  refine loop_inv mixed (fun s => ∃ (k : Nat) (M : Mem), k ≤ L.length ∧ s.m = M ∧ Ext m M ∧ OwnB M E0.length 67 [.int .i64 (takenTo L c k).1, .int .i64 (takenTo L c k).2] ∧ s.t 1 = .int .i64 c ∧ s.t 5 = .pointer (some ⟨E0.length, 0, none⟩) ∧ s.t 9 = v ∧ s.t 10 = .int .i64 (L.length : Int) ∧ s.t 11 = .int .i64 (k : Int)) (fun s => L.length - (intOf (s.t 11)).toNat)
    ⟨0, _, by omega, rfl, hX, o0, rfl, rfl, rfl, rfl, rfl⟩ ?_
  rintro s ⟨k, M, hk, tm, hX, p0, t1, t5, t9, t10, t11⟩
  have hM := (Sees.ext hX).items h
  have hbd := hM.1
  by_cases hkl : k < L.length
  · have hlt : (k : Int) < L.length := by omega
    have i1 := hM.at_ hkl
    have i2 := hM.ld hkl
    have g := hF.at_ hkl
    have tp := taken_part g hc
    have hm := g.made
    have hd := g.daily
    have hp := g.pause
    have hstep : takenTo L c (k + 1) = addF (takenTo L c k) (fr ((L.getD k It0).pause * (L.getD k It0).made + (L.getD k It0).daily * c) (L.getD k It0).made) := rfl
    have nn := taken_nums hF hc k (by omega)
    rw [← add_two nn.1.1 nn.2.1 (by omega) (by omega) (by omega)] at hstep
    generalize takenTo L c k = p at *
    generalize L.getD k It0 = x at *
    have q1 : ∀ b, ldA (M ++ [b]) (some 2) (.pointer (some ⟨E0.length, 0, none⟩)) = some (.agg #[.int .i64 p.1, .int .i64 p.2]) := fun b => (p0.ext [b]).ld2
    simp (config := {implicitDefEqProofs := false, maxDischargeDepth := 20}) (disch := first | omega | (simp only [lenE]; done) | (simp only [lenE]; omega) | rfl | (simp only [lenE, markR_len]; done) | (simp only [lenE, markR_len]; omega)) only [runE, mapE, listE, initT_5, initT_6, initT_7, initT_8, resV, oneV, binA, unA, reduceCtorEq, Nat.reduceEqDiff, Nat.reduceAdd, Nat.reduceLT, Nat.reduceLeDiff, Nat.reduceMul, Nat.reduceSub, ↓reduceIte, decide_true, decide_false, Bool.true_eq_false, Bool.false_eq_true, Bool.not_true, Bool.not_false, if_true, if_false, and_true, true_and, memE, celE, w64, Nat.zero_add, Nat.add_zero, Nat.mul_one, putL, and_self, ldn, tm, t1, t5, t9, t10, t11, hlt, i1, i2, itV, stP_agg5, q1]
    obtain ⟨F, hF2⟩ : ∃ F, F = M ++ [⟨.own, 25, [.int .i64 x.daily, .int .i64 x.setup, .int .i64 x.hold, .int .i64 x.made, .int .i64 x.pause]⟩] := ⟨_, rfl⟩
    rw [← hF2]
    have hXF : Ext m F := by rw [hF2]; exact hX.one _ _
    have pF : OwnB F E0.length 67 [.int .i64 p.1, .int .i64 p.2] := by rw [hF2]; exact p0.ext _
    clear hF2
    have n1 := fr_nums (a := x.pause) (b := 1) (A := 9) (B := 1) (by omega) (by omega)
    have n2 := fr_nums (a := x.daily * c) (b := x.made) (A := 8000) (B := 40) (by omega) (by omega)
    have ok1 := plus_ok nn.1 nn.2 n1.1 n1.2 (by decide) (by decide)
    have e1 : addF p (fr x.pause 1) = fr (p.1 * 1 + x.pause * p.2) (p.2 * 1) := addF_r nn.1.1 nn.2.1 (by omega) (by decide)
    have mp := mul_le2 (a := x.pause) (x := p.2) (A := 9) (B := 2560000) (by omega) (by omega)
    have n3 := fr_nums (a := p.1 * 1 + x.pause * p.2) (b := p.2 * 1) (A := 4211200000) (B := 2560000) (by omega) (by omega)
    rw [← e1] at n3
    have ok2 := plus_ok n3.1 n3.2 n2.1 n2.2 (by decide) (by decide)
    refine rcallH_rc (implCut_rc _ x.pause 1 ⟨by omega, by omega⟩ ⟨by omega, by omega⟩) ?_
    rintro r new1 ⟨rfl, nr1⟩
    simp (config := {implicitDefEqProofs := false, maxDischargeDepth := 20}) (disch := first | omega | (simp only [lenE]; done) | (simp only [lenE]; omega) | rfl | (simp only [lenE, markR_len]; done) | (simp only [lenE, markR_len]; omega)) only [runE, mapE, listE, initT_5, initT_6, initT_7, initT_8, resV, oneV, binA, unA, reduceCtorEq, Nat.reduceEqDiff, Nat.reduceAdd, Nat.reduceLT, Nat.reduceLeDiff, Nat.reduceMul, Nat.reduceSub, ↓reduceIte, decide_true, decide_false, Bool.true_eq_false, Bool.false_eq_true, Bool.not_true, Bool.not_false, if_true, if_false, and_true, true_and, memE, celE, w64, Nat.zero_add, Nat.add_zero, Nat.mul_one, putL, and_self, ldn]
    refine rcallH_rc (implPlus_rc _ p (fr x.pause 1) nn.1.1 nn.2.1 n1.1.1 n1.2.1 ok1.1 ok1.2) ?_
    rintro r new2 ⟨rfl, nr2⟩
    simp (config := {implicitDefEqProofs := false, maxDischargeDepth := 20}) (disch := first | omega | (simp only [lenE]; done) | (simp only [lenE]; omega) | rfl | (simp only [lenE, markR_len]; done) | (simp only [lenE, markR_len]; omega)) only [runE, mapE, listE, initT_5, initT_6, initT_7, initT_8, resV, oneV, binA, unA, reduceCtorEq, Nat.reduceEqDiff, Nat.reduceAdd, Nat.reduceLT, Nat.reduceLeDiff, Nat.reduceMul, Nat.reduceSub, ↓reduceIte, decide_true, decide_false, Bool.true_eq_false, Bool.false_eq_true, Bool.not_true, Bool.not_false, if_true, if_false, and_true, true_and, memE, celE, w64, Nat.zero_add, Nat.add_zero, Nat.mul_one, putL, and_self, ldn]
    refine rcallH_rc (implCut_rc _ (x.daily * c) x.made ⟨by omega, by omega⟩ ⟨by omega, by omega⟩) ?_
    rintro r new3 ⟨rfl, nr3⟩
    simp (config := {implicitDefEqProofs := false, maxDischargeDepth := 20}) (disch := first | omega | (simp only [lenE]; done) | (simp only [lenE]; omega) | rfl | (simp only [lenE, markR_len]; done) | (simp only [lenE, markR_len]; omega)) only [runE, mapE, listE, initT_5, initT_6, initT_7, initT_8, resV, oneV, binA, unA, reduceCtorEq, Nat.reduceEqDiff, Nat.reduceAdd, Nat.reduceLT, Nat.reduceLeDiff, Nat.reduceMul, Nat.reduceSub, ↓reduceIte, decide_true, decide_false, Bool.true_eq_false, Bool.false_eq_true, Bool.not_true, Bool.not_false, if_true, if_false, and_true, true_and, memE, celE, w64, Nat.zero_add, Nat.add_zero, Nat.mul_one, putL, and_self, ldn]
    refine rcallH_rc (implPlus_rc _ (addF p (fr x.pause 1)) (fr (x.daily * c) x.made) n3.1.1 n3.2.1 n2.1.1 n2.2.1 ok2.1 ok2.2) ?_
    rintro r new4 ⟨rfl, nr4⟩
    rw [← hstep]
    generalize hz : takenTo L c (k + 1) = z at *
    have q0 := (((pF.ext new1).ext new2).ext new3).ext new4
    have hst := q0.st (off := 0) (vs := [.int .i64 z.1, .int .i64 z.2]) (by simp) rfl
    simp (config := {implicitDefEqProofs := false, maxDischargeDepth := 20}) (disch := first | omega | (simp only [lenE]; done) | (simp only [lenE]; omega) | rfl | (simp only [lenE, markR_len]; done) | (simp only [lenE, markR_len]; omega)) only [runE, mapE, listE, initT_5, initT_6, initT_7, initT_8, resV, oneV, binA, unA, reduceCtorEq, Nat.reduceEqDiff, Nat.reduceAdd, Nat.reduceLT, Nat.reduceLeDiff, Nat.reduceMul, Nat.reduceSub, ↓reduceIte, decide_true, decide_false, Bool.true_eq_false, Bool.false_eq_true, Bool.not_true, Bool.not_false, if_true, if_false, and_true, true_and, memE, celE, w64, Nat.zero_add, Nat.add_zero, Nat.mul_one, putL, and_self, ldn, tm, t1, t5, t9, t10, t11, frV, stP_agg2, hst]
    refine ⟨⟨k + 1, _, by omega, rfl, ((((hXF.app nr1).app nr2).app nr3).app nr4).put hge _ _, by rw [hz]; exact q0.set_self _ _, by simp⟩, ?_⟩
    simp [intOf]; omega
  · have hlt : ¬ ((k : Int) < L.length) := by omega
    have e : k = L.length := by omega
    subst e
    have nn := taken_nums hF hc L.length (Nat.le_refl _)
    unfold fitsB
    generalize takenTo L c L.length = z at *
    simp (config := {implicitDefEqProofs := false, maxDischargeDepth := 20}) (disch := first | omega | (simp only [lenE]; done) | (simp only [lenE]; omega) | rfl | (simp only [lenE, markR_len]; done) | (simp only [lenE, markR_len]; omega)) only [runE, mapE, listE, initT_5, initT_6, initT_7, initT_8, resV, oneV, binA, unA, reduceCtorEq, Nat.reduceEqDiff, Nat.reduceAdd, Nat.reduceLT, Nat.reduceLeDiff, Nat.reduceMul, Nat.reduceSub, ↓reduceIte, decide_true, decide_false, Bool.true_eq_false, Bool.false_eq_true, Bool.not_true, Bool.not_false, if_true, if_false, and_true, true_and, memE, celE, w64, Nat.zero_add, Nat.add_zero, Nat.mul_one, putL, and_self, ldn, tm, t1, t5, t9, t10, t11, hlt, p0.ld2]
    refine rcallH_rc (implCut_rc _ c 1 ⟨by omega, by omega⟩ ⟨by omega, by omega⟩) ?_
    rintro r new1 ⟨rfl, nr1⟩
    rw [fr_one (by omega)]
    simp (config := {implicitDefEqProofs := false, maxDischargeDepth := 20}) (disch := first | omega | (simp only [lenE]; done) | (simp only [lenE]; omega) | rfl | (simp only [lenE, markR_len]; done) | (simp only [lenE, markR_len]; omega)) only [runE, mapE, listE, initT_5, initT_6, initT_7, initT_8, resV, oneV, binA, unA, reduceCtorEq, Nat.reduceEqDiff, Nat.reduceAdd, Nat.reduceLT, Nat.reduceLeDiff, Nat.reduceMul, Nat.reduceSub, ↓reduceIte, decide_true, decide_false, Bool.true_eq_false, Bool.false_eq_true, Bool.not_true, Bool.not_false, if_true, if_false, and_true, true_and, memE, celE, w64, Nat.zero_add, Nat.add_zero, Nat.mul_one, putL, and_self, ldn]
    refine rcallH_rc (cmpFr_rc _ z (c, 1) ⟨nn.1.1, nn.2.1, by omega, by omega⟩ ⟨by simp; omega, by simp, by simp; omega, by simp⟩) ?_
    rintro r new2 ⟨rfl, nr2⟩
    have e := cmpF_le z (c, 1)
    simp only [Int.mul_one] at e
    simp (config := {implicitDefEqProofs := false, maxDischargeDepth := 20}) (disch := first | omega | (simp only [lenE]; done) | (simp only [lenE]; omega) | rfl | (simp only [lenE, markR_len]; done) | (simp only [lenE, markR_len]; omega)) only [runE, mapE, listE, initT_5, initT_6, initT_7, initT_8, resV, oneV, binA, unA, reduceCtorEq, Nat.reduceEqDiff, Nat.reduceAdd, Nat.reduceLT, Nat.reduceLeDiff, Nat.reduceMul, Nat.reduceSub, ↓reduceIte, decide_true, decide_false, Bool.true_eq_false, Bool.false_eq_true, Bool.not_true, Bool.not_false, if_true, if_false, and_true, true_and, memE, celE, w64, Nat.zero_add, Nat.add_zero, Nat.mul_one, putL, and_self, ldn, e]
    exact ext_ansV ((hX.app nr1).app nr2) rfl

end Go.Proofs.Ytmjnjhdacliieaa.Ab
