/- The draws of chapter 2: amounts; a Case and amounts. -/
import Derived.Test.YtfjpickejgbmaaaAbLots3
import Derived.Test.YtfjpickejgbmaaaAbGrow
namespace Go.Proofs.Ytfjpickejgbmaaa.Ab
open Go Go.RowKit
set_option linter.unusedVariables false
set_option linter.unusedSimpArgs false

theorem b1e (m : Mem) (x : Int) : bslA m 3 1 1 [.int .i64 0] [(0, 1, .int .i64 x)] = some (.slice (some ⟨m.length, 0, none⟩) 1 1, m ++ [⟨.own, 3, [.int .i64 x]⟩]) := rfl
theorem b2a (m : Mem) : bslA m 3 1 2 [.int .i64 0, .int .i64 0] [(0, 1, .int .i64 0), (1, 1, .int .i64 1)] = some (.slice (some ⟨m.length, 0, none⟩) 2 1, m ++ [rowB [0, 1]]) := rfl
theorem b4b (m : Mem) : bslA m 3 1 4 [.int .i64 0, .int .i64 0, .int .i64 0, .int .i64 0] [(0, 1, .int .i64 1), (1, 1, .int .i64 (-1)), (2, 1, .int .i64 4611686018427387904), (3, 1, .int .i64 (-9223372036854775808))] = some (.slice (some ⟨m.length, 0, none⟩) 4 1, m ++ [rowB [1, -1, 4611686018427387904, -9223372036854775808]]) := rfl
/-- A row drawn beside a box. -/
structure Db (M M' : Mem) (cb id a r : Nat) (l L : List Int) (bx : Blk) : Prop where
  dr : Dr M M' cb id a r l L
  box : M'[M.length]? = some bx
  gt : M.length < r
section
variable {M M' M2 : Mem} {cb id a a2 r : Nat} {l L : List Int} {bx : Blk}
theorem Db.draw (h : Db M M' cb id a r l L bx) (w : Cw id M' M2) (k : CurA M2 cb l id a2) : Db M M2 cb id a2 r l L bx :=
  ⟨h.dr.draw w k, by rw [w.old M.length (by have := h.dr.hid; omega) (List.getElem?_eq_some_iff.1 h.box).1]; exact h.box, h.gt⟩
theorem Db.st (h : Db M M' cb id a r l L bx) {j : Nat} (hj : j < L.length) (x : Int) : stA M' r j [.int .i64 x] = some (M'.set r (rowB (L.set j x))) ∧ Db M (M'.set r (rowB (L.set j x))) cb id a r l (L.set j x) bx :=
  ⟨(h.dr.st hj x).1, (h.dr.st hj x).2, by rw [List.getElem?_set_ne (by have := h.gt; omega)]; exact h.box, h.gt⟩
theorem Db.lives {lo : Nat} {v : Value} {k : Cs} (h : Db M M' cb id a r l L bx) (hl : Lives lo M v k) (hlo : id < lo) : CaseA M' v k :=
  hl M' fun i h1 h2 => h.dr.cw.old i (by omega) h2
theorem Db.rd {e : TypeId} {cs : List Value} (h : Db M M' cb id a r l L ⟨.own, e, cs⟩) (j : Nat) : rdc M' M.length j = cs[j]? := by
  unfold rdc; rw [h.box]; rfl
theorem Db.app (h : Db M M' cb id a r l L bx) (x : Int) (hl : L.length ≤ 1000) {i : Nat} (hi : i = M'.length) : ∃ M2,
    appP (M' ++ [⟨.own, 3, [.int .i64 x]⟩]) 3 1 8 (.slice (some ⟨r, 0, none⟩) L.length 1) (.slice (some ⟨i, 0, none⟩) 1 1) = some (.slice (some ⟨M'.length + 1, 0, none⟩) (L.length + 1) 1, M2) ∧
    Dr M M2 cb id a (M'.length + 1) l (L ++ [x]) := h.dr.app x hl hi
end
theorem amounts_ac (M : Mem) (cb id a lo : Nat) (l : List Int) (v : Value) (k : Cs) (h : CurA M cb l id a) (ha : a ≤ 999000000) (hv : Lives lo M v k) (hlo : id < lo) (hs : k.need.length ≤ 1000) :
    AC Try.prog 34 [.pointer (some ⟨id, 0, none⟩), v] M fun u M' => ∃ (r : Nat) (L : List Int) (a' : Nat), u = .slice (some ⟨r, 0, none⟩) L.length 1 ∧ L.length ≤ 1001 ∧ a' ≤ a + 2000 ∧ Dr M M' cb id a' r l L := by
  refine ac_of_run mixed ok_spec_l1Cur__amounts (by simp) (go_start _ _ _ ?_)
  have hid := h.lt
  have hcb := h.cblt
  obtain ⟨v1, v2, v3, v4, rfl, h1, h2, h3, h4⟩ := hv.here.ok
  have hmk := mksA_eq (m := M ++ [⟨.own, 26, [v1, v2, v3, v4]⟩]) (e := 3) (byt := 8) (n := k.need.length) (z := .int .i64 0) (a := (k.need.length : Int)) rfl (by omega)
  simp (config := {implicitDefEqProofs := false, maxDischargeDepth := 20}) (disch := first | omega | (simp only [lenE]; done) | (simp only [lenE]; omega) | rfl | (simp only [lenE, markR_len]; done) | (simp only [lenE, markR_len]; omega)) only [runE, mapE, listE, initT_5, initT_6, initT_7, initT_8, resV, oneV, binA, unA, reduceCtorEq, Nat.reduceEqDiff, Nat.reduceAdd, Nat.reduceLT, Nat.reduceLeDiff, Nat.reduceMul, Nat.reduceSub, ↓reduceIte, decide_true, decide_false, Bool.true_eq_false, Bool.false_eq_true, Bool.not_true, Bool.not_false, if_true, if_false, and_true, true_and, memE, celE, w64, Nat.zero_add, Nat.add_zero, Nat.mul_one, putL, and_self, ldn, c_spec_l1Cur__amounts, r_spec_l1Cur__amounts, h1.len, hmk]
  have w0 : Cw id M (M ++ [⟨.own, 26, [v1, v2, v3, v4]⟩]) := (Cw.refl id M).ext (noRo_own noRo_nil)
  have d0 := Dr.new hid hcb w0 (h.ext _) (r := M.length + 1) (by simp) (List.replicate k.need.length 0)
  have e4 : rowB (List.replicate k.need.length 0) = ⟨.own, 3, List.replicate k.need.length (.int .i64 0)⟩ := by simp [rowB]
  rw [e4] at d0
  have D0 : Db M (M ++ [⟨.own, 26, [v1, v2, v3, v4]⟩] ++ [⟨.own, 3, List.replicate k.need.length (.int .i64 0)⟩]) cb id a (M.length + 1) l (List.replicate k.need.length 0) ⟨.own, 26, [v1, v2, v3, v4]⟩ :=
    ⟨d0, by rw [List.getElem?_append_left (by simp)]; simp, by omega⟩
  obtain ⟨M1, hM1⟩ : ∃ M1, M1 = M ++ [⟨.own, 26, [v1, v2, v3, v4]⟩] ++ [⟨.own, 3, List.replicate k.need.length (.int .i64 0)⟩] := ⟨_, rfl⟩
  rw [← hM1] at D0 ⊢
  clear hM1 d0
  have hL0 : (List.replicate k.need.length (0 : Int)).length = k.need.length := List.length_replicate
  generalize List.replicate k.need.length (0 : Int) = L0 at *
  refine callH_rc (l2Good_rc _ _ k (D0.lives hv hlo)) ?_
  rintro u new ⟨rfl, nr⟩
  have D1 : Db M (M1 ++ new) cb id a (M.length + 1) l L0 ⟨.own, 26, [v1, v2, v3, v4]⟩ := ⟨D0.dr.ext nr, by rw [List.getElem?_append_left (List.getElem?_eq_some_iff.1 D0.box).1]; exact D0.box, D0.gt⟩
  obtain ⟨M2, hM2⟩ : ∃ M2, M2 = M1 ++ new := ⟨_, rfl⟩
  rw [← hM2] at D1 ⊢
  clear hM2 nr
  cases hg : k.good with
  | false =>
    simp (config := {implicitDefEqProofs := false, maxDischargeDepth := 20}) (disch := first | omega | (simp only [lenE]; done) | (simp only [lenE]; omega) | rfl | (simp only [lenE, markR_len]; done) | (simp only [lenE, markR_len]; omega)) only [runE, mapE, listE, initT_5, initT_6, initT_7, initT_8, resV, oneV, binA, unA, reduceCtorEq, Nat.reduceEqDiff, Nat.reduceAdd, Nat.reduceLT, Nat.reduceLeDiff, Nat.reduceMul, Nat.reduceSub, ↓reduceIte, decide_true, decide_false, Bool.true_eq_false, Bool.false_eq_true, Bool.not_true, Bool.not_false, if_true, if_false, and_true, true_and, memE, celE, w64, Nat.zero_add, Nat.add_zero, Nat.mul_one, putL, and_self, ldn]
    exact ⟨_, L0, a, by rw [hL0], by omega, by omega, D1.dr⟩
  | true =>
    have gd := good_iff.1 hg
    have h8 := gd.n8
    simp (config := {implicitDefEqProofs := false, maxDischargeDepth := 20}) (disch := first | omega | (simp only [lenE]; done) | (simp only [lenE]; omega) | rfl | (simp only [lenE, markR_len]; done) | (simp only [lenE, markR_len]; omega)) only [runE, mapE, listE, initT_5, initT_6, initT_7, initT_8, resV, oneV, binA, unA, reduceCtorEq, Nat.reduceEqDiff, Nat.reduceAdd, Nat.reduceLT, Nat.reduceLeDiff, Nat.reduceMul, Nat.reduceSub, ↓reduceIte, decide_true, decide_false, Bool.true_eq_false, Bool.false_eq_true, Bool.not_true, Bool.not_false, if_true, if_false, and_true, true_and, memE, celE, w64, Nat.zero_add, Nat.add_zero, Nat.mul_one, putL, and_self, ldn]
    refine loop_inv mixed (fun s => ∃ (t : Nat) (M' : Mem) (a' : Nat) (L : List Int), t ≤ k.need.length ∧ s.m = M' ∧ Db M M' cb id a' (M.length + 1) l L ⟨.own, 26, [v1, v2, v3, v4]⟩ ∧ L.length = k.need.length ∧ a' ≤ a + 200 * t ∧ s.t 0 = .pointer (some ⟨id, 0, none⟩) ∧ s.t 3 = .pointer (some ⟨M.length, 0, none⟩) ∧ s.t 5 = .slice (some ⟨M.length + 1, 0, none⟩) k.need.length 1 ∧ s.t 6 = .int .i64 t) (fun s => k.need.length - (intOf (s.t 6)).toNat)
      ⟨0, M2, a, L0, by omega, rfl, D1, hL0, by omega, rfl, rfl, rfl, rfl⟩ ?_
    rintro s ⟨t, M', a', L, ht, tm, D, hL, hak, t0, t3, t5, t6⟩
    obtain ⟨w1, w2, w3, w4, ee, i1, -, -, -⟩ := (D.lives hv hlo).ok
    cases ee
    have q0 : rdc M' M.length 0 = some v1 := D.rd 0
    by_cases hlt : t < k.need.length
    · have hlt' : (t : Int) < k.need.length := by omega
      have bn := getD_in gd.need hlt
      simp (config := {implicitDefEqProofs := false, maxDischargeDepth := 20}) (disch := first | omega | (simp only [lenE]; done) | (simp only [lenE]; omega) | rfl | (simp only [lenE, markR_len]; done) | (simp only [lenE, markR_len]; omega)) only [runE, mapE, listE, initT_5, initT_6, initT_7, initT_8, resV, oneV, binA, unA, reduceCtorEq, Nat.reduceEqDiff, Nat.reduceAdd, Nat.reduceLT, Nat.reduceLeDiff, Nat.reduceMul, Nat.reduceSub, ↓reduceIte, decide_true, decide_false, Bool.true_eq_false, Bool.false_eq_true, Bool.not_true, Bool.not_false, if_true, if_false, and_true, true_and, memE, celE, w64, Nat.zero_add, Nat.add_zero, Nat.mul_one, putL, and_self, ldn, tm, t0, t3, t5, t6, q0, i1.len, i1.at_ t hlt, i1.ld t hlt, hlt']
      refine loop_inv mixed (fun s => ∃ (M' : Mem) (a' : Nat) (L : List Int) (x : Int), s.m = M' ∧ Db M M' cb id a' (M.length + 1) l L ⟨.own, 26, [v1, v2, v3, v4]⟩ ∧ L.length = k.need.length ∧ 0 ≤ x ∧ x ≤ 20 ∧ (a' : Int) ≤ a + 200 * t + 8 * (20 - x) ∧ s.t 0 = .pointer (some ⟨id, 0, none⟩) ∧ s.t 3 = .pointer (some ⟨M.length, 0, none⟩) ∧ s.t 5 = .slice (some ⟨M.length + 1, 0, none⟩) k.need.length 1 ∧ s.t 6 = .int .i64 t ∧ s.t 7 = .int .i64 x) (fun s => (intOf (s.t 7)).toNat)
        ⟨M', a', L, k.need.getD t 0, by simp only [put_t, put_t', put_m, putT_t, putT_t', putT_m, init_t, init_m, initT_0, initT_1, initT_2, initT_3, initT_4, initT_5, initT_6, initT_7, initT_8, Nat.reduceEqDiff, ↓reduceIte, tm], D, hL, by omega, by omega, by omega, by simp only [put_t, put_t', put_m, putT_t, putT_t', putT_m, init_t, init_m, initT_0, initT_1, initT_2, initT_3, initT_4, initT_5, initT_6, initT_7, initT_8, Nat.reduceEqDiff, ↓reduceIte, t0], by simp only [put_t, put_t', put_m, putT_t, putT_t', putT_m, init_t, init_m, initT_0, initT_1, initT_2, initT_3, initT_4, initT_5, initT_6, initT_7, initT_8, Nat.reduceEqDiff, ↓reduceIte, t3], by simp only [put_t, put_t', put_m, putT_t, putT_t', putT_m, init_t, init_m, initT_0, initT_1, initT_2, initT_3, initT_4, initT_5, initT_6, initT_7, initT_8, Nat.reduceEqDiff, ↓reduceIte, t5], by simp only [put_t, put_t', put_m, putT_t, putT_t', putT_m, init_t, init_m, initT_0, initT_1, initT_2, initT_3, initT_4, initT_5, initT_6, initT_7, initT_8, Nat.reduceEqDiff, ↓reduceIte, t6], by simp only [put_t, put_t', put_m, putT_t, putT_t', putT_m, init_t, init_m, initT_0, initT_1, initT_2, initT_3, initT_4, initT_5, initT_6, initT_7, initT_8, Nat.reduceEqDiff, ↓reduceIte]⟩ ?_
      clear tm t0 t3 t5 t6 D hL hak q0 i1
      rintro s ⟨M', a', L, x, tm, D, hL, hx0, hx1, hak, t0, t3, t5, t6, t7⟩
      by_cases hx : 0 < x
      · simp (config := {implicitDefEqProofs := false, maxDischargeDepth := 20}) (disch := first | omega | (simp only [lenE]; done) | (simp only [lenE]; omega) | rfl | (simp only [lenE, markR_len]; done) | (simp only [lenE, markR_len]; omega)) only [runE, mapE, listE, initT_5, initT_6, initT_7, initT_8, resV, oneV, binA, unA, reduceCtorEq, Nat.reduceEqDiff, Nat.reduceAdd, Nat.reduceLT, Nat.reduceLeDiff, Nat.reduceMul, Nat.reduceSub, ↓reduceIte, decide_true, decide_false, Bool.true_eq_false, Bool.false_eq_true, Bool.not_true, Bool.not_false, if_true, if_false, and_true, true_and, memE, celE, w64, Nat.zero_add, Nat.add_zero, Nat.mul_one, putL, and_self, ldn, tm, t0, t3, t5, t6, t7, gt_iff_lt, hx]
        refine callH_ac (one_ac M' cb id a' l 2 D.dr.cur (by omega) (by omega) (by omega)) ?_
        rintro u N1 ⟨b1, rfl, w1, a1, ha1, k1⟩
        have E1 := D.draw w1 k1
        cases b1 with
        | true =>
          simp (config := {implicitDefEqProofs := false, maxDischargeDepth := 20}) (disch := first | omega | (simp only [lenE]; done) | (simp only [lenE]; omega) | rfl | (simp only [lenE, markR_len]; done) | (simp only [lenE, markR_len]; omega)) only [runE, mapE, listE, initT_5, initT_6, initT_7, initT_8, resV, oneV, binA, unA, reduceCtorEq, Nat.reduceEqDiff, Nat.reduceAdd, Nat.reduceLT, Nat.reduceLeDiff, Nat.reduceMul, Nat.reduceSub, ↓reduceIte, decide_true, decide_false, Bool.true_eq_false, Bool.false_eq_true, Bool.not_true, Bool.not_false, if_true, if_false, and_true, true_and, memE, celE, w64, Nat.zero_add, Nat.add_zero, Nat.mul_one, putL, and_self, ldn, tm, t0, t3, t5, t6, t7]
          refine callH_ac (pick_ac N1 cb id a1 l ((t : Int) + 1) E1.dr.cur (by omega) (by omega) (by omega)) ?_
          rintro u N2 ⟨y, rfl, hy0, hy1, w2, a2, ha2, k2⟩
          have E2 := E1.draw w2 k2
          obtain ⟨f, rfl⟩ : ∃ f : Nat, y = f := ⟨y.toNat, by omega⟩
          simp (config := {implicitDefEqProofs := false, maxDischargeDepth := 20}) (disch := first | omega | (simp only [lenE]; done) | (simp only [lenE]; omega) | rfl | (simp only [lenE, markR_len]; done) | (simp only [lenE, markR_len]; omega)) only [runE, mapE, listE, initT_5, initT_6, initT_7, initT_8, resV, oneV, binA, unA, reduceCtorEq, Nat.reduceEqDiff, Nat.reduceAdd, Nat.reduceLT, Nat.reduceLeDiff, Nat.reduceMul, Nat.reduceSub, ↓reduceIte, decide_true, decide_false, Bool.true_eq_false, Bool.false_eq_true, Bool.not_true, Bool.not_false, if_true, if_false, and_true, true_and, memE, celE, w64, Nat.zero_add, Nat.add_zero, Nat.mul_one, putL, and_self, ldn, tm, t0, t3, t5, t6, t7]
          refine callH_ac (one_ac _ cb id a2 l 2 E2.dr.cur (by omega) (by omega) (by omega)) ?_
          rintro u N3 ⟨b2, rfl, w3, a3, ha3, k3⟩
          have E3 := E2.draw w3 k3
          cases b2 with
          | true =>
            simp (config := {implicitDefEqProofs := false, maxDischargeDepth := 20}) (disch := first | omega | (simp only [lenE]; done) | (simp only [lenE]; omega) | rfl | (simp only [lenE, markR_len]; done) | (simp only [lenE, markR_len]; omega)) only [runE, mapE, listE, initT_5, initT_6, initT_7, initT_8, resV, oneV, binA, unA, reduceCtorEq, Nat.reduceEqDiff, Nat.reduceAdd, Nat.reduceLT, Nat.reduceLeDiff, Nat.reduceMul, Nat.reduceSub, ↓reduceIte, decide_true, decide_false, Bool.true_eq_false, Bool.false_eq_true, Bool.not_true, Bool.not_false, if_true, if_false, and_true, true_and, memE, celE, w64, Nat.zero_add, Nat.add_zero, Nat.mul_one, putL, and_self, ldn, tm, t0, t3, t5, t6, t7]
            refine callH_ac (pick_ac N3 cb id a3 l x E3.dr.cur (by omega) (by omega) (by omega)) ?_
            rintro u N4 ⟨z, rfl, hz0, hz1, w4, a4, ha4, k4⟩
            have E4 := E3.draw w4 k4
            have i0 : iadA 1 (.slice (some ⟨M.length + 1, 0, none⟩) k.need.length 1) (.int .i64 (f : Int)) = some (.pointer (some ⟨M.length + 1, f, none⟩)) := iad0 rfl (by omega)
            have q1 := E4.dr.own.rd' (i := f) (by omega)
            have s1 := fun X => (E4.st (j := f) (by omega) X).1
            simp (config := {implicitDefEqProofs := false, maxDischargeDepth := 20}) (disch := first | omega | (simp only [lenE]; done) | (simp only [lenE]; omega) | rfl | (simp only [lenE, markR_len]; done) | (simp only [lenE, markR_len]; omega)) only [runE, mapE, listE, initT_5, initT_6, initT_7, initT_8, resV, oneV, binA, unA, reduceCtorEq, Nat.reduceEqDiff, Nat.reduceAdd, Nat.reduceLT, Nat.reduceLeDiff, Nat.reduceMul, Nat.reduceSub, ↓reduceIte, decide_true, decide_false, Bool.true_eq_false, Bool.false_eq_true, Bool.not_true, Bool.not_false, if_true, if_false, and_true, true_and, memE, celE, w64, Nat.zero_add, Nat.add_zero, Nat.mul_one, putL, and_self, ldn, tm, t0, t3, t5, t6, t7, i0, q1, s1]
            refine ⟨⟨_, a4, _, x - (1 + z), rfl, (E4.st (j := f) (by omega) _).2, by rw [List.length_set]; exact hL, by omega, by omega, by omega, rfl⟩, by simp [intOf]; omega⟩
          | false =>
            simp (config := {implicitDefEqProofs := false, maxDischargeDepth := 20}) (disch := first | omega | (simp only [lenE]; done) | (simp only [lenE]; omega) | rfl | (simp only [lenE, markR_len]; done) | (simp only [lenE, markR_len]; omega)) only [runE, mapE, listE, initT_5, initT_6, initT_7, initT_8, resV, oneV, binA, unA, reduceCtorEq, Nat.reduceEqDiff, Nat.reduceAdd, Nat.reduceLT, Nat.reduceLeDiff, Nat.reduceMul, Nat.reduceSub, ↓reduceIte, decide_true, decide_false, Bool.true_eq_false, Bool.false_eq_true, Bool.not_true, Bool.not_false, if_true, if_false, and_true, true_and, memE, celE, w64, Nat.zero_add, Nat.add_zero, Nat.mul_one, putL, and_self, ldn, tm, t0, t3, t5, t6, t7]
            have i0 : iadA 1 (.slice (some ⟨M.length + 1, 0, none⟩) k.need.length 1) (.int .i64 (f : Int)) = some (.pointer (some ⟨M.length + 1, f, none⟩)) := iad0 rfl (by omega)
            have q1 := E3.dr.own.rd' (i := f) (by omega)
            have s1 := fun X => (E3.st (j := f) (by omega) X).1
            simp (config := {implicitDefEqProofs := false, maxDischargeDepth := 20}) (disch := first | omega | (simp only [lenE]; done) | (simp only [lenE]; omega) | rfl | (simp only [lenE, markR_len]; done) | (simp only [lenE, markR_len]; omega)) only [runE, mapE, listE, initT_5, initT_6, initT_7, initT_8, resV, oneV, binA, unA, reduceCtorEq, Nat.reduceEqDiff, Nat.reduceAdd, Nat.reduceLT, Nat.reduceLeDiff, Nat.reduceMul, Nat.reduceSub, ↓reduceIte, decide_true, decide_false, Bool.true_eq_false, Bool.false_eq_true, Bool.not_true, Bool.not_false, if_true, if_false, and_true, true_and, memE, celE, w64, Nat.zero_add, Nat.add_zero, Nat.mul_one, putL, and_self, ldn, tm, t0, t3, t5, t6, t7, i0, q1, s1]
            refine ⟨⟨_, a3, _, x - x, rfl, (E3.st (j := f) (by omega) _).2, by rw [List.length_set]; exact hL, by omega, by omega, by omega, rfl⟩, by simp [intOf]; omega⟩
        | false =>
          simp (config := {implicitDefEqProofs := false, maxDischargeDepth := 20}) (disch := first | omega | (simp only [lenE]; done) | (simp only [lenE]; omega) | rfl | (simp only [lenE, markR_len]; done) | (simp only [lenE, markR_len]; omega)) only [runE, mapE, listE, initT_5, initT_6, initT_7, initT_8, resV, oneV, binA, unA, reduceCtorEq, Nat.reduceEqDiff, Nat.reduceAdd, Nat.reduceLT, Nat.reduceLeDiff, Nat.reduceMul, Nat.reduceSub, ↓reduceIte, decide_true, decide_false, Bool.true_eq_false, Bool.false_eq_true, Bool.not_true, Bool.not_false, if_true, if_false, and_true, true_and, memE, celE, w64, Nat.zero_add, Nat.add_zero, Nat.mul_one, putL, and_self, ldn, tm, t0, t3, t5, t6, t7]
          refine callH_ac (one_ac _ cb id a1 l 2 E1.dr.cur (by omega) (by omega) (by omega)) ?_
          rintro u N3 ⟨b2, rfl, w3, a3, ha3, k3⟩
          have E3 := E1.draw w3 k3
          cases b2 with
          | true =>
            simp (config := {implicitDefEqProofs := false, maxDischargeDepth := 20}) (disch := first | omega | (simp only [lenE]; done) | (simp only [lenE]; omega) | rfl | (simp only [lenE, markR_len]; done) | (simp only [lenE, markR_len]; omega)) only [runE, mapE, listE, initT_5, initT_6, initT_7, initT_8, resV, oneV, binA, unA, reduceCtorEq, Nat.reduceEqDiff, Nat.reduceAdd, Nat.reduceLT, Nat.reduceLeDiff, Nat.reduceMul, Nat.reduceSub, ↓reduceIte, decide_true, decide_false, Bool.true_eq_false, Bool.false_eq_true, Bool.not_true, Bool.not_false, if_true, if_false, and_true, true_and, memE, celE, w64, Nat.zero_add, Nat.add_zero, Nat.mul_one, putL, and_self, ldn, tm, t0, t3, t5, t6, t7]
            refine callH_ac (pick_ac N3 cb id a3 l x E3.dr.cur (by omega) (by omega) (by omega)) ?_
            rintro u N4 ⟨z, rfl, hz0, hz1, w4, a4, ha4, k4⟩
            have E4 := E3.draw w4 k4
            have i0 : iadA 1 (.slice (some ⟨M.length + 1, 0, none⟩) k.need.length 1) (.int .i64 (t : Int)) = some (.pointer (some ⟨M.length + 1, t, none⟩)) := iad0 rfl (by omega)
            have q1 := E4.dr.own.rd' (i := t) (by omega)
            have s1 := fun X => (E4.st (j := t) (by omega) X).1
            simp (config := {implicitDefEqProofs := false, maxDischargeDepth := 20}) (disch := first | omega | (simp only [lenE]; done) | (simp only [lenE]; omega) | rfl | (simp only [lenE, markR_len]; done) | (simp only [lenE, markR_len]; omega)) only [runE, mapE, listE, initT_5, initT_6, initT_7, initT_8, resV, oneV, binA, unA, reduceCtorEq, Nat.reduceEqDiff, Nat.reduceAdd, Nat.reduceLT, Nat.reduceLeDiff, Nat.reduceMul, Nat.reduceSub, ↓reduceIte, decide_true, decide_false, Bool.true_eq_false, Bool.false_eq_true, Bool.not_true, Bool.not_false, if_true, if_false, and_true, true_and, memE, celE, w64, Nat.zero_add, Nat.add_zero, Nat.mul_one, putL, and_self, ldn, tm, t0, t3, t5, t6, t7, i0, q1, s1]
            refine ⟨⟨_, a4, _, x - (1 + z), rfl, (E4.st (j := t) (by omega) _).2, by rw [List.length_set]; exact hL, by omega, by omega, by omega, rfl⟩, by simp [intOf]; omega⟩
          | false =>
            simp (config := {implicitDefEqProofs := false, maxDischargeDepth := 20}) (disch := first | omega | (simp only [lenE]; done) | (simp only [lenE]; omega) | rfl | (simp only [lenE, markR_len]; done) | (simp only [lenE, markR_len]; omega)) only [runE, mapE, listE, initT_5, initT_6, initT_7, initT_8, resV, oneV, binA, unA, reduceCtorEq, Nat.reduceEqDiff, Nat.reduceAdd, Nat.reduceLT, Nat.reduceLeDiff, Nat.reduceMul, Nat.reduceSub, ↓reduceIte, decide_true, decide_false, Bool.true_eq_false, Bool.false_eq_true, Bool.not_true, Bool.not_false, if_true, if_false, and_true, true_and, memE, celE, w64, Nat.zero_add, Nat.add_zero, Nat.mul_one, putL, and_self, ldn, tm, t0, t3, t5, t6, t7]
            have i0 : iadA 1 (.slice (some ⟨M.length + 1, 0, none⟩) k.need.length 1) (.int .i64 (t : Int)) = some (.pointer (some ⟨M.length + 1, t, none⟩)) := iad0 rfl (by omega)
            have q1 := E3.dr.own.rd' (i := t) (by omega)
            have s1 := fun X => (E3.st (j := t) (by omega) X).1
            simp (config := {implicitDefEqProofs := false, maxDischargeDepth := 20}) (disch := first | omega | (simp only [lenE]; done) | (simp only [lenE]; omega) | rfl | (simp only [lenE, markR_len]; done) | (simp only [lenE, markR_len]; omega)) only [runE, mapE, listE, initT_5, initT_6, initT_7, initT_8, resV, oneV, binA, unA, reduceCtorEq, Nat.reduceEqDiff, Nat.reduceAdd, Nat.reduceLT, Nat.reduceLeDiff, Nat.reduceMul, Nat.reduceSub, ↓reduceIte, decide_true, decide_false, Bool.true_eq_false, Bool.false_eq_true, Bool.not_true, Bool.not_false, if_true, if_false, and_true, true_and, memE, celE, w64, Nat.zero_add, Nat.add_zero, Nat.mul_one, putL, and_self, ldn, tm, t0, t3, t5, t6, t7, i0, q1, s1]
            refine ⟨⟨_, a3, _, x - x, rfl, (E3.st (j := t) (by omega) _).2, by rw [List.length_set]; exact hL, by omega, by omega, by omega, rfl⟩, by simp [intOf]; omega⟩
      · have e : x = 0 := by omega
        subst e
        simp (config := {implicitDefEqProofs := false, maxDischargeDepth := 20}) (disch := first | omega | (simp only [lenE]; done) | (simp only [lenE]; omega) | rfl | (simp only [lenE, markR_len]; done) | (simp only [lenE, markR_len]; omega)) only [runE, mapE, listE, initT_5, initT_6, initT_7, initT_8, resV, oneV, binA, unA, reduceCtorEq, Nat.reduceEqDiff, Nat.reduceAdd, Nat.reduceLT, Nat.reduceLeDiff, Nat.reduceMul, Nat.reduceSub, ↓reduceIte, decide_true, decide_false, Bool.true_eq_false, Bool.false_eq_true, Bool.not_true, Bool.not_false, if_true, if_false, and_true, true_and, memE, celE, w64, Nat.zero_add, Nat.add_zero, Nat.mul_one, putL, and_self, ldn, tm, t0, t3, t5, t6, t7, gt_iff_lt, hx]
        exact ⟨⟨t + 1, _, a', L, by omega, rfl, D, hL, by omega, by simp⟩, by simp [intOf]; omega⟩
    · have hlt' : ¬ ((t : Int) < k.need.length) := by omega
      have e : t = k.need.length := by omega
      subst e
      simp (config := {implicitDefEqProofs := false, maxDischargeDepth := 20}) (disch := first | omega | (simp only [lenE]; done) | (simp only [lenE]; omega) | rfl | (simp only [lenE, markR_len]; done) | (simp only [lenE, markR_len]; omega)) only [runE, mapE, listE, initT_5, initT_6, initT_7, initT_8, resV, oneV, binA, unA, reduceCtorEq, Nat.reduceEqDiff, Nat.reduceAdd, Nat.reduceLT, Nat.reduceLeDiff, Nat.reduceMul, Nat.reduceSub, ↓reduceIte, decide_true, decide_false, Bool.true_eq_false, Bool.false_eq_true, Bool.not_true, Bool.not_false, if_true, if_false, and_true, true_and, memE, celE, w64, Nat.zero_add, Nat.add_zero, Nat.mul_one, putL, and_self, ldn, tm, t0, t3, t5, t6, q0, i1.len, hlt']
      refine callH_ac (pick_ac M' cb id a' l 30 D.dr.cur (by omega) (by omega) (by omega)) ?_
      rintro u N1 ⟨y, rfl, hy0, hy1, w1, a1, ha1, k1⟩
      have E1 := D.draw w1 k1
      by_cases y0 : y = 0
      · have y0' : (y == 0) = true := by simp [y0]
        simp (config := {implicitDefEqProofs := false, maxDischargeDepth := 20}) (disch := first | omega | (simp only [lenE]; done) | (simp only [lenE]; omega) | rfl | (simp only [lenE, markR_len]; done) | (simp only [lenE, markR_len]; omega)) only [runE, mapE, listE, initT_5, initT_6, initT_7, initT_8, resV, oneV, binA, unA, reduceCtorEq, Nat.reduceEqDiff, Nat.reduceAdd, Nat.reduceLT, Nat.reduceLeDiff, Nat.reduceMul, Nat.reduceSub, ↓reduceIte, decide_true, decide_false, Bool.true_eq_false, Bool.false_eq_true, Bool.not_true, Bool.not_false, if_true, if_false, and_true, true_and, memE, celE, w64, Nat.zero_add, Nat.add_zero, Nat.mul_one, putL, and_self, ldn, tm, t0, t3, t5, t6, y0', b2a]
        refine callH_ac (among_new N1 cb id a1 l [0, 1] E1.dr.cur (by omega) rfl rfl (by simp) (by simp)) ?_
        rintro u N2 ⟨x, hx, rfl, w2, a2, ha2, k2⟩
        obtain ⟨N3, ap, E3⟩ := (E1.draw w2 k2).app x (by omega) rfl
        rw [hL] at ap
        simp (config := {implicitDefEqProofs := false, maxDischargeDepth := 20}) (disch := first | omega | (simp only [lenE]; done) | (simp only [lenE]; omega) | rfl | (simp only [lenE, markR_len]; done) | (simp only [lenE, markR_len]; omega)) only [runE, mapE, listE, initT_5, initT_6, initT_7, initT_8, resV, oneV, binA, unA, reduceCtorEq, Nat.reduceEqDiff, Nat.reduceAdd, Nat.reduceLT, Nat.reduceLeDiff, Nat.reduceMul, Nat.reduceSub, ↓reduceIte, decide_true, decide_false, Bool.true_eq_false, Bool.false_eq_true, Bool.not_true, Bool.not_false, if_true, if_false, and_true, true_and, memE, celE, w64, Nat.zero_add, Nat.add_zero, Nat.mul_one, putL, and_self, ldn, tm, t0, t3, t5, t6, b1e, ap]
        exact ⟨_, L ++ [x], a2, by simp [hL], by simp; omega, by omega, E3⟩
      · have y0' : (y == 0) = false := by simp [y0]
        by_cases y1 : y = 1
        · have y1' : (y == 1) = true := by simp [y1]
          by_cases hn : 0 < k.need.length
          · have hn' : (0 : Int) < k.need.length := by omega
            simp (config := {implicitDefEqProofs := false, maxDischargeDepth := 20}) (disch := first | omega | (simp only [lenE]; done) | (simp only [lenE]; omega) | rfl | (simp only [lenE, markR_len]; done) | (simp only [lenE, markR_len]; omega)) only [runE, mapE, listE, initT_5, initT_6, initT_7, initT_8, resV, oneV, binA, unA, reduceCtorEq, Nat.reduceEqDiff, Nat.reduceAdd, Nat.reduceLT, Nat.reduceLeDiff, Nat.reduceMul, Nat.reduceSub, ↓reduceIte, decide_true, decide_false, Bool.true_eq_false, Bool.false_eq_true, Bool.not_true, Bool.not_false, if_true, if_false, and_true, true_and, memE, celE, w64, Nat.zero_add, Nat.add_zero, Nat.mul_one, putL, and_self, ldn, tm, t0, t3, t5, t6, y0', y1', gt_iff_lt, hn']
            refine callH_ac (pick_ac N1 cb id a1 l (k.need.length : Int) E1.dr.cur (by omega) (by omega) (by omega)) ?_
            rintro u N2 ⟨f, rfl, hf0, hf1, w2, a2, ha2, k2⟩
            have E2 := E1.draw w2 k2
            obtain ⟨f, rfl⟩ : ∃ g : Nat, f = g := ⟨f.toNat, by omega⟩
            have i0 : iadA 1 (.slice (some ⟨M.length + 1, 0, none⟩) k.need.length 1) (.int .i64 (f : Int)) = some (.pointer (some ⟨M.length + 1, f, none⟩)) := iad0 rfl (by omega)
            have q1 := E2.dr.own.rd' (i := f) (by omega)
            have q2 := (E2.dr.own.ext [rowB [1, -1, 4611686018427387904, -9223372036854775808]]).rd' (i := f) (by omega)
            simp (config := {implicitDefEqProofs := false, maxDischargeDepth := 20}) (disch := first | omega | (simp only [lenE]; done) | (simp only [lenE]; omega) | rfl | (simp only [lenE, markR_len]; done) | (simp only [lenE, markR_len]; omega)) only [runE, mapE, listE, initT_5, initT_6, initT_7, initT_8, resV, oneV, binA, unA, reduceCtorEq, Nat.reduceEqDiff, Nat.reduceAdd, Nat.reduceLT, Nat.reduceLeDiff, Nat.reduceMul, Nat.reduceSub, ↓reduceIte, decide_true, decide_false, Bool.true_eq_false, Bool.false_eq_true, Bool.not_true, Bool.not_false, if_true, if_false, and_true, true_and, memE, celE, w64, Nat.zero_add, Nat.add_zero, Nat.mul_one, putL, and_self, ldn, tm, t0, t3, t5, t6, i0, q1, b4b, q2]
            refine ⟨?_, ?_, ?_⟩
            all_goals
              refine callH_ac (among_new N2 cb id a2 l [1, -1, 4611686018427387904, -9223372036854775808] E2.dr.cur (by omega) rfl rfl (by simp) (by simp)) ?_
              rintro u N3 ⟨x, hx, rfl, w3, a3, ha3, k3⟩
              have E3 := E2.draw w3 k3
              have q3 := E3.dr.own.rd' (i := f) (by omega)
              have s3 := fun X => (E3.st (j := f) (by omega) X).1
              simp (config := {implicitDefEqProofs := false, maxDischargeDepth := 20}) (disch := first | omega | (simp only [lenE]; done) | (simp only [lenE]; omega) | rfl | (simp only [lenE, markR_len]; done) | (simp only [lenE, markR_len]; omega)) only [runE, mapE, listE, initT_5, initT_6, initT_7, initT_8, resV, oneV, binA, unA, reduceCtorEq, Nat.reduceEqDiff, Nat.reduceAdd, Nat.reduceLT, Nat.reduceLeDiff, Nat.reduceMul, Nat.reduceSub, ↓reduceIte, decide_true, decide_false, Bool.true_eq_false, Bool.false_eq_true, Bool.not_true, Bool.not_false, if_true, if_false, and_true, true_and, memE, celE, w64, Nat.zero_add, Nat.add_zero, Nat.mul_one, putL, and_self, ldn, tm, t0, t3, t5, t6, i0, q3, s3]
              exact ⟨_, L.set f _, a3, by rw [List.length_set, hL], by rw [List.length_set]; omega, by omega, (E3.st (j := f) (by omega) _).2.dr⟩
          · have hn' : ¬ ((0 : Int) < k.need.length) := by omega
            simp (config := {implicitDefEqProofs := false, maxDischargeDepth := 20}) (disch := first | omega | (simp only [lenE]; done) | (simp only [lenE]; omega) | rfl | (simp only [lenE, markR_len]; done) | (simp only [lenE, markR_len]; omega)) only [runE, mapE, listE, initT_5, initT_6, initT_7, initT_8, resV, oneV, binA, unA, reduceCtorEq, Nat.reduceEqDiff, Nat.reduceAdd, Nat.reduceLT, Nat.reduceLeDiff, Nat.reduceMul, Nat.reduceSub, ↓reduceIte, decide_true, decide_false, Bool.true_eq_false, Bool.false_eq_true, Bool.not_true, Bool.not_false, if_true, if_false, and_true, true_and, memE, celE, w64, Nat.zero_add, Nat.add_zero, Nat.mul_one, putL, and_self, ldn, tm, t0, t3, t5, t6, y0', y1', gt_iff_lt, hn']
            exact ⟨_, L, a1, by rw [hL], by omega, by omega, E1.dr⟩
        · have y1' : (y == 1) = false := by simp [y1]
          simp (config := {implicitDefEqProofs := false, maxDischargeDepth := 20}) (disch := first | omega | (simp only [lenE]; done) | (simp only [lenE]; omega) | rfl | (simp only [lenE, markR_len]; done) | (simp only [lenE, markR_len]; omega)) only [runE, mapE, listE, initT_5, initT_6, initT_7, initT_8, resV, oneV, binA, unA, reduceCtorEq, Nat.reduceEqDiff, Nat.reduceAdd, Nat.reduceLT, Nat.reduceLeDiff, Nat.reduceMul, Nat.reduceSub, ↓reduceIte, decide_true, decide_false, Bool.true_eq_false, Bool.false_eq_true, Bool.not_true, Bool.not_false, if_true, if_false, and_true, true_and, memE, celE, w64, Nat.zero_add, Nat.add_zero, Nat.mul_one, putL, and_self, ldn, tm, t0, t3, t5, t6, y0', y1']
          exact ⟨_, L, a1, by rw [hL], by omega, by omega, E1.dr⟩
end Go.Proofs.Ytfjpickejgbmaaa.Ab
