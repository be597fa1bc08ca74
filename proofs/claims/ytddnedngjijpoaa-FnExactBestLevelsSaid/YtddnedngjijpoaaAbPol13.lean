/- Policies: BestLevels, by both programs. -/
import Derived.Test.YtddnedngjijpoaaAbPol10
namespace Go.Proofs.Ytddnedngjijpoaa.Ab
open Go Go.RowKit
set_option linter.unusedVariables false
set_option linter.unusedSimpArgs false

theorem l6Levels_rc (m : Mem) (v vt : Value) (p : Pr) (T : List (List Int)) (next : List Int) (t : Int) (n : Nat) (h : ProcA m v p) (hT : TabA m vt T) (hg : GoodP p) (hnext : T.getD (t + 1).toNat [] = next) (htT : (t + 1).toNat < T.length) (hl : next.length = 21) (hB : rowIn 30000000000000000 next) (ht : p.turns - t = (n : Int) + 1) (ht0 : 0 ≤ t) (hn4 : n ≤ 4) :
    RC Try.prog 83 [v, vt, .int .i64 t] m (AnsV (pairV (pairOf p next n))) := by
  refine rc_of_run mixed ok_spec_l6Levels (by simp) (go_start _ _ _ ?_)
  obtain ⟨u, rfl, hu⟩ := h.ro
  have hlen := hg.len
  have hflo := hg.floor
  have hbl := billsL_len p next n
  have hbd := bills_bd hg hB hn4 (upI (billsL p next n)).toNat
  have hK := setup_bd hg hn4
  have hup := upI_least (B := billsL p next n) (by omega)
  have hu1 := hup.1
  have hu2 := hup.2.1
  simp (config := {implicitDefEqProofs := false, maxDischargeDepth := 20}) (disch := first | omega | (simp only [lenE]; done) | (simp only [lenE]; omega) | rfl | (simp only [lenE, markR_len]; done) | (simp only [lenE, markR_len]; omega)) only [runE, mapE, listE, initT_5, initT_6, initT_7, initT_8, resV, oneV, binA, unA, reduceCtorEq, Nat.reduceEqDiff, Nat.reduceAdd, Nat.reduceLT, Nat.reduceLeDiff, Nat.reduceMul, Nat.reduceSub, ↓reduceIte, decide_true, decide_false, Bool.true_eq_false, Bool.false_eq_true, Bool.not_true, Bool.not_false, if_true, if_false, and_true, true_and, memE, celE, w64, Nat.zero_add, Nat.add_zero, Nat.mul_one, putL, and_self, ldn, c_spec_l6Levels, r_spec_l6Levels]
  refine callH_rc (l6Bills_rc _ _ _ p T next t n (ProcA.mk ((hu.ext _).ext _)) ((hT.ro.ext _).ext _) hg hnext htT hl hB ht ht0 hn4) ?_
  rintro r n1 ⟨nr1, w, rfl, hw⟩
  have hBI := hw.now.in
  obtain ⟨M1, hM1⟩ : ∃ M' : Mem, M' = roM m ++ [⟨.own, 26, [.int .i64 p.turns, u, .int .i64 p.setup, .int .i64 p.unit, .int .i64 p.hold, .int .i64 p.back]⟩] ++ [⟨.own, 46, [.int .i64 0, .int .i64 0]⟩] ++ n1 := ⟨_, rfl⟩
  have hX1 : Ext m M1 := by rw [hM1]; exact (((Ext.refl m).one _ _).one _ _).app nr1
  have hb1 : OwnB M1 m.length 26 [.int .i64 p.turns, u, .int .i64 p.setup, .int .i64 p.unit, .int .i64 p.hold, .int .i64 p.back] := by rw [hM1]; exact ((OwnB.here (roM_len m).symm).ext _).ext _
  have hc1 : OwnB M1 (m.length + 1) 46 [.int .i64 0, .int .i64 0] := by rw [hM1]; exact (OwnB.here (by simp [roM_len])).ext _
  rw [← hM1] at hBI
  obtain ⟨B, hBe⟩ : ∃ B, B = billsL p next n := ⟨_, rfl⟩
  have hpair : pairOf p next n = (p.floor + loI B (p.setup * p.pow (n + 1)), p.floor + upI B) := by rw [hBe]; rfl
  rw [← hBe] at hbl hbd hup hu1 hu2 hBI
  rw [hpair]
  have hBL : B.length ≤ 21 := by omega
  simp (config := {implicitDefEqProofs := false, maxDischargeDepth := 20}) (disch := first | omega | (simp only [lenE]; done) | (simp only [lenE]; omega) | rfl | (simp only [lenE, markR_len]; done) | (simp only [lenE, markR_len]; omega)) only [runE, mapE, listE, initT_5, initT_6, initT_7, initT_8, resV, oneV, binA, unA, reduceCtorEq, Nat.reduceEqDiff, Nat.reduceAdd, Nat.reduceLT, Nat.reduceLeDiff, Nat.reduceMul, Nat.reduceSub, ↓reduceIte, decide_true, decide_false, Bool.true_eq_false, Bool.false_eq_true, Bool.not_true, Bool.not_false, if_true, if_false, and_true, true_and, memE, celE, w64, Nat.zero_add, Nat.add_zero, Nat.mul_one, putL, and_self, ldn, id_eq]
  try rw [← hM1]
  refine loop_inv mixed (fun s => ∃ (i up : Nat), 1 ≤ i ∧ i ≤ B.length ∧ IsLeast (fun i => B.getD i.toNat 0) 0 ((i : Int) - 1) up ∧ s.m = M1 ∧ s.t 2 = .int .i64 t ∧ s.t 3 = .pointer (some ⟨m.length, 0, none⟩) ∧ s.t 6 = .pointer (some ⟨m.length + 1, 0, none⟩) ∧ s.t 7 = r ∧ s.t 8 = .int .i64 up ∧ s.t 9 = .int .i64 0 ∧ s.t 10 = .int .i64 i) (fun s => B.length - (intOf (s.t 10)).toNat)
    ⟨1, 0, by omega, by omega, by simpa using IsLeast.one (fun i => B.getD i.toNat 0) 0, rfl, rfl, rfl, rfl, rfl, rfl, rfl, rfl⟩ ?_
  rintro s ⟨i, up, hi1, hi2, hle, tm, t2, t3, t6, t7, t8, t9, t10⟩
  have hul : up < B.length := by have := hle.2.1; omega
  by_cases hlt : i < B.length
  · have hlt' : (i : Int) < B.length := by omega
    have hd := hle.up
    rw [show (i : Int) - 1 + 1 = i by omega] at hd
    simp only [Int.toNat_natCast] at hd
    by_cases hc : B.getD i 0 < B.getD up 0
    · rw [if_pos hc] at hd
      simp (config := {implicitDefEqProofs := false, maxDischargeDepth := 20}) (disch := first | omega | (simp only [lenE]; done) | (simp only [lenE]; omega) | rfl | (simp only [lenE, markR_len]; done) | (simp only [lenE, markR_len]; omega)) only [runE, mapE, listE, initT_5, initT_6, initT_7, initT_8, resV, oneV, binA, unA, reduceCtorEq, Nat.reduceEqDiff, Nat.reduceAdd, Nat.reduceLT, Nat.reduceLeDiff, Nat.reduceMul, Nat.reduceSub, ↓reduceIte, decide_true, decide_false, Bool.true_eq_false, Bool.false_eq_true, Bool.not_true, Bool.not_false, if_true, if_false, and_true, true_and, memE, celE, w64, Nat.zero_add, Nat.add_zero, Nat.mul_one, putL, and_self, ldn, tm, t2, t3, t6, t7, t8, t9, t10, hBI.len, hlt', hBI.at_ i hlt, hBI.ld i hlt, hBI.at_ up hul, hBI.ld up hul, hc]
      refine ⟨⟨i + 1, i, by omega, by omega, by rw [show ((i + 1 : Nat) : Int) - 1 = i by omega]; exact hd, rfl, by simp⟩, by simp [intOf]; omega⟩
    · rw [if_neg hc] at hd
      simp (config := {implicitDefEqProofs := false, maxDischargeDepth := 20}) (disch := first | omega | (simp only [lenE]; done) | (simp only [lenE]; omega) | rfl | (simp only [lenE, markR_len]; done) | (simp only [lenE, markR_len]; omega)) only [runE, mapE, listE, initT_5, initT_6, initT_7, initT_8, resV, oneV, binA, unA, reduceCtorEq, Nat.reduceEqDiff, Nat.reduceAdd, Nat.reduceLT, Nat.reduceLeDiff, Nat.reduceMul, Nat.reduceSub, ↓reduceIte, decide_true, decide_false, Bool.true_eq_false, Bool.false_eq_true, Bool.not_true, Bool.not_false, if_true, if_false, and_true, true_and, memE, celE, w64, Nat.zero_add, Nat.add_zero, Nat.mul_one, putL, and_self, ldn, tm, t2, t3, t6, t7, t8, t9, t10, hBI.len, hlt', hBI.at_ i hlt, hBI.ld i hlt, hBI.at_ up hul, hBI.ld up hul, hc]
      refine ⟨⟨i + 1, up, by omega, by omega, by rw [show ((i + 1 : Nat) : Int) - 1 = i by omega]; exact hd, rfl, by simp⟩, by simp [intOf]; omega⟩
  · have hlt' : ¬ ((i : Int) < B.length) := by omega
    have e : (i : Int) = B.length := by omega
    rw [e] at hle
    have eu := hle.uniq hup
    have eun : (upI B).toNat = up := by omega
    simp (config := {implicitDefEqProofs := false, maxDischargeDepth := 20}) (disch := first | omega | (simp only [lenE]; done) | (simp only [lenE]; omega) | rfl | (simp only [lenE, markR_len]; done) | (simp only [lenE, markR_len]; omega)) only [runE, mapE, listE, initT_5, initT_6, initT_7, initT_8, resV, oneV, binA, unA, reduceCtorEq, Nat.reduceEqDiff, Nat.reduceAdd, Nat.reduceLT, Nat.reduceLeDiff, Nat.reduceMul, Nat.reduceSub, ↓reduceIte, decide_true, decide_false, Bool.true_eq_false, Bool.false_eq_true, Bool.not_true, Bool.not_false, if_true, if_false, and_true, true_and, memE, celE, w64, Nat.zero_add, Nat.add_zero, Nat.mul_one, putL, and_self, ldn, tm, t2, t3, t6, t7, t8, t9, t10, hBI.len, hlt']
    refine loop_inv mixed (fun s => ∃ (lo : Nat) (M : Mem), lo ≤ up ∧ (∀ j, j < lo → B.getD up 0 + p.setup * p.pow (n + 1) < B.getD j 0) ∧ s.m = M ∧ Ext m M ∧ OwnB M m.length 26 [.int .i64 p.turns, u, .int .i64 p.setup, .int .i64 p.unit, .int .i64 p.hold, .int .i64 p.back] ∧ OwnB M (m.length + 1) 46 [.int .i64 0, .int .i64 0] ∧ IntsA M r B ∧ s.t 2 = .int .i64 t ∧ s.t 3 = .pointer (some ⟨m.length, 0, none⟩) ∧ s.t 6 = .pointer (some ⟨m.length + 1, 0, none⟩) ∧ s.t 7 = r ∧ s.t 8 = .int .i64 up ∧ s.t 9 = .int .i64 lo) (fun s => up + 1 - (intOf (s.t 9)).toNat)
      ⟨0, M1, by omega, fun j hj => absurd hj (by omega), tm, hX1, hb1, hc1, hBI, t2, t3, t6, t7, t8, t9⟩ ?_
    rintro s ⟨lo, M, hlo, hno, tm, hX, hb, hcx, hBM, t2, t3, t6, t7, t8, t9⟩
    have hll : lo < B.length := by omega
    simp (config := {implicitDefEqProofs := false, maxDischargeDepth := 20}) (disch := first | omega | (simp only [lenE]; done) | (simp only [lenE]; omega) | rfl | (simp only [lenE, markR_len]; done) | (simp only [lenE, markR_len]; omega)) only [runE, mapE, listE, initT_5, initT_6, initT_7, initT_8, resV, oneV, binA, unA, reduceCtorEq, Nat.reduceEqDiff, Nat.reduceAdd, Nat.reduceLT, Nat.reduceLeDiff, Nat.reduceMul, Nat.reduceSub, ↓reduceIte, decide_true, decide_false, Bool.true_eq_false, Bool.false_eq_true, Bool.not_true, Bool.not_false, if_true, if_false, and_true, true_and, memE, celE, w64, Nat.zero_add, Nat.add_zero, Nat.mul_one, putL, and_self, ldn, tm, t2, t3, t6, t7, t8, t9, hBM.at_ lo hll, hBM.ld lo hll, hBM.at_ up hul, hBM.ld up hul, hb.rd]
    refine rcallH_rc (l6Power_rc _ _ p _ (n + 1) (ProcA.mk (hX.ints hu)) hg (by omega) (by omega)) ?_
    rintro r2 n2 ⟨rfl, nr2⟩
    rw [eun] at hbd
    have hX2 := hX.app nr2
    have hb2 := hb.ext n2
    have hc2 := hcx.ext n2
    have hB2 := hBM.ext n2
    by_cases hq : B.getD up 0 + p.setup * p.pow (n + 1) < B.getD lo 0
    · have hne : lo ≠ up := fun e => by rw [e] at hq; omega
      simp (config := {implicitDefEqProofs := false, maxDischargeDepth := 20}) (disch := first | omega | (simp only [lenE]; done) | (simp only [lenE]; omega) | rfl | (simp only [lenE, markR_len]; done) | (simp only [lenE, markR_len]; omega)) only [runE, mapE, listE, initT_5, initT_6, initT_7, initT_8, resV, oneV, binA, unA, reduceCtorEq, Nat.reduceEqDiff, Nat.reduceAdd, Nat.reduceLT, Nat.reduceLeDiff, Nat.reduceMul, Nat.reduceSub, ↓reduceIte, decide_true, decide_false, Bool.true_eq_false, Bool.false_eq_true, Bool.not_true, Bool.not_false, if_true, if_false, and_true, true_and, memE, celE, w64, Nat.zero_add, Nat.add_zero, Nat.mul_one, putL, and_self, ldn, t2, t3, t6, t7, t8, t9, gt_iff_lt, hq]
      refine ⟨⟨lo + 1, _, by omega, fun j hj => ?_, rfl, hX2, hb2, hc2, hB2, by simp⟩, by simp [intOf]; omega⟩
      by_cases e2 : j = lo
      · rw [e2]; exact hq
      · exact hno j (by omega)
    · have hloI : loI B (p.setup * p.pow (n + 1)) = lo := by
        unfold loI
        rw [eun]
        exact firstAt_is hll (fun j hj => decide_eq_false (by have := hno j hj; omega)) (decide_eq_true (by omega))
      rw [hloI, ← eu]
      simp (config := {implicitDefEqProofs := false, maxDischargeDepth := 20}) (disch := first | omega | (simp only [lenE]; done) | (simp only [lenE]; omega) | rfl | (simp only [lenE, markR_len]; done) | (simp only [lenE, markR_len]; omega)) only [runE, mapE, listE, initT_5, initT_6, initT_7, initT_8, resV, oneV, binA, unA, reduceCtorEq, Nat.reduceEqDiff, Nat.reduceAdd, Nat.reduceLT, Nat.reduceLeDiff, Nat.reduceMul, Nat.reduceSub, ↓reduceIte, decide_true, decide_false, Bool.true_eq_false, Bool.false_eq_true, Bool.not_true, Bool.not_false, if_true, if_false, and_true, true_and, memE, celE, w64, Nat.zero_add, Nat.add_zero, Nat.mul_one, putL, and_self, ldn, t2, t3, t6, t7, t8, t9, gt_iff_lt, hq, hb2.rd]
      refine rcallH_rc (l6Floor_rc _ _ p (ProcA.mk (hX2.ints hu)) hg) ?_
      rintro r3 n3 ⟨rfl, nr3⟩
      have hb3 := hb2.ext n3
      simp (config := {implicitDefEqProofs := false, maxDischargeDepth := 20}) (disch := first | omega | (simp only [lenE]; done) | (simp only [lenE]; omega) | rfl | (simp only [lenE, markR_len]; done) | (simp only [lenE, markR_len]; omega)) only [runE, mapE, listE, initT_5, initT_6, initT_7, initT_8, resV, oneV, binA, unA, reduceCtorEq, Nat.reduceEqDiff, Nat.reduceAdd, Nat.reduceLT, Nat.reduceLeDiff, Nat.reduceMul, Nat.reduceSub, ↓reduceIte, decide_true, decide_false, Bool.true_eq_false, Bool.false_eq_true, Bool.not_true, Bool.not_false, if_true, if_false, and_true, true_and, memE, celE, w64, Nat.zero_add, Nat.add_zero, Nat.mul_one, putL, and_self, ldn, t2, t3, t6, t7, t8, t9, hb3.rd]
      refine rcallH_rc (l6Floor_rc _ _ p (ProcA.mk ((hX2.ints hu).ext n3)) hg) ?_
      rintro r4 n4 ⟨rfl, nr4⟩
      have hc4 := (hc2.ext n3).ext n4
      have hst := hc4.st (off := 0) (vs := [.int .i64 (lo + p.floor), .int .i64 (up + p.floor)]) (by simp) rfl
      have hrd := (hc4.set_self 46 [.int .i64 (lo + p.floor), .int .i64 (up + p.floor)]).rd
      simp (config := {implicitDefEqProofs := false, maxDischargeDepth := 20}) (disch := first | omega | (simp only [lenE]; done) | (simp only [lenE]; omega) | rfl | (simp only [lenE, markR_len]; done) | (simp only [lenE, markR_len]; omega)) only [runE, mapE, listE, initT_5, initT_6, initT_7, initT_8, resV, oneV, binA, unA, reduceCtorEq, Nat.reduceEqDiff, Nat.reduceAdd, Nat.reduceLT, Nat.reduceLeDiff, Nat.reduceMul, Nat.reduceSub, ↓reduceIte, decide_true, decide_false, Bool.true_eq_false, Bool.false_eq_true, Bool.not_true, Bool.not_false, if_true, if_false, and_true, true_and, memE, celE, w64, Nat.zero_add, Nat.add_zero, Nat.mul_one, putL, and_self, ldn, t6, bld_pair, hst, hrd]
      rw [Int.add_comm p.floor, Int.add_comm p.floor]
      exact ext_ansV2 (((hX2.app nr3).app nr4).put (id := m.length + 1) (by omega) _ _)
/-- The two levels of all turns. -/
def levelsL (p : Pr) (N : Nat) : List (Int × Int) := (List.range N).map fun t => pairOf p (p.rowsN p.bestC (N - 1 - t)) (N - 1 - t)
theorem levelsL_len (p : Pr) (N : Nat) : (levelsL p N).length = N := by simp [levelsL]
theorem levelsL_at {p : Pr} {N t : Nat} (h : t < N) : (levelsL p N).getD t (0, 0) = pairOf p (p.rowsN p.bestC (N - 1 - t)) (N - 1 - t) := by
  simp [levelsL, List.getD_eq_getElem?_getD, h]
def levelsA (p : Pr) : List (Int × Int) := if p.good then levelsL p p.turns.toNat else []
theorem take_nextP {l : List (Int × Int)} {i : Nat} (h : i < l.length) : l.take (i + 1) = l.take i ++ [l.getD i (0, 0)] := by
  rw [List.take_add_one, List.getD_eq_getElem?_getD, List.getElem?_eq_getElem h]; rfl
theorem pairsC_one (q : Int × Int) : pairsC [q] = [.int .i64 q.1, .int .i64 q.2] := rfl
theorem implBestLevels_rc (m : Mem) (v : Value) (p : Pr) (h : ProcA m v p) : RC Try.prog 28 [v] m (AnsO m (PairsO 46 (levelsA p)) fun v => .tuple #[v, .bool p.good]) := by
  refine rc_of_run mixed ok_impl_BestLevels (by simp) (go_start _ _ _ ?_)
  obtain ⟨u, rfl, hu⟩ := h.ro
  unfold levelsA
  simp (config := {implicitDefEqProofs := false, maxDischargeDepth := 20}) (disch := first | omega | (simp only [lenE]; done) | (simp only [lenE]; omega) | rfl | (simp only [lenE, markR_len]; done) | (simp only [lenE, markR_len]; omega)) only [runE, mapE, listE, initT_5, initT_6, initT_7, initT_8, resV, oneV, binA, unA, reduceCtorEq, Nat.reduceEqDiff, Nat.reduceAdd, Nat.reduceLT, Nat.reduceLeDiff, Nat.reduceMul, Nat.reduceSub, ↓reduceIte, decide_true, decide_false, Bool.true_eq_false, Bool.false_eq_true, Bool.not_true, Bool.not_false, if_true, if_false, and_true, true_and, memE, celE, w64, Nat.zero_add, Nat.add_zero, Nat.mul_one, putL, and_self, ldn, c_impl_BestLevels, r_impl_BestLevels]
  refine callH_rc (implIsProcess_rc _ _ p (ProcA.mk (hu.ext _))) ?_
  rintro r n1 ⟨rfl, nr1⟩
  cases hg : p.good with
  | false =>
    simp (config := {implicitDefEqProofs := false, maxDischargeDepth := 20}) (disch := first | omega | (simp only [lenE]; done) | (simp only [lenE]; omega) | rfl | (simp only [lenE, markR_len]; done) | (simp only [lenE, markR_len]; omega)) only [runE, mapE, listE, initT_5, initT_6, initT_7, initT_8, resV, oneV, binA, unA, reduceCtorEq, Nat.reduceEqDiff, Nat.reduceAdd, Nat.reduceLT, Nat.reduceLeDiff, Nat.reduceMul, Nat.reduceSub, ↓reduceIte, decide_true, decide_false, Bool.true_eq_false, Bool.false_eq_true, Bool.not_true, Bool.not_false, if_true, if_false, and_true, true_and, memE, celE, w64, Nat.zero_add, Nat.add_zero, Nat.mul_one, putL, and_self, ldn, bsl_no]
    exact ext_noPairs (f := fun v => .tuple #[v, .bool false]) (((Ext.refl m).one _ _).app nr1) (by simp [roM_len]; omega)
  | true =>
  have hG := goodP_iff.1 hg
  have ht := hG.turns
  simp (config := {implicitDefEqProofs := false, maxDischargeDepth := 20}) (disch := first | omega | (simp only [lenE]; done) | (simp only [lenE]; omega) | rfl | (simp only [lenE, markR_len]; done) | (simp only [lenE, markR_len]; omega)) only [runE, mapE, listE, initT_5, initT_6, initT_7, initT_8, resV, oneV, binA, unA, reduceCtorEq, Nat.reduceEqDiff, Nat.reduceAdd, Nat.reduceLT, Nat.reduceLeDiff, Nat.reduceMul, Nat.reduceSub, ↓reduceIte, decide_true, decide_false, Bool.true_eq_false, Bool.false_eq_true, Bool.not_true, Bool.not_false, if_true, if_false, and_true, true_and, memE, celE, w64, Nat.zero_add, Nat.add_zero, Nat.mul_one, putL, and_self, ldn]
  refine callH_rc (worthTable_rc _ _ p (ProcA.mk ((hu.ext _).ext _)) hG) ?_
  rintro r n2 ⟨nr2, w, rfl, hw⟩
  have hTA := hw.mono fun M h => h.in
  obtain ⟨A, hA⟩ : ∃ A : Mem, A = roM m ++ [⟨.own, 26, [.int .i64 p.turns, u, .int .i64 p.setup, .int .i64 p.unit, .int .i64 p.hold, .int .i64 p.back]⟩] ++ n1 ++ n2 := ⟨_, rfl⟩
  have hXA : Ext m A := by rw [hA]; exact (((Ext.refl m).one _ _).app nr1).app nr2
  have hbA : OwnB A m.length 26 [.int .i64 p.turns, u, .int .i64 p.setup, .int .i64 p.unit, .int .i64 p.hold, .int .i64 p.back] := by rw [hA]; exact ((OwnB.here (roM_len m).symm).ext _).ext _
  rw [← hA] at hTA
  simp (config := {implicitDefEqProofs := false, maxDischargeDepth := 20}) (disch := first | omega | (simp only [lenE]; done) | (simp only [lenE]; omega) | rfl | (simp only [lenE, markR_len]; done) | (simp only [lenE, markR_len]; omega)) only [runE, mapE, listE, initT_5, initT_6, initT_7, initT_8, resV, oneV, binA, unA, reduceCtorEq, Nat.reduceEqDiff, Nat.reduceAdd, Nat.reduceLT, Nat.reduceLeDiff, Nat.reduceMul, Nat.reduceSub, ↓reduceIte, decide_true, decide_false, Bool.true_eq_false, Bool.false_eq_true, Bool.not_true, Bool.not_false, if_true, if_false, and_true, true_and, memE, celE, w64, Nat.zero_add, Nat.add_zero, Nat.mul_one, putL, and_self, ldn, id_eq, bsl_no]
  try rw [← hA]
  obtain ⟨N, hN⟩ : ∃ N, N = p.turns.toNat := ⟨_, rfl⟩
  rw [← hN] at hTA ⊢
  obtain ⟨lo, hlo⟩ : ∃ lo, lo = (roM m ++ [(⟨.own, 26, [.int .i64 p.turns, u, .int .i64 p.setup, .int .i64 p.unit, .int .i64 p.hold, .int .i64 p.back]⟩ : Blk)] ++ n1).length := ⟨_, rfl⟩
  obtain ⟨hi, hhi⟩ : ∃ hi, hi = lo + n2.length := ⟨_, rfl⟩
  rw [← hlo, ← hhi] at hTA
  have hNt : p.turns = (N : Int) := by omega
  have hll := levelsL_len p N
  refine loop_inv mixed (fun s => ∃ (k : Nat) (M : Mem) (id : Nat), k ≤ N ∧ s.m = M ∧ Ext m M ∧ OwnB M m.length 26 [.int .i64 p.turns, u, .int .i64 p.setup, .int .i64 p.unit, .int .i64 p.hold, .int .i64 p.back] ∧ Lv lo hi M (fun M => TabA M r (p.tab p.bestC N)) ∧ (id < lo ∨ hi ≤ id) ∧ m.length < id ∧ OwnB M id 46 (pairsC ((levelsL p N).take k)) ∧ s.t 5 = .slice (some ⟨id, 0, none⟩) k 2 ∧ s.t 16 = .int .i64 k ∧ s.t 4 = r ∧ s.t 1 = .pointer (some ⟨m.length, 0, none⟩) ∧ s.t 15 = .int .i64 N) (fun s => N - (intOf (s.t 16)).toNat)
    ⟨0, _, A.length, by omega, rfl, hXA.one _ _, hbA.ext _, hTA.ext _, .inr (by have := hTA.2.1; omega), by have := hbA.lt; omega, OwnB.here rfl, by simp only [put_t, put_t', put_m, putT_t, putT_t', putT_m, init_t, init_m, initT_0, initT_1, initT_2, initT_3, initT_4, initT_5, initT_6, initT_7, initT_8, Nat.reduceEqDiff, ↓reduceIte]; try rw [hA]; simp [roM_len, Nat.add_assoc], rfl, rfl, rfl, by simp only [put_t, put_t', put_m, putT_t, putT_t', putT_m, init_t, init_m, initT_0, initT_1, initT_2, initT_3, initT_4, initT_5, initT_6, initT_7, initT_8, Nat.reduceEqDiff, ↓reduceIte]; rw [hNt]⟩ ?_
  rintro s ⟨k, M, id, hk, tm, hX, hb, hTL, hidd, hid, ho, t5, t16, t4, t1, t15⟩
  have hTM := hTL.now
  by_cases hlt : k < N
  · have hlt' : (k : Int) < N := by omega
    have hrow : (p.tab p.bestC N).getD (k + 1) [] = p.rowsN p.bestC (N - 1 - k) := by
      rw [Pr.tab_at p _ (by omega)]; congr 1; omega
    have hl21 := Pr.rowsN_len p p.bestC (N - 1 - k)
    have hBB := Pr.rows_big hG (N := 5) (by omega) (Pr.best_fair hG 5) (k := N - 1 - k) (by omega)
    have a1 := hTM.at_ (k + 1) (by rw [Pr.tab_len]; omega)
    rw [Int.natCast_add] at a1
    obtain ⟨y, a2, a3⟩ := hTM.ld (k + 1) (by rw [Pr.tab_len]; omega)
    rw [hrow] at a3
    simp (config := {implicitDefEqProofs := false, maxDischargeDepth := 20}) (disch := first | omega | (simp only [lenE]; done) | (simp only [lenE]; omega) | rfl | (simp only [lenE, markR_len]; done) | (simp only [lenE, markR_len]; omega)) only [runE, mapE, listE, initT_5, initT_6, initT_7, initT_8, resV, oneV, binA, unA, reduceCtorEq, Nat.reduceEqDiff, Nat.reduceAdd, Nat.reduceLT, Nat.reduceLeDiff, Nat.reduceMul, Nat.reduceSub, ↓reduceIte, decide_true, decide_false, Bool.true_eq_false, Bool.false_eq_true, Bool.not_true, Bool.not_false, if_true, if_false, and_true, true_and, memE, celE, w64, Nat.zero_add, Nat.add_zero, Nat.mul_one, putL, and_self, ldn, tm, t5, t16, t4, t1, t15, hlt', hb.rd, show (k : Int) + 1 = (k : Int) + ((1 : Nat) : Int) by rfl, a1, a2]
    refine rcallH_rc (bestPair_rc _ _ y p _ k (N - 1 - k) (ProcA.mk (hX.ints hu)) a3 hG hl21 hBB (by omega) (by omega) (by omega)) ?_
    rintro r2 n3 ⟨rfl, nr3⟩
    rw [← levelsL_at hlt]
    have ho3 := ho.ext n3
    have hidl := ho3.lt
    have happ := app_back (M := M ++ n3) (id2 := (M ++ n3).length) (sz := 2) (byt := 16) (n := k) (ys := [.int .i64 ((levelsL p N).getD k (0, 0)).1, .int .i64 ((levelsL p N).getD k (0, 0)).2]) ho3 rfl (by rw [pairsC_len, List.length_take]; omega) rfl rfl (by omega) (by omega)
    have hX3 := hX.app nr3
    have hXl := hX3.len
    have hb3 := hb.ext n3
    have hT3 := hTL.ext n3
    obtain ⟨M3, hM3⟩ : ∃ M', M' = M ++ n3 := ⟨_, rfl⟩
    rw [← hM3] at happ hidl hX3 hXl hb3 hT3 ho3
    rw [← hM3]
    simp (config := {implicitDefEqProofs := false, maxDischargeDepth := 20}) (disch := first | omega | (simp only [lenE]; done) | (simp only [lenE]; omega) | rfl | (simp only [lenE, markR_len]; done) | (simp only [lenE, markR_len]; omega)) only [runE, mapE, listE, initT_5, initT_6, initT_7, initT_8, resV, oneV, binA, unA, reduceCtorEq, Nat.reduceEqDiff, Nat.reduceAdd, Nat.reduceLT, Nat.reduceLeDiff, Nat.reduceMul, Nat.reduceSub, ↓reduceIte, decide_true, decide_false, Bool.true_eq_false, Bool.false_eq_true, Bool.not_true, Bool.not_false, if_true, if_false, and_true, true_and, memE, celE, w64, Nat.zero_add, Nat.add_zero, Nat.mul_one, putL, and_self, ldn, t5, t16, t4, t1, t15, bsl_pair, happ]
    refine ⟨⟨k + 1, _, M3.length + 1, by omega, rfl, ((hX3.dead (by omega)).one _ _).one _ _, hb3.at_ (same_gen (by omega) hidl), hT3.but ((((But.refl id (id + 1) M3).set (Nat.le_refl _) (Nat.lt_succ_self _) deadB).ext _).ext _) (by omega), .inr (by have := hT3.2.1; omega), by omega, ?_, rfl, by simp⟩, by simp [intOf]; omega⟩
    · rw [take_nextP (by omega), pairsC_app, pairsC_one]
      exact OwnB.here (by simp)
  · have hlt' : ¬ ((k : Int) < N) := by omega
    have e : k = N := by omega
    subst e
    simp (config := {implicitDefEqProofs := false, maxDischargeDepth := 20}) (disch := first | omega | (simp only [lenE]; done) | (simp only [lenE]; omega) | rfl | (simp only [lenE, markR_len]; done) | (simp only [lenE, markR_len]; omega)) only [runE, mapE, listE, initT_5, initT_6, initT_7, initT_8, resV, oneV, binA, unA, reduceCtorEq, Nat.reduceEqDiff, Nat.reduceAdd, Nat.reduceLT, Nat.reduceLeDiff, Nat.reduceMul, Nat.reduceSub, ↓reduceIte, decide_true, decide_false, Bool.true_eq_false, Bool.false_eq_true, Bool.not_true, Bool.not_false, if_true, if_false, and_true, true_and, memE, celE, w64, Nat.zero_add, Nat.add_zero, Nat.mul_one, putL, and_self, ldn, tm, t5, t16, t4, t1, t15, hlt', hb.rd]
    rw [List.take_of_length_le (by omega)] at ho
    refine ext_ansO (f := fun v => .tuple #[v, .bool true]) hX fun M' hM => ⟨by omega, id, 2, by rw [hll], by omega, ho.lt, ho.at_ (hM _ (by omega) ho.lt)⟩
theorem specBestLevels_rc (m : Mem) (v : Value) (p : Pr) (h : ProcA m v p) : RC Try.prog 29 [v] m (AnsO m (PairsO 46 (levelsA p)) fun v => .tuple #[v, .bool p.good]) := by
  refine rc_of_run mixed ok_spec_BestLevels (by simp) (go_start _ _ _ ?_)
  obtain ⟨u, rfl, hu⟩ := h.ro
  unfold levelsA
  simp (config := {implicitDefEqProofs := false, maxDischargeDepth := 20}) (disch := first | omega | (simp only [lenE]; done) | (simp only [lenE]; omega) | rfl | (simp only [lenE, markR_len]; done) | (simp only [lenE, markR_len]; omega)) only [runE, mapE, listE, initT_5, initT_6, initT_7, initT_8, resV, oneV, binA, unA, reduceCtorEq, Nat.reduceEqDiff, Nat.reduceAdd, Nat.reduceLT, Nat.reduceLeDiff, Nat.reduceMul, Nat.reduceSub, ↓reduceIte, decide_true, decide_false, Bool.true_eq_false, Bool.false_eq_true, Bool.not_true, Bool.not_false, if_true, if_false, and_true, true_and, memE, celE, w64, Nat.zero_add, Nat.add_zero, Nat.mul_one, putL, and_self, ldn, c_spec_BestLevels, r_spec_BestLevels, bsl_no]
  refine callH_rc (l6Good_rc _ _ p (ProcA.mk ((hu.ext _).ext _))) ?_
  rintro r n1 ⟨rfl, nr1⟩
  cases hg : p.good with
  | false =>
    simp (config := {implicitDefEqProofs := false, maxDischargeDepth := 20}) (disch := first | omega | (simp only [lenE]; done) | (simp only [lenE]; omega) | rfl | (simp only [lenE, markR_len]; done) | (simp only [lenE, markR_len]; omega)) only [runE, mapE, listE, initT_5, initT_6, initT_7, initT_8, resV, oneV, binA, unA, reduceCtorEq, Nat.reduceEqDiff, Nat.reduceAdd, Nat.reduceLT, Nat.reduceLeDiff, Nat.reduceMul, Nat.reduceSub, ↓reduceIte, decide_true, decide_false, Bool.true_eq_false, Bool.false_eq_true, Bool.not_true, Bool.not_false, if_true, if_false, and_true, true_and, memE, celE, w64, Nat.zero_add, Nat.add_zero, Nat.mul_one, putL, and_self, ldn]
    refine ext_ansO (f := fun v => .tuple #[v, .bool false]) ((((Ext.refl m).one _ _).one _ _).app nr1) fun M' hM => ⟨by simp, m.length + 1, 2, rfl, by omega, by simp [roM_len], ?_⟩
    refine OwnB.at_ ?_ (hM _ (by omega) (by simp [roM_len]))
    exact (OwnB.here (by simp [roM_len])).ext _
  | true =>
  have hG := goodP_iff.1 hg
  have ht := hG.turns
  simp (config := {implicitDefEqProofs := false, maxDischargeDepth := 20}) (disch := first | omega | (simp only [lenE]; done) | (simp only [lenE]; omega) | rfl | (simp only [lenE, markR_len]; done) | (simp only [lenE, markR_len]; omega)) only [runE, mapE, listE, initT_5, initT_6, initT_7, initT_8, resV, oneV, binA, unA, reduceCtorEq, Nat.reduceEqDiff, Nat.reduceAdd, Nat.reduceLT, Nat.reduceLeDiff, Nat.reduceMul, Nat.reduceSub, ↓reduceIte, decide_true, decide_false, Bool.true_eq_false, Bool.false_eq_true, Bool.not_true, Bool.not_false, if_true, if_false, and_true, true_and, memE, celE, w64, Nat.zero_add, Nat.add_zero, Nat.mul_one, putL, and_self, ldn]
  refine callH_rc (l6Worths_rc _ _ p (ProcA.mk (((hu.ext _).ext _).ext _)) hG) ?_
  rintro r n2 ⟨nr2, w, rfl, hw⟩
  have hTA := hw.mono fun M h => h.in
  obtain ⟨A, hA⟩ : ∃ A : Mem, A = roM m ++ [⟨.own, 26, [.int .i64 p.turns, u, .int .i64 p.setup, .int .i64 p.unit, .int .i64 p.hold, .int .i64 p.back]⟩] ++ [⟨.own, 46, []⟩] ++ n1 ++ n2 := ⟨_, rfl⟩
  have hXA : Ext m A := by rw [hA]; exact ((((Ext.refl m).one _ _).one _ _).app nr1).app nr2
  have hbA : OwnB A m.length 26 [.int .i64 p.turns, u, .int .i64 p.setup, .int .i64 p.unit, .int .i64 p.hold, .int .i64 p.back] := by rw [hA]; exact (((OwnB.here (roM_len m).symm).ext _).ext _).ext _
  rw [← hA] at hTA
  simp (config := {implicitDefEqProofs := false, maxDischargeDepth := 20}) (disch := first | omega | (simp only [lenE]; done) | (simp only [lenE]; omega) | rfl | (simp only [lenE, markR_len]; done) | (simp only [lenE, markR_len]; omega)) only [runE, mapE, listE, initT_5, initT_6, initT_7, initT_8, resV, oneV, binA, unA, reduceCtorEq, Nat.reduceEqDiff, Nat.reduceAdd, Nat.reduceLT, Nat.reduceLeDiff, Nat.reduceMul, Nat.reduceSub, ↓reduceIte, decide_true, decide_false, Bool.true_eq_false, Bool.false_eq_true, Bool.not_true, Bool.not_false, if_true, if_false, and_true, true_and, memE, celE, w64, Nat.zero_add, Nat.add_zero, Nat.mul_one, putL, and_self, ldn, id_eq]
  try rw [← hA]
  obtain ⟨N, hN⟩ : ∃ N, N = p.turns.toNat := ⟨_, rfl⟩
  rw [← hN] at hTA ⊢
  obtain ⟨lo, hlo⟩ : ∃ lo, lo = (roM m ++ [(⟨.own, 26, [.int .i64 p.turns, u, .int .i64 p.setup, .int .i64 p.unit, .int .i64 p.hold, .int .i64 p.back]⟩ : Blk)] ++ [(⟨.own, 46, []⟩ : Blk)] ++ n1).length := ⟨_, rfl⟩
  obtain ⟨hi, hhi⟩ : ∃ hi, hi = lo + n2.length := ⟨_, rfl⟩
  rw [← hlo, ← hhi] at hTA
  have hNt : p.turns = (N : Int) := by omega
  have hll := levelsL_len p N
  refine loop_inv mixed (fun s => ∃ (k : Nat) (M : Mem) (id : Nat), k ≤ N ∧ s.m = M ∧ Ext m M ∧ OwnB M m.length 26 [.int .i64 p.turns, u, .int .i64 p.setup, .int .i64 p.unit, .int .i64 p.hold, .int .i64 p.back] ∧ Lv lo hi M (fun M => TabA M r (p.tab p.bestC N)) ∧ (id < lo ∨ hi ≤ id) ∧ m.length < id ∧ OwnB M id 46 (pairsC ((levelsL p N).take k)) ∧ s.t 4 = .slice (some ⟨id, 0, none⟩) k 2 ∧ s.t 6 = .int .i64 k ∧ s.t 5 = r ∧ s.t 1 = .pointer (some ⟨m.length, 0, none⟩)) (fun s => N - (intOf (s.t 6)).toNat)
    ⟨0, A, m.length + 1, by omega, rfl, hXA, hbA, hTA, .inl (by rw [hlo]; simp [roM_len]), by omega, by rw [hA]; exact ((OwnB.here (by simp [roM_len])).ext _).ext _, rfl, rfl, rfl, rfl⟩ ?_
  rintro s ⟨k, M, id, hk, tm, hX, hb, hTL, hidd, hid, ho, t4, t6, t5, t1⟩
  have hTM := hTL.now
  by_cases hlt : k < N
  · have hlt' : (k : Int) < N := by omega
    have hrow : (p.tab p.bestC N).getD (k + 1) [] = p.rowsN p.bestC (N - 1 - k) := by
      rw [Pr.tab_at p _ (by omega)]; congr 1; omega
    have hl21 := Pr.rowsN_len p p.bestC (N - 1 - k)
    have hBB := Pr.rows_big hG (N := 5) (by omega) (Pr.best_fair hG 5) (k := N - 1 - k) (by omega)
    have hltT : (k : Int) < p.turns := by omega
    simp (config := {implicitDefEqProofs := false, maxDischargeDepth := 20}) (disch := first | omega | (simp only [lenE]; done) | (simp only [lenE]; omega) | rfl | (simp only [lenE, markR_len]; done) | (simp only [lenE, markR_len]; omega)) only [runE, mapE, listE, initT_5, initT_6, initT_7, initT_8, resV, oneV, binA, unA, reduceCtorEq, Nat.reduceEqDiff, Nat.reduceAdd, Nat.reduceLT, Nat.reduceLeDiff, Nat.reduceMul, Nat.reduceSub, ↓reduceIte, decide_true, decide_false, Bool.true_eq_false, Bool.false_eq_true, Bool.not_true, Bool.not_false, if_true, if_false, and_true, true_and, memE, celE, w64, Nat.zero_add, Nat.add_zero, Nat.mul_one, putL, and_self, ldn, tm, t4, t6, t5, t1, hltT, hb.rd]
    refine callH_rc (l6Levels_rc _ _ r p (p.tab p.bestC N) _ k (N - 1 - k) (ProcA.mk (hX.ints hu)) hTM hG (by rw [show ((k : Int) + 1).toNat = k + 1 by omega]; exact hrow) (by rw [Pr.tab_len]; omega) hl21 hBB (by omega) (by omega) (by omega)) ?_
    rintro r2 n3 ⟨rfl, nr3⟩
    rw [← levelsL_at hlt]
    have ho3 := ho.ext n3
    have hidl := ho3.lt
    have happ := app_back (M := M ++ n3) (id2 := (M ++ n3).length) (sz := 2) (byt := 16) (n := k) (ys := [.int .i64 ((levelsL p N).getD k (0, 0)).1, .int .i64 ((levelsL p N).getD k (0, 0)).2]) ho3 rfl (by rw [pairsC_len, List.length_take]; omega) rfl rfl (by omega) (by omega)
    have hX3 := hX.app nr3
    have hXl := hX3.len
    have hb3 := hb.ext n3
    have hT3 := hTL.ext n3
    obtain ⟨M3, hM3⟩ : ∃ M', M' = M ++ n3 := ⟨_, rfl⟩
    rw [← hM3] at happ hidl hX3 hXl hb3 hT3 ho3
    rw [← hM3]
    simp (config := {implicitDefEqProofs := false, maxDischargeDepth := 20}) (disch := first | omega | (simp only [lenE]; done) | (simp only [lenE]; omega) | rfl | (simp only [lenE, markR_len]; done) | (simp only [lenE, markR_len]; omega)) only [runE, mapE, listE, initT_5, initT_6, initT_7, initT_8, resV, oneV, binA, unA, reduceCtorEq, Nat.reduceEqDiff, Nat.reduceAdd, Nat.reduceLT, Nat.reduceLeDiff, Nat.reduceMul, Nat.reduceSub, ↓reduceIte, decide_true, decide_false, Bool.true_eq_false, Bool.false_eq_true, Bool.not_true, Bool.not_false, if_true, if_false, and_true, true_and, memE, celE, w64, Nat.zero_add, Nat.add_zero, Nat.mul_one, putL, and_self, ldn, t4, t6, t5, t1, bsl_pair, happ]
    refine ⟨⟨k + 1, _, M3.length + 1, by omega, rfl, ((hX3.dead (by omega)).one _ _).one _ _, hb3.at_ (same_gen (by omega) hidl), hT3.but ((((But.refl id (id + 1) M3).set (Nat.le_refl _) (Nat.lt_succ_self _) deadB).ext _).ext _) (by omega), .inr (by have := hT3.2.1; omega), by omega, ?_, rfl, by simp⟩, by simp [intOf]; omega⟩
    · rw [take_nextP (by omega), pairsC_app, pairsC_one]
      exact OwnB.here (by simp)
  · have hlt' : ¬ ((k : Int) < N) := by omega
    have e : k = N := by omega
    subst e
    have hltT : ¬ ((k : Int) < p.turns) := by omega
    simp (config := {implicitDefEqProofs := false, maxDischargeDepth := 20}) (disch := first | omega | (simp only [lenE]; done) | (simp only [lenE]; omega) | rfl | (simp only [lenE, markR_len]; done) | (simp only [lenE, markR_len]; omega)) only [runE, mapE, listE, initT_5, initT_6, initT_7, initT_8, resV, oneV, binA, unA, reduceCtorEq, Nat.reduceEqDiff, Nat.reduceAdd, Nat.reduceLT, Nat.reduceLeDiff, Nat.reduceMul, Nat.reduceSub, ↓reduceIte, decide_true, decide_false, Bool.true_eq_false, Bool.false_eq_true, Bool.not_true, Bool.not_false, if_true, if_false, and_true, true_and, memE, celE, w64, Nat.zero_add, Nat.add_zero, Nat.mul_one, putL, and_self, ldn, tm, t4, t6, t5, t1, hltT, hb.rd]
    rw [List.take_of_length_le (by omega)] at ho
    refine ext_ansO (f := fun v => .tuple #[v, .bool true]) hX fun M' hM => ⟨by omega, id, 2, by rw [hll], by omega, ho.lt, ho.at_ (hM _ (by omega) ho.lt)⟩
end Go.Proofs.Ytddnedngjijpoaa.Ab
