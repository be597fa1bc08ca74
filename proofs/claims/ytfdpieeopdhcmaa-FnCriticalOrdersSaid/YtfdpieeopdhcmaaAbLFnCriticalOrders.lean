/- FnCriticalOrders: its running over abstract memory. -/
import Derived.Test.YtfdpieeopdhcmaaAbChance5
import Derived.Test.YtfdpieeopdhcmaaAbDraw5b
import Derived.Test.YtfdpieeopdhcmaaChMath2
import Derived.Test.YtfdpieeopdhcmaaCodLFnCriticalOrders
namespace Go.Proofs.Ytfdpieeopdhcmaa.Ab
open Go Go.RowKit
set_option linter.unusedVariables false
set_option linter.unusedSimpArgs false
set_option maxRecDepth 100000

theorem chk {G : St → Prop} {S : St} (I : St → Prop) (h0 : I S) (h : ∀ s, I s → G s) : G S := h S h0
theorem l1lt {m : Mem} {e : TypeId} {l : List Value} : ([⟨.ro, e, l⟩] : Mem).length = 1 := rfl

set_option maxHeartbeats 8000000 in
theorem law_FnCriticalOrders (l : List Int) (hb : ∀ x ∈ l, 0 ≤ x ∧ x ≤ 255) :
    AC Try.prog 3 [.slice (some ⟨0, 0, none⟩) l.length 0] [⟨.ro, 5, l.map (Value.int .u8)⟩] fun r _ => r = .bool true := by
  refine ac_of_run mixed ok_laws_FnCriticalOrders (by simp) (go_start _ _ _ ?_)
  simp (config := {implicitDefEqProofs := false, maxDischargeDepth := 20}) (disch := first | omega | (simp only [lenE]; done) | (simp only [lenE]; omega) | rfl | (simp only [lenE, markR_len]; done) | (simp only [lenE, markR_len]; omega)) only [runE, mapE, listE, initT_5, initT_6, initT_7, initT_8, resV, oneV, binA, unA, reduceCtorEq, Nat.reduceEqDiff, Nat.reduceAdd, Nat.reduceLT, Nat.reduceLeDiff, Nat.reduceMul, Nat.reduceSub, ↓reduceIte, decide_true, decide_false, Bool.true_eq_false, Bool.false_eq_true, Bool.not_true, Bool.not_false, if_true, if_false, and_true, true_and, memE, celE, w64, Nat.zero_add, Nat.add_zero, Nat.mul_one, putL, and_self, ldn, c_laws_FnCriticalOrders, r_laws_FnCriticalOrders]
  refine callH_rc (vBig_rc _ 0 0 l.length) ?_
  rintro r new ⟨rfl, rfl⟩
  by_cases hbig : 65536 < l.length
  · simp (config := {implicitDefEqProofs := false, maxDischargeDepth := 20}) (disch := first | omega | (simp only [lenE]; done) | (simp only [lenE]; omega) | rfl | (simp only [lenE, markR_len]; done) | (simp only [lenE, markR_len]; omega)) only [runE, mapE, listE, initT_5, initT_6, initT_7, initT_8, resV, oneV, binA, unA, reduceCtorEq, Nat.reduceEqDiff, Nat.reduceAdd, Nat.reduceLT, Nat.reduceLeDiff, Nat.reduceMul, Nat.reduceSub, ↓reduceIte, decide_true, decide_false, Bool.true_eq_false, Bool.false_eq_true, Bool.not_true, Bool.not_false, if_true, if_false, and_true, true_and, memE, celE, w64, Nat.zero_add, Nat.add_zero, Nat.mul_one, putL, and_self, ldn, decide_eq_true hbig]
  have hB : BytesA [⟨.ro, 5, l.map (Value.int .u8)⟩] 0 l := ⟨⟨.ro, by simp, rfl⟩, hb, by omega⟩
  obtain ⟨M0, hM0⟩ : ∃ M : Mem, M = [⟨.ro, 5, l.map (Value.int .u8)⟩] := ⟨_, rfl⟩
  rw [← hM0] at hB
  rw [List.append_nil, ← hM0]
  clear hM0
  simp (config := {implicitDefEqProofs := false, maxDischargeDepth := 20}) (disch := first | omega | (simp only [lenE]; done) | (simp only [lenE]; omega) | rfl | (simp only [lenE, markR_len]; done) | (simp only [lenE, markR_len]; omega)) only [runE, mapE, listE, initT_5, initT_6, initT_7, initT_8, resV, oneV, binA, unA, reduceCtorEq, Nat.reduceEqDiff, Nat.reduceAdd, Nat.reduceLT, Nat.reduceLeDiff, Nat.reduceMul, Nat.reduceSub, ↓reduceIte, decide_true, decide_false, Bool.true_eq_false, Bool.false_eq_true, Bool.not_true, Bool.not_false, if_true, if_false, and_true, true_and, memE, celE, w64, Nat.zero_add, Nat.add_zero, Nat.mul_one, putL, and_self, ldn, decide_eq_false hbig]
  refine callH_rc (DrawCriticalOrder_rc _ 0 0 l hB) ?_
  rintro r new ⟨nr, i, w, o, u, rfl, hrow, hlw⟩
  obtain ⟨M1, hM1⟩ : ∃ M, M = M0 ++ new := ⟨_, rfl⟩
  have B1 : BytesA M1 0 l := by rw [hM1]; exact hB.ext _
  have W1 : OwnR M1 (M0.length + i) w := by rw [hM1]; exact OwnR.new hrow rfl
  rw [← hM1]
  clear hM1 hrow nr hB
  generalize M0.length + i = wi at *
  obtain ⟨q, hq⟩ : ∃ q, q = (bif (distB w && chB o u) then (critF w o u : Int) else 0) := ⟨_, rfl⟩
  obtain ⟨bl, hbl⟩ : ∃ b, b = bestA w o u := ⟨_, rfl⟩
  obtain ⟨ok, hok⟩ : ∃ b, b = (distB w && chB o u) := ⟨_, rfl⟩
  obtain ⟨dw, hdw⟩ : ∃ b, b = distB w := ⟨_, rfl⟩
  have IW : ∀ M, OwnR M wi w → IntsA M (.slice (some ⟨wi, 0, none⟩) w.length 1) w := fun M h => h.ints (by omega) 1
  have C1 : ∀ M, OwnR M wi w → RC Try.prog 25 [.slice (some ⟨wi, 0, none⟩) w.length 1, .int .i64 o, .int .i64 u] M (AnsV (.tuple #[.int .i64 q, .bool ok])) := fun M h => by rw [hq, hok]; exact implCriticalOrder_rc _ _ w o u (IW M h)
  have C2 : ∀ M, OwnR M wi w → RC Try.prog 26 [.slice (some ⟨wi, 0, none⟩) w.length 1, .int .i64 o, .int .i64 u] M (AnsV (.tuple #[.int .i64 q, .bool ok])) := fun M h => by rw [hq, hok]; exact specCriticalOrder_rc _ _ w o u (IW M h)
  have C3 : ∀ M, OwnR M wi w → RC Try.prog 27 [.slice (some ⟨wi, 0, none⟩) w.length 1, .int .i64 o, .int .i64 u] M (AnsL M bl ok) := fun M h => by rw [hbl, hok]; exact implBestOrders_rc _ _ w o u (IW M h)
  have C4 : ∀ M, OwnR M wi w → RC Try.prog 28 [.slice (some ⟨wi, 0, none⟩) w.length 1, .int .i64 o, .int .i64 u] M (AnsL M bl ok) := fun M h => by rw [hbl, hok]; exact specBestOrders_rc _ _ w o u (IW M h)
  have C5 : ∀ M, OwnR M wi w → RC Try.prog 44 [.slice (some ⟨wi, 0, none⟩) w.length 1] M (AnsV (.bool dw)) := fun M h => by rw [hdw]; exact implDist_rc _ _ w (IW M h)
  have C6 : ∀ M, OwnR M wi w → RC Try.prog 45 [.slice (some ⟨wi, 0, none⟩) w.length 1] M (AnsV (.bool dw)) := fun M h => by rw [hdw]; exact specDist_rc _ _ w (IW M h)
  simp (config := {implicitDefEqProofs := false, maxDischargeDepth := 20}) (disch := first | omega | (simp only [lenE]; done) | (simp only [lenE]; omega) | rfl | (simp only [lenE, markR_len]; done) | (simp only [lenE, markR_len]; omega)) only [runE, mapE, listE, initT_5, initT_6, initT_7, initT_8, resV, oneV, binA, unA, reduceCtorEq, Nat.reduceEqDiff, Nat.reduceAdd, Nat.reduceLT, Nat.reduceLeDiff, Nat.reduceMul, Nat.reduceSub, ↓reduceIte, decide_true, decide_false, Bool.true_eq_false, Bool.false_eq_true, Bool.not_true, Bool.not_false, if_true, if_false, and_true, true_and, memE, celE, w64, Nat.zero_add, Nat.add_zero, Nat.mul_one, putL, and_self, ldn, ext_3_0, ext_3_1, ext_3_2]
  refine callH_rc (C1 _ W1) ?_
  rintro r new ⟨rfl, nr⟩
  obtain ⟨M2, hM2⟩ : ∃ M, M = M1 ++ new := ⟨_, rfl⟩
  have W2 : OwnR M2 wi w := by rw [hM2]; exact W1.ext _
  have B2 : BytesA M2 0 l := by rw [hM2]; exact B1.ext _
  rw [← hM2]
  clear W1 B1
  clear hM2 nr
  simp (config := {implicitDefEqProofs := false, maxDischargeDepth := 20}) (disch := first | omega | (simp only [lenE]; done) | (simp only [lenE]; omega) | rfl | (simp only [lenE, markR_len]; done) | (simp only [lenE, markR_len]; omega)) only [runE, mapE, listE, initT_5, initT_6, initT_7, initT_8, resV, oneV, binA, unA, reduceCtorEq, Nat.reduceEqDiff, Nat.reduceAdd, Nat.reduceLT, Nat.reduceLeDiff, Nat.reduceMul, Nat.reduceSub, ↓reduceIte, decide_true, decide_false, Bool.true_eq_false, Bool.false_eq_true, Bool.not_true, Bool.not_false, if_true, if_false, and_true, true_and, memE, celE, w64, Nat.zero_add, Nat.add_zero, Nat.mul_one, putL, and_self, ldn, ext_2_0, ext_2_1]
  refine callH_rc (C2 _ W2) ?_
  rintro r new ⟨rfl, nr⟩
  obtain ⟨M3, hM3⟩ : ∃ M, M = M2 ++ new := ⟨_, rfl⟩
  have W3 : OwnR M3 wi w := by rw [hM3]; exact W2.ext _
  have B3 : BytesA M3 0 l := by rw [hM3]; exact B2.ext _
  rw [← hM3]
  clear W2 B2
  clear hM3 nr
  simp (config := {implicitDefEqProofs := false, maxDischargeDepth := 20}) (disch := first | omega | (simp only [lenE]; done) | (simp only [lenE]; omega) | rfl | (simp only [lenE, markR_len]; done) | (simp only [lenE, markR_len]; omega)) only [runE, mapE, listE, initT_5, initT_6, initT_7, initT_8, resV, oneV, binA, unA, reduceCtorEq, Nat.reduceEqDiff, Nat.reduceAdd, Nat.reduceLT, Nat.reduceLeDiff, Nat.reduceMul, Nat.reduceSub, ↓reduceIte, decide_true, decide_false, Bool.true_eq_false, Bool.false_eq_true, Bool.not_true, Bool.not_false, if_true, if_false, and_true, true_and, memE, celE, w64, Nat.zero_add, Nat.add_zero, Nat.mul_one, putL, and_self, ldn, ext_2_0, ext_2_1]
  refine callH_rc (C3 _ W3) ?_
  intro r new hA
  obtain ⟨Pi, Pf, rfl, hgeP, hP, hleP, nr⟩ := hA.row
  obtain ⟨M4, hM4⟩ : ∃ M, M = M3 ++ new := ⟨_, rfl⟩
  have W4 : OwnR M4 wi w := by rw [hM4]; exact W3.ext _
  have B4 : BytesA M4 0 l := by rw [hM4]; exact B3.ext _
  rw [← hM4]
  clear W3 B3
  rw [← hM4] at hP
  have P4 := hP
  clear hM4 nr hP hA
  simp (config := {implicitDefEqProofs := false, maxDischargeDepth := 20}) (disch := first | omega | (simp only [lenE]; done) | (simp only [lenE]; omega) | rfl | (simp only [lenE, markR_len]; done) | (simp only [lenE, markR_len]; omega)) only [runE, mapE, listE, initT_5, initT_6, initT_7, initT_8, resV, oneV, binA, unA, reduceCtorEq, Nat.reduceEqDiff, Nat.reduceAdd, Nat.reduceLT, Nat.reduceLeDiff, Nat.reduceMul, Nat.reduceSub, ↓reduceIte, decide_true, decide_false, Bool.true_eq_false, Bool.false_eq_true, Bool.not_true, Bool.not_false, if_true, if_false, and_true, true_and, memE, celE, w64, Nat.zero_add, Nat.add_zero, Nat.mul_one, putL, and_self, ldn, ext_2_0, ext_2_1]
  refine callH_rc (C4 _ W4) ?_
  intro r new hA
  obtain ⟨Qi, Qf, rfl, hgeQ, hQ, hleQ, nr⟩ := hA.row
  obtain ⟨M5, hM5⟩ : ∃ M, M = M4 ++ new := ⟨_, rfl⟩
  have W5 : OwnR M5 wi w := by rw [hM5]; exact W4.ext _
  have B5 : BytesA M5 0 l := by rw [hM5]; exact B4.ext _
  have P5 : OwnR M5 Pi bl := by rw [hM5]; exact P4.ext _
  rw [← hM5]
  clear W4 B4 P4
  rw [← hM5] at hQ
  have Q5 := hQ
  clear hM5 nr hQ hA
  simp (config := {implicitDefEqProofs := false, maxDischargeDepth := 20}) (disch := first | omega | (simp only [lenE]; done) | (simp only [lenE]; omega) | rfl | (simp only [lenE, markR_len]; done) | (simp only [lenE, markR_len]; omega)) only [runE, mapE, listE, initT_5, initT_6, initT_7, initT_8, resV, oneV, binA, unA, reduceCtorEq, Nat.reduceEqDiff, Nat.reduceAdd, Nat.reduceLT, Nat.reduceLeDiff, Nat.reduceMul, Nat.reduceSub, ↓reduceIte, decide_true, decide_false, Bool.true_eq_false, Bool.false_eq_true, Bool.not_true, Bool.not_false, if_true, if_false, and_true, true_and, memE, celE, w64, Nat.zero_add, Nat.add_zero, Nat.mul_one, putL, and_self, ldn, ext_2_0, ext_2_1]
  refine callH_rc (vCut_rc _ 0 0 1 l B5 (by omega) (by omega)) ?_
  rintro r new ⟨nr, ci, l2, rfl, hrow, hb2, hl2⟩
  obtain ⟨M6, hM6⟩ : ∃ M, M = M5 ++ new := ⟨_, rfl⟩
  have W6 : OwnR M6 wi w := by rw [hM6]; exact W5.ext _
  have B6 : BytesA M6 0 l := by rw [hM6]; exact B5.ext _
  have P6 : OwnR M6 Pi bl := by rw [hM6]; exact P5.ext _
  have Q6 : OwnR M6 Qi bl := by rw [hM6]; exact Q5.ext _
  rw [← hM6]
  clear W5 B5 P5 Q5
  have B26 : BytesA M6 (M5.length + ci) l2 := ⟨⟨.own, by simp, by rw [hM6, List.getElem?_append_right (by omega), Nat.add_sub_cancel_left]; exact hrow⟩, hb2, hl2⟩
  clear hM6 hrow nr
  simp (config := {implicitDefEqProofs := false, maxDischargeDepth := 20}) (disch := first | omega | (simp only [lenE]; done) | (simp only [lenE]; omega) | rfl | (simp only [lenE, markR_len]; done) | (simp only [lenE, markR_len]; omega)) only [runE, mapE, listE, initT_5, initT_6, initT_7, initT_8, resV, oneV, binA, unA, reduceCtorEq, Nat.reduceEqDiff, Nat.reduceAdd, Nat.reduceLT, Nat.reduceLeDiff, Nat.reduceMul, Nat.reduceSub, ↓reduceIte, decide_true, decide_false, Bool.true_eq_false, Bool.false_eq_true, Bool.not_true, Bool.not_false, if_true, if_false, and_true, true_and, memE, celE, w64, Nat.zero_add, Nat.add_zero, Nat.mul_one, putL, and_self, ldn]
  refine callH_rc (DrawCostSum_rc _ _ 1 l2 B26) ?_
  rintro r new ⟨nr, j, x, a, b, y, rfl, hrow, hlx⟩
  clear B26
  obtain ⟨M7, hM7⟩ : ∃ M, M = M6 ++ new := ⟨_, rfl⟩
  have W7 : OwnR M7 wi w := by rw [hM7]; exact W6.ext _
  have B7 : BytesA M7 0 l := by rw [hM7]; exact B6.ext _
  have P7 : OwnR M7 Pi bl := by rw [hM7]; exact P6.ext _
  have Q7 : OwnR M7 Qi bl := by rw [hM7]; exact Q6.ext _
  rw [← hM7]
  clear W6 B6 P6 Q6
  have X7 : OwnR M7 (M6.length + j) x := by rw [hM7]; exact OwnR.new hrow rfl
  clear hM7 hrow nr
  generalize M6.length + j = xi at *
  obtain ⟨tc, htc⟩ : ∃ t, t = costB x a b y := ⟨_, rfl⟩
  obtain ⟨vc, hvc⟩ : ∃ z, z = (bif costB x a b y then costF x a b y.toNat else 0) := ⟨_, rfl⟩
  obtain ⟨to_, hto⟩ : ∃ b, b = ordB x y := ⟨_, rfl⟩
  obtain ⟨vl, hvl⟩ : ∃ z, z = (bif ordB x y then overS x y.toNat else 0) := ⟨_, rfl⟩
  obtain ⟨vs, hvs⟩ : ∃ z, z = (bif ordB x y then shortS x y.toNat else 0) := ⟨_, rfl⟩
  obtain ⟨vu, hvu⟩ : ∃ z, z = (bif ordB x y then upF x y.toNat else 0) := ⟨_, rfl⟩
  obtain ⟨td, htd⟩ : ∃ b, b = distB x := ⟨_, rfl⟩
  obtain ⟨vm, hvm⟩ : ∃ z, z = (bif distB x then shortS x 0 else 0) := ⟨_, rfl⟩
  obtain ⟨vt, hvt⟩ : ∃ z, z = (bif distB x then tot x else 0) := ⟨_, rfl⟩
  have IX : ∀ M, OwnR M xi x → IntsA M (.slice (some ⟨xi, 0, none⟩) x.length 1) x := fun M h => h.ints (by omega) 1
  have C7 : ∀ M, OwnR M xi x → RC Try.prog 31 [.slice (some ⟨xi, 0, none⟩) x.length 1, .int .i64 a, .int .i64 b, .int .i64 y] M (AnsV (.tuple #[.int .i64 vc, .bool tc])) := fun M h => by rw [hvc, htc]; exact implCostSum_rc _ _ x a b y (IX M h)
  have C8 : ∀ M, OwnR M xi x → RC Try.prog 32 [.slice (some ⟨xi, 0, none⟩) x.length 1, .int .i64 a, .int .i64 b, .int .i64 y] M (AnsV (.tuple #[.int .i64 vc, .bool tc])) := fun M h => by rw [hvc, htc]; exact specCostSum_rc _ _ x a b y (IX M h)
  have C9 : ∀ M, OwnR M xi x → RC Try.prog 33 [.slice (some ⟨xi, 0, none⟩) x.length 1, .int .i64 y] M (AnsV (.tuple #[.int .i64 vl, .bool to_])) := fun M h => by rw [hvl, hto]; exact implOverSum_rc _ _ x y (IX M h)
  have C10 : ∀ M, OwnR M xi x → RC Try.prog 34 [.slice (some ⟨xi, 0, none⟩) x.length 1, .int .i64 y] M (AnsV (.tuple #[.int .i64 vl, .bool to_])) := fun M h => by rw [hvl, hto]; exact specOverSum_rc _ _ x y (IX M h)
  have C11 : ∀ M, OwnR M xi x → RC Try.prog 35 [.slice (some ⟨xi, 0, none⟩) x.length 1, .int .i64 y] M (AnsV (.tuple #[.int .i64 vs, .bool to_])) := fun M h => by rw [hvs, hto]; exact implShortSum_rc _ _ x y (IX M h)
  have C12 : ∀ M, OwnR M xi x → RC Try.prog 36 [.slice (some ⟨xi, 0, none⟩) x.length 1, .int .i64 y] M (AnsV (.tuple #[.int .i64 vs, .bool to_])) := fun M h => by rw [hvs, hto]; exact specShortSum_rc _ _ x y (IX M h)
  have C13 : ∀ M, OwnR M xi x → RC Try.prog 37 [.slice (some ⟨xi, 0, none⟩) x.length 1] M (AnsV (.tuple #[.int .i64 vm, .bool td])) := fun M h => by rw [hvm, htd]; exact implMeanSum_rc _ _ x (IX M h)
  have C14 : ∀ M, OwnR M xi x → RC Try.prog 38 [.slice (some ⟨xi, 0, none⟩) x.length 1] M (AnsV (.tuple #[.int .i64 vm, .bool td])) := fun M h => by rw [hvm, htd]; exact specMeanSum_rc _ _ x (IX M h)
  have C15 : ∀ M, OwnR M xi x → RC Try.prog 39 [.slice (some ⟨xi, 0, none⟩) x.length 1] M (AnsV (.tuple #[.int .i64 vt, .bool td])) := fun M h => by rw [hvt, htd]; exact implTotalWeight_rc _ _ x (IX M h)
  have C16 : ∀ M, OwnR M xi x → RC Try.prog 40 [.slice (some ⟨xi, 0, none⟩) x.length 1] M (AnsV (.tuple #[.int .i64 vt, .bool td])) := fun M h => by rw [hvt, htd]; exact specTotalWeight_rc _ _ x (IX M h)
  have C17 : ∀ M, OwnR M xi x → RC Try.prog 41 [.slice (some ⟨xi, 0, none⟩) x.length 1, .int .i64 y] M (AnsV (.tuple #[.int .i64 vu, .bool to_])) := fun M h => by rw [hvu, hto]; exact implWeightUpTo_rc _ _ x y (IX M h)
  have C18 : ∀ M, OwnR M xi x → RC Try.prog 42 [.slice (some ⟨xi, 0, none⟩) x.length 1, .int .i64 y] M (AnsV (.tuple #[.int .i64 vu, .bool to_])) := fun M h => by rw [hvu, hto]; exact specWeightUpTo_rc _ _ x y (IX M h)
  simp (config := {implicitDefEqProofs := false, maxDischargeDepth := 20}) (disch := first | omega | (simp only [lenE]; done) | (simp only [lenE]; omega) | rfl | (simp only [lenE, markR_len]; done) | (simp only [lenE, markR_len]; omega)) only [runE, mapE, listE, initT_5, initT_6, initT_7, initT_8, resV, oneV, binA, unA, reduceCtorEq, Nat.reduceEqDiff, Nat.reduceAdd, Nat.reduceLT, Nat.reduceLeDiff, Nat.reduceMul, Nat.reduceSub, ↓reduceIte, decide_true, decide_false, Bool.true_eq_false, Bool.false_eq_true, Bool.not_true, Bool.not_false, if_true, if_false, and_true, true_and, memE, celE, w64, Nat.zero_add, Nat.add_zero, Nat.mul_one, putL, and_self, ldn, ext_4_0, ext_4_1, ext_4_2, ext_4_3]
  refine callH_rc (C7 _ X7) ?_
  rintro r new ⟨rfl, nr⟩
  obtain ⟨M8, hM8⟩ : ∃ M, M = M7 ++ new := ⟨_, rfl⟩
  have W8 : OwnR M8 wi w := by rw [hM8]; exact W7.ext _
  have B8 : BytesA M8 0 l := by rw [hM8]; exact B7.ext _
  have P8 : OwnR M8 Pi bl := by rw [hM8]; exact P7.ext _
  have Q8 : OwnR M8 Qi bl := by rw [hM8]; exact Q7.ext _
  have X8 : OwnR M8 xi x := by rw [hM8]; exact X7.ext _
  rw [← hM8]
  clear W7 B7 P7 Q7 X7
  clear hM8 nr
  simp (config := {implicitDefEqProofs := false, maxDischargeDepth := 20}) (disch := first | omega | (simp only [lenE]; done) | (simp only [lenE]; omega) | rfl | (simp only [lenE, markR_len]; done) | (simp only [lenE, markR_len]; omega)) only [runE, mapE, listE, initT_5, initT_6, initT_7, initT_8, resV, oneV, binA, unA, reduceCtorEq, Nat.reduceEqDiff, Nat.reduceAdd, Nat.reduceLT, Nat.reduceLeDiff, Nat.reduceMul, Nat.reduceSub, ↓reduceIte, decide_true, decide_false, Bool.true_eq_false, Bool.false_eq_true, Bool.not_true, Bool.not_false, if_true, if_false, and_true, true_and, memE, celE, w64, Nat.zero_add, Nat.add_zero, Nat.mul_one, putL, and_self, ldn, ext_2_0, ext_2_1]
  refine callH_rc (C8 _ X8) ?_
  rintro r new ⟨rfl, nr⟩
  obtain ⟨M9, hM9⟩ : ∃ M, M = M8 ++ new := ⟨_, rfl⟩
  have W9 : OwnR M9 wi w := by rw [hM9]; exact W8.ext _
  have B9 : BytesA M9 0 l := by rw [hM9]; exact B8.ext _
  have P9 : OwnR M9 Pi bl := by rw [hM9]; exact P8.ext _
  have Q9 : OwnR M9 Qi bl := by rw [hM9]; exact Q8.ext _
  have X9 : OwnR M9 xi x := by rw [hM9]; exact X8.ext _
  rw [← hM9]
  clear W8 B8 P8 Q8 X8
  clear hM9 nr
  simp (config := {implicitDefEqProofs := false, maxDischargeDepth := 20}) (disch := first | omega | (simp only [lenE]; done) | (simp only [lenE]; omega) | rfl | (simp only [lenE, markR_len]; done) | (simp only [lenE, markR_len]; omega)) only [runE, mapE, listE, initT_5, initT_6, initT_7, initT_8, resV, oneV, binA, unA, reduceCtorEq, Nat.reduceEqDiff, Nat.reduceAdd, Nat.reduceLT, Nat.reduceLeDiff, Nat.reduceMul, Nat.reduceSub, ↓reduceIte, decide_true, decide_false, Bool.true_eq_false, Bool.false_eq_true, Bool.not_true, Bool.not_false, if_true, if_false, and_true, true_and, memE, celE, w64, Nat.zero_add, Nat.add_zero, Nat.mul_one, putL, and_self, ldn, ext_2_0, ext_2_1]
  refine callH_rc (C9 _ X9) ?_
  rintro r new ⟨rfl, nr⟩
  obtain ⟨M10, hM10⟩ : ∃ M, M = M9 ++ new := ⟨_, rfl⟩
  have W10 : OwnR M10 wi w := by rw [hM10]; exact W9.ext _
  have B10 : BytesA M10 0 l := by rw [hM10]; exact B9.ext _
  have P10 : OwnR M10 Pi bl := by rw [hM10]; exact P9.ext _
  have Q10 : OwnR M10 Qi bl := by rw [hM10]; exact Q9.ext _
  have X10 : OwnR M10 xi x := by rw [hM10]; exact X9.ext _
  rw [← hM10]
  clear W9 B9 P9 Q9 X9
  clear hM10 nr
  simp (config := {implicitDefEqProofs := false, maxDischargeDepth := 20}) (disch := first | omega | (simp only [lenE]; done) | (simp only [lenE]; omega) | rfl | (simp only [lenE, markR_len]; done) | (simp only [lenE, markR_len]; omega)) only [runE, mapE, listE, initT_5, initT_6, initT_7, initT_8, resV, oneV, binA, unA, reduceCtorEq, Nat.reduceEqDiff, Nat.reduceAdd, Nat.reduceLT, Nat.reduceLeDiff, Nat.reduceMul, Nat.reduceSub, ↓reduceIte, decide_true, decide_false, Bool.true_eq_false, Bool.false_eq_true, Bool.not_true, Bool.not_false, if_true, if_false, and_true, true_and, memE, celE, w64, Nat.zero_add, Nat.add_zero, Nat.mul_one, putL, and_self, ldn, ext_2_0, ext_2_1]
  refine callH_rc (C10 _ X10) ?_
  rintro r new ⟨rfl, nr⟩
  obtain ⟨M11, hM11⟩ : ∃ M, M = M10 ++ new := ⟨_, rfl⟩
  have W11 : OwnR M11 wi w := by rw [hM11]; exact W10.ext _
  have B11 : BytesA M11 0 l := by rw [hM11]; exact B10.ext _
  have P11 : OwnR M11 Pi bl := by rw [hM11]; exact P10.ext _
  have Q11 : OwnR M11 Qi bl := by rw [hM11]; exact Q10.ext _
  have X11 : OwnR M11 xi x := by rw [hM11]; exact X10.ext _
  rw [← hM11]
  clear W10 B10 P10 Q10 X10
  clear hM11 nr
  simp (config := {implicitDefEqProofs := false, maxDischargeDepth := 20}) (disch := first | omega | (simp only [lenE]; done) | (simp only [lenE]; omega) | rfl | (simp only [lenE, markR_len]; done) | (simp only [lenE, markR_len]; omega)) only [runE, mapE, listE, initT_5, initT_6, initT_7, initT_8, resV, oneV, binA, unA, reduceCtorEq, Nat.reduceEqDiff, Nat.reduceAdd, Nat.reduceLT, Nat.reduceLeDiff, Nat.reduceMul, Nat.reduceSub, ↓reduceIte, decide_true, decide_false, Bool.true_eq_false, Bool.false_eq_true, Bool.not_true, Bool.not_false, if_true, if_false, and_true, true_and, memE, celE, w64, Nat.zero_add, Nat.add_zero, Nat.mul_one, putL, and_self, ldn, ext_2_0, ext_2_1]
  refine callH_rc (C11 _ X11) ?_
  rintro r new ⟨rfl, nr⟩
  obtain ⟨M12, hM12⟩ : ∃ M, M = M11 ++ new := ⟨_, rfl⟩
  have W12 : OwnR M12 wi w := by rw [hM12]; exact W11.ext _
  have B12 : BytesA M12 0 l := by rw [hM12]; exact B11.ext _
  have P12 : OwnR M12 Pi bl := by rw [hM12]; exact P11.ext _
  have Q12 : OwnR M12 Qi bl := by rw [hM12]; exact Q11.ext _
  have X12 : OwnR M12 xi x := by rw [hM12]; exact X11.ext _
  rw [← hM12]
  clear W11 B11 P11 Q11 X11
  clear hM12 nr
  simp (config := {implicitDefEqProofs := false, maxDischargeDepth := 20}) (disch := first | omega | (simp only [lenE]; done) | (simp only [lenE]; omega) | rfl | (simp only [lenE, markR_len]; done) | (simp only [lenE, markR_len]; omega)) only [runE, mapE, listE, initT_5, initT_6, initT_7, initT_8, resV, oneV, binA, unA, reduceCtorEq, Nat.reduceEqDiff, Nat.reduceAdd, Nat.reduceLT, Nat.reduceLeDiff, Nat.reduceMul, Nat.reduceSub, ↓reduceIte, decide_true, decide_false, Bool.true_eq_false, Bool.false_eq_true, Bool.not_true, Bool.not_false, if_true, if_false, and_true, true_and, memE, celE, w64, Nat.zero_add, Nat.add_zero, Nat.mul_one, putL, and_self, ldn, ext_2_0, ext_2_1]
  refine callH_rc (C12 _ X12) ?_
  rintro r new ⟨rfl, nr⟩
  obtain ⟨M13, hM13⟩ : ∃ M, M = M12 ++ new := ⟨_, rfl⟩
  have W13 : OwnR M13 wi w := by rw [hM13]; exact W12.ext _
  have B13 : BytesA M13 0 l := by rw [hM13]; exact B12.ext _
  have P13 : OwnR M13 Pi bl := by rw [hM13]; exact P12.ext _
  have Q13 : OwnR M13 Qi bl := by rw [hM13]; exact Q12.ext _
  have X13 : OwnR M13 xi x := by rw [hM13]; exact X12.ext _
  rw [← hM13]
  clear W12 B12 P12 Q12 X12
  clear hM13 nr
  simp (config := {implicitDefEqProofs := false, maxDischargeDepth := 20}) (disch := first | omega | (simp only [lenE]; done) | (simp only [lenE]; omega) | rfl | (simp only [lenE, markR_len]; done) | (simp only [lenE, markR_len]; omega)) only [runE, mapE, listE, initT_5, initT_6, initT_7, initT_8, resV, oneV, binA, unA, reduceCtorEq, Nat.reduceEqDiff, Nat.reduceAdd, Nat.reduceLT, Nat.reduceLeDiff, Nat.reduceMul, Nat.reduceSub, ↓reduceIte, decide_true, decide_false, Bool.true_eq_false, Bool.false_eq_true, Bool.not_true, Bool.not_false, if_true, if_false, and_true, true_and, memE, celE, w64, Nat.zero_add, Nat.add_zero, Nat.mul_one, putL, and_self, ldn, ext_2_0, ext_2_1]
  refine callH_rc (C13 _ X13) ?_
  rintro r new ⟨rfl, nr⟩
  obtain ⟨M14, hM14⟩ : ∃ M, M = M13 ++ new := ⟨_, rfl⟩
  have W14 : OwnR M14 wi w := by rw [hM14]; exact W13.ext _
  have B14 : BytesA M14 0 l := by rw [hM14]; exact B13.ext _
  have P14 : OwnR M14 Pi bl := by rw [hM14]; exact P13.ext _
  have Q14 : OwnR M14 Qi bl := by rw [hM14]; exact Q13.ext _
  have X14 : OwnR M14 xi x := by rw [hM14]; exact X13.ext _
  rw [← hM14]
  clear W13 B13 P13 Q13 X13
  clear hM14 nr
  simp (config := {implicitDefEqProofs := false, maxDischargeDepth := 20}) (disch := first | omega | (simp only [lenE]; done) | (simp only [lenE]; omega) | rfl | (simp only [lenE, markR_len]; done) | (simp only [lenE, markR_len]; omega)) only [runE, mapE, listE, initT_5, initT_6, initT_7, initT_8, resV, oneV, binA, unA, reduceCtorEq, Nat.reduceEqDiff, Nat.reduceAdd, Nat.reduceLT, Nat.reduceLeDiff, Nat.reduceMul, Nat.reduceSub, ↓reduceIte, decide_true, decide_false, Bool.true_eq_false, Bool.false_eq_true, Bool.not_true, Bool.not_false, if_true, if_false, and_true, true_and, memE, celE, w64, Nat.zero_add, Nat.add_zero, Nat.mul_one, putL, and_self, ldn, ext_2_0, ext_2_1]
  refine callH_rc (C14 _ X14) ?_
  rintro r new ⟨rfl, nr⟩
  obtain ⟨M15, hM15⟩ : ∃ M, M = M14 ++ new := ⟨_, rfl⟩
  have W15 : OwnR M15 wi w := by rw [hM15]; exact W14.ext _
  have B15 : BytesA M15 0 l := by rw [hM15]; exact B14.ext _
  have P15 : OwnR M15 Pi bl := by rw [hM15]; exact P14.ext _
  have Q15 : OwnR M15 Qi bl := by rw [hM15]; exact Q14.ext _
  have X15 : OwnR M15 xi x := by rw [hM15]; exact X14.ext _
  rw [← hM15]
  clear W14 B14 P14 Q14 X14
  clear hM15 nr
  simp (config := {implicitDefEqProofs := false, maxDischargeDepth := 20}) (disch := first | omega | (simp only [lenE]; done) | (simp only [lenE]; omega) | rfl | (simp only [lenE, markR_len]; done) | (simp only [lenE, markR_len]; omega)) only [runE, mapE, listE, initT_5, initT_6, initT_7, initT_8, resV, oneV, binA, unA, reduceCtorEq, Nat.reduceEqDiff, Nat.reduceAdd, Nat.reduceLT, Nat.reduceLeDiff, Nat.reduceMul, Nat.reduceSub, ↓reduceIte, decide_true, decide_false, Bool.true_eq_false, Bool.false_eq_true, Bool.not_true, Bool.not_false, if_true, if_false, and_true, true_and, memE, celE, w64, Nat.zero_add, Nat.add_zero, Nat.mul_one, putL, and_self, ldn, ext_2_0, ext_2_1]
  refine callH_rc (C15 _ X15) ?_
  rintro r new ⟨rfl, nr⟩
  obtain ⟨M16, hM16⟩ : ∃ M, M = M15 ++ new := ⟨_, rfl⟩
  have W16 : OwnR M16 wi w := by rw [hM16]; exact W15.ext _
  have B16 : BytesA M16 0 l := by rw [hM16]; exact B15.ext _
  have P16 : OwnR M16 Pi bl := by rw [hM16]; exact P15.ext _
  have Q16 : OwnR M16 Qi bl := by rw [hM16]; exact Q15.ext _
  have X16 : OwnR M16 xi x := by rw [hM16]; exact X15.ext _
  rw [← hM16]
  clear W15 B15 P15 Q15 X15
  clear hM16 nr
  simp (config := {implicitDefEqProofs := false, maxDischargeDepth := 20}) (disch := first | omega | (simp only [lenE]; done) | (simp only [lenE]; omega) | rfl | (simp only [lenE, markR_len]; done) | (simp only [lenE, markR_len]; omega)) only [runE, mapE, listE, initT_5, initT_6, initT_7, initT_8, resV, oneV, binA, unA, reduceCtorEq, Nat.reduceEqDiff, Nat.reduceAdd, Nat.reduceLT, Nat.reduceLeDiff, Nat.reduceMul, Nat.reduceSub, ↓reduceIte, decide_true, decide_false, Bool.true_eq_false, Bool.false_eq_true, Bool.not_true, Bool.not_false, if_true, if_false, and_true, true_and, memE, celE, w64, Nat.zero_add, Nat.add_zero, Nat.mul_one, putL, and_self, ldn, ext_2_0, ext_2_1]
  refine callH_rc (C16 _ X16) ?_
  rintro r new ⟨rfl, nr⟩
  obtain ⟨M17, hM17⟩ : ∃ M, M = M16 ++ new := ⟨_, rfl⟩
  have W17 : OwnR M17 wi w := by rw [hM17]; exact W16.ext _
  have B17 : BytesA M17 0 l := by rw [hM17]; exact B16.ext _
  have P17 : OwnR M17 Pi bl := by rw [hM17]; exact P16.ext _
  have Q17 : OwnR M17 Qi bl := by rw [hM17]; exact Q16.ext _
  have X17 : OwnR M17 xi x := by rw [hM17]; exact X16.ext _
  rw [← hM17]
  clear W16 B16 P16 Q16 X16
  clear hM17 nr
  simp (config := {implicitDefEqProofs := false, maxDischargeDepth := 20}) (disch := first | omega | (simp only [lenE]; done) | (simp only [lenE]; omega) | rfl | (simp only [lenE, markR_len]; done) | (simp only [lenE, markR_len]; omega)) only [runE, mapE, listE, initT_5, initT_6, initT_7, initT_8, resV, oneV, binA, unA, reduceCtorEq, Nat.reduceEqDiff, Nat.reduceAdd, Nat.reduceLT, Nat.reduceLeDiff, Nat.reduceMul, Nat.reduceSub, ↓reduceIte, decide_true, decide_false, Bool.true_eq_false, Bool.false_eq_true, Bool.not_true, Bool.not_false, if_true, if_false, and_true, true_and, memE, celE, w64, Nat.zero_add, Nat.add_zero, Nat.mul_one, putL, and_self, ldn, ext_2_0, ext_2_1]
  refine callH_rc (C17 _ X17) ?_
  rintro r new ⟨rfl, nr⟩
  obtain ⟨M18, hM18⟩ : ∃ M, M = M17 ++ new := ⟨_, rfl⟩
  have W18 : OwnR M18 wi w := by rw [hM18]; exact W17.ext _
  have B18 : BytesA M18 0 l := by rw [hM18]; exact B17.ext _
  have P18 : OwnR M18 Pi bl := by rw [hM18]; exact P17.ext _
  have Q18 : OwnR M18 Qi bl := by rw [hM18]; exact Q17.ext _
  have X18 : OwnR M18 xi x := by rw [hM18]; exact X17.ext _
  rw [← hM18]
  clear W17 B17 P17 Q17 X17
  clear hM18 nr
  simp (config := {implicitDefEqProofs := false, maxDischargeDepth := 20}) (disch := first | omega | (simp only [lenE]; done) | (simp only [lenE]; omega) | rfl | (simp only [lenE, markR_len]; done) | (simp only [lenE, markR_len]; omega)) only [runE, mapE, listE, initT_5, initT_6, initT_7, initT_8, resV, oneV, binA, unA, reduceCtorEq, Nat.reduceEqDiff, Nat.reduceAdd, Nat.reduceLT, Nat.reduceLeDiff, Nat.reduceMul, Nat.reduceSub, ↓reduceIte, decide_true, decide_false, Bool.true_eq_false, Bool.false_eq_true, Bool.not_true, Bool.not_false, if_true, if_false, and_true, true_and, memE, celE, w64, Nat.zero_add, Nat.add_zero, Nat.mul_one, putL, and_self, ldn, ext_2_0, ext_2_1]
  refine callH_rc (C18 _ X18) ?_
  rintro r new ⟨rfl, nr⟩
  obtain ⟨M19, hM19⟩ : ∃ M, M = M18 ++ new := ⟨_, rfl⟩
  have W19 : OwnR M19 wi w := by rw [hM19]; exact W18.ext _
  have B19 : BytesA M19 0 l := by rw [hM19]; exact B18.ext _
  have P19 : OwnR M19 Pi bl := by rw [hM19]; exact P18.ext _
  have Q19 : OwnR M19 Qi bl := by rw [hM19]; exact Q18.ext _
  have X19 : OwnR M19 xi x := by rw [hM19]; exact X18.ext _
  rw [← hM19]
  clear W18 B18 P18 Q18 X18
  clear hM19 nr
  simp (config := {implicitDefEqProofs := false, maxDischargeDepth := 20}) (disch := first | omega | (simp only [lenE]; done) | (simp only [lenE]; omega) | rfl | (simp only [lenE, markR_len]; done) | (simp only [lenE, markR_len]; omega)) only [runE, mapE, listE, initT_5, initT_6, initT_7, initT_8, resV, oneV, binA, unA, reduceCtorEq, Nat.reduceEqDiff, Nat.reduceAdd, Nat.reduceLT, Nat.reduceLeDiff, Nat.reduceMul, Nat.reduceSub, ↓reduceIte, decide_true, decide_false, Bool.true_eq_false, Bool.false_eq_true, Bool.not_true, Bool.not_false, if_true, if_false, and_true, true_and, memE, celE, w64, Nat.zero_add, Nat.add_zero, Nat.mul_one, putL, and_self, ldn, ext_2_0, ext_2_1]
  have IB : ∀ {M : Mem} {i f : Nat}, OwnR M i bl → IntsA M (.slice (some ⟨i, 0, none⟩) bl.length f) bl := fun h => h.ints (by omega) _
  simp (config := {implicitDefEqProofs := false, maxDischargeDepth := 20}) (disch := first | omega | (simp only [lenE]; done) | (simp only [lenE]; omega) | rfl | (simp only [lenE, markR_len]; done) | (simp only [lenE, markR_len]; omega)) only [runE, mapE, listE, initT_5, initT_6, initT_7, initT_8, resV, oneV, binA, unA, reduceCtorEq, Nat.reduceEqDiff, Nat.reduceAdd, Nat.reduceLT, Nat.reduceLeDiff, Nat.reduceMul, Nat.reduceSub, ↓reduceIte, decide_true, decide_false, Bool.true_eq_false, Bool.false_eq_true, Bool.not_true, Bool.not_false, if_true, if_false, and_true, true_and, memE, celE, w64, Nat.zero_add, Nat.add_zero, Nat.mul_one, putL, and_self, ldn, bne_self_eq_false, beq_self_eq_true]
  refine callH_rc (vInts_rc _ _ _ bl (IB P19) (IB Q19)) ?_
  rintro r new ⟨rfl, rfl⟩
  rw [List.append_nil]
  clear Q19
  simp (config := {implicitDefEqProofs := false, maxDischargeDepth := 20}) (disch := first | omega | (simp only [lenE]; done) | (simp only [lenE]; omega) | rfl | (simp only [lenE, markR_len]; done) | (simp only [lenE, markR_len]; omega)) only [runE, mapE, listE, initT_5, initT_6, initT_7, initT_8, resV, oneV, binA, unA, reduceCtorEq, Nat.reduceEqDiff, Nat.reduceAdd, Nat.reduceLT, Nat.reduceLeDiff, Nat.reduceMul, Nat.reduceSub, ↓reduceIte, decide_true, decide_false, Bool.true_eq_false, Bool.false_eq_true, Bool.not_true, Bool.not_false, if_true, if_false, and_true, true_and, memE, celE, w64, Nat.zero_add, Nat.add_zero, Nat.mul_one, putL, and_self, ldn, bne_self_eq_false, beq_self_eq_true]
  refine callH_rc (C5 _ W19) ?_
  rintro r new ⟨rfl, nr⟩
  obtain ⟨M20, hM20⟩ : ∃ M, M = M19 ++ new := ⟨_, rfl⟩
  have W20 : OwnR M20 wi w := by rw [hM20]; exact W19.ext _
  have B20 : BytesA M20 0 l := by rw [hM20]; exact B19.ext _
  have P20 : OwnR M20 Pi bl := by rw [hM20]; exact P19.ext _
  have X20 : OwnR M20 xi x := by rw [hM20]; exact X19.ext _
  rw [← hM20]
  clear W19 B19 P19 X19
  clear hM20 nr
  simp (config := {implicitDefEqProofs := false, maxDischargeDepth := 20}) (disch := first | omega | (simp only [lenE]; done) | (simp only [lenE]; omega) | rfl | (simp only [lenE, markR_len]; done) | (simp only [lenE, markR_len]; omega)) only [runE, mapE, listE, initT_5, initT_6, initT_7, initT_8, resV, oneV, binA, unA, reduceCtorEq, Nat.reduceEqDiff, Nat.reduceAdd, Nat.reduceLT, Nat.reduceLeDiff, Nat.reduceMul, Nat.reduceSub, ↓reduceIte, decide_true, decide_false, Bool.true_eq_false, Bool.false_eq_true, Bool.not_true, Bool.not_false, if_true, if_false, and_true, true_and, memE, celE, w64, Nat.zero_add, Nat.add_zero, Nat.mul_one, putL, and_self, ldn, bne_self_eq_false, beq_self_eq_true]
  refine callH_rc (C6 _ W20) ?_
  rintro r new ⟨rfl, nr⟩
  obtain ⟨M21, hM21⟩ : ∃ M, M = M20 ++ new := ⟨_, rfl⟩
  have W21 : OwnR M21 wi w := by rw [hM21]; exact W20.ext _
  have B21 : BytesA M21 0 l := by rw [hM21]; exact B20.ext _
  have P21 : OwnR M21 Pi bl := by rw [hM21]; exact P20.ext _
  have X21 : OwnR M21 xi x := by rw [hM21]; exact X20.ext _
  rw [← hM21]
  clear W20 B20 P20 X20
  clear hM21 nr
  simp (config := {implicitDefEqProofs := false, maxDischargeDepth := 20}) (disch := first | omega | (simp only [lenE]; done) | (simp only [lenE]; omega) | rfl | (simp only [lenE, markR_len]; done) | (simp only [lenE, markR_len]; omega)) only [runE, mapE, listE, initT_5, initT_6, initT_7, initT_8, resV, oneV, binA, unA, reduceCtorEq, Nat.reduceEqDiff, Nat.reduceAdd, Nat.reduceLT, Nat.reduceLeDiff, Nat.reduceMul, Nat.reduceSub, ↓reduceIte, decide_true, decide_false, Bool.true_eq_false, Bool.false_eq_true, Bool.not_true, Bool.not_false, if_true, if_false, and_true, true_and, memE, celE, w64, Nat.zero_add, Nat.add_zero, Nat.mul_one, putL, and_self, ldn, bne_self_eq_false, beq_self_eq_true]
  have TX : to_ = true → (0 ≤ vl ∧ vl ≤ 256000) ∧ (0 ≤ vs ∧ vs ≤ 256000) ∧ (0 ≤ y * vt ∧ y * vt ≤ 240000) ∧ (0 ≤ vm ∧ vm ≤ 256000) ∧ vl - vs = y * vt - vm ∧ vu ≤ vt := by
    intro ht
    rw [hto] at ht
    obtain ⟨gx, n, rfl, hn⟩ := ordB_yes ht
    have hdx : distB x = true := dist_iff.2 gx
    rw [hvl, hvs, hvm, hvt, hvu, ht, hdx]
    simp only [cond_true, Int.toNat_natCast]
    have b1 := overS_in gx (q := n) (by omega)
    have b2 := shortS_in gx n
    have b3 := shortS_in gx 0
    have b4 := tot_in gx
    have b5 := up_in gx n
    have b6 := off_mean x n
    have b7 := mul_in (a := (n : Int)) (x := tot x) (A := 15) (B := 16000) ⟨by omega, by omega⟩ ⟨by omega, b4.2⟩
    exact ⟨b1, b2, b7, b3, b6, b5.2⟩
  have TC : tc = true → (0 ≤ a * vl ∧ a * vl ≤ 5120000) ∧ (0 ≤ b * vs ∧ b * vs ≤ 5120000) ∧ vc = a * vl + b * vs := by
    intro ht
    rw [htc] at ht
    obtain ⟨gx, ga, gb, n, rfl, hn⟩ := costB_yes ht
    have ht2 : ordB x (n : Int) = true := by
      rw [costB_swap, Bool.and_eq_true] at ht
      exact ht.1
    rw [hvl, hvs, hvc, ht, ht2]
    simp only [cond_true, Int.toNat_natCast]
    have b1 := cost_parts gx ga gb (q := n) (by omega)
    exact ⟨b1.1, b1.2, rfl⟩
  have three : to_ = false ∨ (to_ = true ∧ tc = false) ∨ (to_ = true ∧ tc = true) := by cases to_ <;> cases tc <;> simp
  clear htc hvc hto hvl hvs hvu htd hvm hvt C1 C2 C3 C4 C5 C6 C7 C8 C9 C10 C11 C12 C13 C14 C15 C16 C17 C18 IX X21
  cases hok' : ok with
  | false =>
    rcases three with h0 | ⟨h1, h2⟩ | ⟨h1, h2⟩
    · rw [h0]
      simp (config := {implicitDefEqProofs := false, maxDischargeDepth := 20}) (disch := first | omega | (simp only [lenE]; done) | (simp only [lenE]; omega) | rfl | (simp only [lenE, markR_len]; done) | (simp only [lenE, markR_len]; omega)) only [runE, mapE, listE, initT_5, initT_6, initT_7, initT_8, resV, oneV, binA, unA, reduceCtorEq, Nat.reduceEqDiff, Nat.reduceAdd, Nat.reduceLT, Nat.reduceLeDiff, Nat.reduceMul, Nat.reduceSub, ↓reduceIte, decide_true, decide_false, Bool.true_eq_false, Bool.false_eq_true, Bool.not_true, Bool.not_false, if_true, if_false, and_true, true_and, memE, celE, w64, Nat.zero_add, Nat.add_zero, Nat.mul_one, putL, and_self, ldn, goG_undef]
    · obtain ⟨t1, t2, t3, t4, t5, t6⟩ := TX h1
      have e1 : (vl - vs != y * vt - vm) = false := by rw [t5]; simp
      have e2 : ¬ (vt < vu) := by omega
      rw [h1, h2]
      simp (config := {implicitDefEqProofs := false, maxDischargeDepth := 20}) (disch := first | omega | (simp only [lenE]; done) | (simp only [lenE]; omega) | rfl | (simp only [lenE, markR_len]; done) | (simp only [lenE, markR_len]; omega)) only [runE, mapE, listE, initT_5, initT_6, initT_7, initT_8, resV, oneV, binA, unA, reduceCtorEq, Nat.reduceEqDiff, Nat.reduceAdd, Nat.reduceLT, Nat.reduceLeDiff, Nat.reduceMul, Nat.reduceSub, ↓reduceIte, decide_true, decide_false, Bool.true_eq_false, Bool.false_eq_true, Bool.not_true, Bool.not_false, if_true, if_false, and_true, true_and, memE, celE, w64, Nat.zero_add, Nat.add_zero, Nat.mul_one, putL, and_self, ldn, goG_undef, e1, gt_iff_lt, e2]
    · obtain ⟨t1, t2, t3, t4, t5, t6⟩ := TX h1
      obtain ⟨c1, c2, c3⟩ := TC h2
      have e1 : (vl - vs != y * vt - vm) = false := by rw [t5]; simp
      have e2 : ¬ (vt < vu) := by omega
      have e3 : (vc != a * vl + b * vs) = false := by rw [c3]; simp
      rw [h1, h2]
      simp (config := {implicitDefEqProofs := false, maxDischargeDepth := 20}) (disch := first | omega | (simp only [lenE]; done) | (simp only [lenE]; omega) | rfl | (simp only [lenE, markR_len]; done) | (simp only [lenE, markR_len]; omega)) only [runE, mapE, listE, initT_5, initT_6, initT_7, initT_8, resV, oneV, binA, unA, reduceCtorEq, Nat.reduceEqDiff, Nat.reduceAdd, Nat.reduceLT, Nat.reduceLeDiff, Nat.reduceMul, Nat.reduceSub, ↓reduceIte, decide_true, decide_false, Bool.true_eq_false, Bool.false_eq_true, Bool.not_true, Bool.not_false, if_true, if_false, and_true, true_and, memE, celE, w64, Nat.zero_add, Nat.add_zero, Nat.mul_one, putL, and_self, ldn, goG_undef, e1, gt_iff_lt, e2, e3]
  | true =>
    rw [hok'] at hok
    have hok2 := hok.symm
    obtain ⟨gw, go, gu⟩ := dcB_yes hok2
    obtain ⟨k, k1, k2, kb⟩ := best_all gw go.1 gu.1
    have eq : q = (critF w o u : Int) := by rw [hq, hok2]; rfl
    have ebl : bl = riseL (critF w o u) k := by rw [hbl, bestA_yes hok2, kb]
    have hlk : bl.length = k := by rw [ebl, riseL_len]
    have hcr := crit_le (u := u) gw go.1
    have v0 : bl.getD 0 0 = q := by rw [ebl, riseL_at (by omega), eq]; simp
    have v1 : bl.getD (bl.length - 1) 0 = q + ((bl.length - 1 : Nat) : Int) := by rw [hlk, ebl, riseL_at (by omega), eq]; omega
    have hP := IB (f := Pf) P21
    have p0 : iadA 1 (.slice (some ⟨Pi, 0, none⟩) bl.length Pf) (.int .i64 0) = some (pAt (.slice (some ⟨Pi, 0, none⟩) bl.length Pf) 0) := hP.at_ 0 (by omega)
    have p1 := hP.ld 0 (by omega)
    have p2 := hP.at_ (bl.length - 1) (by omega)
    have p3 := hP.ld (bl.length - 1) (by omega)
    rw [v0] at p1
    rw [v1] at p3
    have ei : (bl.length : Int) - 1 = ((bl.length - 1 : Nat) : Int) := by omega
    have l0 : ((bl.length : Int) == 0) = false := by rw [beq_eq_false_iff_ne]; omega
    have e9 : (q + ((bl.length - 1 : Nat) : Int) - q != ((bl.length - 1 : Nat) : Int)) = false := by
      rw [show q + ((bl.length - 1 : Nat) : Int) - q = ((bl.length - 1 : Nat) : Int) by omega]; simp
    have bq : 0 ≤ q ∧ q ≤ 15 := by omega
    clear hok ebl kb hbl hq
    generalize hbk : bl.length - 1 = kk at *
    have bkk : (kk : Int) ≤ 16 := by omega
    have D1 : ∀ M (j : Nat), j ≤ 15 → OwnR M wi w → RC Try.prog 31 [.slice (some ⟨wi, 0, none⟩) w.length 1, .int .i64 o, .int .i64 u, .int .i64 j] M (AnsV (.tuple #[.int .i64 (costF w o u j), .bool true])) := fun M j hj h => by
      have := implCostSum_rc _ _ w o u j (IW M h)
      have hc : costB w o u (j : Int) = true := by
        unfold costB; rw [hok2, Bool.true_and, inB_iff]; omega
      rw [hc] at this
      exact this
    have D2 : ∀ M, OwnR M wi w → RC Try.prog 39 [.slice (some ⟨wi, 0, none⟩) w.length 1] M (AnsV (.tuple #[.int .i64 (tot w), .bool true])) := fun M h => by
      have := implTotalWeight_rc _ _ w (IW M h)
      rw [dist_iff.2 gw] at this
      exact this
    have D3 : ∀ M (j : Nat), j ≤ 15 → OwnR M wi w → RC Try.prog 41 [.slice (some ⟨wi, 0, none⟩) w.length 1, .int .i64 j] M (AnsV (.tuple #[.int .i64 (upF w j), .bool true])) := fun M j hj h => by
      have := implWeightUpTo_rc _ _ w j (IW M h)
      have hc : ordB w (j : Int) = true := by
        unfold ordB; rw [dist_iff.2 gw, Bool.true_and, inB_iff]; omega
      rw [hc] at this
      exact this
    have run : ∀ (X : Prop), X → X := fun X h => h
    rcases three with h0 | ⟨h1, h2⟩ | ⟨h1, h2⟩
    · rw [h0]
      simp (config := {implicitDefEqProofs := false, maxDischargeDepth := 20}) (disch := first | omega | (simp only [lenE]; done) | (simp only [lenE]; omega) | rfl | (simp only [lenE, markR_len]; done) | (simp only [lenE, markR_len]; omega)) only [runE, mapE, listE, initT_5, initT_6, initT_7, initT_8, resV, oneV, binA, unA, reduceCtorEq, Nat.reduceEqDiff, Nat.reduceAdd, Nat.reduceLT, Nat.reduceLeDiff, Nat.reduceMul, Nat.reduceSub, ↓reduceIte, decide_true, decide_false, Bool.true_eq_false, Bool.false_eq_true, Bool.not_true, Bool.not_false, if_true, if_false, and_true, true_and, memE, celE, w64, Nat.zero_add, Nat.add_zero, Nat.mul_one, putL, and_self, ldn, goG_undef, l0, p0, p1, bne_self_eq_false, ei, p2, p3, e9]
      refine callH_rc (D2 _ W21) ?_
      rintro r new ⟨rfl, nr⟩
      have W' := W21.ext new
      generalize M21 ++ new = M' at *
      simp (config := {implicitDefEqProofs := false, maxDischargeDepth := 20}) (disch := first | omega | (simp only [lenE]; done) | (simp only [lenE]; omega) | rfl | (simp only [lenE, markR_len]; done) | (simp only [lenE, markR_len]; omega)) only [runE, mapE, listE, initT_5, initT_6, initT_7, initT_8, resV, oneV, binA, unA, reduceCtorEq, Nat.reduceEqDiff, Nat.reduceAdd, Nat.reduceLT, Nat.reduceLeDiff, Nat.reduceMul, Nat.reduceSub, ↓reduceIte, decide_true, decide_false, Bool.true_eq_false, Bool.false_eq_true, Bool.not_true, Bool.not_false, if_true, if_false, and_true, true_and, memE, celE, w64, Nat.zero_add, Nat.add_zero, Nat.mul_one, putL, and_self, ldn, ext_2_0, ext_2_1]
      refine loop_inv mixed (fun s => ∃ (j : Nat) (M : Mem), j ≤ 15 ∧ s.m = M ∧ OwnR M wi w ∧ s.t 3 = .slice (some ⟨wi, 0, none⟩) w.length 1 ∧ s.t 4 = .int .i64 o ∧ s.t 5 = .int .i64 u ∧ s.t 42 = .int .i64 (tot w) ∧ s.t 44 = .int .i64 j) (fun s => 20 - (intOf (s.t 44)).toNat)
        ⟨0, M', by omega, rfl, W', rfl, rfl, rfl, rfl, rfl⟩ ?_
      rintro s ⟨j, M, hj, tm, W, t3, t4, t5, t42, t44⟩
      by_cases hlt : j < 15
      · have hlt' : (j : Int) < 15 := by omega
        have ej : (j : Int) + 1 = ((j + 1 : Nat) : Int) := by omega
        have b1 := cost_in gw go gu (q := j) (by omega)
        have b2 := cost_in gw go gu (q := j + 1) (by omega)
        have b3 := quo_in gw go gu j
        have hn := cost_next w o u j
        have e4 : (costF w o u (j + 1) - costF w o u j != (o + u) * upF w j - u * tot w) = false := by
          rw [show costF w o u (j + 1) - costF w o u j = (o + u) * upF w j - u * tot w by omega]; simp
        simp (config := {implicitDefEqProofs := false, maxDischargeDepth := 20}) (disch := first | omega | (simp only [lenE]; done) | (simp only [lenE]; omega) | rfl | (simp only [lenE, markR_len]; done) | (simp only [lenE, markR_len]; omega)) only [runE, mapE, listE, initT_5, initT_6, initT_7, initT_8, resV, oneV, binA, unA, reduceCtorEq, Nat.reduceEqDiff, Nat.reduceAdd, Nat.reduceLT, Nat.reduceLeDiff, Nat.reduceMul, Nat.reduceSub, ↓reduceIte, decide_true, decide_false, Bool.true_eq_false, Bool.false_eq_true, Bool.not_true, Bool.not_false, if_true, if_false, and_true, true_and, memE, celE, w64, Nat.zero_add, Nat.add_zero, Nat.mul_one, putL, and_self, ldn, tm, t3, t4, t5, t42, t44, hlt']
        refine callH_rc (D1 _ j (by omega) W) ?_
        rintro r new ⟨rfl, nr⟩
        have W2 := W.ext new
        simp (config := {implicitDefEqProofs := false, maxDischargeDepth := 20}) (disch := first | omega | (simp only [lenE]; done) | (simp only [lenE]; omega) | rfl | (simp only [lenE, markR_len]; done) | (simp only [lenE, markR_len]; omega)) only [runE, mapE, listE, initT_5, initT_6, initT_7, initT_8, resV, oneV, binA, unA, reduceCtorEq, Nat.reduceEqDiff, Nat.reduceAdd, Nat.reduceLT, Nat.reduceLeDiff, Nat.reduceMul, Nat.reduceSub, ↓reduceIte, decide_true, decide_false, Bool.true_eq_false, Bool.false_eq_true, Bool.not_true, Bool.not_false, if_true, if_false, and_true, true_and, memE, celE, w64, Nat.zero_add, Nat.add_zero, Nat.mul_one, putL, and_self, ldn, tm, t3, t4, t5, t42, t44, ext_2_0, ext_2_1, ej]
        refine callH_rc (D1 _ (j + 1) (by omega) W2) ?_
        rintro r new2 ⟨rfl, nr2⟩
        have W3 := W2.ext new2
        simp (config := {implicitDefEqProofs := false, maxDischargeDepth := 20}) (disch := first | omega | (simp only [lenE]; done) | (simp only [lenE]; omega) | rfl | (simp only [lenE, markR_len]; done) | (simp only [lenE, markR_len]; omega)) only [runE, mapE, listE, initT_5, initT_6, initT_7, initT_8, resV, oneV, binA, unA, reduceCtorEq, Nat.reduceEqDiff, Nat.reduceAdd, Nat.reduceLT, Nat.reduceLeDiff, Nat.reduceMul, Nat.reduceSub, ↓reduceIte, decide_true, decide_false, Bool.true_eq_false, Bool.false_eq_true, Bool.not_true, Bool.not_false, if_true, if_false, and_true, true_and, memE, celE, w64, Nat.zero_add, Nat.add_zero, Nat.mul_one, putL, and_self, ldn, tm, t3, t4, t5, t42, t44, ext_2_0, ext_2_1]
        refine callH_rc (D3 _ j (by omega) W3) ?_
        rintro r new3 ⟨rfl, nr3⟩
        have W4 := W3.ext new3
        simp (config := {implicitDefEqProofs := false, maxDischargeDepth := 20}) (disch := first | omega | (simp only [lenE]; done) | (simp only [lenE]; omega) | rfl | (simp only [lenE, markR_len]; done) | (simp only [lenE, markR_len]; omega)) only [runE, mapE, listE, initT_5, initT_6, initT_7, initT_8, resV, oneV, binA, unA, reduceCtorEq, Nat.reduceEqDiff, Nat.reduceAdd, Nat.reduceLT, Nat.reduceLeDiff, Nat.reduceMul, Nat.reduceSub, ↓reduceIte, decide_true, decide_false, Bool.true_eq_false, Bool.false_eq_true, Bool.not_true, Bool.not_false, if_true, if_false, and_true, true_and, memE, celE, w64, Nat.zero_add, Nat.add_zero, Nat.mul_one, putL, and_self, ldn, tm, t3, t4, t5, t42, t44, ext_2_0, ext_2_1, e4, ej]
        exact ⟨⟨j + 1, _, by omega, rfl, W4, by simp⟩, by simp [intOf]; omega⟩
      · have hlt' : ¬ ((j : Int) < 15) := by omega
        simp (config := {implicitDefEqProofs := false, maxDischargeDepth := 20}) (disch := first | omega | (simp only [lenE]; done) | (simp only [lenE]; omega) | rfl | (simp only [lenE, markR_len]; done) | (simp only [lenE, markR_len]; omega)) only [runE, mapE, listE, initT_5, initT_6, initT_7, initT_8, resV, oneV, binA, unA, reduceCtorEq, Nat.reduceEqDiff, Nat.reduceAdd, Nat.reduceLT, Nat.reduceLeDiff, Nat.reduceMul, Nat.reduceSub, ↓reduceIte, decide_true, decide_false, Bool.true_eq_false, Bool.false_eq_true, Bool.not_true, Bool.not_false, if_true, if_false, and_true, true_and, memE, celE, w64, Nat.zero_add, Nat.add_zero, Nat.mul_one, putL, and_self, ldn, tm, t3, t4, t5, t42, t44, hlt']
    · obtain ⟨t1, t2, t3, t4, t5, t6⟩ := TX h1
      have e1 : (vl - vs != y * vt - vm) = false := by rw [t5]; simp
      have e2 : ¬ (vt < vu) := by omega
      rw [h1, h2]
      simp (config := {implicitDefEqProofs := false, maxDischargeDepth := 20}) (disch := first | omega | (simp only [lenE]; done) | (simp only [lenE]; omega) | rfl | (simp only [lenE, markR_len]; done) | (simp only [lenE, markR_len]; omega)) only [runE, mapE, listE, initT_5, initT_6, initT_7, initT_8, resV, oneV, binA, unA, reduceCtorEq, Nat.reduceEqDiff, Nat.reduceAdd, Nat.reduceLT, Nat.reduceLeDiff, Nat.reduceMul, Nat.reduceSub, ↓reduceIte, decide_true, decide_false, Bool.true_eq_false, Bool.false_eq_true, Bool.not_true, Bool.not_false, if_true, if_false, and_true, true_and, memE, celE, w64, Nat.zero_add, Nat.add_zero, Nat.mul_one, putL, and_self, ldn, goG_undef, e1, gt_iff_lt, e2, l0, p0, p1, bne_self_eq_false, ei, p2, p3, e9]
      refine callH_rc (D2 _ W21) ?_
      rintro r new ⟨rfl, nr⟩
      have W' := W21.ext new
      generalize M21 ++ new = M' at *
      simp (config := {implicitDefEqProofs := false, maxDischargeDepth := 20}) (disch := first | omega | (simp only [lenE]; done) | (simp only [lenE]; omega) | rfl | (simp only [lenE, markR_len]; done) | (simp only [lenE, markR_len]; omega)) only [runE, mapE, listE, initT_5, initT_6, initT_7, initT_8, resV, oneV, binA, unA, reduceCtorEq, Nat.reduceEqDiff, Nat.reduceAdd, Nat.reduceLT, Nat.reduceLeDiff, Nat.reduceMul, Nat.reduceSub, ↓reduceIte, decide_true, decide_false, Bool.true_eq_false, Bool.false_eq_true, Bool.not_true, Bool.not_false, if_true, if_false, and_true, true_and, memE, celE, w64, Nat.zero_add, Nat.add_zero, Nat.mul_one, putL, and_self, ldn, ext_2_0, ext_2_1]
      refine loop_inv mixed (fun s => ∃ (j : Nat) (M : Mem), j ≤ 15 ∧ s.m = M ∧ OwnR M wi w ∧ s.t 3 = .slice (some ⟨wi, 0, none⟩) w.length 1 ∧ s.t 4 = .int .i64 o ∧ s.t 5 = .int .i64 u ∧ s.t 42 = .int .i64 (tot w) ∧ s.t 44 = .int .i64 j) (fun s => 20 - (intOf (s.t 44)).toNat)
        ⟨0, M', by omega, rfl, W', rfl, rfl, rfl, rfl, rfl⟩ ?_
      rintro s ⟨j, M, hj, tm, W, t3, t4, t5, t42, t44⟩
      by_cases hlt : j < 15
      · have hlt' : (j : Int) < 15 := by omega
        have ej : (j : Int) + 1 = ((j + 1 : Nat) : Int) := by omega
        have b1 := cost_in gw go gu (q := j) (by omega)
        have b2 := cost_in gw go gu (q := j + 1) (by omega)
        have b3 := quo_in gw go gu j
        have hn := cost_next w o u j
        have e4 : (costF w o u (j + 1) - costF w o u j != (o + u) * upF w j - u * tot w) = false := by
          rw [show costF w o u (j + 1) - costF w o u j = (o + u) * upF w j - u * tot w by omega]; simp
        simp (config := {implicitDefEqProofs := false, maxDischargeDepth := 20}) (disch := first | omega | (simp only [lenE]; done) | (simp only [lenE]; omega) | rfl | (simp only [lenE, markR_len]; done) | (simp only [lenE, markR_len]; omega)) only [runE, mapE, listE, initT_5, initT_6, initT_7, initT_8, resV, oneV, binA, unA, reduceCtorEq, Nat.reduceEqDiff, Nat.reduceAdd, Nat.reduceLT, Nat.reduceLeDiff, Nat.reduceMul, Nat.reduceSub, ↓reduceIte, decide_true, decide_false, Bool.true_eq_false, Bool.false_eq_true, Bool.not_true, Bool.not_false, if_true, if_false, and_true, true_and, memE, celE, w64, Nat.zero_add, Nat.add_zero, Nat.mul_one, putL, and_self, ldn, tm, t3, t4, t5, t42, t44, hlt']
        refine callH_rc (D1 _ j (by omega) W) ?_
        rintro r new ⟨rfl, nr⟩
        have W2 := W.ext new
        simp (config := {implicitDefEqProofs := false, maxDischargeDepth := 20}) (disch := first | omega | (simp only [lenE]; done) | (simp only [lenE]; omega) | rfl | (simp only [lenE, markR_len]; done) | (simp only [lenE, markR_len]; omega)) only [runE, mapE, listE, initT_5, initT_6, initT_7, initT_8, resV, oneV, binA, unA, reduceCtorEq, Nat.reduceEqDiff, Nat.reduceAdd, Nat.reduceLT, Nat.reduceLeDiff, Nat.reduceMul, Nat.reduceSub, ↓reduceIte, decide_true, decide_false, Bool.true_eq_false, Bool.false_eq_true, Bool.not_true, Bool.not_false, if_true, if_false, and_true, true_and, memE, celE, w64, Nat.zero_add, Nat.add_zero, Nat.mul_one, putL, and_self, ldn, tm, t3, t4, t5, t42, t44, ext_2_0, ext_2_1, ej]
        refine callH_rc (D1 _ (j + 1) (by omega) W2) ?_
        rintro r new2 ⟨rfl, nr2⟩
        have W3 := W2.ext new2
        simp (config := {implicitDefEqProofs := false, maxDischargeDepth := 20}) (disch := first | omega | (simp only [lenE]; done) | (simp only [lenE]; omega) | rfl | (simp only [lenE, markR_len]; done) | (simp only [lenE, markR_len]; omega)) only [runE, mapE, listE, initT_5, initT_6, initT_7, initT_8, resV, oneV, binA, unA, reduceCtorEq, Nat.reduceEqDiff, Nat.reduceAdd, Nat.reduceLT, Nat.reduceLeDiff, Nat.reduceMul, Nat.reduceSub, ↓reduceIte, decide_true, decide_false, Bool.true_eq_false, Bool.false_eq_true, Bool.not_true, Bool.not_false, if_true, if_false, and_true, true_and, memE, celE, w64, Nat.zero_add, Nat.add_zero, Nat.mul_one, putL, and_self, ldn, tm, t3, t4, t5, t42, t44, ext_2_0, ext_2_1]
        refine callH_rc (D3 _ j (by omega) W3) ?_
        rintro r new3 ⟨rfl, nr3⟩
        have W4 := W3.ext new3
        simp (config := {implicitDefEqProofs := false, maxDischargeDepth := 20}) (disch := first | omega | (simp only [lenE]; done) | (simp only [lenE]; omega) | rfl | (simp only [lenE, markR_len]; done) | (simp only [lenE, markR_len]; omega)) only [runE, mapE, listE, initT_5, initT_6, initT_7, initT_8, resV, oneV, binA, unA, reduceCtorEq, Nat.reduceEqDiff, Nat.reduceAdd, Nat.reduceLT, Nat.reduceLeDiff, Nat.reduceMul, Nat.reduceSub, ↓reduceIte, decide_true, decide_false, Bool.true_eq_false, Bool.false_eq_true, Bool.not_true, Bool.not_false, if_true, if_false, and_true, true_and, memE, celE, w64, Nat.zero_add, Nat.add_zero, Nat.mul_one, putL, and_self, ldn, tm, t3, t4, t5, t42, t44, ext_2_0, ext_2_1, e4, ej]
        exact ⟨⟨j + 1, _, by omega, rfl, W4, by simp⟩, by simp [intOf]; omega⟩
      · have hlt' : ¬ ((j : Int) < 15) := by omega
        simp (config := {implicitDefEqProofs := false, maxDischargeDepth := 20}) (disch := first | omega | (simp only [lenE]; done) | (simp only [lenE]; omega) | rfl | (simp only [lenE, markR_len]; done) | (simp only [lenE, markR_len]; omega)) only [runE, mapE, listE, initT_5, initT_6, initT_7, initT_8, resV, oneV, binA, unA, reduceCtorEq, Nat.reduceEqDiff, Nat.reduceAdd, Nat.reduceLT, Nat.reduceLeDiff, Nat.reduceMul, Nat.reduceSub, ↓reduceIte, decide_true, decide_false, Bool.true_eq_false, Bool.false_eq_true, Bool.not_true, Bool.not_false, if_true, if_false, and_true, true_and, memE, celE, w64, Nat.zero_add, Nat.add_zero, Nat.mul_one, putL, and_self, ldn, tm, t3, t4, t5, t42, t44, hlt']
    · obtain ⟨t1, t2, t3, t4, t5, t6⟩ := TX h1
      obtain ⟨c1, c2, c3⟩ := TC h2
      have e1 : (vl - vs != y * vt - vm) = false := by rw [t5]; simp
      have e2 : ¬ (vt < vu) := by omega
      have e3 : (vc != a * vl + b * vs) = false := by rw [c3]; simp
      rw [h1, h2]
      simp (config := {implicitDefEqProofs := false, maxDischargeDepth := 20}) (disch := first | omega | (simp only [lenE]; done) | (simp only [lenE]; omega) | rfl | (simp only [lenE, markR_len]; done) | (simp only [lenE, markR_len]; omega)) only [runE, mapE, listE, initT_5, initT_6, initT_7, initT_8, resV, oneV, binA, unA, reduceCtorEq, Nat.reduceEqDiff, Nat.reduceAdd, Nat.reduceLT, Nat.reduceLeDiff, Nat.reduceMul, Nat.reduceSub, ↓reduceIte, decide_true, decide_false, Bool.true_eq_false, Bool.false_eq_true, Bool.not_true, Bool.not_false, if_true, if_false, and_true, true_and, memE, celE, w64, Nat.zero_add, Nat.add_zero, Nat.mul_one, putL, and_self, ldn, goG_undef, e1, gt_iff_lt, e2, e3, l0, p0, p1, bne_self_eq_false, ei, p2, p3, e9]
      refine callH_rc (D2 _ W21) ?_
      rintro r new ⟨rfl, nr⟩
      have W' := W21.ext new
      generalize M21 ++ new = M' at *
      simp (config := {implicitDefEqProofs := false, maxDischargeDepth := 20}) (disch := first | omega | (simp only [lenE]; done) | (simp only [lenE]; omega) | rfl | (simp only [lenE, markR_len]; done) | (simp only [lenE, markR_len]; omega)) only [runE, mapE, listE, initT_5, initT_6, initT_7, initT_8, resV, oneV, binA, unA, reduceCtorEq, Nat.reduceEqDiff, Nat.reduceAdd, Nat.reduceLT, Nat.reduceLeDiff, Nat.reduceMul, Nat.reduceSub, ↓reduceIte, decide_true, decide_false, Bool.true_eq_false, Bool.false_eq_true, Bool.not_true, Bool.not_false, if_true, if_false, and_true, true_and, memE, celE, w64, Nat.zero_add, Nat.add_zero, Nat.mul_one, putL, and_self, ldn, ext_2_0, ext_2_1]
      refine loop_inv mixed (fun s => ∃ (j : Nat) (M : Mem), j ≤ 15 ∧ s.m = M ∧ OwnR M wi w ∧ s.t 3 = .slice (some ⟨wi, 0, none⟩) w.length 1 ∧ s.t 4 = .int .i64 o ∧ s.t 5 = .int .i64 u ∧ s.t 42 = .int .i64 (tot w) ∧ s.t 44 = .int .i64 j) (fun s => 20 - (intOf (s.t 44)).toNat)
        ⟨0, M', by omega, rfl, W', rfl, rfl, rfl, rfl, rfl⟩ ?_
      rintro s ⟨j, M, hj, tm, W, t3, t4, t5, t42, t44⟩
      by_cases hlt : j < 15
      · have hlt' : (j : Int) < 15 := by omega
        have ej : (j : Int) + 1 = ((j + 1 : Nat) : Int) := by omega
        have b1 := cost_in gw go gu (q := j) (by omega)
        have b2 := cost_in gw go gu (q := j + 1) (by omega)
        have b3 := quo_in gw go gu j
        have hn := cost_next w o u j
        have e4 : (costF w o u (j + 1) - costF w o u j != (o + u) * upF w j - u * tot w) = false := by
          rw [show costF w o u (j + 1) - costF w o u j = (o + u) * upF w j - u * tot w by omega]; simp
        simp (config := {implicitDefEqProofs := false, maxDischargeDepth := 20}) (disch := first | omega | (simp only [lenE]; done) | (simp only [lenE]; omega) | rfl | (simp only [lenE, markR_len]; done) | (simp only [lenE, markR_len]; omega)) only [runE, mapE, listE, initT_5, initT_6, initT_7, initT_8, resV, oneV, binA, unA, reduceCtorEq, Nat.reduceEqDiff, Nat.reduceAdd, Nat.reduceLT, Nat.reduceLeDiff, Nat.reduceMul, Nat.reduceSub, ↓reduceIte, decide_true, decide_false, Bool.true_eq_false, Bool.false_eq_true, Bool.not_true, Bool.not_false, if_true, if_false, and_true, true_and, memE, celE, w64, Nat.zero_add, Nat.add_zero, Nat.mul_one, putL, and_self, ldn, tm, t3, t4, t5, t42, t44, hlt']
        refine callH_rc (D1 _ j (by omega) W) ?_
        rintro r new ⟨rfl, nr⟩
        have W2 := W.ext new
        simp (config := {implicitDefEqProofs := false, maxDischargeDepth := 20}) (disch := first | omega | (simp only [lenE]; done) | (simp only [lenE]; omega) | rfl | (simp only [lenE, markR_len]; done) | (simp only [lenE, markR_len]; omega)) only [runE, mapE, listE, initT_5, initT_6, initT_7, initT_8, resV, oneV, binA, unA, reduceCtorEq, Nat.reduceEqDiff, Nat.reduceAdd, Nat.reduceLT, Nat.reduceLeDiff, Nat.reduceMul, Nat.reduceSub, ↓reduceIte, decide_true, decide_false, Bool.true_eq_false, Bool.false_eq_true, Bool.not_true, Bool.not_false, if_true, if_false, and_true, true_and, memE, celE, w64, Nat.zero_add, Nat.add_zero, Nat.mul_one, putL, and_self, ldn, tm, t3, t4, t5, t42, t44, ext_2_0, ext_2_1, ej]
        refine callH_rc (D1 _ (j + 1) (by omega) W2) ?_
        rintro r new2 ⟨rfl, nr2⟩
        have W3 := W2.ext new2
        simp (config := {implicitDefEqProofs := false, maxDischargeDepth := 20}) (disch := first | omega | (simp only [lenE]; done) | (simp only [lenE]; omega) | rfl | (simp only [lenE, markR_len]; done) | (simp only [lenE, markR_len]; omega)) only [runE, mapE, listE, initT_5, initT_6, initT_7, initT_8, resV, oneV, binA, unA, reduceCtorEq, Nat.reduceEqDiff, Nat.reduceAdd, Nat.reduceLT, Nat.reduceLeDiff, Nat.reduceMul, Nat.reduceSub, ↓reduceIte, decide_true, decide_false, Bool.true_eq_false, Bool.false_eq_true, Bool.not_true, Bool.not_false, if_true, if_false, and_true, true_and, memE, celE, w64, Nat.zero_add, Nat.add_zero, Nat.mul_one, putL, and_self, ldn, tm, t3, t4, t5, t42, t44, ext_2_0, ext_2_1]
        refine callH_rc (D3 _ j (by omega) W3) ?_
        rintro r new3 ⟨rfl, nr3⟩
        have W4 := W3.ext new3
        simp (config := {implicitDefEqProofs := false, maxDischargeDepth := 20}) (disch := first | omega | (simp only [lenE]; done) | (simp only [lenE]; omega) | rfl | (simp only [lenE, markR_len]; done) | (simp only [lenE, markR_len]; omega)) only [runE, mapE, listE, initT_5, initT_6, initT_7, initT_8, resV, oneV, binA, unA, reduceCtorEq, Nat.reduceEqDiff, Nat.reduceAdd, Nat.reduceLT, Nat.reduceLeDiff, Nat.reduceMul, Nat.reduceSub, ↓reduceIte, decide_true, decide_false, Bool.true_eq_false, Bool.false_eq_true, Bool.not_true, Bool.not_false, if_true, if_false, and_true, true_and, memE, celE, w64, Nat.zero_add, Nat.add_zero, Nat.mul_one, putL, and_self, ldn, tm, t3, t4, t5, t42, t44, ext_2_0, ext_2_1, e4, ej]
        exact ⟨⟨j + 1, _, by omega, rfl, W4, by simp⟩, by simp [intOf]; omega⟩
      · have hlt' : ¬ ((j : Int) < 15) := by omega
        simp (config := {implicitDefEqProofs := false, maxDischargeDepth := 20}) (disch := first | omega | (simp only [lenE]; done) | (simp only [lenE]; omega) | rfl | (simp only [lenE, markR_len]; done) | (simp only [lenE, markR_len]; omega)) only [runE, mapE, listE, initT_5, initT_6, initT_7, initT_8, resV, oneV, binA, unA, reduceCtorEq, Nat.reduceEqDiff, Nat.reduceAdd, Nat.reduceLT, Nat.reduceLeDiff, Nat.reduceMul, Nat.reduceSub, ↓reduceIte, decide_true, decide_false, Bool.true_eq_false, Bool.false_eq_true, Bool.not_true, Bool.not_false, if_true, if_false, and_true, true_and, memE, celE, w64, Nat.zero_add, Nat.add_zero, Nat.mul_one, putL, and_self, ldn, tm, t3, t4, t5, t42, t44, hlt']
end Go.Proofs.Ytfdpieeopdhcmaa.Ab
