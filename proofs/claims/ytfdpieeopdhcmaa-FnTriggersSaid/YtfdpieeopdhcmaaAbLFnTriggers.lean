/- FnTriggers: its running over abstract memory. -/
import Derived.Test.YtfdpieeopdhcmaaAbChance3
import Derived.Test.YtfdpieeopdhcmaaAbDraw5b
import Derived.Test.YtfdpieeopdhcmaaChMath3
import Derived.Test.YtfdpieeopdhcmaaCodLFnTriggers
namespace Go.Proofs.Ytfdpieeopdhcmaa.Ab
open Go Go.RowKit
set_option linter.unusedVariables false
set_option linter.unusedSimpArgs false
set_option maxRecDepth 100000

set_option maxHeartbeats 16000000 in
theorem law_FnTriggers (l : List Int) (hb : ∀ x ∈ l, 0 ≤ x ∧ x ≤ 255) :
    AC Try.prog 6 [.slice (some ⟨0, 0, none⟩) l.length 0] [⟨.ro, 5, l.map (Value.int .u8)⟩] fun r _ => r = .bool true := by
  refine ac_of_run mixed ok_laws_FnTriggers (by simp) (go_start _ _ _ ?_)
  simp (config := {implicitDefEqProofs := false, maxDischargeDepth := 20}) (disch := first | omega | (simp only [lenE]; done) | (simp only [lenE]; omega) | rfl | (simp only [lenE, markR_len]; done) | (simp only [lenE, markR_len]; omega)) only [runE, mapE, listE, initT_5, initT_6, initT_7, initT_8, resV, oneV, binA, unA, reduceCtorEq, Nat.reduceEqDiff, Nat.reduceAdd, Nat.reduceLT, Nat.reduceLeDiff, Nat.reduceMul, Nat.reduceSub, ↓reduceIte, decide_true, decide_false, Bool.true_eq_false, Bool.false_eq_true, Bool.not_true, Bool.not_false, if_true, if_false, and_true, true_and, memE, celE, w64, Nat.zero_add, Nat.add_zero, Nat.mul_one, putL, and_self, ldn, c_laws_FnTriggers, r_laws_FnTriggers]
  refine callH_rc (vBig_rc _ 0 0 l.length) ?_
  rintro r new ⟨rfl, rfl⟩
  by_cases hbig : 65536 < l.length
  · simp (config := {implicitDefEqProofs := false, maxDischargeDepth := 20}) (disch := first | omega | (simp only [lenE]; done) | (simp only [lenE]; omega) | rfl | (simp only [lenE, markR_len]; done) | (simp only [lenE, markR_len]; omega)) only [runE, mapE, listE, initT_5, initT_6, initT_7, initT_8, resV, oneV, binA, unA, reduceCtorEq, Nat.reduceEqDiff, Nat.reduceAdd, Nat.reduceLT, Nat.reduceLeDiff, Nat.reduceMul, Nat.reduceSub, ↓reduceIte, decide_true, decide_false, Bool.true_eq_false, Bool.false_eq_true, Bool.not_true, Bool.not_false, if_true, if_false, and_true, true_and, memE, celE, w64, Nat.zero_add, Nat.add_zero, Nat.mul_one, putL, and_self, ldn, decide_eq_true hbig]
  have hB : BytesA [⟨.ro, 5, l.map (Value.int .u8)⟩] 0 l := ⟨⟨.ro, by simp, rfl⟩, hb, by omega⟩
  obtain ⟨M0, hM0⟩ : ∃ M : Mem, M = [⟨.ro, 5, l.map (Value.int .u8)⟩] := ⟨_, rfl⟩
  rw [← hM0] at hB
  rw [List.append_nil, ← hM0]
  clear hM0
  simp (config := {implicitDefEqProofs := false, maxDischargeDepth := 20}) (disch := first | omega | (simp only [lenE]; done) | (simp only [lenE]; omega) | rfl | (simp only [lenE, markR_len]; done) | (simp only [lenE, markR_len]; omega)) only [runE, mapE, listE, initT_5, initT_6, initT_7, initT_8, resV, oneV, binA, unA, reduceCtorEq, Nat.reduceEqDiff, Nat.reduceAdd, Nat.reduceLT, Nat.reduceLeDiff, Nat.reduceMul, Nat.reduceSub, ↓reduceIte, decide_true, decide_false, Bool.true_eq_false, Bool.false_eq_true, Bool.not_true, Bool.not_false, if_true, if_false, and_true, true_and, memE, celE, w64, Nat.zero_add, Nat.add_zero, Nat.mul_one, putL, and_self, ldn, decide_eq_false hbig]
  have B0 := hB
  clear hB
  refine callH_rc (DrawOrderUpTo_rc _ _ 0 l B0) ?_
  rintro r new ⟨nr, Wi, w, o, u, un, s, k, rfl, hrow, hlw⟩
  obtain ⟨M1, hM1⟩ : ∃ M, M = M0 ++ new := ⟨_, rfl⟩
  have B1 : BytesA M1 0 l := by rw [hM1]; exact B0.ext _
  have W1 : OwnR M1 (M0.length + Wi) w := by rw [hM1]; exact OwnR.new hrow rfl
  rw [← hM1]
  clear B0
  clear hM1
  clear hrow nr
  generalize M0.length + Wi = Wd at *
  obtain ⟨vv, hvv⟩ : ∃ z, z = (bif upB w o u un s k then (levF w o u un s k.toNat : Int) else 0) := ⟨_, rfl⟩
  obtain ⟨ok, hok⟩ : ∃ b, b = upB w o u un s k := ⟨_, rfl⟩
  have IW : ∀ M, OwnR M Wd w → IntsA M (.slice (some ⟨Wd, 0, none⟩) w.length 1) w := fun M h => h.ints (by omega) 1
  have C1 : ∀ M, OwnR M Wd w → RC Try.prog 65 [.slice (some ⟨Wd, 0, none⟩) w.length 1, .int .i64 o, .int .i64 u, .int .i64 un, .int .i64 s, .int .i64 k] M (AnsV (.tuple #[.int .i64 vv, .bool ok])) := fun M h => by rw [hvv, hok]; exact implOrderUpTo_rc _ _ w o u un s k (IW M h)
  have C2 : ∀ M, OwnR M Wd w → RC Try.prog 66 [.slice (some ⟨Wd, 0, none⟩) w.length 1, .int .i64 o, .int .i64 u, .int .i64 un, .int .i64 s, .int .i64 k] M (AnsV (.tuple #[.int .i64 vv, .bool ok])) := fun M h => by rw [hvv, hok]; exact specOrderUpTo_rc _ _ w o u un s k (IW M h)
  simp (config := {implicitDefEqProofs := false, maxDischargeDepth := 20}) (disch := first | omega | (simp only [lenE]; done) | (simp only [lenE]; omega) | rfl | (simp only [lenE, markR_len]; done) | (simp only [lenE, markR_len]; omega)) only [runE, mapE, listE, initT_5, initT_6, initT_7, initT_8, resV, oneV, binA, unA, reduceCtorEq, Nat.reduceEqDiff, Nat.reduceAdd, Nat.reduceLT, Nat.reduceLeDiff, Nat.reduceMul, Nat.reduceSub, ↓reduceIte, decide_true, decide_false, Bool.true_eq_false, Bool.false_eq_true, Bool.not_true, Bool.not_false, if_true, if_false, and_true, true_and, memE, celE, w64, Nat.zero_add, Nat.add_zero, Nat.mul_one, putL, and_self, ldn, ext_6_0, ext_6_1, ext_6_2, ext_6_3, ext_6_4, ext_6_5]
  refine callH_rc (C1 _ W1) ?_
  rintro r new ⟨rfl, nr⟩
  obtain ⟨M2, hM2⟩ : ∃ M, M = M1 ++ new := ⟨_, rfl⟩
  have B2 : BytesA M2 0 l := by rw [hM2]; exact B1.ext _
  have W2 : OwnR M2 Wd w := by rw [hM2]; exact W1.ext _
  rw [← hM2]
  clear B1 W1
  clear hM2
  clear nr
  simp (config := {implicitDefEqProofs := false, maxDischargeDepth := 20}) (disch := first | omega | (simp only [lenE]; done) | (simp only [lenE]; omega) | rfl | (simp only [lenE, markR_len]; done) | (simp only [lenE, markR_len]; omega)) only [runE, mapE, listE, initT_5, initT_6, initT_7, initT_8, resV, oneV, binA, unA, reduceCtorEq, Nat.reduceEqDiff, Nat.reduceAdd, Nat.reduceLT, Nat.reduceLeDiff, Nat.reduceMul, Nat.reduceSub, ↓reduceIte, decide_true, decide_false, Bool.true_eq_false, Bool.false_eq_true, Bool.not_true, Bool.not_false, if_true, if_false, and_true, true_and, memE, celE, w64, Nat.zero_add, Nat.add_zero, Nat.mul_one, putL, and_self, ldn, ext_2_0, ext_2_1]
  refine callH_rc (C2 _ W2) ?_
  rintro r new ⟨rfl, nr⟩
  obtain ⟨M3, hM3⟩ : ∃ M, M = M2 ++ new := ⟨_, rfl⟩
  have B3 : BytesA M3 0 l := by rw [hM3]; exact B2.ext _
  have W3 : OwnR M3 Wd w := by rw [hM3]; exact W2.ext _
  rw [← hM3]
  clear B2 W2
  clear hM3
  clear nr
  simp (config := {implicitDefEqProofs := false, maxDischargeDepth := 20}) (disch := first | omega | (simp only [lenE]; done) | (simp only [lenE]; omega) | rfl | (simp only [lenE, markR_len]; done) | (simp only [lenE, markR_len]; omega)) only [runE, mapE, listE, initT_5, initT_6, initT_7, initT_8, resV, oneV, binA, unA, reduceCtorEq, Nat.reduceEqDiff, Nat.reduceAdd, Nat.reduceLT, Nat.reduceLeDiff, Nat.reduceMul, Nat.reduceSub, ↓reduceIte, decide_true, decide_false, Bool.true_eq_false, Bool.false_eq_true, Bool.not_true, Bool.not_false, if_true, if_false, and_true, true_and, memE, celE, w64, Nat.zero_add, Nat.add_zero, Nat.mul_one, putL, and_self, ldn, ext_2_0, ext_2_1]
  refine callH_rc (vCut_rc _ 0 0 1 l B3 (by omega) (by omega)) ?_
  rintro r new ⟨nr, ci1, lb1, rfl, hrow, hb1, hl1⟩
  obtain ⟨M4, hM4⟩ : ∃ M, M = M3 ++ new := ⟨_, rfl⟩
  have B4 : BytesA M4 0 l := by rw [hM4]; exact B3.ext _
  have W4 : OwnR M4 Wd w := by rw [hM4]; exact W3.ext _
  have C14 : BytesA M4 (M3.length + ci1) lb1 := ⟨⟨.own, by simp, by rw [hM4, List.getElem?_append_right (by omega), Nat.add_sub_cancel_left]; exact hrow⟩, hb1, hl1⟩
  rw [← hM4]
  clear B3 W3
  clear hM4
  clear hrow nr
  simp (config := {implicitDefEqProofs := false, maxDischargeDepth := 20}) (disch := first | omega | (simp only [lenE]; done) | (simp only [lenE]; omega) | rfl | (simp only [lenE, markR_len]; done) | (simp only [lenE, markR_len]; omega)) only [runE, mapE, listE, initT_5, initT_6, initT_7, initT_8, resV, oneV, binA, unA, reduceCtorEq, Nat.reduceEqDiff, Nat.reduceAdd, Nat.reduceLT, Nat.reduceLeDiff, Nat.reduceMul, Nat.reduceSub, ↓reduceIte, decide_true, decide_false, Bool.true_eq_false, Bool.false_eq_true, Bool.not_true, Bool.not_false, if_true, if_false, and_true, true_and, memE, celE, w64, Nat.zero_add, Nat.add_zero, Nat.mul_one, putL, and_self, ldn]
  refine callH_rc (DrawTriggerLevel_rc _ _ 1 lb1 C14) ?_
  rintro r new ⟨nr, Xi, x, a, b, xu, xs, rfl, hrow, hlx⟩
  obtain ⟨M5, hM5⟩ : ∃ M, M = M4 ++ new := ⟨_, rfl⟩
  have B5 : BytesA M5 0 l := by rw [hM5]; exact B4.ext _
  have W5 : OwnR M5 Wd w := by rw [hM5]; exact W4.ext _
  have X5 : OwnR M5 (M4.length + Xi) x := by rw [hM5]; exact OwnR.new hrow rfl
  rw [← hM5]
  clear B4 W4
  clear hM5
  clear hrow nr C14
  generalize M4.length + Xi = Xd at *
  obtain ⟨T, hT⟩ : ∃ z, z = (bif startB x a b xu xs then trigTo x a b xu xs 16 else 0) := ⟨_, rfl⟩
  obtain ⟨fn, hfn⟩ : ∃ t, t = startB x a b xu xs := ⟨_, rfl⟩
  have IX : ∀ M, OwnR M Xd x → IntsA M (.slice (some ⟨Xd, 0, none⟩) x.length 1) x := fun M h => h.ints (by omega) 1
  have C3 : ∀ M, OwnR M Xd x → RC Try.prog 68 [.slice (some ⟨Xd, 0, none⟩) x.length 1, .int .i64 a, .int .i64 b, .int .i64 xu, .int .i64 xs] M (AnsV (.tuple #[.int .i64 T, .bool fn])) := fun M h => by rw [hT, hfn]; exact implTrigger_rc _ _ x a b xu xs (IX M h)
  have C4 : ∀ M, OwnR M Xd x → RC Try.prog 69 [.slice (some ⟨Xd, 0, none⟩) x.length 1, .int .i64 a, .int .i64 b, .int .i64 xu, .int .i64 xs] M (AnsV (.tuple #[.int .i64 T, .bool fn])) := fun M h => by rw [hT, hfn]; exact specTrigger_rc _ _ x a b xu xs (IX M h)
  simp (config := {implicitDefEqProofs := false, maxDischargeDepth := 20}) (disch := first | omega | (simp only [lenE]; done) | (simp only [lenE]; omega) | rfl | (simp only [lenE, markR_len]; done) | (simp only [lenE, markR_len]; omega)) only [runE, mapE, listE, initT_5, initT_6, initT_7, initT_8, resV, oneV, binA, unA, reduceCtorEq, Nat.reduceEqDiff, Nat.reduceAdd, Nat.reduceLT, Nat.reduceLeDiff, Nat.reduceMul, Nat.reduceSub, ↓reduceIte, decide_true, decide_false, Bool.true_eq_false, Bool.false_eq_true, Bool.not_true, Bool.not_false, if_true, if_false, and_true, true_and, memE, celE, w64, Nat.zero_add, Nat.add_zero, Nat.mul_one, putL, and_self, ldn, ext_5_0, ext_5_1, ext_5_2, ext_5_3, ext_5_4]
  refine callH_rc (C3 _ X5) ?_
  rintro r new ⟨rfl, nr⟩
  obtain ⟨M6, hM6⟩ : ∃ M, M = M5 ++ new := ⟨_, rfl⟩
  have B6 : BytesA M6 0 l := by rw [hM6]; exact B5.ext _
  have W6 : OwnR M6 Wd w := by rw [hM6]; exact W5.ext _
  have X6 : OwnR M6 Xd x := by rw [hM6]; exact X5.ext _
  rw [← hM6]
  clear B5 W5 X5
  clear hM6
  clear nr
  simp (config := {implicitDefEqProofs := false, maxDischargeDepth := 20}) (disch := first | omega | (simp only [lenE]; done) | (simp only [lenE]; omega) | rfl | (simp only [lenE, markR_len]; done) | (simp only [lenE, markR_len]; omega)) only [runE, mapE, listE, initT_5, initT_6, initT_7, initT_8, resV, oneV, binA, unA, reduceCtorEq, Nat.reduceEqDiff, Nat.reduceAdd, Nat.reduceLT, Nat.reduceLeDiff, Nat.reduceMul, Nat.reduceSub, ↓reduceIte, decide_true, decide_false, Bool.true_eq_false, Bool.false_eq_true, Bool.not_true, Bool.not_false, if_true, if_false, and_true, true_and, memE, celE, w64, Nat.zero_add, Nat.add_zero, Nat.mul_one, putL, and_self, ldn, ext_2_0, ext_2_1]
  refine callH_rc (C4 _ X6) ?_
  rintro r new ⟨rfl, nr⟩
  obtain ⟨M7, hM7⟩ : ∃ M, M = M6 ++ new := ⟨_, rfl⟩
  have B7 : BytesA M7 0 l := by rw [hM7]; exact B6.ext _
  have W7 : OwnR M7 Wd w := by rw [hM7]; exact W6.ext _
  have X7 : OwnR M7 Xd x := by rw [hM7]; exact X6.ext _
  rw [← hM7]
  clear B6 W6 X6
  clear hM7
  clear nr
  simp (config := {implicitDefEqProofs := false, maxDischargeDepth := 20}) (disch := first | omega | (simp only [lenE]; done) | (simp only [lenE]; omega) | rfl | (simp only [lenE, markR_len]; done) | (simp only [lenE, markR_len]; omega)) only [runE, mapE, listE, initT_5, initT_6, initT_7, initT_8, resV, oneV, binA, unA, reduceCtorEq, Nat.reduceEqDiff, Nat.reduceAdd, Nat.reduceLT, Nat.reduceLeDiff, Nat.reduceMul, Nat.reduceSub, ↓reduceIte, decide_true, decide_false, Bool.true_eq_false, Bool.false_eq_true, Bool.not_true, Bool.not_false, if_true, if_false, and_true, true_and, memE, celE, w64, Nat.zero_add, Nat.add_zero, Nat.mul_one, putL, and_self, ldn, ext_2_0, ext_2_1, bne_self_eq_false, beq_self_eq_true]
  cases hk : ok with
  | false =>
    simp (config := {implicitDefEqProofs := false, maxDischargeDepth := 20}) (disch := first | omega | (simp only [lenE]; done) | (simp only [lenE]; omega) | rfl | (simp only [lenE, markR_len]; done) | (simp only [lenE, markR_len]; omega)) only [runE, mapE, listE, initT_5, initT_6, initT_7, initT_8, resV, oneV, binA, unA, reduceCtorEq, Nat.reduceEqDiff, Nat.reduceAdd, Nat.reduceLT, Nat.reduceLeDiff, Nat.reduceMul, Nat.reduceSub, ↓reduceIte, decide_true, decide_false, Bool.true_eq_false, Bool.false_eq_true, Bool.not_true, Bool.not_false, if_true, if_false, and_true, true_and, memE, celE, w64, Nat.zero_add, Nat.add_zero, Nat.mul_one, putL, and_self, ldn, goG_undef, bne_self_eq_false, beq_self_eq_true]
    cases hf : fn with
    | false => simp (config := {implicitDefEqProofs := false, maxDischargeDepth := 20}) (disch := first | omega | (simp only [lenE]; done) | (simp only [lenE]; omega) | rfl | (simp only [lenE, markR_len]; done) | (simp only [lenE, markR_len]; omega)) only [runE, mapE, listE, initT_5, initT_6, initT_7, initT_8, resV, oneV, binA, unA, reduceCtorEq, Nat.reduceEqDiff, Nat.reduceAdd, Nat.reduceLT, Nat.reduceLeDiff, Nat.reduceMul, Nat.reduceSub, ↓reduceIte, decide_true, decide_false, Bool.true_eq_false, Bool.false_eq_true, Bool.not_true, Bool.not_false, if_true, if_false, and_true, true_and, memE, celE, w64, Nat.zero_add, Nat.add_zero, Nat.mul_one, putL, and_self, ldn, goG_undef]
    | true =>
      rw [hf] at hfn
      have hfn2 := hfn.symm
      obtain ⟨gx, ga, gb, gu2, gs2⟩ := startB_yes hfn2
      have hTe : T = trigTo x a b xu xs 16 := by rw [hT, hfn2]; rfl
      obtain ⟨V, hV15, hV⟩ := trig_all gx ga.1 gb.1 gs2.1 (un := xu)
      rw [← hTe] at hV
      have D1 : ∀ M (j : Nat), j ≤ 15 → OwnR M Xd x → RC Try.prog 65 [.slice (some ⟨Xd, 0, none⟩) x.length 1, .int .i64 a, .int .i64 b, .int .i64 xu, .int .i64 xs, .int .i64 j] M (AnsV (.tuple #[.int .i64 (levF x a b xu xs j), .bool true])) := fun M j hj h => by
        have := implOrderUpTo_rc _ _ x a b xu xs j (IX M h)
        have hc : upB x a b xu xs (j : Int) = true := by
          unfold upB; rw [hfn2, Bool.true_and, inB_iff]; omega
        rw [hc] at this
        exact this
      simp (config := {implicitDefEqProofs := false, maxDischargeDepth := 20}) (disch := first | omega | (simp only [lenE]; done) | (simp only [lenE]; omega) | rfl | (simp only [lenE, markR_len]; done) | (simp only [lenE, markR_len]; omega)) only [runE, mapE, listE, initT_5, initT_6, initT_7, initT_8, resV, oneV, binA, unA, reduceCtorEq, Nat.reduceEqDiff, Nat.reduceAdd, Nat.reduceLT, Nat.reduceLeDiff, Nat.reduceMul, Nat.reduceSub, ↓reduceIte, decide_true, decide_false, Bool.true_eq_false, Bool.false_eq_true, Bool.not_true, Bool.not_false, if_true, if_false, and_true, true_and, memE, celE, w64, Nat.zero_add, Nat.add_zero, Nat.mul_one, putL, and_self, ldn, goG_undef]
      refine loop_inv mixed (fun s => ∃ (j : Nat) (M : Mem) (up : Int), j ≤ 16 ∧ s.m = M ∧ OwnR M Xd x ∧ (up = -1 ∨ up = (V : Int)) ∧ s.t 13 = .slice (some ⟨Xd, 0, none⟩) x.length 1 ∧ s.t 14 = .int .i64 a ∧ s.t 15 = .int .i64 b ∧ s.t 16 = .int .i64 xu ∧ s.t 17 = .int .i64 xs ∧ s.t 18 = .int .i64 T ∧ s.t 24 = .int .i64 up ∧ s.t 25 = .int .i64 j) (fun s => 20 - (intOf (s.t 25)).toNat)
        ⟨0, _, -1, by omega, rfl, X7, .inl rfl, rfl, rfl, rfl, rfl, rfl, rfl, rfl, rfl⟩ ?_
      rintro s ⟨j, M, up, hj, tm, X, hup, t13, t14, t15, t16, t17, t18, t24, t25⟩
      by_cases hlt : j ≤ 15
      · have hlt' : (j : Int) ≤ 15 := by omega
        obtain ⟨v1, v2⟩ := hV j hlt
        have lin := lev_in x a b xu xs hlt
        simp (config := {implicitDefEqProofs := false, maxDischargeDepth := 20}) (disch := first | omega | (simp only [lenE]; done) | (simp only [lenE]; omega) | rfl | (simp only [lenE, markR_len]; done) | (simp only [lenE, markR_len]; omega)) only [runE, mapE, listE, initT_5, initT_6, initT_7, initT_8, resV, oneV, binA, unA, reduceCtorEq, Nat.reduceEqDiff, Nat.reduceAdd, Nat.reduceLT, Nat.reduceLeDiff, Nat.reduceMul, Nat.reduceSub, ↓reduceIte, decide_true, decide_false, Bool.true_eq_false, Bool.false_eq_true, Bool.not_true, Bool.not_false, if_true, if_false, and_true, true_and, memE, celE, w64, Nat.zero_add, Nat.add_zero, Nat.mul_one, putL, and_self, ldn, tm, t13, t14, t15, t16, t17, t18, t24, t25, hlt']
        refine callH_rc (D1 _ j hlt X) ?_
        rintro r new ⟨rfl, nr⟩
        have X2 := X.ext new
        by_cases hl : j < levF x a b xu xs j
        · have h1 : (j : Int) < (levF x a b xu xs j : Int) := by omega
          have h2 : (j : Int) ≤ T := v1.1 hl
          have h3 := v2 hl
          rw [h3] at h1
          rcases hup with rfl | rfl
          · have m1 : ¬ ((0 : Int) ≤ -1) := by decide
            simp (config := {implicitDefEqProofs := false, maxDischargeDepth := 20}) (disch := first | omega | (simp only [lenE]; done) | (simp only [lenE]; omega) | rfl | (simp only [lenE, markR_len]; done) | (simp only [lenE, markR_len]; omega)) only [runE, mapE, listE, initT_5, initT_6, initT_7, initT_8, resV, oneV, binA, unA, reduceCtorEq, Nat.reduceEqDiff, Nat.reduceAdd, Nat.reduceLT, Nat.reduceLeDiff, Nat.reduceMul, Nat.reduceSub, ↓reduceIte, decide_true, decide_false, Bool.true_eq_false, Bool.false_eq_true, Bool.not_true, Bool.not_false, if_true, if_false, and_true, true_and, memE, celE, w64, Nat.zero_add, Nat.add_zero, Nat.mul_one, putL, and_self, ldn, tm, t13, t14, t15, t16, t17, t18, t24, t25, ext_2_0, ext_2_1, h3, h1, h2, gt_iff_lt, ge_iff_le, m1, goG_undef, beq_self_eq_true, bne_self_eq_false]
            exact ⟨⟨j + 1, _, V, by omega, rfl, X2, .inr rfl, by simp⟩, by simp [intOf]; omega⟩
          · have m1 : (0 : Int) ≤ (V : Int) := by omega
            simp (config := {implicitDefEqProofs := false, maxDischargeDepth := 20}) (disch := first | omega | (simp only [lenE]; done) | (simp only [lenE]; omega) | rfl | (simp only [lenE, markR_len]; done) | (simp only [lenE, markR_len]; omega)) only [runE, mapE, listE, initT_5, initT_6, initT_7, initT_8, resV, oneV, binA, unA, reduceCtorEq, Nat.reduceEqDiff, Nat.reduceAdd, Nat.reduceLT, Nat.reduceLeDiff, Nat.reduceMul, Nat.reduceSub, ↓reduceIte, decide_true, decide_false, Bool.true_eq_false, Bool.false_eq_true, Bool.not_true, Bool.not_false, if_true, if_false, and_true, true_and, memE, celE, w64, Nat.zero_add, Nat.add_zero, Nat.mul_one, putL, and_self, ldn, tm, t13, t14, t15, t16, t17, t18, t24, t25, ext_2_0, ext_2_1, h3, h1, h2, gt_iff_lt, ge_iff_le, m1, goG_undef, beq_self_eq_true, bne_self_eq_false]
            exact ⟨⟨j + 1, _, V, by omega, rfl, X2, .inr rfl, by simp⟩, by simp [intOf]; omega⟩
        · have h1 : ¬ ((j : Int) < (levF x a b xu xs j : Int)) := by omega
          have h2 : ¬ ((j : Int) ≤ T) := fun hh => hl (v1.2 hh)
          simp (config := {implicitDefEqProofs := false, maxDischargeDepth := 20}) (disch := first | omega | (simp only [lenE]; done) | (simp only [lenE]; omega) | rfl | (simp only [lenE, markR_len]; done) | (simp only [lenE, markR_len]; omega)) only [runE, mapE, listE, initT_5, initT_6, initT_7, initT_8, resV, oneV, binA, unA, reduceCtorEq, Nat.reduceEqDiff, Nat.reduceAdd, Nat.reduceLT, Nat.reduceLeDiff, Nat.reduceMul, Nat.reduceSub, ↓reduceIte, decide_true, decide_false, Bool.true_eq_false, Bool.false_eq_true, Bool.not_true, Bool.not_false, if_true, if_false, and_true, true_and, memE, celE, w64, Nat.zero_add, Nat.add_zero, Nat.mul_one, putL, and_self, ldn, tm, t13, t14, t15, t16, t17, t18, t24, t25, ext_2_0, ext_2_1, h1, h2, gt_iff_lt, ge_iff_le, goG_undef, beq_self_eq_true, bne_self_eq_false]
          exact ⟨⟨j + 1, _, up, by omega, rfl, X2, hup, by simp⟩, by simp [intOf]; omega⟩
      · have hlt' : ¬ ((j : Int) ≤ 15) := by omega
        simp (config := {implicitDefEqProofs := false, maxDischargeDepth := 20}) (disch := first | omega | (simp only [lenE]; done) | (simp only [lenE]; omega) | rfl | (simp only [lenE, markR_len]; done) | (simp only [lenE, markR_len]; omega)) only [runE, mapE, listE, initT_5, initT_6, initT_7, initT_8, resV, oneV, binA, unA, reduceCtorEq, Nat.reduceEqDiff, Nat.reduceAdd, Nat.reduceLT, Nat.reduceLeDiff, Nat.reduceMul, Nat.reduceSub, ↓reduceIte, decide_true, decide_false, Bool.true_eq_false, Bool.false_eq_true, Bool.not_true, Bool.not_false, if_true, if_false, and_true, true_and, memE, celE, w64, Nat.zero_add, Nat.add_zero, Nat.mul_one, putL, and_self, ldn, tm, t13, t14, t15, t16, t17, t18, t24, t25, hlt']
  | true =>
    rw [hk] at hok
    have hok2 := hok.symm
    have hup := hok2
    unfold upB at hup
    rw [Bool.and_eq_true] at hup
    obtain ⟨gw, go, gu, gn, gs⟩ := startB_yes hup.1
    obtain ⟨K, rfl, hK⟩ := upB_yes hup.1 hup.2
    have hve : vv = (levF w o u un s K : Int) := by rw [hvv, hok2]; rfl
    have hin := lev_in w o u un s hK
    have l1 : ¬ (vv < (K : Int)) := by omega
    by_cases hs0 : s = 0
    · by_cases hn0 : un = 0
      · have hs0' : (s == 0) = true := by simp [hs0]
        have hn0' : (un == 0) = true := by simp [hn0]
        have D2 : ∀ M, OwnR M Wd w → RC Try.prog 25 [.slice (some ⟨Wd, 0, none⟩) w.length 1, .int .i64 o, .int .i64 u] M (AnsV (.tuple #[.int .i64 (critF w o u), .bool true])) := fun M h => by
          have := implCriticalOrder_rc _ _ w o u (IW M h)
          have hc : (distB w && chB o u) = true := by
            have := hup.1
            unfold startB at this
            rw [Bool.and_eq_true] at this
            exact this.1
          rw [hc] at this
          exact this
        simp (config := {implicitDefEqProofs := false, maxDischargeDepth := 20}) (disch := first | omega | (simp only [lenE]; done) | (simp only [lenE]; omega) | rfl | (simp only [lenE, markR_len]; done) | (simp only [lenE, markR_len]; omega)) only [runE, mapE, listE, initT_5, initT_6, initT_7, initT_8, resV, oneV, binA, unA, reduceCtorEq, Nat.reduceEqDiff, Nat.reduceAdd, Nat.reduceLT, Nat.reduceLeDiff, Nat.reduceMul, Nat.reduceSub, ↓reduceIte, decide_true, decide_false, Bool.true_eq_false, Bool.false_eq_true, Bool.not_true, Bool.not_false, if_true, if_false, and_true, true_and, memE, celE, w64, Nat.zero_add, Nat.add_zero, Nat.mul_one, putL, and_self, ldn, goG_undef, bne_self_eq_false, beq_self_eq_true, l1, hs0', hn0']
        refine callH_rc (D2 _ W7) ?_
        rintro r new ⟨rfl, nr⟩
        have X' := X7.ext new
        by_cases hq : K ≤ critF w o u
        · have hq' : (K : Int) ≤ (critF w o u : Int) := by omega
          have hvc : vv = (critF w o u : Int) := by
            rw [hve, hs0, hn0, lev_crit gw go.1 gu.1 hq]
          rw [hvc]
          simp (config := {implicitDefEqProofs := false, maxDischargeDepth := 20}) (disch := first | omega | (simp only [lenE]; done) | (simp only [lenE]; omega) | rfl | (simp only [lenE, markR_len]; done) | (simp only [lenE, markR_len]; omega)) only [runE, mapE, listE, initT_5, initT_6, initT_7, initT_8, resV, oneV, binA, unA, reduceCtorEq, Nat.reduceEqDiff, Nat.reduceAdd, Nat.reduceLT, Nat.reduceLeDiff, Nat.reduceMul, Nat.reduceSub, ↓reduceIte, decide_true, decide_false, Bool.true_eq_false, Bool.false_eq_true, Bool.not_true, Bool.not_false, if_true, if_false, and_true, true_and, memE, celE, w64, Nat.zero_add, Nat.add_zero, Nat.mul_one, putL, and_self, ldn, ext_2_0, ext_2_1, hq', bne_self_eq_false]
          cases hf : fn with
          | false => simp (config := {implicitDefEqProofs := false, maxDischargeDepth := 20}) (disch := first | omega | (simp only [lenE]; done) | (simp only [lenE]; omega) | rfl | (simp only [lenE, markR_len]; done) | (simp only [lenE, markR_len]; omega)) only [runE, mapE, listE, initT_5, initT_6, initT_7, initT_8, resV, oneV, binA, unA, reduceCtorEq, Nat.reduceEqDiff, Nat.reduceAdd, Nat.reduceLT, Nat.reduceLeDiff, Nat.reduceMul, Nat.reduceSub, ↓reduceIte, decide_true, decide_false, Bool.true_eq_false, Bool.false_eq_true, Bool.not_true, Bool.not_false, if_true, if_false, and_true, true_and, memE, celE, w64, Nat.zero_add, Nat.add_zero, Nat.mul_one, putL, and_self, ldn, goG_undef]
          | true =>
            rw [hf] at hfn
            have hfn2 := hfn.symm
            obtain ⟨gx, ga, gb, gu2, gs2⟩ := startB_yes hfn2
            have hTe : T = trigTo x a b xu xs 16 := by rw [hT, hfn2]; rfl
            obtain ⟨V, hV15, hV⟩ := trig_all gx ga.1 gb.1 gs2.1 (un := xu)
            rw [← hTe] at hV
            have D1 : ∀ M (j : Nat), j ≤ 15 → OwnR M Xd x → RC Try.prog 65 [.slice (some ⟨Xd, 0, none⟩) x.length 1, .int .i64 a, .int .i64 b, .int .i64 xu, .int .i64 xs, .int .i64 j] M (AnsV (.tuple #[.int .i64 (levF x a b xu xs j), .bool true])) := fun M j hj h => by
              have := implOrderUpTo_rc _ _ x a b xu xs j (IX M h)
              have hc : upB x a b xu xs (j : Int) = true := by
                unfold upB; rw [hfn2, Bool.true_and, inB_iff]; omega
              rw [hc] at this
              exact this
            simp (config := {implicitDefEqProofs := false, maxDischargeDepth := 20}) (disch := first | omega | (simp only [lenE]; done) | (simp only [lenE]; omega) | rfl | (simp only [lenE, markR_len]; done) | (simp only [lenE, markR_len]; omega)) only [runE, mapE, listE, initT_5, initT_6, initT_7, initT_8, resV, oneV, binA, unA, reduceCtorEq, Nat.reduceEqDiff, Nat.reduceAdd, Nat.reduceLT, Nat.reduceLeDiff, Nat.reduceMul, Nat.reduceSub, ↓reduceIte, decide_true, decide_false, Bool.true_eq_false, Bool.false_eq_true, Bool.not_true, Bool.not_false, if_true, if_false, and_true, true_and, memE, celE, w64, Nat.zero_add, Nat.add_zero, Nat.mul_one, putL, and_self, ldn, goG_undef]
            refine loop_inv mixed (fun s => ∃ (j : Nat) (M : Mem) (up : Int), j ≤ 16 ∧ s.m = M ∧ OwnR M Xd x ∧ (up = -1 ∨ up = (V : Int)) ∧ s.t 13 = .slice (some ⟨Xd, 0, none⟩) x.length 1 ∧ s.t 14 = .int .i64 a ∧ s.t 15 = .int .i64 b ∧ s.t 16 = .int .i64 xu ∧ s.t 17 = .int .i64 xs ∧ s.t 18 = .int .i64 T ∧ s.t 24 = .int .i64 up ∧ s.t 25 = .int .i64 j) (fun s => 20 - (intOf (s.t 25)).toNat)
              ⟨0, _, -1, by omega, rfl, X', .inl rfl, rfl, rfl, rfl, rfl, rfl, rfl, rfl, rfl⟩ ?_
            rintro s ⟨j, M, up, hj, tm, X, hup, t13, t14, t15, t16, t17, t18, t24, t25⟩
            by_cases hlt : j ≤ 15
            · have hlt' : (j : Int) ≤ 15 := by omega
              obtain ⟨v1, v2⟩ := hV j hlt
              have lin := lev_in x a b xu xs hlt
              simp (config := {implicitDefEqProofs := false, maxDischargeDepth := 20}) (disch := first | omega | (simp only [lenE]; done) | (simp only [lenE]; omega) | rfl | (simp only [lenE, markR_len]; done) | (simp only [lenE, markR_len]; omega)) only [runE, mapE, listE, initT_5, initT_6, initT_7, initT_8, resV, oneV, binA, unA, reduceCtorEq, Nat.reduceEqDiff, Nat.reduceAdd, Nat.reduceLT, Nat.reduceLeDiff, Nat.reduceMul, Nat.reduceSub, ↓reduceIte, decide_true, decide_false, Bool.true_eq_false, Bool.false_eq_true, Bool.not_true, Bool.not_false, if_true, if_false, and_true, true_and, memE, celE, w64, Nat.zero_add, Nat.add_zero, Nat.mul_one, putL, and_self, ldn, tm, t13, t14, t15, t16, t17, t18, t24, t25, hlt']
              refine callH_rc (D1 _ j hlt X) ?_
              rintro r new ⟨rfl, nr⟩
              have X2 := X.ext new
              by_cases hl : j < levF x a b xu xs j
              · have h1 : (j : Int) < (levF x a b xu xs j : Int) := by omega
                have h2 : (j : Int) ≤ T := v1.1 hl
                have h3 := v2 hl
                rw [h3] at h1
                rcases hup with rfl | rfl
                · have m1 : ¬ ((0 : Int) ≤ -1) := by decide
                  simp (config := {implicitDefEqProofs := false, maxDischargeDepth := 20}) (disch := first | omega | (simp only [lenE]; done) | (simp only [lenE]; omega) | rfl | (simp only [lenE, markR_len]; done) | (simp only [lenE, markR_len]; omega)) only [runE, mapE, listE, initT_5, initT_6, initT_7, initT_8, resV, oneV, binA, unA, reduceCtorEq, Nat.reduceEqDiff, Nat.reduceAdd, Nat.reduceLT, Nat.reduceLeDiff, Nat.reduceMul, Nat.reduceSub, ↓reduceIte, decide_true, decide_false, Bool.true_eq_false, Bool.false_eq_true, Bool.not_true, Bool.not_false, if_true, if_false, and_true, true_and, memE, celE, w64, Nat.zero_add, Nat.add_zero, Nat.mul_one, putL, and_self, ldn, tm, t13, t14, t15, t16, t17, t18, t24, t25, ext_2_0, ext_2_1, h3, h1, h2, gt_iff_lt, ge_iff_le, m1, goG_undef, beq_self_eq_true, bne_self_eq_false]
                  exact ⟨⟨j + 1, _, V, by omega, rfl, X2, .inr rfl, by simp⟩, by simp [intOf]; omega⟩
                · have m1 : (0 : Int) ≤ (V : Int) := by omega
                  simp (config := {implicitDefEqProofs := false, maxDischargeDepth := 20}) (disch := first | omega | (simp only [lenE]; done) | (simp only [lenE]; omega) | rfl | (simp only [lenE, markR_len]; done) | (simp only [lenE, markR_len]; omega)) only [runE, mapE, listE, initT_5, initT_6, initT_7, initT_8, resV, oneV, binA, unA, reduceCtorEq, Nat.reduceEqDiff, Nat.reduceAdd, Nat.reduceLT, Nat.reduceLeDiff, Nat.reduceMul, Nat.reduceSub, ↓reduceIte, decide_true, decide_false, Bool.true_eq_false, Bool.false_eq_true, Bool.not_true, Bool.not_false, if_true, if_false, and_true, true_and, memE, celE, w64, Nat.zero_add, Nat.add_zero, Nat.mul_one, putL, and_self, ldn, tm, t13, t14, t15, t16, t17, t18, t24, t25, ext_2_0, ext_2_1, h3, h1, h2, gt_iff_lt, ge_iff_le, m1, goG_undef, beq_self_eq_true, bne_self_eq_false]
                  exact ⟨⟨j + 1, _, V, by omega, rfl, X2, .inr rfl, by simp⟩, by simp [intOf]; omega⟩
              · have h1 : ¬ ((j : Int) < (levF x a b xu xs j : Int)) := by omega
                have h2 : ¬ ((j : Int) ≤ T) := fun hh => hl (v1.2 hh)
                simp (config := {implicitDefEqProofs := false, maxDischargeDepth := 20}) (disch := first | omega | (simp only [lenE]; done) | (simp only [lenE]; omega) | rfl | (simp only [lenE, markR_len]; done) | (simp only [lenE, markR_len]; omega)) only [runE, mapE, listE, initT_5, initT_6, initT_7, initT_8, resV, oneV, binA, unA, reduceCtorEq, Nat.reduceEqDiff, Nat.reduceAdd, Nat.reduceLT, Nat.reduceLeDiff, Nat.reduceMul, Nat.reduceSub, ↓reduceIte, decide_true, decide_false, Bool.true_eq_false, Bool.false_eq_true, Bool.not_true, Bool.not_false, if_true, if_false, and_true, true_and, memE, celE, w64, Nat.zero_add, Nat.add_zero, Nat.mul_one, putL, and_self, ldn, tm, t13, t14, t15, t16, t17, t18, t24, t25, ext_2_0, ext_2_1, h1, h2, gt_iff_lt, ge_iff_le, goG_undef, beq_self_eq_true, bne_self_eq_false]
                exact ⟨⟨j + 1, _, up, by omega, rfl, X2, hup, by simp⟩, by simp [intOf]; omega⟩
            · have hlt' : ¬ ((j : Int) ≤ 15) := by omega
              simp (config := {implicitDefEqProofs := false, maxDischargeDepth := 20}) (disch := first | omega | (simp only [lenE]; done) | (simp only [lenE]; omega) | rfl | (simp only [lenE, markR_len]; done) | (simp only [lenE, markR_len]; omega)) only [runE, mapE, listE, initT_5, initT_6, initT_7, initT_8, resV, oneV, binA, unA, reduceCtorEq, Nat.reduceEqDiff, Nat.reduceAdd, Nat.reduceLT, Nat.reduceLeDiff, Nat.reduceMul, Nat.reduceSub, ↓reduceIte, decide_true, decide_false, Bool.true_eq_false, Bool.false_eq_true, Bool.not_true, Bool.not_false, if_true, if_false, and_true, true_and, memE, celE, w64, Nat.zero_add, Nat.add_zero, Nat.mul_one, putL, and_self, ldn, tm, t13, t14, t15, t16, t17, t18, t24, t25, hlt']
        · have hq' : ¬ ((K : Int) ≤ (critF w o u : Int)) := by omega
          simp (config := {implicitDefEqProofs := false, maxDischargeDepth := 20}) (disch := first | omega | (simp only [lenE]; done) | (simp only [lenE]; omega) | rfl | (simp only [lenE, markR_len]; done) | (simp only [lenE, markR_len]; omega)) only [runE, mapE, listE, initT_5, initT_6, initT_7, initT_8, resV, oneV, binA, unA, reduceCtorEq, Nat.reduceEqDiff, Nat.reduceAdd, Nat.reduceLT, Nat.reduceLeDiff, Nat.reduceMul, Nat.reduceSub, ↓reduceIte, decide_true, decide_false, Bool.true_eq_false, Bool.false_eq_true, Bool.not_true, Bool.not_false, if_true, if_false, and_true, true_and, memE, celE, w64, Nat.zero_add, Nat.add_zero, Nat.mul_one, putL, and_self, ldn, ext_2_0, ext_2_1, hq', goG_undef]
          cases hf : fn with
          | false => simp (config := {implicitDefEqProofs := false, maxDischargeDepth := 20}) (disch := first | omega | (simp only [lenE]; done) | (simp only [lenE]; omega) | rfl | (simp only [lenE, markR_len]; done) | (simp only [lenE, markR_len]; omega)) only [runE, mapE, listE, initT_5, initT_6, initT_7, initT_8, resV, oneV, binA, unA, reduceCtorEq, Nat.reduceEqDiff, Nat.reduceAdd, Nat.reduceLT, Nat.reduceLeDiff, Nat.reduceMul, Nat.reduceSub, ↓reduceIte, decide_true, decide_false, Bool.true_eq_false, Bool.false_eq_true, Bool.not_true, Bool.not_false, if_true, if_false, and_true, true_and, memE, celE, w64, Nat.zero_add, Nat.add_zero, Nat.mul_one, putL, and_self, ldn, goG_undef]
          | true =>
            rw [hf] at hfn
            have hfn2 := hfn.symm
            obtain ⟨gx, ga, gb, gu2, gs2⟩ := startB_yes hfn2
            have hTe : T = trigTo x a b xu xs 16 := by rw [hT, hfn2]; rfl
            obtain ⟨V, hV15, hV⟩ := trig_all gx ga.1 gb.1 gs2.1 (un := xu)
            rw [← hTe] at hV
            have D1 : ∀ M (j : Nat), j ≤ 15 → OwnR M Xd x → RC Try.prog 65 [.slice (some ⟨Xd, 0, none⟩) x.length 1, .int .i64 a, .int .i64 b, .int .i64 xu, .int .i64 xs, .int .i64 j] M (AnsV (.tuple #[.int .i64 (levF x a b xu xs j), .bool true])) := fun M j hj h => by
              have := implOrderUpTo_rc _ _ x a b xu xs j (IX M h)
              have hc : upB x a b xu xs (j : Int) = true := by
                unfold upB; rw [hfn2, Bool.true_and, inB_iff]; omega
              rw [hc] at this
              exact this
            simp (config := {implicitDefEqProofs := false, maxDischargeDepth := 20}) (disch := first | omega | (simp only [lenE]; done) | (simp only [lenE]; omega) | rfl | (simp only [lenE, markR_len]; done) | (simp only [lenE, markR_len]; omega)) only [runE, mapE, listE, initT_5, initT_6, initT_7, initT_8, resV, oneV, binA, unA, reduceCtorEq, Nat.reduceEqDiff, Nat.reduceAdd, Nat.reduceLT, Nat.reduceLeDiff, Nat.reduceMul, Nat.reduceSub, ↓reduceIte, decide_true, decide_false, Bool.true_eq_false, Bool.false_eq_true, Bool.not_true, Bool.not_false, if_true, if_false, and_true, true_and, memE, celE, w64, Nat.zero_add, Nat.add_zero, Nat.mul_one, putL, and_self, ldn, goG_undef]
            refine loop_inv mixed (fun s => ∃ (j : Nat) (M : Mem) (up : Int), j ≤ 16 ∧ s.m = M ∧ OwnR M Xd x ∧ (up = -1 ∨ up = (V : Int)) ∧ s.t 13 = .slice (some ⟨Xd, 0, none⟩) x.length 1 ∧ s.t 14 = .int .i64 a ∧ s.t 15 = .int .i64 b ∧ s.t 16 = .int .i64 xu ∧ s.t 17 = .int .i64 xs ∧ s.t 18 = .int .i64 T ∧ s.t 24 = .int .i64 up ∧ s.t 25 = .int .i64 j) (fun s => 20 - (intOf (s.t 25)).toNat)
              ⟨0, _, -1, by omega, rfl, X', .inl rfl, rfl, rfl, rfl, rfl, rfl, rfl, rfl, rfl⟩ ?_
            rintro s ⟨j, M, up, hj, tm, X, hup, t13, t14, t15, t16, t17, t18, t24, t25⟩
            by_cases hlt : j ≤ 15
            · have hlt' : (j : Int) ≤ 15 := by omega
              obtain ⟨v1, v2⟩ := hV j hlt
              have lin := lev_in x a b xu xs hlt
              simp (config := {implicitDefEqProofs := false, maxDischargeDepth := 20}) (disch := first | omega | (simp only [lenE]; done) | (simp only [lenE]; omega) | rfl | (simp only [lenE, markR_len]; done) | (simp only [lenE, markR_len]; omega)) only [runE, mapE, listE, initT_5, initT_6, initT_7, initT_8, resV, oneV, binA, unA, reduceCtorEq, Nat.reduceEqDiff, Nat.reduceAdd, Nat.reduceLT, Nat.reduceLeDiff, Nat.reduceMul, Nat.reduceSub, ↓reduceIte, decide_true, decide_false, Bool.true_eq_false, Bool.false_eq_true, Bool.not_true, Bool.not_false, if_true, if_false, and_true, true_and, memE, celE, w64, Nat.zero_add, Nat.add_zero, Nat.mul_one, putL, and_self, ldn, tm, t13, t14, t15, t16, t17, t18, t24, t25, hlt']
              refine callH_rc (D1 _ j hlt X) ?_
              rintro r new ⟨rfl, nr⟩
              have X2 := X.ext new
              by_cases hl : j < levF x a b xu xs j
              · have h1 : (j : Int) < (levF x a b xu xs j : Int) := by omega
                have h2 : (j : Int) ≤ T := v1.1 hl
                have h3 := v2 hl
                rw [h3] at h1
                rcases hup with rfl | rfl
                · have m1 : ¬ ((0 : Int) ≤ -1) := by decide
                  simp (config := {implicitDefEqProofs := false, maxDischargeDepth := 20}) (disch := first | omega | (simp only [lenE]; done) | (simp only [lenE]; omega) | rfl | (simp only [lenE, markR_len]; done) | (simp only [lenE, markR_len]; omega)) only [runE, mapE, listE, initT_5, initT_6, initT_7, initT_8, resV, oneV, binA, unA, reduceCtorEq, Nat.reduceEqDiff, Nat.reduceAdd, Nat.reduceLT, Nat.reduceLeDiff, Nat.reduceMul, Nat.reduceSub, ↓reduceIte, decide_true, decide_false, Bool.true_eq_false, Bool.false_eq_true, Bool.not_true, Bool.not_false, if_true, if_false, and_true, true_and, memE, celE, w64, Nat.zero_add, Nat.add_zero, Nat.mul_one, putL, and_self, ldn, tm, t13, t14, t15, t16, t17, t18, t24, t25, ext_2_0, ext_2_1, h3, h1, h2, gt_iff_lt, ge_iff_le, m1, goG_undef, beq_self_eq_true, bne_self_eq_false]
                  exact ⟨⟨j + 1, _, V, by omega, rfl, X2, .inr rfl, by simp⟩, by simp [intOf]; omega⟩
                · have m1 : (0 : Int) ≤ (V : Int) := by omega
                  simp (config := {implicitDefEqProofs := false, maxDischargeDepth := 20}) (disch := first | omega | (simp only [lenE]; done) | (simp only [lenE]; omega) | rfl | (simp only [lenE, markR_len]; done) | (simp only [lenE, markR_len]; omega)) only [runE, mapE, listE, initT_5, initT_6, initT_7, initT_8, resV, oneV, binA, unA, reduceCtorEq, Nat.reduceEqDiff, Nat.reduceAdd, Nat.reduceLT, Nat.reduceLeDiff, Nat.reduceMul, Nat.reduceSub, ↓reduceIte, decide_true, decide_false, Bool.true_eq_false, Bool.false_eq_true, Bool.not_true, Bool.not_false, if_true, if_false, and_true, true_and, memE, celE, w64, Nat.zero_add, Nat.add_zero, Nat.mul_one, putL, and_self, ldn, tm, t13, t14, t15, t16, t17, t18, t24, t25, ext_2_0, ext_2_1, h3, h1, h2, gt_iff_lt, ge_iff_le, m1, goG_undef, beq_self_eq_true, bne_self_eq_false]
                  exact ⟨⟨j + 1, _, V, by omega, rfl, X2, .inr rfl, by simp⟩, by simp [intOf]; omega⟩
              · have h1 : ¬ ((j : Int) < (levF x a b xu xs j : Int)) := by omega
                have h2 : ¬ ((j : Int) ≤ T) := fun hh => hl (v1.2 hh)
                simp (config := {implicitDefEqProofs := false, maxDischargeDepth := 20}) (disch := first | omega | (simp only [lenE]; done) | (simp only [lenE]; omega) | rfl | (simp only [lenE, markR_len]; done) | (simp only [lenE, markR_len]; omega)) only [runE, mapE, listE, initT_5, initT_6, initT_7, initT_8, resV, oneV, binA, unA, reduceCtorEq, Nat.reduceEqDiff, Nat.reduceAdd, Nat.reduceLT, Nat.reduceLeDiff, Nat.reduceMul, Nat.reduceSub, ↓reduceIte, decide_true, decide_false, Bool.true_eq_false, Bool.false_eq_true, Bool.not_true, Bool.not_false, if_true, if_false, and_true, true_and, memE, celE, w64, Nat.zero_add, Nat.add_zero, Nat.mul_one, putL, and_self, ldn, tm, t13, t14, t15, t16, t17, t18, t24, t25, ext_2_0, ext_2_1, h1, h2, gt_iff_lt, ge_iff_le, goG_undef, beq_self_eq_true, bne_self_eq_false]
                exact ⟨⟨j + 1, _, up, by omega, rfl, X2, hup, by simp⟩, by simp [intOf]; omega⟩
            · have hlt' : ¬ ((j : Int) ≤ 15) := by omega
              simp (config := {implicitDefEqProofs := false, maxDischargeDepth := 20}) (disch := first | omega | (simp only [lenE]; done) | (simp only [lenE]; omega) | rfl | (simp only [lenE, markR_len]; done) | (simp only [lenE, markR_len]; omega)) only [runE, mapE, listE, initT_5, initT_6, initT_7, initT_8, resV, oneV, binA, unA, reduceCtorEq, Nat.reduceEqDiff, Nat.reduceAdd, Nat.reduceLT, Nat.reduceLeDiff, Nat.reduceMul, Nat.reduceSub, ↓reduceIte, decide_true, decide_false, Bool.true_eq_false, Bool.false_eq_true, Bool.not_true, Bool.not_false, if_true, if_false, and_true, true_and, memE, celE, w64, Nat.zero_add, Nat.add_zero, Nat.mul_one, putL, and_self, ldn, tm, t13, t14, t15, t16, t17, t18, t24, t25, hlt']
      · have hs0' : (s == 0) = true := by simp [hs0]
        have hn0' : (un == 0) = false := by simp [hn0]
        simp (config := {implicitDefEqProofs := false, maxDischargeDepth := 20}) (disch := first | omega | (simp only [lenE]; done) | (simp only [lenE]; omega) | rfl | (simp only [lenE, markR_len]; done) | (simp only [lenE, markR_len]; omega)) only [runE, mapE, listE, initT_5, initT_6, initT_7, initT_8, resV, oneV, binA, unA, reduceCtorEq, Nat.reduceEqDiff, Nat.reduceAdd, Nat.reduceLT, Nat.reduceLeDiff, Nat.reduceMul, Nat.reduceSub, ↓reduceIte, decide_true, decide_false, Bool.true_eq_false, Bool.false_eq_true, Bool.not_true, Bool.not_false, if_true, if_false, and_true, true_and, memE, celE, w64, Nat.zero_add, Nat.add_zero, Nat.mul_one, putL, and_self, ldn, goG_undef, bne_self_eq_false, beq_self_eq_true, l1, hs0', hn0']
        cases hf : fn with
        | false => simp (config := {implicitDefEqProofs := false, maxDischargeDepth := 20}) (disch := first | omega | (simp only [lenE]; done) | (simp only [lenE]; omega) | rfl | (simp only [lenE, markR_len]; done) | (simp only [lenE, markR_len]; omega)) only [runE, mapE, listE, initT_5, initT_6, initT_7, initT_8, resV, oneV, binA, unA, reduceCtorEq, Nat.reduceEqDiff, Nat.reduceAdd, Nat.reduceLT, Nat.reduceLeDiff, Nat.reduceMul, Nat.reduceSub, ↓reduceIte, decide_true, decide_false, Bool.true_eq_false, Bool.false_eq_true, Bool.not_true, Bool.not_false, if_true, if_false, and_true, true_and, memE, celE, w64, Nat.zero_add, Nat.add_zero, Nat.mul_one, putL, and_self, ldn, goG_undef]
        | true =>
          rw [hf] at hfn
          have hfn2 := hfn.symm
          obtain ⟨gx, ga, gb, gu2, gs2⟩ := startB_yes hfn2
          have hTe : T = trigTo x a b xu xs 16 := by rw [hT, hfn2]; rfl
          obtain ⟨V, hV15, hV⟩ := trig_all gx ga.1 gb.1 gs2.1 (un := xu)
          rw [← hTe] at hV
          have D1 : ∀ M (j : Nat), j ≤ 15 → OwnR M Xd x → RC Try.prog 65 [.slice (some ⟨Xd, 0, none⟩) x.length 1, .int .i64 a, .int .i64 b, .int .i64 xu, .int .i64 xs, .int .i64 j] M (AnsV (.tuple #[.int .i64 (levF x a b xu xs j), .bool true])) := fun M j hj h => by
            have := implOrderUpTo_rc _ _ x a b xu xs j (IX M h)
            have hc : upB x a b xu xs (j : Int) = true := by
              unfold upB; rw [hfn2, Bool.true_and, inB_iff]; omega
            rw [hc] at this
            exact this
          simp (config := {implicitDefEqProofs := false, maxDischargeDepth := 20}) (disch := first | omega | (simp only [lenE]; done) | (simp only [lenE]; omega) | rfl | (simp only [lenE, markR_len]; done) | (simp only [lenE, markR_len]; omega)) only [runE, mapE, listE, initT_5, initT_6, initT_7, initT_8, resV, oneV, binA, unA, reduceCtorEq, Nat.reduceEqDiff, Nat.reduceAdd, Nat.reduceLT, Nat.reduceLeDiff, Nat.reduceMul, Nat.reduceSub, ↓reduceIte, decide_true, decide_false, Bool.true_eq_false, Bool.false_eq_true, Bool.not_true, Bool.not_false, if_true, if_false, and_true, true_and, memE, celE, w64, Nat.zero_add, Nat.add_zero, Nat.mul_one, putL, and_self, ldn, goG_undef]
          refine loop_inv mixed (fun s => ∃ (j : Nat) (M : Mem) (up : Int), j ≤ 16 ∧ s.m = M ∧ OwnR M Xd x ∧ (up = -1 ∨ up = (V : Int)) ∧ s.t 13 = .slice (some ⟨Xd, 0, none⟩) x.length 1 ∧ s.t 14 = .int .i64 a ∧ s.t 15 = .int .i64 b ∧ s.t 16 = .int .i64 xu ∧ s.t 17 = .int .i64 xs ∧ s.t 18 = .int .i64 T ∧ s.t 24 = .int .i64 up ∧ s.t 25 = .int .i64 j) (fun s => 20 - (intOf (s.t 25)).toNat)
            ⟨0, _, -1, by omega, rfl, X7, .inl rfl, rfl, rfl, rfl, rfl, rfl, rfl, rfl, rfl⟩ ?_
          rintro s ⟨j, M, up, hj, tm, X, hup, t13, t14, t15, t16, t17, t18, t24, t25⟩
          by_cases hlt : j ≤ 15
          · have hlt' : (j : Int) ≤ 15 := by omega
            obtain ⟨v1, v2⟩ := hV j hlt
            have lin := lev_in x a b xu xs hlt
            simp (config := {implicitDefEqProofs := false, maxDischargeDepth := 20}) (disch := first | omega | (simp only [lenE]; done) | (simp only [lenE]; omega) | rfl | (simp only [lenE, markR_len]; done) | (simp only [lenE, markR_len]; omega)) only [runE, mapE, listE, initT_5, initT_6, initT_7, initT_8, resV, oneV, binA, unA, reduceCtorEq, Nat.reduceEqDiff, Nat.reduceAdd, Nat.reduceLT, Nat.reduceLeDiff, Nat.reduceMul, Nat.reduceSub, ↓reduceIte, decide_true, decide_false, Bool.true_eq_false, Bool.false_eq_true, Bool.not_true, Bool.not_false, if_true, if_false, and_true, true_and, memE, celE, w64, Nat.zero_add, Nat.add_zero, Nat.mul_one, putL, and_self, ldn, tm, t13, t14, t15, t16, t17, t18, t24, t25, hlt']
            refine callH_rc (D1 _ j hlt X) ?_
            rintro r new ⟨rfl, nr⟩
            have X2 := X.ext new
            by_cases hl : j < levF x a b xu xs j
            · have h1 : (j : Int) < (levF x a b xu xs j : Int) := by omega
              have h2 : (j : Int) ≤ T := v1.1 hl
              have h3 := v2 hl
              rw [h3] at h1
              rcases hup with rfl | rfl
              · have m1 : ¬ ((0 : Int) ≤ -1) := by decide
                simp (config := {implicitDefEqProofs := false, maxDischargeDepth := 20}) (disch := first | omega | (simp only [lenE]; done) | (simp only [lenE]; omega) | rfl | (simp only [lenE, markR_len]; done) | (simp only [lenE, markR_len]; omega)) only [runE, mapE, listE, initT_5, initT_6, initT_7, initT_8, resV, oneV, binA, unA, reduceCtorEq, Nat.reduceEqDiff, Nat.reduceAdd, Nat.reduceLT, Nat.reduceLeDiff, Nat.reduceMul, Nat.reduceSub, ↓reduceIte, decide_true, decide_false, Bool.true_eq_false, Bool.false_eq_true, Bool.not_true, Bool.not_false, if_true, if_false, and_true, true_and, memE, celE, w64, Nat.zero_add, Nat.add_zero, Nat.mul_one, putL, and_self, ldn, tm, t13, t14, t15, t16, t17, t18, t24, t25, ext_2_0, ext_2_1, h3, h1, h2, gt_iff_lt, ge_iff_le, m1, goG_undef, beq_self_eq_true, bne_self_eq_false]
                exact ⟨⟨j + 1, _, V, by omega, rfl, X2, .inr rfl, by simp⟩, by simp [intOf]; omega⟩
              · have m1 : (0 : Int) ≤ (V : Int) := by omega
                simp (config := {implicitDefEqProofs := false, maxDischargeDepth := 20}) (disch := first | omega | (simp only [lenE]; done) | (simp only [lenE]; omega) | rfl | (simp only [lenE, markR_len]; done) | (simp only [lenE, markR_len]; omega)) only [runE, mapE, listE, initT_5, initT_6, initT_7, initT_8, resV, oneV, binA, unA, reduceCtorEq, Nat.reduceEqDiff, Nat.reduceAdd, Nat.reduceLT, Nat.reduceLeDiff, Nat.reduceMul, Nat.reduceSub, ↓reduceIte, decide_true, decide_false, Bool.true_eq_false, Bool.false_eq_true, Bool.not_true, Bool.not_false, if_true, if_false, and_true, true_and, memE, celE, w64, Nat.zero_add, Nat.add_zero, Nat.mul_one, putL, and_self, ldn, tm, t13, t14, t15, t16, t17, t18, t24, t25, ext_2_0, ext_2_1, h3, h1, h2, gt_iff_lt, ge_iff_le, m1, goG_undef, beq_self_eq_true, bne_self_eq_false]
                exact ⟨⟨j + 1, _, V, by omega, rfl, X2, .inr rfl, by simp⟩, by simp [intOf]; omega⟩
            · have h1 : ¬ ((j : Int) < (levF x a b xu xs j : Int)) := by omega
              have h2 : ¬ ((j : Int) ≤ T) := fun hh => hl (v1.2 hh)
              simp (config := {implicitDefEqProofs := false, maxDischargeDepth := 20}) (disch := first | omega | (simp only [lenE]; done) | (simp only [lenE]; omega) | rfl | (simp only [lenE, markR_len]; done) | (simp only [lenE, markR_len]; omega)) only [runE, mapE, listE, initT_5, initT_6, initT_7, initT_8, resV, oneV, binA, unA, reduceCtorEq, Nat.reduceEqDiff, Nat.reduceAdd, Nat.reduceLT, Nat.reduceLeDiff, Nat.reduceMul, Nat.reduceSub, ↓reduceIte, decide_true, decide_false, Bool.true_eq_false, Bool.false_eq_true, Bool.not_true, Bool.not_false, if_true, if_false, and_true, true_and, memE, celE, w64, Nat.zero_add, Nat.add_zero, Nat.mul_one, putL, and_self, ldn, tm, t13, t14, t15, t16, t17, t18, t24, t25, ext_2_0, ext_2_1, h1, h2, gt_iff_lt, ge_iff_le, goG_undef, beq_self_eq_true, bne_self_eq_false]
              exact ⟨⟨j + 1, _, up, by omega, rfl, X2, hup, by simp⟩, by simp [intOf]; omega⟩
          · have hlt' : ¬ ((j : Int) ≤ 15) := by omega
            simp (config := {implicitDefEqProofs := false, maxDischargeDepth := 20}) (disch := first | omega | (simp only [lenE]; done) | (simp only [lenE]; omega) | rfl | (simp only [lenE, markR_len]; done) | (simp only [lenE, markR_len]; omega)) only [runE, mapE, listE, initT_5, initT_6, initT_7, initT_8, resV, oneV, binA, unA, reduceCtorEq, Nat.reduceEqDiff, Nat.reduceAdd, Nat.reduceLT, Nat.reduceLeDiff, Nat.reduceMul, Nat.reduceSub, ↓reduceIte, decide_true, decide_false, Bool.true_eq_false, Bool.false_eq_true, Bool.not_true, Bool.not_false, if_true, if_false, and_true, true_and, memE, celE, w64, Nat.zero_add, Nat.add_zero, Nat.mul_one, putL, and_self, ldn, tm, t13, t14, t15, t16, t17, t18, t24, t25, hlt']
    · have hs0' : (s == 0) = false := by simp [hs0]
      simp (config := {implicitDefEqProofs := false, maxDischargeDepth := 20}) (disch := first | omega | (simp only [lenE]; done) | (simp only [lenE]; omega) | rfl | (simp only [lenE, markR_len]; done) | (simp only [lenE, markR_len]; omega)) only [runE, mapE, listE, initT_5, initT_6, initT_7, initT_8, resV, oneV, binA, unA, reduceCtorEq, Nat.reduceEqDiff, Nat.reduceAdd, Nat.reduceLT, Nat.reduceLeDiff, Nat.reduceMul, Nat.reduceSub, ↓reduceIte, decide_true, decide_false, Bool.true_eq_false, Bool.false_eq_true, Bool.not_true, Bool.not_false, if_true, if_false, and_true, true_and, memE, celE, w64, Nat.zero_add, Nat.add_zero, Nat.mul_one, putL, and_self, ldn, goG_undef, bne_self_eq_false, beq_self_eq_true, l1, hs0']
      cases hf : fn with
      | false => simp (config := {implicitDefEqProofs := false, maxDischargeDepth := 20}) (disch := first | omega | (simp only [lenE]; done) | (simp only [lenE]; omega) | rfl | (simp only [lenE, markR_len]; done) | (simp only [lenE, markR_len]; omega)) only [runE, mapE, listE, initT_5, initT_6, initT_7, initT_8, resV, oneV, binA, unA, reduceCtorEq, Nat.reduceEqDiff, Nat.reduceAdd, Nat.reduceLT, Nat.reduceLeDiff, Nat.reduceMul, Nat.reduceSub, ↓reduceIte, decide_true, decide_false, Bool.true_eq_false, Bool.false_eq_true, Bool.not_true, Bool.not_false, if_true, if_false, and_true, true_and, memE, celE, w64, Nat.zero_add, Nat.add_zero, Nat.mul_one, putL, and_self, ldn, goG_undef]
      | true =>
        rw [hf] at hfn
        have hfn2 := hfn.symm
        obtain ⟨gx, ga, gb, gu2, gs2⟩ := startB_yes hfn2
        have hTe : T = trigTo x a b xu xs 16 := by rw [hT, hfn2]; rfl
        obtain ⟨V, hV15, hV⟩ := trig_all gx ga.1 gb.1 gs2.1 (un := xu)
        rw [← hTe] at hV
        have D1 : ∀ M (j : Nat), j ≤ 15 → OwnR M Xd x → RC Try.prog 65 [.slice (some ⟨Xd, 0, none⟩) x.length 1, .int .i64 a, .int .i64 b, .int .i64 xu, .int .i64 xs, .int .i64 j] M (AnsV (.tuple #[.int .i64 (levF x a b xu xs j), .bool true])) := fun M j hj h => by
          have := implOrderUpTo_rc _ _ x a b xu xs j (IX M h)
          have hc : upB x a b xu xs (j : Int) = true := by
            unfold upB; rw [hfn2, Bool.true_and, inB_iff]; omega
          rw [hc] at this
          exact this
        simp (config := {implicitDefEqProofs := false, maxDischargeDepth := 20}) (disch := first | omega | (simp only [lenE]; done) | (simp only [lenE]; omega) | rfl | (simp only [lenE, markR_len]; done) | (simp only [lenE, markR_len]; omega)) only [runE, mapE, listE, initT_5, initT_6, initT_7, initT_8, resV, oneV, binA, unA, reduceCtorEq, Nat.reduceEqDiff, Nat.reduceAdd, Nat.reduceLT, Nat.reduceLeDiff, Nat.reduceMul, Nat.reduceSub, ↓reduceIte, decide_true, decide_false, Bool.true_eq_false, Bool.false_eq_true, Bool.not_true, Bool.not_false, if_true, if_false, and_true, true_and, memE, celE, w64, Nat.zero_add, Nat.add_zero, Nat.mul_one, putL, and_self, ldn, goG_undef]
        refine loop_inv mixed (fun s => ∃ (j : Nat) (M : Mem) (up : Int), j ≤ 16 ∧ s.m = M ∧ OwnR M Xd x ∧ (up = -1 ∨ up = (V : Int)) ∧ s.t 13 = .slice (some ⟨Xd, 0, none⟩) x.length 1 ∧ s.t 14 = .int .i64 a ∧ s.t 15 = .int .i64 b ∧ s.t 16 = .int .i64 xu ∧ s.t 17 = .int .i64 xs ∧ s.t 18 = .int .i64 T ∧ s.t 24 = .int .i64 up ∧ s.t 25 = .int .i64 j) (fun s => 20 - (intOf (s.t 25)).toNat)
          ⟨0, _, -1, by omega, rfl, X7, .inl rfl, rfl, rfl, rfl, rfl, rfl, rfl, rfl, rfl⟩ ?_
        rintro s ⟨j, M, up, hj, tm, X, hup, t13, t14, t15, t16, t17, t18, t24, t25⟩
        by_cases hlt : j ≤ 15
        · have hlt' : (j : Int) ≤ 15 := by omega
          obtain ⟨v1, v2⟩ := hV j hlt
          have lin := lev_in x a b xu xs hlt
          simp (config := {implicitDefEqProofs := false, maxDischargeDepth := 20}) (disch := first | omega | (simp only [lenE]; done) | (simp only [lenE]; omega) | rfl | (simp only [lenE, markR_len]; done) | (simp only [lenE, markR_len]; omega)) only [runE, mapE, listE, initT_5, initT_6, initT_7, initT_8, resV, oneV, binA, unA, reduceCtorEq, Nat.reduceEqDiff, Nat.reduceAdd, Nat.reduceLT, Nat.reduceLeDiff, Nat.reduceMul, Nat.reduceSub, ↓reduceIte, decide_true, decide_false, Bool.true_eq_false, Bool.false_eq_true, Bool.not_true, Bool.not_false, if_true, if_false, and_true, true_and, memE, celE, w64, Nat.zero_add, Nat.add_zero, Nat.mul_one, putL, and_self, ldn, tm, t13, t14, t15, t16, t17, t18, t24, t25, hlt']
          refine callH_rc (D1 _ j hlt X) ?_
          rintro r new ⟨rfl, nr⟩
          have X2 := X.ext new
          by_cases hl : j < levF x a b xu xs j
          · have h1 : (j : Int) < (levF x a b xu xs j : Int) := by omega
            have h2 : (j : Int) ≤ T := v1.1 hl
            have h3 := v2 hl
            rw [h3] at h1
            rcases hup with rfl | rfl
            · have m1 : ¬ ((0 : Int) ≤ -1) := by decide
              simp (config := {implicitDefEqProofs := false, maxDischargeDepth := 20}) (disch := first | omega | (simp only [lenE]; done) | (simp only [lenE]; omega) | rfl | (simp only [lenE, markR_len]; done) | (simp only [lenE, markR_len]; omega)) only [runE, mapE, listE, initT_5, initT_6, initT_7, initT_8, resV, oneV, binA, unA, reduceCtorEq, Nat.reduceEqDiff, Nat.reduceAdd, Nat.reduceLT, Nat.reduceLeDiff, Nat.reduceMul, Nat.reduceSub, ↓reduceIte, decide_true, decide_false, Bool.true_eq_false, Bool.false_eq_true, Bool.not_true, Bool.not_false, if_true, if_false, and_true, true_and, memE, celE, w64, Nat.zero_add, Nat.add_zero, Nat.mul_one, putL, and_self, ldn, tm, t13, t14, t15, t16, t17, t18, t24, t25, ext_2_0, ext_2_1, h3, h1, h2, gt_iff_lt, ge_iff_le, m1, goG_undef, beq_self_eq_true, bne_self_eq_false]
              exact ⟨⟨j + 1, _, V, by omega, rfl, X2, .inr rfl, by simp⟩, by simp [intOf]; omega⟩
            · have m1 : (0 : Int) ≤ (V : Int) := by omega
              simp (config := {implicitDefEqProofs := false, maxDischargeDepth := 20}) (disch := first | omega | (simp only [lenE]; done) | (simp only [lenE]; omega) | rfl | (simp only [lenE, markR_len]; done) | (simp only [lenE, markR_len]; omega)) only [runE, mapE, listE, initT_5, initT_6, initT_7, initT_8, resV, oneV, binA, unA, reduceCtorEq, Nat.reduceEqDiff, Nat.reduceAdd, Nat.reduceLT, Nat.reduceLeDiff, Nat.reduceMul, Nat.reduceSub, ↓reduceIte, decide_true, decide_false, Bool.true_eq_false, Bool.false_eq_true, Bool.not_true, Bool.not_false, if_true, if_false, and_true, true_and, memE, celE, w64, Nat.zero_add, Nat.add_zero, Nat.mul_one, putL, and_self, ldn, tm, t13, t14, t15, t16, t17, t18, t24, t25, ext_2_0, ext_2_1, h3, h1, h2, gt_iff_lt, ge_iff_le, m1, goG_undef, beq_self_eq_true, bne_self_eq_false]
              exact ⟨⟨j + 1, _, V, by omega, rfl, X2, .inr rfl, by simp⟩, by simp [intOf]; omega⟩
          · have h1 : ¬ ((j : Int) < (levF x a b xu xs j : Int)) := by omega
            have h2 : ¬ ((j : Int) ≤ T) := fun hh => hl (v1.2 hh)
            simp (config := {implicitDefEqProofs := false, maxDischargeDepth := 20}) (disch := first | omega | (simp only [lenE]; done) | (simp only [lenE]; omega) | rfl | (simp only [lenE, markR_len]; done) | (simp only [lenE, markR_len]; omega)) only [runE, mapE, listE, initT_5, initT_6, initT_7, initT_8, resV, oneV, binA, unA, reduceCtorEq, Nat.reduceEqDiff, Nat.reduceAdd, Nat.reduceLT, Nat.reduceLeDiff, Nat.reduceMul, Nat.reduceSub, ↓reduceIte, decide_true, decide_false, Bool.true_eq_false, Bool.false_eq_true, Bool.not_true, Bool.not_false, if_true, if_false, and_true, true_and, memE, celE, w64, Nat.zero_add, Nat.add_zero, Nat.mul_one, putL, and_self, ldn, tm, t13, t14, t15, t16, t17, t18, t24, t25, ext_2_0, ext_2_1, h1, h2, gt_iff_lt, ge_iff_le, goG_undef, beq_self_eq_true, bne_self_eq_false]
            exact ⟨⟨j + 1, _, up, by omega, rfl, X2, hup, by simp⟩, by simp [intOf]; omega⟩
        · have hlt' : ¬ ((j : Int) ≤ 15) := by omega
          simp (config := {implicitDefEqProofs := false, maxDischargeDepth := 20}) (disch := first | omega | (simp only [lenE]; done) | (simp only [lenE]; omega) | rfl | (simp only [lenE, markR_len]; done) | (simp only [lenE, markR_len]; omega)) only [runE, mapE, listE, initT_5, initT_6, initT_7, initT_8, resV, oneV, binA, unA, reduceCtorEq, Nat.reduceEqDiff, Nat.reduceAdd, Nat.reduceLT, Nat.reduceLeDiff, Nat.reduceMul, Nat.reduceSub, ↓reduceIte, decide_true, decide_false, Bool.true_eq_false, Bool.false_eq_true, Bool.not_true, Bool.not_false, if_true, if_false, and_true, true_and, memE, celE, w64, Nat.zero_add, Nat.add_zero, Nat.mul_one, putL, and_self, ldn, tm, t13, t14, t15, t16, t17, t18, t24, t25, hlt']
end Go.Proofs.Ytfdpieeopdhcmaa.Ab
