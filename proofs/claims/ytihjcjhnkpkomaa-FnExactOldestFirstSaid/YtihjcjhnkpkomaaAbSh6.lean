/- Shelves: the issues that take the oldest units first, or the newest ones, by the model. -/
import Derived.Test.YtihjcjhnkpkomaaAbSh2
import Derived.Test.YtihjcjhnkpkomaaAbTabX
import Derived.Test.YtihjcjhnkpkomaaShMath2
namespace Go.Proofs.Ytihjcjhnkpkomaa.Ab
open Go Go.RowKit
set_option linter.unusedVariables false
set_option linter.unusedSimpArgs false

theorem least9_rc (m : Mem) (a b : Int) : RC Try.prog 101 [.int .i64 a, .int .i64 b] m fun r new => r = .int .i64 (min a b) ∧ new = [] := by
  refine rc_of_run mixed ok_spec_l1Least (by simp) (go_start _ _ _ ?_)
  by_cases h : a < b
  · simp (config := {implicitDefEqProofs := false, maxDischargeDepth := 20}) (disch := first | omega | (simp only [lenE]; done) | (simp only [lenE]; omega) | rfl | (simp only [lenE, markR_len]; done) | (simp only [lenE, markR_len]; omega)) only [runE, mapE, listE, initT_5, initT_6, initT_7, initT_8, resV, oneV, binA, unA, reduceCtorEq, Nat.reduceEqDiff, Nat.reduceAdd, Nat.reduceLT, Nat.reduceLeDiff, Nat.reduceMul, Nat.reduceSub, ↓reduceIte, decide_true, decide_false, Bool.true_eq_false, Bool.false_eq_true, Bool.not_true, Bool.not_false, if_true, if_false, and_true, true_and, memE, celE, w64, Nat.zero_add, Nat.add_zero, Nat.mul_one, putL, and_self, ldn, c_spec_l1Least, r_spec_l1Least, h]
    exact newQ_nil ⟨by congr 1; omega, rfl⟩
  · simp (config := {implicitDefEqProofs := false, maxDischargeDepth := 20}) (disch := first | omega | (simp only [lenE]; done) | (simp only [lenE]; omega) | rfl | (simp only [lenE, markR_len]; done) | (simp only [lenE, markR_len]; omega)) only [runE, mapE, listE, initT_5, initT_6, initT_7, initT_8, resV, oneV, binA, unA, reduceCtorEq, Nat.reduceEqDiff, Nat.reduceAdd, Nat.reduceLT, Nat.reduceLeDiff, Nat.reduceMul, Nat.reduceSub, ↓reduceIte, decide_true, decide_false, Bool.true_eq_false, Bool.false_eq_true, Bool.not_true, Bool.not_false, if_true, if_false, and_true, true_and, memE, celE, w64, Nat.zero_add, Nat.add_zero, Nat.mul_one, putL, and_self, ldn, c_spec_l1Least, r_spec_l1Least, h]
    exact newQ_nil ⟨by congr 1; omega, rfl⟩
theorem l9Make_rc (m : Mem) (v : Value) (s : Sh) (nw : Bool) (h : ShA m v s) (hg : GoodSh s) :
    RC Try.prog 66 [v, .bool nw] m (AnsO m (TabO (allG s nw s.need.length).2) _root_.id) := by
  refine rc_of_run mixed ok_spec_l9Make (by simp) (go_start _ _ _ ?_)
  obtain ⟨a, b, rfl, ha, hb⟩ := h.ro
  have hla := hg.la
  have n8 := hg.n8
  have l1 := hg.l1
  have l8 := hg.l8
  have hX := (Ext.refl m).one 27 [.int .i64 s.life, a, b, .int .i64 s.waste, .int .i64 s.lost]
  simp (config := {implicitDefEqProofs := false, maxDischargeDepth := 20}) (disch := first | omega | (simp only [lenE]; done) | (simp only [lenE]; omega) | rfl | (simp only [lenE, markR_len]; done) | (simp only [lenE, markR_len]; omega)) only [runE, mapE, listE, initT_5, initT_6, initT_7, initT_8, resV, oneV, binA, unA, reduceCtorEq, Nat.reduceEqDiff, Nat.reduceAdd, Nat.reduceLT, Nat.reduceLeDiff, Nat.reduceMul, Nat.reduceSub, ↓reduceIte, decide_true, decide_false, Bool.true_eq_false, Bool.false_eq_true, Bool.not_true, Bool.not_false, if_true, if_false, and_true, true_and, memE, celE, w64, Nat.zero_add, Nat.add_zero, Nat.mul_one, putL, and_self, ldn, c_spec_l9Make, r_spec_l9Make, hb.len]
  obtain ⟨M0, hM0⟩ : ∃ M0, M0 = roM m ++ [⟨.own, 27, [.int .i64 s.life, a, b, .int .i64 s.waste, .int .i64 s.lost]⟩] := ⟨_, rfl⟩
  have o1 : OwnB M0 m.length 27 [.int .i64 s.life, a, b, .int .i64 s.waste, .int .i64 s.lost] := by rw [hM0]; exact OwnB.here (by simp [roM_len])
  have hl0 : M0.length = m.length + 1 := by rw [hM0]; simp [roM_len]
  rw [← hM0] at hX ⊢
  refine callH_rc (l1Own_rc _ a s.arr (hX.ints ha) (by omega)) ?_
  intro r n1 hA
  obtain ⟨il, fl, rfl, gl, ol, -, nr1⟩ := hA.row
  replace hX := hX.app nr1
  replace o1 := o1.ext n1
  obtain ⟨M1, hM1⟩ : ∃ M1, M1 = M0 ++ n1 := ⟨_, rfl⟩
  rw [← hM1] at hX o1 ol ⊢
  have lol := ol.lt
  have hnil : TabX [] M1.length (M1 ++ [(⟨.own, 22, []⟩ : Blk)]).length (M1 ++ [⟨.own, 22, []⟩]) M1.length (fun _ => 0) (fun _ => 0) := by
    rw [List.length_append]
    exact tabX_nil (OwnB.here rfl) (Nat.le_refl _)
  simp (config := {implicitDefEqProofs := false, maxDischargeDepth := 20}) (disch := first | omega | (simp only [lenE]; done) | (simp only [lenE]; omega) | rfl | (simp only [lenE, markR_len]; done) | (simp only [lenE, markR_len]; omega)) only [runE, mapE, listE, initT_5, initT_6, initT_7, initT_8, resV, oneV, binA, unA, reduceCtorEq, Nat.reduceEqDiff, Nat.reduceAdd, Nat.reduceLT, Nat.reduceLeDiff, Nat.reduceMul, Nat.reduceSub, ↓reduceIte, decide_true, decide_false, Bool.true_eq_false, Bool.false_eq_true, Bool.not_true, Bool.not_false, if_true, if_false, and_true, true_and, memE, celE, w64, Nat.zero_add, Nat.add_zero, Nat.mul_one, putL, and_self, ldn, bsl_no]
  refine loop_inv mixed (fun s' => ∃ (t : Nat) (M : Mem) (id : Nat) (R F : Nat → Nat), t ≤ s.need.length ∧ s'.m = M ∧ Ext m M ∧ OwnB M m.length 27 [.int .i64 s.life, a, b, .int .i64 s.waste, .int .i64 s.lost] ∧ OwnR M il (allG s nw t).1 ∧ TabX (allG s nw t).2 M1.length M.length M id R F ∧
      s'.t 1 = .bool nw ∧ s'.t 2 = .pointer (some ⟨m.length, 0, none⟩) ∧ s'.t 5 = .int .i64 (s.need.length : Int) ∧ s'.t 6 = .slice (some ⟨il, 0, none⟩) s.arr.length fl ∧ s'.t 7 = .slice (some ⟨id, 0, none⟩) t 1 ∧ s'.t 8 = .int .i64 (t : Int)) (fun s' => s.need.length - (intOf (s'.t 8)).toNat)
    ⟨0, _, M1.length, _, _, by omega, rfl, hX.one _ _, o1.ext _, ol.ext _, hnil, rfl, rfl, rfl, rfl, rfl, rfl⟩ ?_
  rintro s' ⟨t, M, id, R, F, ht, tm, hX, o1, ol, hTX, t1, t2, t5, t6, t7, t8⟩
  by_cases hlt : t < s.need.length
  · have hlt' : (t : Int) < s.need.length := by omega
    have xb := hX.ints hb
    have zr : OwnR (M ++ [⟨.own, 3, List.replicate s.need.length (.int .i64 0)⟩]) M.length (List.replicate s.need.length 0) := OwnR.zeros rfl
    have xb' := (hX.one 3 (List.replicate s.need.length (.int .i64 0))).ints hb
    have ml : m.length < M.length := o1.lt
    have ill : il < M.length := ol.lt
    have tx := hTX.1
    have tx2 := hTX.2.1
    simp (config := {implicitDefEqProofs := false, maxDischargeDepth := 20}) (disch := first | omega | (simp only [lenE]; done) | (simp only [lenE]; omega) | rfl | (simp only [lenE, markR_len]; done) | (simp only [lenE, markR_len]; omega)) only [runE, mapE, listE, initT_5, initT_6, initT_7, initT_8, resV, oneV, binA, unA, reduceCtorEq, Nat.reduceEqDiff, Nat.reduceAdd, Nat.reduceLT, Nat.reduceLeDiff, Nat.reduceMul, Nat.reduceSub, ↓reduceIte, decide_true, decide_false, Bool.true_eq_false, Bool.false_eq_true, Bool.not_true, Bool.not_false, if_true, if_false, and_true, true_and, memE, celE, w64, Nat.zero_add, Nat.add_zero, Nat.mul_one, putL, and_self, ldn, tm, t1, t2, t5, t6, t7, t8, hlt', mksA_eq (byt := 8) (n := s.need.length) rfl (by omega), o1.rd, xb.at_ t hlt, xb'.ld t hlt]
    refine loop_inv mixed (fun s' => ∃ (k : Nat) (M' : Mem), k ≤ t + 1 ∧ s'.m = M' ∧ Ext m M' ∧ M'.length = M.length + 1 + (M'.length - M.length - 1) ∧ M.length < M'.length ∧ OwnB M' m.length 27 [.int .i64 s.life, a, b, .int .i64 s.waste, .int .i64 s.lost] ∧ OwnR M' il (gAt s nw t k).A ∧ OwnR M' M.length (gAt s nw t k).row ∧ TabX (allG s nw t).2 M1.length M.length M' id R F ∧
        s'.t 1 = .bool nw ∧ s'.t 2 = .pointer (some ⟨m.length, 0, none⟩) ∧ s'.t 5 = .int .i64 (s.need.length : Int) ∧ s'.t 6 = .slice (some ⟨il, 0, none⟩) s.arr.length fl ∧ s'.t 7 = .slice (some ⟨id, 0, none⟩) t 1 ∧ s'.t 8 = .int .i64 (t : Int) ∧ s'.t 9 = .slice (some ⟨M.length, 0, none⟩) s.need.length 1 ∧ s'.t 10 = .int .i64 (gAt s nw t k).r ∧ s'.t 11 = .int .i64 (k : Int)) (fun s' => t + 1 - (intOf (s'.t 11)).toNat)
      ⟨0, M ++ [⟨.own, 3, List.replicate s.need.length (.int .i64 0)⟩], by omega, rfl, hX.one _ _, by simp, by simp, o1.ext _, ol.ext _, zr, hTX.ext (Nat.le_refl _) _, (by first | exact t1 | simp only [put_t, put_t', put_m, putT_t, putT_t', putT_m, init_t, init_m, initT_0, initT_1, initT_2, initT_3, initT_4, initT_5, initT_6, initT_7, initT_8, Nat.reduceEqDiff, ↓reduceIte, t1]), (by first | exact t2 | simp only [put_t, put_t', put_m, putT_t, putT_t', putT_m, init_t, init_m, initT_0, initT_1, initT_2, initT_3, initT_4, initT_5, initT_6, initT_7, initT_8, Nat.reduceEqDiff, ↓reduceIte, t2]), (by first | exact t5 | simp only [put_t, put_t', put_m, putT_t, putT_t', putT_m, init_t, init_m, initT_0, initT_1, initT_2, initT_3, initT_4, initT_5, initT_6, initT_7, initT_8, Nat.reduceEqDiff, ↓reduceIte, t5]), (by first | exact t6 | simp only [put_t, put_t', put_m, putT_t, putT_t', putT_m, init_t, init_m, initT_0, initT_1, initT_2, initT_3, initT_4, initT_5, initT_6, initT_7, initT_8, Nat.reduceEqDiff, ↓reduceIte, t6]), (by first | exact t7 | simp only [put_t, put_t', put_m, putT_t, putT_t', putT_m, init_t, init_m, initT_0, initT_1, initT_2, initT_3, initT_4, initT_5, initT_6, initT_7, initT_8, Nat.reduceEqDiff, ↓reduceIte, t7]), (by first | exact t8 | simp only [put_t, put_t', put_m, putT_t, putT_t', putT_m, init_t, init_m, initT_0, initT_1, initT_2, initT_3, initT_4, initT_5, initT_6, initT_7, initT_8, Nat.reduceEqDiff, ↓reduceIte, t8]), rfl, rfl, rfl⟩ ?_
    clear tm t1 t2 t5 t6 t7 t8 xb' zr
    rintro s' ⟨k, M', hk, tm, hX', hML, hMl, o1', ol', or', hTX', t1, t2, t5, t6, t7, t8, t9, t10, t11⟩
    by_cases hkt : k ≤ t
    · have hkt' : (k : Int) ≤ t := by omega
      obtain ⟨f, hf⟩ : ∃ f, f = colO nw t k := ⟨_, rfl⟩
      have hft : f ≤ t := by rw [hf]; exact colO_le hkt
      have ok := gAt_ok hg nw hlt (k := k) (by omega)
      have okA := ok.la
      have okR := ok.lr
      have okr := ok.r
      have bA := ok.a f (by omega)
      cases nw with
      | true =>
        have ef : (t : Int) - k = (f : Int) := by rw [hf]; unfold colO; simp; omega
        simp (config := {implicitDefEqProofs := false, maxDischargeDepth := 20}) (disch := first | omega | (simp only [lenE]; done) | (simp only [lenE]; omega) | rfl | (simp only [lenE, markR_len]; done) | (simp only [lenE, markR_len]; omega)) only [runE, mapE, listE, initT_5, initT_6, initT_7, initT_8, resV, oneV, binA, unA, reduceCtorEq, Nat.reduceEqDiff, Nat.reduceAdd, Nat.reduceLT, Nat.reduceLeDiff, Nat.reduceMul, Nat.reduceSub, ↓reduceIte, decide_true, decide_false, Bool.true_eq_false, Bool.false_eq_true, Bool.not_true, Bool.not_false, if_true, if_false, and_true, true_and, memE, celE, w64, Nat.zero_add, Nat.add_zero, Nat.mul_one, putL, and_self, ldn, tm, t1, t2, t5, t6, t7, t8, t9, t10, t11, hkt', ef, o1'.rd]
        refine callH_rc (usable_rc M' _ s f t (ShA.mk (hX'.ints ha) (hX'.ints hb)) (by omega) ⟨by omega, l8⟩) ?_
        rintro r n2 ⟨rfl, nr2⟩
        cases hu : usB s.life f t with
        | false =>
          simp (config := {implicitDefEqProofs := false, maxDischargeDepth := 20}) (disch := first | omega | (simp only [lenE]; done) | (simp only [lenE]; omega) | rfl | (simp only [lenE, markR_len]; done) | (simp only [lenE, markR_len]; omega)) only [runE, mapE, listE, initT_5, initT_6, initT_7, initT_8, resV, oneV, binA, unA, reduceCtorEq, Nat.reduceEqDiff, Nat.reduceAdd, Nat.reduceLT, Nat.reduceLeDiff, Nat.reduceMul, Nat.reduceSub, ↓reduceIte, decide_true, decide_false, Bool.true_eq_false, Bool.false_eq_true, Bool.not_true, Bool.not_false, if_true, if_false, and_true, true_and, memE, celE, w64, Nat.zero_add, Nat.add_zero, Nat.mul_one, putL, and_self, ldn, tm, t1, t2, t5, t6, t7, t8, t9, t10, t11]
          have sk := gAt_skip hg (newest := true) hlt hkt (by rw [← hf]; exact hu)
          refine ⟨⟨k + 1, M' ++ n2, by omega, rfl, hX'.app nr2, by rw [List.length_append]; omega, by rw [List.length_append]; omega, o1'.ext _, by rw [sk]; exact ol'.ext _, by rw [sk]; exact or'.ext _, hTX'.ext (by omega) _, by rw [sk], by simp⟩, ?_⟩
          simp [intOf]; omega
        | true =>
          have hX2 := hX'.app nr2
          have o12 := o1'.ext n2
          have ol2 := ol'.ext n2
          have or2 := or'.ext n2
          have hTX2 := hTX'.ext (by omega) n2
          obtain ⟨M2, hM2⟩ : ∃ M2, M2 = M' ++ n2 := ⟨_, rfl⟩
          have M2l : M.length < M2.length := by rw [hM2, List.length_append]; omega
          have iA : iadA 1 (.slice (some ⟨il, 0, none⟩) s.arr.length fl) (.int .i64 (f : Int)) = some (.pointer (some ⟨il, f, none⟩)) := iad0 rfl (by omega)
          have iR : iadA 1 (.slice (some ⟨M.length, 0, none⟩) s.need.length 1) (.int .i64 (f : Int)) = some (.pointer (some ⟨M.length, f, none⟩)) := iad0 rfl (by omega)
          rw [← hM2] at hX2 o12 ol2 or2 hTX2
          have kA := ol2.rd' (i := f) (by omega)
          simp (config := {implicitDefEqProofs := false, maxDischargeDepth := 20}) (disch := first | omega | (simp only [lenE]; done) | (simp only [lenE]; omega) | rfl | (simp only [lenE, markR_len]; done) | (simp only [lenE, markR_len]; omega)) only [runE, mapE, listE, initT_5, initT_6, initT_7, initT_8, resV, oneV, binA, unA, reduceCtorEq, Nat.reduceEqDiff, Nat.reduceAdd, Nat.reduceLT, Nat.reduceLeDiff, Nat.reduceMul, Nat.reduceSub, ↓reduceIte, decide_true, decide_false, Bool.true_eq_false, Bool.false_eq_true, Bool.not_true, Bool.not_false, if_true, if_false, and_true, true_and, memE, celE, w64, Nat.zero_add, Nat.add_zero, Nat.mul_one, putL, and_self, ldn, tm, t1, t2, t5, t6, t7, t8, t9, t10, t11]
          rw [← hM2]
          simp (config := {implicitDefEqProofs := false, maxDischargeDepth := 20}) (disch := first | omega | (simp only [lenE]; done) | (simp only [lenE]; omega) | rfl | (simp only [lenE, markR_len]; done) | (simp only [lenE, markR_len]; omega)) only [runE, mapE, listE, initT_5, initT_6, initT_7, initT_8, resV, oneV, binA, unA, reduceCtorEq, Nat.reduceEqDiff, Nat.reduceAdd, Nat.reduceLT, Nat.reduceLeDiff, Nat.reduceMul, Nat.reduceSub, ↓reduceIte, decide_true, decide_false, Bool.true_eq_false, Bool.false_eq_true, Bool.not_true, Bool.not_false, if_true, if_false, and_true, true_and, memE, celE, w64, Nat.zero_add, Nat.add_zero, Nat.mul_one, putL, and_self, ldn, iA, kA]
          refine callH_rc (least9_rc _ _ _) ?_
          rintro r new ⟨rfl, rfl⟩
          rw [List.append_nil]
          obtain ⟨u, hu2⟩ : ∃ u, u = min (gAt s true t k).r ((gAt s true t k).A.getD f 0) := ⟨_, rfl⟩
          rw [← hu2]
          have etake : takeG s.life t f (gAt s true t k) = u := by unfold takeG; rw [hu, if_pos rfl, hu2]; omega
          have sR := or2.st (off := f) (x := u) (by omega)
          have or3 := or2.set_self (L' := (gAt s true t k).row.set f u)
          have ol3 : OwnR (M2.set M.length (Ab.rowB ((gAt s true t k).row.set f u))) il (gAt s true t k).A := ol2.set_ne (by omega)
          have kR : rdc (M2.set M.length (Ab.rowB ((gAt s true t k).row.set f u))) M.length f = some (.int .i64 u) := by
            have := or3.rd' (i := f) (by rw [List.length_set]; omega)
            rw [this, setD9 (by omega), if_pos rfl]
          have kA3 := ol3.rd' (i := f) (by omega)
          have sA := ol3.st (off := f) (x := (gAt s true t k).A.getD f 0 - u) (by omega)
          simp (config := {implicitDefEqProofs := false, maxDischargeDepth := 20}) (disch := first | omega | (simp only [lenE]; done) | (simp only [lenE]; omega) | rfl | (simp only [lenE, markR_len]; done) | (simp only [lenE, markR_len]; omega)) only [runE, mapE, listE, initT_5, initT_6, initT_7, initT_8, resV, oneV, binA, unA, reduceCtorEq, Nat.reduceEqDiff, Nat.reduceAdd, Nat.reduceLT, Nat.reduceLeDiff, Nat.reduceMul, Nat.reduceSub, ↓reduceIte, decide_true, decide_false, Bool.true_eq_false, Bool.false_eq_true, Bool.not_true, Bool.not_false, if_true, if_false, and_true, true_and, memE, celE, w64, Nat.zero_add, Nat.add_zero, Nat.mul_one, putL, and_self, ldn, t1, t2, t5, t6, t7, t8, t9, t10, t11, iR, iA, sR, kR, kA3, sA]
          have eg : gAt s true t (k + 1) = ⟨(gAt s true t k).A.set f ((gAt s true t k).A.getD f 0 - u), (gAt s true t k).r - u, (gAt s true t k).row.set f u⟩ := by
            rw [gAt_s, ← hf, stepG, etake]
          refine ⟨⟨k + 1, _, by omega, rfl, (hX2.put (by omega) _ _).put (by omega) _ _, by simp only [List.length_set]; omega, by simp only [List.length_set]; omega, (o12.set_ne (by omega) _).set_ne (by omega) _, ?_, ?_, ?_, by rw [eg], by simp⟩, ?_⟩
          · rw [eg]
            exact OwnR.set_self (L' := (gAt s true t k).A.set f ((gAt s true t k).A.getD f 0 - u)) ol3
          · rw [eg]
            exact OwnR.set_ne or3 (by omega)
          · exact hTX2.at_ fun i h1 h2 => by rw [List.getElem?_set_ne (by omega), List.getElem?_set_ne (by omega)]
          · simp [intOf]; omega
      | false =>
        obtain rfl : f = k := by rw [hf]; unfold colO; simp
        simp (config := {implicitDefEqProofs := false, maxDischargeDepth := 20}) (disch := first | omega | (simp only [lenE]; done) | (simp only [lenE]; omega) | rfl | (simp only [lenE, markR_len]; done) | (simp only [lenE, markR_len]; omega)) only [runE, mapE, listE, initT_5, initT_6, initT_7, initT_8, resV, oneV, binA, unA, reduceCtorEq, Nat.reduceEqDiff, Nat.reduceAdd, Nat.reduceLT, Nat.reduceLeDiff, Nat.reduceMul, Nat.reduceSub, ↓reduceIte, decide_true, decide_false, Bool.true_eq_false, Bool.false_eq_true, Bool.not_true, Bool.not_false, if_true, if_false, and_true, true_and, memE, celE, w64, Nat.zero_add, Nat.add_zero, Nat.mul_one, putL, and_self, ldn, tm, t1, t2, t5, t6, t7, t8, t9, t10, t11, hkt', o1'.rd]
        refine callH_rc (usable_rc M' _ s f t (ShA.mk (hX'.ints ha) (hX'.ints hb)) (by omega) ⟨by omega, l8⟩) ?_
        rintro r n2 ⟨rfl, nr2⟩
        cases hu : usB s.life f t with
        | false =>
          simp (config := {implicitDefEqProofs := false, maxDischargeDepth := 20}) (disch := first | omega | (simp only [lenE]; done) | (simp only [lenE]; omega) | rfl | (simp only [lenE, markR_len]; done) | (simp only [lenE, markR_len]; omega)) only [runE, mapE, listE, initT_5, initT_6, initT_7, initT_8, resV, oneV, binA, unA, reduceCtorEq, Nat.reduceEqDiff, Nat.reduceAdd, Nat.reduceLT, Nat.reduceLeDiff, Nat.reduceMul, Nat.reduceSub, ↓reduceIte, decide_true, decide_false, Bool.true_eq_false, Bool.false_eq_true, Bool.not_true, Bool.not_false, if_true, if_false, and_true, true_and, memE, celE, w64, Nat.zero_add, Nat.add_zero, Nat.mul_one, putL, and_self, ldn, tm, t1, t2, t5, t6, t7, t8, t9, t10, t11]
          have sk := gAt_skip hg (newest := false) hlt hkt (by rw [← hf]; exact hu)
          refine ⟨⟨f + 1, M' ++ n2, by omega, rfl, hX'.app nr2, by rw [List.length_append]; omega, by rw [List.length_append]; omega, o1'.ext _, by rw [sk]; exact ol'.ext _, by rw [sk]; exact or'.ext _, hTX'.ext (by omega) _, by rw [sk], by simp⟩, ?_⟩
          simp [intOf]; omega
        | true =>
          have hX2 := hX'.app nr2
          have o12 := o1'.ext n2
          have ol2 := ol'.ext n2
          have or2 := or'.ext n2
          have hTX2 := hTX'.ext (by omega) n2
          obtain ⟨M2, hM2⟩ : ∃ M2, M2 = M' ++ n2 := ⟨_, rfl⟩
          have M2l : M.length < M2.length := by rw [hM2, List.length_append]; omega
          have iA : iadA 1 (.slice (some ⟨il, 0, none⟩) s.arr.length fl) (.int .i64 (f : Int)) = some (.pointer (some ⟨il, f, none⟩)) := iad0 rfl (by omega)
          have iR : iadA 1 (.slice (some ⟨M.length, 0, none⟩) s.need.length 1) (.int .i64 (f : Int)) = some (.pointer (some ⟨M.length, f, none⟩)) := iad0 rfl (by omega)
          rw [← hM2] at hX2 o12 ol2 or2 hTX2
          have kA := ol2.rd' (i := f) (by omega)
          simp (config := {implicitDefEqProofs := false, maxDischargeDepth := 20}) (disch := first | omega | (simp only [lenE]; done) | (simp only [lenE]; omega) | rfl | (simp only [lenE, markR_len]; done) | (simp only [lenE, markR_len]; omega)) only [runE, mapE, listE, initT_5, initT_6, initT_7, initT_8, resV, oneV, binA, unA, reduceCtorEq, Nat.reduceEqDiff, Nat.reduceAdd, Nat.reduceLT, Nat.reduceLeDiff, Nat.reduceMul, Nat.reduceSub, ↓reduceIte, decide_true, decide_false, Bool.true_eq_false, Bool.false_eq_true, Bool.not_true, Bool.not_false, if_true, if_false, and_true, true_and, memE, celE, w64, Nat.zero_add, Nat.add_zero, Nat.mul_one, putL, and_self, ldn, tm, t1, t2, t5, t6, t7, t8, t9, t10, t11]
          rw [← hM2]
          simp (config := {implicitDefEqProofs := false, maxDischargeDepth := 20}) (disch := first | omega | (simp only [lenE]; done) | (simp only [lenE]; omega) | rfl | (simp only [lenE, markR_len]; done) | (simp only [lenE, markR_len]; omega)) only [runE, mapE, listE, initT_5, initT_6, initT_7, initT_8, resV, oneV, binA, unA, reduceCtorEq, Nat.reduceEqDiff, Nat.reduceAdd, Nat.reduceLT, Nat.reduceLeDiff, Nat.reduceMul, Nat.reduceSub, ↓reduceIte, decide_true, decide_false, Bool.true_eq_false, Bool.false_eq_true, Bool.not_true, Bool.not_false, if_true, if_false, and_true, true_and, memE, celE, w64, Nat.zero_add, Nat.add_zero, Nat.mul_one, putL, and_self, ldn, iA, kA]
          refine callH_rc (least9_rc _ _ _) ?_
          rintro r new ⟨rfl, rfl⟩
          rw [List.append_nil]
          obtain ⟨u, hu2⟩ : ∃ u, u = min (gAt s false t f).r ((gAt s false t f).A.getD f 0) := ⟨_, rfl⟩
          rw [← hu2]
          have etake : takeG s.life t f (gAt s false t f) = u := by unfold takeG; rw [hu, if_pos rfl, hu2]; omega
          have sR := or2.st (off := f) (x := u) (by omega)
          have or3 := or2.set_self (L' := (gAt s false t f).row.set f u)
          have ol3 : OwnR (M2.set M.length (Ab.rowB ((gAt s false t f).row.set f u))) il (gAt s false t f).A := ol2.set_ne (by omega)
          have kR : rdc (M2.set M.length (Ab.rowB ((gAt s false t f).row.set f u))) M.length f = some (.int .i64 u) := by
            have := or3.rd' (i := f) (by rw [List.length_set]; omega)
            rw [this, setD9 (by omega), if_pos rfl]
          have kA3 := ol3.rd' (i := f) (by omega)
          have sA := ol3.st (off := f) (x := (gAt s false t f).A.getD f 0 - u) (by omega)
          simp (config := {implicitDefEqProofs := false, maxDischargeDepth := 20}) (disch := first | omega | (simp only [lenE]; done) | (simp only [lenE]; omega) | rfl | (simp only [lenE, markR_len]; done) | (simp only [lenE, markR_len]; omega)) only [runE, mapE, listE, initT_5, initT_6, initT_7, initT_8, resV, oneV, binA, unA, reduceCtorEq, Nat.reduceEqDiff, Nat.reduceAdd, Nat.reduceLT, Nat.reduceLeDiff, Nat.reduceMul, Nat.reduceSub, ↓reduceIte, decide_true, decide_false, Bool.true_eq_false, Bool.false_eq_true, Bool.not_true, Bool.not_false, if_true, if_false, and_true, true_and, memE, celE, w64, Nat.zero_add, Nat.add_zero, Nat.mul_one, putL, and_self, ldn, t1, t2, t5, t6, t7, t8, t9, t10, t11, iR, iA, sR, kR, kA3, sA]
          have eg : gAt s false t (f + 1) = ⟨(gAt s false t f).A.set f ((gAt s false t f).A.getD f 0 - u), (gAt s false t f).r - u, (gAt s false t f).row.set f u⟩ := by
            rw [gAt_s, ← hf, stepG, etake]
          refine ⟨⟨f + 1, _, by omega, rfl, (hX2.put (by omega) _ _).put (by omega) _ _, by simp only [List.length_set]; omega, by simp only [List.length_set]; omega, (o12.set_ne (by omega) _).set_ne (by omega) _, ?_, ?_, ?_, by rw [eg], by simp⟩, ?_⟩
          · rw [eg]
            exact OwnR.set_self (L' := (gAt s false t f).A.set f ((gAt s false t f).A.getD f 0 - u)) ol3
          · rw [eg]
            exact OwnR.set_ne or3 (by omega)
          · exact hTX2.at_ fun i h1 h2 => by rw [List.getElem?_set_ne (by omega), List.getElem?_set_ne (by omega)]
          · simp [intOf]; omega
    · have hkt' : ¬ ((k : Int) ≤ t) := by omega
      have e : k = t + 1 := by omega
      subst e
      have ok := gAt_ok hg nw hlt (k := t + 1) (Nat.le_refl _)
      have okR := ok.lr
      have happ := app_back (e := 22) (sz := 1) (byt := 24) (n := t) (id2 := M'.length) (ys := [.slice (some ⟨M.length, 0, none⟩) s.need.length 1]) hTX'.2.2.1 rfl (by rw [rowsC_len, allG_len]; omega) rfl (by rfl) (by omega) (by omega)
      simp (config := {implicitDefEqProofs := false, maxDischargeDepth := 20}) (disch := first | omega | (simp only [lenE]; done) | (simp only [lenE]; omega) | rfl | (simp only [lenE, markR_len]; done) | (simp only [lenE, markR_len]; omega)) only [runE, mapE, listE, initT_5, initT_6, initT_7, initT_8, resV, oneV, binA, unA, reduceCtorEq, Nat.reduceEqDiff, Nat.reduceAdd, Nat.reduceLT, Nat.reduceLeDiff, Nat.reduceMul, Nat.reduceSub, ↓reduceIte, decide_true, decide_false, Bool.true_eq_false, Bool.false_eq_true, Bool.not_true, Bool.not_false, if_true, if_false, and_true, true_and, memE, celE, w64, Nat.zero_add, Nat.add_zero, Nat.mul_one, putL, and_self, ldn, tm, t1, t2, t5, t6, t7, t8, t9, t10, t11, hkt', bsl_sl', happ]
      have hidl := hTX'.2.2.1.lt
      have lr := or'.lt
      have lo := ol'.lt
      refine ⟨⟨t + 1, _, M'.length + 1, fun j => if j < (allG s nw t).2.length then R j else M.length, fun j => if j < (allG s nw t).2.length then F j else 1, by omega, rfl, ((hX'.dead (by omega)).one _ _).one _ _, ?_, ?_, ?_, rfl, by simp⟩, ?_⟩
      · exact o1'.at_ (by rw [List.append_assoc, List.getElem?_append_left (by rw [List.length_set]; exact o1'.lt), List.getElem?_set_ne (by omega)])
      · rw [allG_s]
        exact ol'.at_ (by rw [List.append_assoc, List.getElem?_append_left (by rw [List.length_set]; exact lo), List.getElem?_set_ne (by omega)])
      · rw [allG_s]
        refine tabX_snoc (rid := M.length) (f := 1) hTX' (fun i h1 h2 h3 => ?_) (by omega) (by simp) ?_ (by omega) (by simp; omega) ?_ (by simp; omega)
        · rw [List.append_assoc, List.getElem?_append_left (by rw [List.length_set]; omega), List.getElem?_set_ne (by omega)]
        · rw [okR]
          exact OwnB.here (by simp)
        · exact or'.at_ (by rw [List.append_assoc, List.getElem?_append_left (by rw [List.length_set]; exact lr), List.getElem?_set_ne (by omega)])
      · simp [intOf]; omega
  · have hlt' : ¬ ((t : Int) < s.need.length) := by omega
    have e : t = s.need.length := by omega
    subst e
    simp (config := {implicitDefEqProofs := false, maxDischargeDepth := 20}) (disch := first | omega | (simp only [lenE]; done) | (simp only [lenE]; omega) | rfl | (simp only [lenE, markR_len]; done) | (simp only [lenE, markR_len]; omega)) only [runE, mapE, listE, initT_5, initT_6, initT_7, initT_8, resV, oneV, binA, unA, reduceCtorEq, Nat.reduceEqDiff, Nat.reduceAdd, Nat.reduceLT, Nat.reduceLeDiff, Nat.reduceMul, Nat.reduceSub, ↓reduceIte, decide_true, decide_false, Bool.true_eq_false, Bool.false_eq_true, Bool.not_true, Bool.not_false, if_true, if_false, and_true, true_and, memE, celE, w64, Nat.zero_add, Nat.add_zero, Nat.mul_one, putL, and_self, ldn, tm, t1, t2, t5, t6, t7, t8, hlt']
    obtain ⟨q1, q2, q3⟩ := allG_ok hg nw s.need.length (Nat.le_refl _)
    have ql := allG_len s nw s.need.length
    have hl1 := hX.len
    refine ext_ansO (f := _root_.id) hX fun M' hM => ?_
    have := (hTX.at_ (M' := M') fun i h1 h2 => hM i (by omega) h2).obj (fl := 1) (by omega) (by
      have := tsz_bd9 (T := (allG s nw s.need.length).2) (n := 8) (fun j hj => by rw [q3 j (by omega)]; exact n8)
      omega)
    rw [ql] at this
    exact TabO.wide _ _ _ _ _ _ _ (by omega) (Nat.le_refl _) this
theorem specOldest_rc (m : Mem) (v : Value) (s : Sh) (h : ShA m v s) :
    RC Try.prog 26 [v] m (AnsO m (TabO (issA s false)) fun v => .tuple #[v, .bool s.good]) := by
  refine rc_of_run mixed ok_spec_OldestFirst (by simp) (go_start _ _ _ ?_)
  obtain ⟨a, b, rfl, ha, hb⟩ := h.ro
  have hX := (Ext.refl m).one 27 [.int .i64 s.life, a, b, .int .i64 s.waste, .int .i64 s.lost]
  simp (config := {implicitDefEqProofs := false, maxDischargeDepth := 20}) (disch := first | omega | (simp only [lenE]; done) | (simp only [lenE]; omega) | rfl | (simp only [lenE, markR_len]; done) | (simp only [lenE, markR_len]; omega)) only [runE, mapE, listE, initT_5, initT_6, initT_7, initT_8, resV, oneV, binA, unA, reduceCtorEq, Nat.reduceEqDiff, Nat.reduceAdd, Nat.reduceLT, Nat.reduceLeDiff, Nat.reduceMul, Nat.reduceSub, ↓reduceIte, decide_true, decide_false, Bool.true_eq_false, Bool.false_eq_true, Bool.not_true, Bool.not_false, if_true, if_false, and_true, true_and, memE, celE, w64, Nat.zero_add, Nat.add_zero, Nat.mul_one, putL, and_self, ldn, c_spec_OldestFirst, r_spec_OldestFirst]
  obtain ⟨M0, hM0⟩ : ∃ M0, M0 = roM m ++ [⟨.own, 27, [.int .i64 s.life, a, b, .int .i64 s.waste, .int .i64 s.lost]⟩] := ⟨_, rfl⟩
  have o1 : OwnB M0 m.length 27 [.int .i64 s.life, a, b, .int .i64 s.waste, .int .i64 s.lost] := by rw [hM0]; exact OwnB.here (by simp [roM_len])
  rw [← hM0] at hX ⊢
  refine callH_rc (l9Good_rc _ _ s (ShA.mk (hX.ints ha) (hX.ints hb))) ?_
  rintro r n1 ⟨rfl, nr1⟩
  replace hX := hX.app nr1
  replace o1 := o1.ext n1
  obtain ⟨M1, hM1⟩ : ∃ M1, M1 = M0 ++ n1 := ⟨_, rfl⟩
  rw [← hM1] at hX o1 ⊢
  unfold issA
  cases hg : s.good with
  | false =>
    simp (config := {implicitDefEqProofs := false, maxDischargeDepth := 20}) (disch := first | omega | (simp only [lenE]; done) | (simp only [lenE]; omega) | rfl | (simp only [lenE, markR_len]; done) | (simp only [lenE, markR_len]; omega)) only [runE, mapE, listE, initT_5, initT_6, initT_7, initT_8, resV, oneV, binA, unA, reduceCtorEq, Nat.reduceEqDiff, Nat.reduceAdd, Nat.reduceLT, Nat.reduceLeDiff, Nat.reduceMul, Nat.reduceSub, ↓reduceIte, decide_true, decide_false, Bool.true_eq_false, Bool.false_eq_true, Bool.not_true, Bool.not_false, if_true, if_false, and_true, true_and, memE, celE, w64, Nat.zero_add, Nat.add_zero, Nat.mul_one, putL, and_self, ldn, bsl_no]
    exact ext_noTab (f := fun v => .tuple #[v, .bool false]) hX rfl
  | true =>
    simp (config := {implicitDefEqProofs := false, maxDischargeDepth := 20}) (disch := first | omega | (simp only [lenE]; done) | (simp only [lenE]; omega) | rfl | (simp only [lenE, markR_len]; done) | (simp only [lenE, markR_len]; omega)) only [runE, mapE, listE, initT_5, initT_6, initT_7, initT_8, resV, oneV, binA, unA, reduceCtorEq, Nat.reduceEqDiff, Nat.reduceAdd, Nat.reduceLT, Nat.reduceLeDiff, Nat.reduceMul, Nat.reduceSub, ↓reduceIte, decide_true, decide_false, Bool.true_eq_false, Bool.false_eq_true, Bool.not_true, Bool.not_false, if_true, if_false, and_true, true_and, memE, celE, w64, Nat.zero_add, Nat.add_zero, Nat.mul_one, putL, and_self, ldn, o1.rd]
    refine callH_rc (l9Make_rc _ _ s false (ShA.mk (hX.ints ha) (hX.ints hb)) (goodSh_iff.1 hg)) ?_
    rintro r n2 ⟨nr2, w, rfl, hw⟩
    simp (config := {implicitDefEqProofs := false, maxDischargeDepth := 20}) (disch := first | omega | (simp only [lenE]; done) | (simp only [lenE]; omega) | rfl | (simp only [lenE, markR_len]; done) | (simp only [lenE, markR_len]; omega)) only [runE, mapE, listE, initT_5, initT_6, initT_7, initT_8, resV, oneV, binA, unA, reduceCtorEq, Nat.reduceEqDiff, Nat.reduceAdd, Nat.reduceLT, Nat.reduceLeDiff, Nat.reduceMul, Nat.reduceSub, ↓reduceIte, decide_true, decide_false, Bool.true_eq_false, Bool.false_eq_true, Bool.not_true, Bool.not_false, if_true, if_false, and_true, true_and, memE, celE, w64, Nat.zero_add, Nat.add_zero, Nat.mul_one, putL, and_self, ldn]
    exact Ext.pass (f := fun v => .tuple #[v, .bool true]) hX nr2 (TabO.wide _) hw
theorem specNewest_rc (m : Mem) (v : Value) (s : Sh) (h : ShA m v s) :
    RC Try.prog 31 [v] m (AnsO m (TabO (issA s true)) fun v => .tuple #[v, .bool s.good]) := by
  refine rc_of_run mixed ok_spec_NewestFirst (by simp) (go_start _ _ _ ?_)
  obtain ⟨a, b, rfl, ha, hb⟩ := h.ro
  have hX := (Ext.refl m).one 27 [.int .i64 s.life, a, b, .int .i64 s.waste, .int .i64 s.lost]
  simp (config := {implicitDefEqProofs := false, maxDischargeDepth := 20}) (disch := first | omega | (simp only [lenE]; done) | (simp only [lenE]; omega) | rfl | (simp only [lenE, markR_len]; done) | (simp only [lenE, markR_len]; omega)) only [runE, mapE, listE, initT_5, initT_6, initT_7, initT_8, resV, oneV, binA, unA, reduceCtorEq, Nat.reduceEqDiff, Nat.reduceAdd, Nat.reduceLT, Nat.reduceLeDiff, Nat.reduceMul, Nat.reduceSub, ↓reduceIte, decide_true, decide_false, Bool.true_eq_false, Bool.false_eq_true, Bool.not_true, Bool.not_false, if_true, if_false, and_true, true_and, memE, celE, w64, Nat.zero_add, Nat.add_zero, Nat.mul_one, putL, and_self, ldn, c_spec_NewestFirst, r_spec_NewestFirst]
  obtain ⟨M0, hM0⟩ : ∃ M0, M0 = roM m ++ [⟨.own, 27, [.int .i64 s.life, a, b, .int .i64 s.waste, .int .i64 s.lost]⟩] := ⟨_, rfl⟩
  have o1 : OwnB M0 m.length 27 [.int .i64 s.life, a, b, .int .i64 s.waste, .int .i64 s.lost] := by rw [hM0]; exact OwnB.here (by simp [roM_len])
  rw [← hM0] at hX ⊢
  refine callH_rc (l9Good_rc _ _ s (ShA.mk (hX.ints ha) (hX.ints hb))) ?_
  rintro r n1 ⟨rfl, nr1⟩
  replace hX := hX.app nr1
  replace o1 := o1.ext n1
  obtain ⟨M1, hM1⟩ : ∃ M1, M1 = M0 ++ n1 := ⟨_, rfl⟩
  rw [← hM1] at hX o1 ⊢
  unfold issA
  cases hg : s.good with
  | false =>
    simp (config := {implicitDefEqProofs := false, maxDischargeDepth := 20}) (disch := first | omega | (simp only [lenE]; done) | (simp only [lenE]; omega) | rfl | (simp only [lenE, markR_len]; done) | (simp only [lenE, markR_len]; omega)) only [runE, mapE, listE, initT_5, initT_6, initT_7, initT_8, resV, oneV, binA, unA, reduceCtorEq, Nat.reduceEqDiff, Nat.reduceAdd, Nat.reduceLT, Nat.reduceLeDiff, Nat.reduceMul, Nat.reduceSub, ↓reduceIte, decide_true, decide_false, Bool.true_eq_false, Bool.false_eq_true, Bool.not_true, Bool.not_false, if_true, if_false, and_true, true_and, memE, celE, w64, Nat.zero_add, Nat.add_zero, Nat.mul_one, putL, and_self, ldn, bsl_no]
    exact ext_noTab (f := fun v => .tuple #[v, .bool false]) hX rfl
  | true =>
    simp (config := {implicitDefEqProofs := false, maxDischargeDepth := 20}) (disch := first | omega | (simp only [lenE]; done) | (simp only [lenE]; omega) | rfl | (simp only [lenE, markR_len]; done) | (simp only [lenE, markR_len]; omega)) only [runE, mapE, listE, initT_5, initT_6, initT_7, initT_8, resV, oneV, binA, unA, reduceCtorEq, Nat.reduceEqDiff, Nat.reduceAdd, Nat.reduceLT, Nat.reduceLeDiff, Nat.reduceMul, Nat.reduceSub, ↓reduceIte, decide_true, decide_false, Bool.true_eq_false, Bool.false_eq_true, Bool.not_true, Bool.not_false, if_true, if_false, and_true, true_and, memE, celE, w64, Nat.zero_add, Nat.add_zero, Nat.mul_one, putL, and_self, ldn, o1.rd]
    refine callH_rc (l9Make_rc _ _ s true (ShA.mk (hX.ints ha) (hX.ints hb)) (goodSh_iff.1 hg)) ?_
    rintro r n2 ⟨nr2, w, rfl, hw⟩
    simp (config := {implicitDefEqProofs := false, maxDischargeDepth := 20}) (disch := first | omega | (simp only [lenE]; done) | (simp only [lenE]; omega) | rfl | (simp only [lenE, markR_len]; done) | (simp only [lenE, markR_len]; omega)) only [runE, mapE, listE, initT_5, initT_6, initT_7, initT_8, resV, oneV, binA, unA, reduceCtorEq, Nat.reduceEqDiff, Nat.reduceAdd, Nat.reduceLT, Nat.reduceLeDiff, Nat.reduceMul, Nat.reduceSub, ↓reduceIte, decide_true, decide_false, Bool.true_eq_false, Bool.false_eq_true, Bool.not_true, Bool.not_false, if_true, if_false, and_true, true_and, memE, celE, w64, Nat.zero_add, Nat.add_zero, Nat.mul_one, putL, and_self, ldn]
    exact Ext.pass (f := fun v => .tuple #[v, .bool true]) hX nr2 (TabO.wide _) hw
end Go.Proofs.Ytihjcjhnkpkomaa.Ab
