/- What is drawn for the laws of chapter 5: two lists of weights. The laws' helpers vAt, vAdd, vBestSum. -/
import Derived.Test.YtfdpieeopdhcmaaAbDraw5b
import Derived.Test.YtfdpieeopdhcmaaAbEarly
import Derived.Test.YtfdpieeopdhcmaaAbChance2
namespace Go.Proofs.Ytfdpieeopdhcmaa.Ab
open Go Go.RowKit
set_option linter.unusedVariables false
set_option linter.unusedSimpArgs false

/-- An answer: two rows. -/
def AnsTwo (m : Mem) (r : Value) (new : Mem) : Prop :=
  NoRo new ∧ ∃ (i j f1 f2 : Nat) (w1 w2 : List Int), r = .tuple #[.slice (some ⟨m.length + i, 0, none⟩) w1.length f1, .slice (some ⟨m.length + j, 0, none⟩) w2.length f2] ∧ new[i]? = some (rowB w1) ∧ new[j]? = some (rowB w2) ∧ w1.length ≤ 25 ∧ w2.length ≤ 25
theorem ansTwo {m M : Mem} {r1 r2 n1 n2 f1 f2 : Nat} {L1 L2 : List Int} (hx : Ext m M) (o1 : OwnR M r1 L1) (o2 : OwnR M r2 L2) (g1 : m.length ≤ r1) (g2 : m.length ≤ r2) (h1 : n1 = L1.length) (h2 : n2 = L2.length) (b1 : L1.length ≤ 25) (b2 : L2.length ≤ 25) :
    newQ m (AnsTwo m) (.tuple #[.slice (some ⟨r1, 0, none⟩) n1 f1, .slice (some ⟨r2, 0, none⟩) n2 f2]) M := by
  subst h1 h2
  obtain ⟨n0, i, hM, h0, rfl, e1⟩ := draw_row hx o1 g1
  obtain ⟨n0', j, hM', h0', rfl, e2⟩ := draw_row hx o2 g2
  have : n0 = n0' := List.append_cancel_left (hM.symm.trans hM')
  subst this
  exact ⟨n0, hM, h0, h0, i, j, f1, f2, L1, L2, rfl, e1, e2, b1, b2⟩

theorem DrawSumOf_rc (m : Mem) (cb fl : Nat) (l : List Int) (h : BytesA m cb l) :
    RC Try.prog 52 [.slice (some ⟨cb, 0, none⟩) l.length fl] m (AnsTwo m) := by
  refine rc_of_run mixed ok_spec_DrawSumOf (by simp) (go_start _ _ _ ?_)
  simp (config := {implicitDefEqProofs := false, maxDischargeDepth := 20}) (disch := first | omega | (simp only [lenE]; done) | (simp only [lenE]; omega) | rfl | (simp only [lenE, markR_len]; done) | (simp only [lenE, markR_len]; omega)) only [runE, mapE, listE, initT_5, initT_6, initT_7, initT_8, resV, oneV, binA, unA, reduceCtorEq, Nat.reduceEqDiff, Nat.reduceAdd, Nat.reduceLT, Nat.reduceLeDiff, Nat.reduceMul, Nat.reduceSub, ↓reduceIte, decide_true, decide_false, Bool.true_eq_false, Bool.false_eq_true, Bool.not_true, Bool.not_false, if_true, if_false, and_true, true_and, memE, celE, w64, Nat.zero_add, Nat.add_zero, Nat.mul_one, putL, and_self, ldn, c_spec_DrawSumOf, r_spec_DrawSumOf, bldCur]
  have k0 := CurA.start (fl := fl) h rfl
  have hl0 : (roM m ++ [(⟨.own, 75, [.slice (some ⟨cb, 0, none⟩) l.length fl, .int .i64 0, .int .u64 0]⟩ : Blk)]).length = m.length + 1 := by simp [roM_len]
  refine callH_ac (chances_ac _ cb _ 0 l k0 (by omega)) ?_
  rintro v M1 ⟨r, L, a1, rfl, hL, ha1, d1⟩
  simp (config := {implicitDefEqProofs := false, maxDischargeDepth := 20}) (disch := first | omega | (simp only [lenE]; done) | (simp only [lenE]; omega) | rfl | (simp only [lenE, markR_len]; done) | (simp only [lenE, markR_len]; omega)) only [runE, mapE, listE, initT_5, initT_6, initT_7, initT_8, resV, oneV, binA, unA, reduceCtorEq, Nat.reduceEqDiff, Nat.reduceAdd, Nat.reduceLT, Nat.reduceLeDiff, Nat.reduceMul, Nat.reduceSub, ↓reduceIte, decide_true, decide_false, Bool.true_eq_false, Bool.false_eq_true, Bool.not_true, Bool.not_false, if_true, if_false, and_true, true_and, memE, celE, w64, Nat.zero_add, Nat.add_zero, Nat.mul_one, putL, and_self, ldn]
  refine callH_ac (chances_ac M1 cb _ a1 l d1.cur (by omega)) ?_
  rintro v M2 ⟨r2, L2, a2, rfl, hL2, ha2, d2⟩
  have g1 := d1.ge
  have g2 := d2.ge
  have c1 := d1.cw.len
  rw [hl0] at g1 c1
  simp (config := {implicitDefEqProofs := false, maxDischargeDepth := 20}) (disch := first | omega | (simp only [lenE]; done) | (simp only [lenE]; omega) | rfl | (simp only [lenE, markR_len]; done) | (simp only [lenE, markR_len]; omega)) only [runE, mapE, listE, initT_5, initT_6, initT_7, initT_8, resV, oneV, binA, unA, reduceCtorEq, Nat.reduceEqDiff, Nat.reduceAdd, Nat.reduceLT, Nat.reduceLeDiff, Nat.reduceMul, Nat.reduceSub, ↓reduceIte, decide_true, decide_false, Bool.true_eq_false, Bool.false_eq_true, Bool.not_true, Bool.not_false, if_true, if_false, and_true, true_and, memE, celE, w64, Nat.zero_add, Nat.add_zero, Nat.mul_one, putL, and_self, ldn]
  exact ansTwo ((d1.draw d2.cw d2.cur).cw.toExt d2.cur) (d1.draw d2.cw d2.cur).own d2.own (by omega) (by omega) rfl rfl (by omega) (by omega)

theorem DrawIsMore_rc (m : Mem) (cb fl : Nat) (l : List Int) (h : BytesA m cb l) :
    RC Try.prog 46 [.slice (some ⟨cb, 0, none⟩) l.length fl] m (AnsTwo m) := by
  refine rc_of_run mixed ok_spec_DrawIsMore (by simp) (go_start _ _ _ ?_)
  simp (config := {implicitDefEqProofs := false, maxDischargeDepth := 20}) (disch := first | omega | (simp only [lenE]; done) | (simp only [lenE]; omega) | rfl | (simp only [lenE, markR_len]; done) | (simp only [lenE, markR_len]; omega)) only [runE, mapE, listE, initT_5, initT_6, initT_7, initT_8, resV, oneV, binA, unA, reduceCtorEq, Nat.reduceEqDiff, Nat.reduceAdd, Nat.reduceLT, Nat.reduceLeDiff, Nat.reduceMul, Nat.reduceSub, ↓reduceIte, decide_true, decide_false, Bool.true_eq_false, Bool.false_eq_true, Bool.not_true, Bool.not_false, if_true, if_false, and_true, true_and, memE, celE, w64, Nat.zero_add, Nat.add_zero, Nat.mul_one, putL, and_self, ldn, c_spec_DrawIsMore, r_spec_DrawIsMore, bldCur]
  have k0 := CurA.start (fl := fl) h rfl
  have hl0 : (roM m ++ [(⟨.own, 75, [.slice (some ⟨cb, 0, none⟩) l.length fl, .int .i64 0, .int .u64 0]⟩ : Blk)]).length = m.length + 1 := by simp [roM_len]
  refine callH_ac (chances_ac _ cb _ 0 l k0 (by omega)) ?_
  rintro v M1 ⟨r, L, a1, rfl, hL, ha1, d1⟩
  simp (config := {implicitDefEqProofs := false, maxDischargeDepth := 20}) (disch := first | omega | (simp only [lenE]; done) | (simp only [lenE]; omega) | rfl | (simp only [lenE, markR_len]; done) | (simp only [lenE, markR_len]; omega)) only [runE, mapE, listE, initT_5, initT_6, initT_7, initT_8, resV, oneV, binA, unA, reduceCtorEq, Nat.reduceEqDiff, Nat.reduceAdd, Nat.reduceLT, Nat.reduceLeDiff, Nat.reduceMul, Nat.reduceSub, ↓reduceIte, decide_true, decide_false, Bool.true_eq_false, Bool.false_eq_true, Bool.not_true, Bool.not_false, if_true, if_false, and_true, true_and, memE, celE, w64, Nat.zero_add, Nat.add_zero, Nat.mul_one, putL, and_self, ldn]
  refine callH_ac (one_ac M1 cb _ a1 l 2 d1.cur (by omega) (by omega) (by omega)) ?_
  rintro v M2 ⟨b, rfl, w2, a2, ha2, k2⟩
  have d2 := d1.draw w2 k2
  have g1 := d2.ge
  have c2 := d2.cw.len
  rw [hl0] at g1 c2
  have hx := d2.cw.toExt d2.cur
  have hr := d2.own.lt
  cases b with
  | true =>
    have o3 : OwnR (M2 ++ [⟨.own, 3, [.int .i64 0]⟩]) M2.length [0] := OwnR.end' (l := [0]) rfl
    have ap := app_all o3 ((d2.own.ext [⟨.own, 3, [.int .i64 0]⟩]).ints (by omega) 1) (by simp; omega)
    rw [show ([0] : List Int).length = 1 from rfl] at ap
    simp (config := {implicitDefEqProofs := false, maxDischargeDepth := 20}) (disch := first | omega | (simp only [lenE]; done) | (simp only [lenE]; omega) | rfl | (simp only [lenE, markR_len]; done) | (simp only [lenE, markR_len]; omega)) only [runE, mapE, listE, initT_5, initT_6, initT_7, initT_8, resV, oneV, binA, unA, reduceCtorEq, Nat.reduceEqDiff, Nat.reduceAdd, Nat.reduceLT, Nat.reduceLeDiff, Nat.reduceMul, Nat.reduceSub, ↓reduceIte, decide_true, decide_false, Bool.true_eq_false, Bool.false_eq_true, Bool.not_true, Bool.not_false, if_true, if_false, and_true, true_and, memE, celE, w64, Nat.zero_add, Nat.add_zero, Nat.mul_one, putL, and_self, ldn, b1d, ap]
    have x3 := ((hx.one 3 [.int .i64 0]).dead (id := M2.length) (by omega)).one 3 (([0] ++ L).map (Value.int .i64))
    have o4 : OwnR (((M2 ++ [(⟨.own, 3, [.int .i64 0]⟩ : Blk)]) : Mem).set M2.length deadB ++ [⟨.own, 3, ([0] ++ L).map (Value.int .i64)⟩]) r L := ((d2.own.ext _).set_ne (by omega)).ext _
    have o5 : OwnR (((M2 ++ [(⟨.own, 3, [.int .i64 0]⟩ : Blk)]) : Mem).set M2.length deadB ++ [⟨.own, 3, ([0] ++ L).map (Value.int .i64)⟩]) (M2.length + 1) ([0] ++ L) := OwnR.end' (by simp)
    refine ansTwo x3 o5 o4 (by omega) (by omega) ?_ rfl ?_ (by omega) <;> simp <;> omega
  | false =>
    simp (config := {implicitDefEqProofs := false, maxDischargeDepth := 20}) (disch := first | omega | (simp only [lenE]; done) | (simp only [lenE]; omega) | rfl | (simp only [lenE, markR_len]; done) | (simp only [lenE, markR_len]; omega)) only [runE, mapE, listE, initT_5, initT_6, initT_7, initT_8, resV, oneV, binA, unA, reduceCtorEq, Nat.reduceEqDiff, Nat.reduceAdd, Nat.reduceLT, Nat.reduceLeDiff, Nat.reduceMul, Nat.reduceSub, ↓reduceIte, decide_true, decide_false, Bool.true_eq_false, Bool.false_eq_true, Bool.not_true, Bool.not_false, if_true, if_false, and_true, true_and, memE, celE, w64, Nat.zero_add, Nat.add_zero, Nat.mul_one, putL, and_self, ldn]
    refine callH_rc (l1Own_rc _ _ L (d2.own.ints (by omega) 1) (by omega)) ?_
    intro v new hA
    obtain ⟨r2, f2, rfl, hge, o3, hle, nr⟩ := hA.row
    have d3 := d2.ext nr
    obtain ⟨M3, hM3⟩ : ∃ M3, M3 = M2 ++ new := ⟨_, rfl⟩
    rw [← hM3] at o3 d3 ⊢
    simp (config := {implicitDefEqProofs := false, maxDischargeDepth := 20}) (disch := first | omega | (simp only [lenE]; done) | (simp only [lenE]; omega) | rfl | (simp only [lenE, markR_len]; done) | (simp only [lenE, markR_len]; omega)) only [runE, mapE, listE, initT_5, initT_6, initT_7, initT_8, resV, oneV, binA, unA, reduceCtorEq, Nat.reduceEqDiff, Nat.reduceAdd, Nat.reduceLT, Nat.reduceLeDiff, Nat.reduceMul, Nat.reduceSub, ↓reduceIte, decide_true, decide_false, Bool.true_eq_false, Bool.false_eq_true, Bool.not_true, Bool.not_false, if_true, if_false, and_true, true_and, memE, celE, w64, Nat.zero_add, Nat.add_zero, Nat.mul_one, putL, and_self, ldn]
    refine callH_ac (pick_ac M3 cb _ a2 l ((L.length : Int) + 1) d3.cur (by omega) (by omega) (by omega)) ?_
    rintro v M4 ⟨x, rfl, hx0, hx1, w4, a4, ha4, k4⟩
    have d4 := d3.draw w4 k4
    have o4 := w4.own o3 (by have := d2.hid; omega)
    have hx4 := d4.cw.toExt d4.cur
    obtain ⟨k, rfl⟩ : ∃ k : Nat, x = k := ⟨x.toNat, by omega⟩
    have i4 := o4.ints (by omega) f2
    have hge4 : m.length ≤ r2 := by have := d2.cw.len; omega
    have i0 : ∀ j : Nat, j < L.length → iadA 1 (.slice (some ⟨r2, 0, none⟩) L.length f2) (.int .i64 (j : Int)) = some (.pointer (some ⟨r2, j, none⟩)) := fun j hj => iad0 rfl hj
    have ei : (k : Int) + 1 = ((k + 1 : Nat) : Int) := by omega
    have done : ∀ {M' : Mem} {X : List Int}, Ext m M' → OwnR M' r2 X → OwnR M' r L → X.length = L.length → newQ m (AnsTwo m) (.tuple #[.slice (some ⟨r2, 0, none⟩) L.length f2, .slice (some ⟨r, 0, none⟩) L.length 1]) M' := fun hx ho2 ho1 hX => ansTwo hx ho2 ho1 hge4 (by omega) hX.symm rfl (by omega) (by omega)
    by_cases h1 : k + 1 < L.length
    · have h1' : ((k + 1 : Nat) : Int) < (L.length : Int) := by omega
      by_cases h2 : 0 < L.getD k 0
      · by_cases h3 : L.getD k 0 < 1000
        · have s1 := o4.st (off := k) (x := L.getD k 0 - 1) (by omega)
          have o5 : OwnR (M4.set r2 (rowB (L.set k (L.getD k 0 - 1)))) r2 (L.set k (L.getD k 0 - 1)) := o4.set_self
          have o5' : OwnR (M4.set r2 (rowB (L.set k (L.getD k 0 - 1)))) r L := d4.own.set_ne (by omega)
          have x5 := hx4.put hge4 3 ((L.set k (L.getD k 0 - 1)).map (Value.int .i64))
          have q5 := o5.rd' (i := k + 1) (by rw [List.length_set]; omega)
          have s2 := fun x => o5.st (off := k + 1) (x := x) (by rw [List.length_set]; omega)
          simp (config := {implicitDefEqProofs := false, maxDischargeDepth := 20}) (disch := first | omega | (simp only [lenE]; done) | (simp only [lenE]; omega) | rfl | (simp only [lenE, markR_len]; done) | (simp only [lenE, markR_len]; omega)) only [runE, mapE, listE, initT_5, initT_6, initT_7, initT_8, resV, oneV, binA, unA, reduceCtorEq, Nat.reduceEqDiff, Nat.reduceAdd, Nat.reduceLT, Nat.reduceLeDiff, Nat.reduceMul, Nat.reduceSub, ↓reduceIte, decide_true, decide_false, Bool.true_eq_false, Bool.false_eq_true, Bool.not_true, Bool.not_false, if_true, if_false, and_true, true_and, memE, celE, w64, Nat.zero_add, Nat.add_zero, Nat.mul_one, putL, and_self, ldn, ei, h1', i0 k (by omega), o4.rd' (i := k) (by omega), h2, h3, gt_iff_lt, s1, i0 (k + 1) h1, q5, s2]
          exact done (x5.put hge4 3 _) o5.set_self (o5'.set_ne (by omega)) (by simp)
        · simp (config := {implicitDefEqProofs := false, maxDischargeDepth := 20}) (disch := first | omega | (simp only [lenE]; done) | (simp only [lenE]; omega) | rfl | (simp only [lenE, markR_len]; done) | (simp only [lenE, markR_len]; omega)) only [runE, mapE, listE, initT_5, initT_6, initT_7, initT_8, resV, oneV, binA, unA, reduceCtorEq, Nat.reduceEqDiff, Nat.reduceAdd, Nat.reduceLT, Nat.reduceLeDiff, Nat.reduceMul, Nat.reduceSub, ↓reduceIte, decide_true, decide_false, Bool.true_eq_false, Bool.false_eq_true, Bool.not_true, Bool.not_false, if_true, if_false, and_true, true_and, memE, celE, w64, Nat.zero_add, Nat.add_zero, Nat.mul_one, putL, and_self, ldn, ei, h1', i0 k (by omega), o4.rd' (i := k) (by omega), h2, h3, gt_iff_lt, goG_undef]
          exact done hx4 o4 d4.own rfl
      · simp (config := {implicitDefEqProofs := false, maxDischargeDepth := 20}) (disch := first | omega | (simp only [lenE]; done) | (simp only [lenE]; omega) | rfl | (simp only [lenE, markR_len]; done) | (simp only [lenE, markR_len]; omega)) only [runE, mapE, listE, initT_5, initT_6, initT_7, initT_8, resV, oneV, binA, unA, reduceCtorEq, Nat.reduceEqDiff, Nat.reduceAdd, Nat.reduceLT, Nat.reduceLeDiff, Nat.reduceMul, Nat.reduceSub, ↓reduceIte, decide_true, decide_false, Bool.true_eq_false, Bool.false_eq_true, Bool.not_true, Bool.not_false, if_true, if_false, and_true, true_and, memE, celE, w64, Nat.zero_add, Nat.add_zero, Nat.mul_one, putL, and_self, ldn, ei, h1', i0 k (by omega), o4.rd' (i := k) (by omega), h2, gt_iff_lt, goG_undef]
        exact done hx4 o4 d4.own rfl
    · have h1' : ¬ (((k + 1 : Nat) : Int) < (L.length : Int)) := by omega
      simp (config := {implicitDefEqProofs := false, maxDischargeDepth := 20}) (disch := first | omega | (simp only [lenE]; done) | (simp only [lenE]; omega) | rfl | (simp only [lenE, markR_len]; done) | (simp only [lenE, markR_len]; omega)) only [runE, mapE, listE, initT_5, initT_6, initT_7, initT_8, resV, oneV, binA, unA, reduceCtorEq, Nat.reduceEqDiff, Nat.reduceAdd, Nat.reduceLT, Nat.reduceLeDiff, Nat.reduceMul, Nat.reduceSub, ↓reduceIte, decide_true, decide_false, Bool.true_eq_false, Bool.false_eq_true, Bool.not_true, Bool.not_false, if_true, if_false, and_true, true_and, memE, celE, w64, Nat.zero_add, Nat.add_zero, Nat.mul_one, putL, and_self, ldn, ei, h1', goG_undef]
      exact done hx4 o4 d4.own rfl

theorem DrawIsWider_rc (m : Mem) (cb fl : Nat) (l : List Int) (h : BytesA m cb l) :
    RC Try.prog 49 [.slice (some ⟨cb, 0, none⟩) l.length fl] m (AnsTwo m) := by
  refine rc_of_run mixed ok_spec_DrawIsWider (by simp) (go_start _ _ _ ?_)
  simp (config := {implicitDefEqProofs := false, maxDischargeDepth := 20}) (disch := first | omega | (simp only [lenE]; done) | (simp only [lenE]; omega) | rfl | (simp only [lenE, markR_len]; done) | (simp only [lenE, markR_len]; omega)) only [runE, mapE, listE, initT_5, initT_6, initT_7, initT_8, resV, oneV, binA, unA, reduceCtorEq, Nat.reduceEqDiff, Nat.reduceAdd, Nat.reduceLT, Nat.reduceLeDiff, Nat.reduceMul, Nat.reduceSub, ↓reduceIte, decide_true, decide_false, Bool.true_eq_false, Bool.false_eq_true, Bool.not_true, Bool.not_false, if_true, if_false, and_true, true_and, memE, celE, w64, Nat.zero_add, Nat.add_zero, Nat.mul_one, putL, and_self, ldn, c_spec_DrawIsWider, r_spec_DrawIsWider, bldCur]
  have k0 := CurA.start (fl := fl) h rfl
  have hl0 : (roM m ++ [(⟨.own, 75, [.slice (some ⟨cb, 0, none⟩) l.length fl, .int .i64 0, .int .u64 0]⟩ : Blk)]).length = m.length + 1 := by simp [roM_len]
  refine callH_ac (chances_ac _ cb _ 0 l k0 (by omega)) ?_
  rintro v M2 ⟨r, L, a2, rfl, hL, ha2, d2⟩
  have g1 := d2.ge
  have c2 := d2.cw.len
  rw [hl0] at g1 c2
  have hr := d2.own.lt
  simp (config := {implicitDefEqProofs := false, maxDischargeDepth := 20}) (disch := first | omega | (simp only [lenE]; done) | (simp only [lenE]; omega) | rfl | (simp only [lenE, markR_len]; done) | (simp only [lenE, markR_len]; omega)) only [runE, mapE, listE, initT_5, initT_6, initT_7, initT_8, resV, oneV, binA, unA, reduceCtorEq, Nat.reduceEqDiff, Nat.reduceAdd, Nat.reduceLT, Nat.reduceLeDiff, Nat.reduceMul, Nat.reduceSub, ↓reduceIte, decide_true, decide_false, Bool.true_eq_false, Bool.false_eq_true, Bool.not_true, Bool.not_false, if_true, if_false, and_true, true_and, memE, celE, w64, Nat.zero_add, Nat.add_zero, Nat.mul_one, putL, and_self, ldn]
  refine callH_rc (l1Own_rc _ _ L (d2.own.ints (by omega) 1) (by omega)) ?_
  intro v new hA
  obtain ⟨r2, f2, rfl, hge, o3, hle, nr⟩ := hA.row
  have d3 := d2.ext nr
  obtain ⟨M3, hM3⟩ : ∃ M3, M3 = M2 ++ new := ⟨_, rfl⟩
  rw [← hM3] at o3 d3 ⊢
  simp (config := {implicitDefEqProofs := false, maxDischargeDepth := 20}) (disch := first | omega | (simp only [lenE]; done) | (simp only [lenE]; omega) | rfl | (simp only [lenE, markR_len]; done) | (simp only [lenE, markR_len]; omega)) only [runE, mapE, listE, initT_5, initT_6, initT_7, initT_8, resV, oneV, binA, unA, reduceCtorEq, Nat.reduceEqDiff, Nat.reduceAdd, Nat.reduceLT, Nat.reduceLeDiff, Nat.reduceMul, Nat.reduceSub, ↓reduceIte, decide_true, decide_false, Bool.true_eq_false, Bool.false_eq_true, Bool.not_true, Bool.not_false, if_true, if_false, and_true, true_and, memE, celE, w64, Nat.zero_add, Nat.add_zero, Nat.mul_one, putL, and_self, ldn]
  refine callH_ac (pick_ac M3 cb _ a2 l ((L.length : Int) + 1) d3.cur (by omega) (by omega) (by omega)) ?_
  rintro v M4 ⟨x, rfl, hx0, hx1, w4, a4, ha4, k4⟩
  have d4 := d3.draw w4 k4
  have o4 := w4.own o3 (by have := d2.hid; omega)
  have hx4 := d4.cw.toExt d4.cur
  obtain ⟨k, rfl⟩ : ∃ k : Nat, x = k := ⟨x.toNat, by omega⟩
  have hge4 : m.length ≤ r2 := by have := d2.cw.len; omega
  have i0 : ∀ j : Nat, j < L.length → iadA 1 (.slice (some ⟨r2, 0, none⟩) L.length f2) (.int .i64 (j : Int)) = some (.pointer (some ⟨r2, j, none⟩)) := fun j hj => iad0 rfl hj
  have e0 : (1 : Int) + (k : Int) = ((k + 1 : Nat) : Int) := by omega
  have ei : ((k + 1 : Nat) : Int) + 1 = ((k + 2 : Nat) : Int) := by omega
  have em : ((k + 1 : Nat) : Int) - 1 = (k : Int) := by omega
  have done : ∀ {M' : Mem} {X : List Int}, Ext m M' → OwnR M' r2 X → OwnR M' r L → X.length = L.length → newQ m (AnsTwo m) (.tuple #[.slice (some ⟨r2, 0, none⟩) L.length f2, .slice (some ⟨r, 0, none⟩) L.length 1]) M' := fun hx ho2 ho1 hX => ansTwo hx ho2 ho1 hge4 (by omega) hX.symm rfl (by omega) (by omega)
  by_cases h1 : k + 2 < L.length
  · have h1' : ((k + 2 : Nat) : Int) < (L.length : Int) := by omega
    by_cases h2 : 1 < L.getD (k + 1) 0
    · by_cases h3 : L.getD (k + 1) 0 < 1000
      · simp (config := {implicitDefEqProofs := false, maxDischargeDepth := 20}) (disch := first | omega | (simp only [lenE]; done) | (simp only [lenE]; omega) | rfl | (simp only [lenE, markR_len]; done) | (simp only [lenE, markR_len]; omega)) only [runE, mapE, listE, initT_5, initT_6, initT_7, initT_8, resV, oneV, binA, unA, reduceCtorEq, Nat.reduceEqDiff, Nat.reduceAdd, Nat.reduceLT, Nat.reduceLeDiff, Nat.reduceMul, Nat.reduceSub, ↓reduceIte, decide_true, decide_false, Bool.true_eq_false, Bool.false_eq_true, Bool.not_true, Bool.not_false, if_true, if_false, and_true, true_and, memE, celE, w64, Nat.zero_add, Nat.add_zero, Nat.mul_one, putL, and_self, ldn, e0, ei, h1', i0 (k + 1) (by omega), o4.rd' (i := k + 1) (by omega), h2, h3, gt_iff_lt]
        refine callH_ac (pick_ac M4 cb _ a4 l 6 d4.cur (by omega) (by omega) (by omega)) ?_
        rintro v M5 ⟨y, rfl, hy0, hy1, w5, a5, ha5, k5⟩
        have d5 := d4.draw w5 k5
        have o5 := w5.own o4 (by have := d2.hid; omega)
        have hx5 := d5.cw.toExt d5.cur
        by_cases h4 : 0 < y
        · have s1 := o5.st (off := k + 1) (x := L.getD (k + 1) 0 - 2) (by omega)
          have o6 : OwnR (M5.set r2 (rowB (L.set (k + 1) (L.getD (k + 1) 0 - 2)))) r2 (L.set (k + 1) (L.getD (k + 1) 0 - 2)) := o5.set_self
          have o6' : OwnR (M5.set r2 (rowB (L.set (k + 1) (L.getD (k + 1) 0 - 2)))) r L := d5.own.set_ne (by omega)
          have x6 := hx5.put hge4 3 ((L.set (k + 1) (L.getD (k + 1) 0 - 2)).map (Value.int .i64))
          have hl6 : (L.set (k + 1) (L.getD (k + 1) 0 - 2)).length = L.length := List.length_set
          generalize L.set (k + 1) (L.getD (k + 1) 0 - 2) = L6 at *
          obtain ⟨M6, hM6⟩ : ∃ M6, M6 = M5.set r2 (rowB L6) := ⟨_, rfl⟩
          rw [← hM6] at s1 o6 o6'
          rw [show M5.set r2 ⟨.own, 3, L6.map (Value.int .i64)⟩ = M6 from hM6.symm] at x6
          have q6 := o6.rd' (i := k) (by omega)
          have z : ∃ X : Int, ∃ M7, stA M6 r2 k [.int .i64 (IntKind.i64.wrap (L6.getD k 0 + 1))] = some M7 ∧ Ext m M7 ∧ OwnR M7 r2 (L6.set k X) ∧ OwnR M7 r L := ⟨_, _, o6.st (off := k) (by omega), x6.put hge4 3 _, o6.set_self, o6'.set_ne (by omega)⟩
          obtain ⟨X, M7, s2, x7, o7, o7'⟩ := z
          have q7 := o7.rd' (i := k + 2) (by rw [List.length_set]; omega)
          have z : ∃ X2 : List Int, ∃ M8, stA M7 r2 (k + 2) [.int .i64 (IntKind.i64.wrap ((L6.set k X).getD (k + 2) 0 + 1))] = some M8 ∧ Ext m M8 ∧ OwnR M8 r2 X2 ∧ X2.length = L.length ∧ OwnR M8 r L := ⟨_, _, o7.st (off := k + 2) (by rw [List.length_set]; omega), x7.put hge4 3 _, o7.set_self, by simp [hl6], o7'.set_ne (by omega)⟩
          obtain ⟨X2, M8, s3, x8, o8, l8, o8'⟩ := z
          simp (config := {implicitDefEqProofs := false, maxDischargeDepth := 20}) (disch := first | omega | (simp only [lenE]; done) | (simp only [lenE]; omega) | rfl | (simp only [lenE, markR_len]; done) | (simp only [lenE, markR_len]; omega)) only [runE, mapE, listE, initT_5, initT_6, initT_7, initT_8, resV, oneV, binA, unA, reduceCtorEq, Nat.reduceEqDiff, Nat.reduceAdd, Nat.reduceLT, Nat.reduceLeDiff, Nat.reduceMul, Nat.reduceSub, ↓reduceIte, decide_true, decide_false, Bool.true_eq_false, Bool.false_eq_true, Bool.not_true, Bool.not_false, if_true, if_false, and_true, true_and, memE, celE, w64, Nat.zero_add, Nat.add_zero, Nat.mul_one, putL, and_self, ldn, e0, ei, em, i0 (k + 1) (by omega), o5.rd' (i := k + 1) (by omega), h4, gt_iff_lt, s1, i0 k (by omega), q6, s2, i0 (k + 2) h1, q7, s3]
          exact done x8 o8 o8' l8
        · simp (config := {implicitDefEqProofs := false, maxDischargeDepth := 20}) (disch := first | omega | (simp only [lenE]; done) | (simp only [lenE]; omega) | rfl | (simp only [lenE, markR_len]; done) | (simp only [lenE, markR_len]; omega)) only [runE, mapE, listE, initT_5, initT_6, initT_7, initT_8, resV, oneV, binA, unA, reduceCtorEq, Nat.reduceEqDiff, Nat.reduceAdd, Nat.reduceLT, Nat.reduceLeDiff, Nat.reduceMul, Nat.reduceSub, ↓reduceIte, decide_true, decide_false, Bool.true_eq_false, Bool.false_eq_true, Bool.not_true, Bool.not_false, if_true, if_false, and_true, true_and, memE, celE, w64, Nat.zero_add, Nat.add_zero, Nat.mul_one, putL, and_self, ldn, h4, gt_iff_lt]
          exact done hx5 o5 d5.own rfl
      · simp (config := {implicitDefEqProofs := false, maxDischargeDepth := 20}) (disch := first | omega | (simp only [lenE]; done) | (simp only [lenE]; omega) | rfl | (simp only [lenE, markR_len]; done) | (simp only [lenE, markR_len]; omega)) only [runE, mapE, listE, initT_5, initT_6, initT_7, initT_8, resV, oneV, binA, unA, reduceCtorEq, Nat.reduceEqDiff, Nat.reduceAdd, Nat.reduceLT, Nat.reduceLeDiff, Nat.reduceMul, Nat.reduceSub, ↓reduceIte, decide_true, decide_false, Bool.true_eq_false, Bool.false_eq_true, Bool.not_true, Bool.not_false, if_true, if_false, and_true, true_and, memE, celE, w64, Nat.zero_add, Nat.add_zero, Nat.mul_one, putL, and_self, ldn, e0, ei, h1', i0 (k + 1) (by omega), o4.rd' (i := k + 1) (by omega), h2, h3, gt_iff_lt, goG_undef]
        exact done hx4 o4 d4.own rfl
    · simp (config := {implicitDefEqProofs := false, maxDischargeDepth := 20}) (disch := first | omega | (simp only [lenE]; done) | (simp only [lenE]; omega) | rfl | (simp only [lenE, markR_len]; done) | (simp only [lenE, markR_len]; omega)) only [runE, mapE, listE, initT_5, initT_6, initT_7, initT_8, resV, oneV, binA, unA, reduceCtorEq, Nat.reduceEqDiff, Nat.reduceAdd, Nat.reduceLT, Nat.reduceLeDiff, Nat.reduceMul, Nat.reduceSub, ↓reduceIte, decide_true, decide_false, Bool.true_eq_false, Bool.false_eq_true, Bool.not_true, Bool.not_false, if_true, if_false, and_true, true_and, memE, celE, w64, Nat.zero_add, Nat.add_zero, Nat.mul_one, putL, and_self, ldn, e0, ei, h1', i0 (k + 1) (by omega), o4.rd' (i := k + 1) (by omega), h2, gt_iff_lt, goG_undef]
      exact done hx4 o4 d4.own rfl
  · have h1' : ¬ (((k + 2 : Nat) : Int) < (L.length : Int)) := by omega
    simp (config := {implicitDefEqProofs := false, maxDischargeDepth := 20}) (disch := first | omega | (simp only [lenE]; done) | (simp only [lenE]; omega) | rfl | (simp only [lenE, markR_len]; done) | (simp only [lenE, markR_len]; omega)) only [runE, mapE, listE, initT_5, initT_6, initT_7, initT_8, resV, oneV, binA, unA, reduceCtorEq, Nat.reduceEqDiff, Nat.reduceAdd, Nat.reduceLT, Nat.reduceLeDiff, Nat.reduceMul, Nat.reduceSub, ↓reduceIte, decide_true, decide_false, Bool.true_eq_false, Bool.false_eq_true, Bool.not_true, Bool.not_false, if_true, if_false, and_true, true_and, memE, celE, w64, Nat.zero_add, Nat.add_zero, Nat.mul_one, putL, and_self, ldn, e0, ei, h1', goG_undef]
    exact done hx4 o4 d4.own rfl

/-! Helpers. -/
theorem vAdd_rc (m : Mem) (v : Value) (w : List Int) (h : IntsA m v w) (hd : Dist w) : RC Try.prog 57 [v] m fun r new => r = .int .i64 (tot w) ∧ new = [] := by
  refine rc_of_run mixed ok_laws_vAdd (by simp) (go_start _ _ _ ?_)
  obtain ⟨e1, e2, e3, e4, -⟩ := h.ro
  simp (config := {implicitDefEqProofs := false, maxDischargeDepth := 20}) (disch := first | omega | (simp only [lenE]; done) | (simp only [lenE]; omega) | rfl | (simp only [lenE, markR_len]; done) | (simp only [lenE, markR_len]; omega)) only [runE, mapE, listE, initT_5, initT_6, initT_7, initT_8, resV, oneV, binA, unA, reduceCtorEq, Nat.reduceEqDiff, Nat.reduceAdd, Nat.reduceLT, Nat.reduceLeDiff, Nat.reduceMul, Nat.reduceSub, ↓reduceIte, decide_true, decide_false, Bool.true_eq_false, Bool.false_eq_true, Bool.not_true, Bool.not_false, if_true, if_false, and_true, true_and, memE, celE, w64, Nat.zero_add, Nat.add_zero, Nat.mul_one, putL, and_self, ldn, c_laws_vAdd, r_laws_vAdd]
  refine loop_inv mixed (fun s => ∃ k : Nat, k ≤ w.length ∧ s.t 0 = v ∧ s.t 3 = .int .i64 (sumTo w k) ∧ s.t 4 = .int .i64 k ∧ s.m = roM m) (fun s => w.length - (intOf (s.t 4)).toNat) ⟨0, by omega, rfl, rfl, rfl, rfl⟩ ?_
  rintro s ⟨k, hk, t0, t3, t4, tm⟩
  by_cases hlt : k < w.length
  · have hlt' : (k : Int) < w.length := by omega
    have b1 := hd.small (k + 1) (by omega)
    have b2 := sumTo_s hlt
    rw [b2] at b1
    simp (config := {implicitDefEqProofs := false, maxDischargeDepth := 20}) (disch := first | omega | (simp only [lenE]; done) | (simp only [lenE]; omega) | rfl | (simp only [lenE, markR_len]; done) | (simp only [lenE, markR_len]; omega)) only [runE, mapE, listE, initT_5, initT_6, initT_7, initT_8, resV, oneV, binA, unA, reduceCtorEq, Nat.reduceEqDiff, Nat.reduceAdd, Nat.reduceLT, Nat.reduceLeDiff, Nat.reduceMul, Nat.reduceSub, ↓reduceIte, decide_true, decide_false, Bool.true_eq_false, Bool.false_eq_true, Bool.not_true, Bool.not_false, if_true, if_false, and_true, true_and, memE, celE, w64, Nat.zero_add, Nat.add_zero, Nat.mul_one, putL, and_self, ldn, t0, t3, t4, tm, e1, e3 k hlt, e4 k hlt, hlt']
    exact ⟨⟨k + 1, by omega, by simp [b2]⟩, by simp [intOf]; omega⟩
  · have hlt' : ¬ ((k : Int) < w.length) := by omega
    have e : k = w.length := by omega
    simp (config := {implicitDefEqProofs := false, maxDischargeDepth := 20}) (disch := first | omega | (simp only [lenE]; done) | (simp only [lenE]; omega) | rfl | (simp only [lenE, markR_len]; done) | (simp only [lenE, markR_len]; omega)) only [runE, mapE, listE, initT_5, initT_6, initT_7, initT_8, resV, oneV, binA, unA, reduceCtorEq, Nat.reduceEqDiff, Nat.reduceAdd, Nat.reduceLT, Nat.reduceLeDiff, Nat.reduceMul, Nat.reduceSub, ↓reduceIte, decide_true, decide_false, Bool.true_eq_false, Bool.false_eq_true, Bool.not_true, Bool.not_false, if_true, if_false, and_true, true_and, memE, celE, w64, Nat.zero_add, Nat.add_zero, Nat.mul_one, putL, and_self, ldn, t0, t3, t4, tm, e1, hlt']
    exact newQ_nil ⟨by rw [e]; rfl, rfl⟩
theorem vBestSum_rc (m : Mem) (v : Value) (w : List Int) (o u : Nat) (h : IntsA m v w) (hd : Dist w) (ho : o ≤ 20) (hu : u ≤ 20) : RC Try.prog 56 [v, .int .i64 o, .int .i64 u] m (AnsV (.int .i64 (costF w o u (critF w o u)))) := by
  refine rc_of_run mixed ok_laws_vBestSum (by simp) (go_start _ _ _ ?_)
  have hc : (distB w && chB (o : Int) (u : Int)) = true := by
    rw [dist_iff.2 hd, Bool.true_and]; unfold chB; rw [Bool.and_eq_true, inB_iff, inB_iff]; omega
  have h1 := implCriticalOrder_rc (roM m) v w o u h.ro
  rw [hc] at h1
  simp (config := {implicitDefEqProofs := false, maxDischargeDepth := 20}) (disch := first | omega | (simp only [lenE]; done) | (simp only [lenE]; omega) | rfl | (simp only [lenE, markR_len]; done) | (simp only [lenE, markR_len]; omega)) only [runE, mapE, listE, initT_5, initT_6, initT_7, initT_8, resV, oneV, binA, unA, reduceCtorEq, Nat.reduceEqDiff, Nat.reduceAdd, Nat.reduceLT, Nat.reduceLeDiff, Nat.reduceMul, Nat.reduceSub, ↓reduceIte, decide_true, decide_false, Bool.true_eq_false, Bool.false_eq_true, Bool.not_true, Bool.not_false, if_true, if_false, and_true, true_and, memE, celE, w64, Nat.zero_add, Nat.add_zero, Nat.mul_one, putL, and_self, ldn, c_laws_vBestSum, r_laws_vBestSum]
  refine callH_rc h1 ?_
  rintro r new ⟨rfl, nr⟩
  have hx := (ext0 m).app nr
  have hcr := crit_le (w := w) (o := (o : Int)) (u := (u : Int)) hd (by omega)
  have h2 := implCostSum_rc (roM m ++ new) v w o u (critF w o u : Int) (h.xt hx)
  have hc2 : costB w (o : Int) (u : Int) (critF w o u : Int) = true := by
    unfold costB; rw [hc, Bool.true_and, inB_iff]; omega
  rw [hc2] at h2
  simp only [cond_true, Int.toNat_natCast] at h2
  simp only [cond_true]
  simp (config := {implicitDefEqProofs := false, maxDischargeDepth := 20}) (disch := first | omega | (simp only [lenE]; done) | (simp only [lenE]; omega) | rfl | (simp only [lenE, markR_len]; done) | (simp only [lenE, markR_len]; omega)) only [runE, mapE, listE, initT_5, initT_6, initT_7, initT_8, resV, oneV, binA, unA, reduceCtorEq, Nat.reduceEqDiff, Nat.reduceAdd, Nat.reduceLT, Nat.reduceLeDiff, Nat.reduceMul, Nat.reduceSub, ↓reduceIte, decide_true, decide_false, Bool.true_eq_false, Bool.false_eq_true, Bool.not_true, Bool.not_false, if_true, if_false, and_true, true_and, memE, celE, w64, Nat.zero_add, Nat.add_zero, Nat.mul_one, putL, and_self, ldn, ext_2_0, ext_2_1]
  refine callH_rc h2 ?_
  rintro r new2 ⟨rfl, nr2⟩
  simp (config := {implicitDefEqProofs := false, maxDischargeDepth := 20}) (disch := first | omega | (simp only [lenE]; done) | (simp only [lenE]; omega) | rfl | (simp only [lenE, markR_len]; done) | (simp only [lenE, markR_len]; omega)) only [runE, mapE, listE, initT_5, initT_6, initT_7, initT_8, resV, oneV, binA, unA, reduceCtorEq, Nat.reduceEqDiff, Nat.reduceAdd, Nat.reduceLT, Nat.reduceLeDiff, Nat.reduceMul, Nat.reduceSub, ↓reduceIte, decide_true, decide_false, Bool.true_eq_false, Bool.false_eq_true, Bool.not_true, Bool.not_false, if_true, if_false, and_true, true_and, memE, celE, w64, Nat.zero_add, Nat.add_zero, Nat.mul_one, putL, and_self, ldn, ext_2_0, ext_2_1]
  exact ext_ansV (hx.app nr2) rfl
theorem vAt_rc (m : Mem) (cb fl k : Nat) (l : List Int) (h : BytesA m cb l) (hk : k ≤ 1000) : RC Try.prog 55 [.slice (some ⟨cb, 0, none⟩) l.length fl, .int .i64 k] m fun r new => new = [] ∧ ∃ z : Nat, r = .int .i64 z ∧ z ≤ 255 := by
  refine rc_of_run mixed ok_laws_vAt (by simp) (go_start _ _ _ ?_)
  have hro := h.ro
  have hf := h.few
  by_cases hlt : k < l.length
  · have hlt' : (k : Int) < l.length := by omega
    have ia : iadA 1 (.slice (some ⟨cb, 0, none⟩) l.length fl) (.int .i64 (k : Int)) = some (.pointer (some ⟨cb, k, none⟩)) := iad0 rfl hlt
    have hx := h.byte (l.getD k 0) (by rw [List.getD_eq_getElem?_getD, List.getElem?_eq_getElem hlt]; exact List.getElem_mem _)
    have rx : rdc (roM m) cb k = some (.int .u8 (l.getD k 0)) := by
      unfold rdc
      rw [hro]
      simp [List.getD_eq_getElem?_getD, List.getElem?_eq_getElem hlt]
    have w1 : IntKind.i64.wrap (l.getD k 0) = l.getD k 0 := w64 ⟨by omega, by omega⟩
    simp (config := {implicitDefEqProofs := false, maxDischargeDepth := 20}) (disch := first | omega | (simp only [lenE]; done) | (simp only [lenE]; omega) | rfl | (simp only [lenE, markR_len]; done) | (simp only [lenE, markR_len]; omega)) only [runE, mapE, listE, initT_5, initT_6, initT_7, initT_8, resV, oneV, binA, unA, reduceCtorEq, Nat.reduceEqDiff, Nat.reduceAdd, Nat.reduceLT, Nat.reduceLeDiff, Nat.reduceMul, Nat.reduceSub, ↓reduceIte, decide_true, decide_false, Bool.true_eq_false, Bool.false_eq_true, Bool.not_true, Bool.not_false, if_true, if_false, and_true, true_and, memE, celE, w64, Nat.zero_add, Nat.add_zero, Nat.mul_one, putL, and_self, ldn, c_laws_vAt, r_laws_vAt, hlt', ia, rx, w1]
    exact newQ_nil ⟨rfl, (l.getD k 0).toNat, by first | (congr 1; done) | (congr 1; omega), by omega⟩
  · have hlt' : ¬ ((k : Int) < l.length) := by omega
    have d0 : ¬ ((256 : Int) = 0) := by decide
    simp (config := {implicitDefEqProofs := false, maxDischargeDepth := 20}) (disch := first | omega | (simp only [lenE]; done) | (simp only [lenE]; omega) | rfl | (simp only [lenE, markR_len]; done) | (simp only [lenE, markR_len]; omega)) only [runE, mapE, listE, initT_5, initT_6, initT_7, initT_8, resV, oneV, binA, unA, reduceCtorEq, Nat.reduceEqDiff, Nat.reduceAdd, Nat.reduceLT, Nat.reduceLeDiff, Nat.reduceMul, Nat.reduceSub, ↓reduceIte, decide_true, decide_false, Bool.true_eq_false, Bool.false_eq_true, Bool.not_true, Bool.not_false, if_true, if_false, and_true, true_and, memE, celE, w64, Nat.zero_add, Nat.add_zero, Nat.mul_one, putL, and_self, ldn, c_laws_vAt, r_laws_vAt, hlt', d0]
    have hb : 0 ≤ ((k : Int) * 7 + l.length).tmod 256 ∧ ((k : Int) * 7 + l.length).tmod 256 < 256 := ⟨Int.tmod_nonneg _ (by omega), Int.tmod_lt_of_pos _ (by omega)⟩
    exact newQ_nil ⟨rfl, (((k : Int) * 7 + l.length).tmod 256).toNat, by first | (congr 1; done) | (congr 1; omega), by omega⟩
end Go.Proofs.Ytfdpieeopdhcmaa.Ab
