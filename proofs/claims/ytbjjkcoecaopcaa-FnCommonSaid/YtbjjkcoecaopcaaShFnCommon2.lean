/- What the law needs of the texts that it rests on. -/
import Derived.Test.YtbjjkcoecaopcaaShFnCommon1
section
namespace Go.Proofs.Ytbjjkcoecaopcaa.Ab
open Go Go.RowKit
set_option linter.unusedVariables false
set_option linter.unusedSimpArgs false
set_option maxRecDepth 10000
theorem bl_a0 (m : Mem) : bslA m 3 1 6 [.int .i64 0, .int .i64 0, .int .i64 0, .int .i64 0, .int .i64 0, .int .i64 0] [(0, 1, .int .i64 1), (1, 1, .int .i64 2), (2, 1, .int .i64 3), (3, 1, .int .i64 5), (4, 1, .int .i64 8), (5, 1, .int .i64 20)] = some (.slice (some ⟨m.length, 0, none⟩) 6 1, m ++ [rowB [1, 2, 3, 5, 8, 20]]) := rfl
theorem bl_a1 (m : Mem) : bslA m 3 1 6 [.int .i64 0, .int .i64 0, .int .i64 0, .int .i64 0, .int .i64 0, .int .i64 0] [(0, 1, .int .i64 1), (1, 1, .int .i64 5), (2, 1, .int .i64 10), (3, 1, .int .i64 20), (4, 1, .int .i64 50), (5, 1, .int .i64 99)] = some (.slice (some ⟨m.length, 0, none⟩) 6 1, m ++ [rowB [1, 5, 10, 20, 50, 99]]) := rfl
theorem bl_a2 (m : Mem) : bslA m 3 1 5 [.int .i64 0, .int .i64 0, .int .i64 0, .int .i64 0, .int .i64 0] [(0, 1, .int .i64 1), (1, 1, .int .i64 1), (2, 1, .int .i64 2), (3, 1, .int .i64 3), (4, 1, .int .i64 9)] = some (.slice (some ⟨m.length, 0, none⟩) 5 1, m ++ [rowB [1, 1, 2, 3, 9]]) := rfl
theorem bl_a3 (m : Mem) : bslA m 3 1 5 [.int .i64 0, .int .i64 0, .int .i64 0, .int .i64 0, .int .i64 0] [(0, 1, .int .i64 1), (1, 1, .int .i64 2), (2, 1, .int .i64 5), (3, 1, .int .i64 10), (4, 1, .int .i64 20)] = some (.slice (some ⟨m.length, 0, none⟩) 5 1, m ++ [rowB [1, 2, 5, 10, 20]]) := rfl
theorem bl_a4 (m : Mem) : bslA m 3 1 5 [.int .i64 0, .int .i64 0, .int .i64 0, .int .i64 0, .int .i64 0] [(0, 1, .int .i64 0), (1, 1, .int .i64 0), (2, 1, .int .i64 1), (3, 1, .int .i64 2), (4, 1, .int .i64 9)] = some (.slice (some ⟨m.length, 0, none⟩) 5 1, m ++ [rowB [0, 0, 1, 2, 9]]) := rfl
theorem bl_s0 (m : Mem) : bslA m 3 1 4 [.int .i64 0, .int .i64 0, .int .i64 0, .int .i64 0] [(0, 1, .int .i64 0), (1, 1, .int .i64 20), (2, 1, .int .i64 21), (3, 1, .int .i64 (-1))] = some (.slice (some ⟨m.length, 0, none⟩) 4 1, m ++ [rowB [0, 20, 21, -1]]) := rfl
theorem bl_s1 (m : Mem) : bslA m 3 1 3 [.int .i64 0, .int .i64 0, .int .i64 0] [(0, 1, .int .i64 0), (1, 1, .int .i64 99), (2, 1, .int .i64 100)] = some (.slice (some ⟨m.length, 0, none⟩) 3 1, m ++ [rowB [0, 99, 100]]) := rfl
theorem bl_s2 (m : Mem) : bslA m 3 1 3 [.int .i64 0, .int .i64 0, .int .i64 0] [(0, 1, .int .i64 0), (1, 1, .int .i64 9), (2, 1, .int .i64 10)] = some (.slice (some ⟨m.length, 0, none⟩) 3 1, m ++ [rowB [0, 9, 10]]) := rfl
theorem bl_s4 (m : Mem) : bslA m 3 1 3 [.int .i64 0, .int .i64 0, .int .i64 0] [(0, 1, .int .i64 (-1)), (1, 1, .int .i64 9), (2, 1, .int .i64 10)] = some (.slice (some ⟨m.length, 0, none⟩) 3 1, m ++ [rowB [-1, 9, 10]]) := rfl
theorem bl_f0 (m : Mem) : bslA m 3 1 8 [.int .i64 0, .int .i64 0, .int .i64 0, .int .i64 0, .int .i64 0, .int .i64 0, .int .i64 0, .int .i64 0] [(0, 1, .int .i64 2), (1, 1, .int .i64 3), (2, 1, .int .i64 1), (3, 1, .int .i64 4), (4, 1, .int .i64 2), (5, 1, .int .i64 3), (6, 1, .int .i64 0), (7, 1, .int .i64 5)] = some (.slice (some ⟨m.length, 0, none⟩) 8 1, m ++ [rowB [2, 3, 1, 4, 2, 3, 0, 5]]) := rfl
theorem bl_g0 (m : Mem) : bslA m 3 1 9 [.int .i64 0, .int .i64 0, .int .i64 0, .int .i64 0, .int .i64 0, .int .i64 0, .int .i64 0, .int .i64 0, .int .i64 0] [(0, 1, .int .i64 1), (1, 1, .int .i64 2), (2, 1, .int .i64 5), (3, 1, .int .i64 10), (4, 1, .int .i64 20), (5, 1, .int .i64 50), (6, 1, .int .i64 400), (7, 1, .int .i64 401), (8, 1, .int .i64 0)] = some (.slice (some ⟨m.length, 0, none⟩) 9 1, m ++ [rowB [1, 2, 5, 10, 20, 50, 400, 401, 0]]) := rfl
theorem bl_s3 (m : Mem) (y : Int) : bslA m 3 1 4 [.int .i64 0, .int .i64 0, .int .i64 0, .int .i64 0] [(0, 1, .int .i64 y), (1, 1, .int .i64 40), (2, 1, .int .i64 41), (3, 1, .int .i64 4611686018427387904)] = some (.slice (some ⟨m.length, 0, none⟩) 4 1, m ++ [rowB [y, 40, 41, 4611686018427387904]]) := rfl
theorem bld_it (a b c d f : Value) (x0 x1 x2 x3 x4 : Int) : bldA [a, b, c, d, f] [(0, 1, .int .i64 x0), (1, 1, .int .i64 x1), (2, 1, .int .i64 x2), (3, 1, .int .i64 x3), (4, 1, .int .i64 x4)] = some (.agg #[.int .i64 x0, .int .i64 x1, .int .i64 x2, .int .i64 x3, .int .i64 x4]) := rfl
theorem bsl_it {m : Mem} {t : TypeId} {a b c d f : Value} (x0 x1 x2 x3 x4 : Int) : bslA m t 5 1 [a, b, c, d, f] [(0, 5, .agg #[.int .i64 x0, .int .i64 x1, .int .i64 x2, .int .i64 x3, .int .i64 x4])] = some (.slice (some ⟨m.length, 0, none⟩) 1 5, m ++ [⟨.own, t, [.int .i64 x0, .int .i64 x1, .int .i64 x2, .int .i64 x3, .int .i64 x4]⟩]) := rfl
structure XB (M0 M : Mem) (cb id a bx : Nat) (l : List Int) (e : TypeId) (cs : List Value) : Prop where
  hid : id < M0.length
  hcb : cb < M0.length
  cw : Cw id M0 M
  cur : CurA M cb l id a
  box : OwnB M bx e cs
  ge : M0.length ≤ bx
section
variable {M0 M M2 : Mem} {cb id a a2 bx : Nat} {l : List Int} {e e2 : TypeId} {cs cs2 : List Value}
theorem XB.draw (h : XB M0 M cb id a bx l e cs) (w : Cw id M M2) (k : CurA M2 cb l id a2) : XB M0 M2 cb id a2 bx l e cs :=
  ⟨h.hid, h.hcb, Cw.trans h.hid h.cw w, k, h.box.at_ (w.old bx (by have := h.hid; have := h.ge; omega) h.box.lt), h.ge⟩
theorem XB.ext (h : XB M0 M cb id a bx l e cs) {new : Mem} (hn : NoRo new) : XB M0 (M ++ new) cb id a bx l e cs :=
  ⟨h.hid, h.hcb, h.cw.ext hn, h.cur.ext new, h.box.ext new, h.ge⟩
theorem XB.start (h : CurA M cb l id a) (e : TypeId) (cs : List Value) : XB M (M ++ [⟨.own, e, cs⟩]) cb id a M.length l e cs :=
  ⟨h.lt, h.cblt, (Cw.refl id M).ext (noRo_own noRo_nil), h.ext _, OwnB.here rfl, Nat.le_refl _⟩
theorem XB.new (h : XB M0 M cb id a bx l e cs) (e2 : TypeId) (cs2 : List Value) : XB M0 (M ++ [⟨.own, e2, cs2⟩]) cb id a M.length l e2 cs2 :=
  ⟨h.hid, h.hcb, h.cw.ext (noRo_own noRo_nil), h.cur.ext _, OwnB.here rfl, h.cw.len⟩
theorem XB.put (h : XB M0 M cb id a bx l e cs) (e2 : TypeId) (cs2 : List Value) : XB M0 (M.set bx ⟨.own, e2, cs2⟩) cb id a bx l e2 cs2 := by
  have hid := h.hid
  have hcb := h.hcb
  have hge := h.ge
  exact ⟨hid, hcb, h.cw.put hge (by simp), h.cur.put (by omega) (by omega) _, h.box.set_self _ _, hge⟩
theorem XB.other {b2 : Nat} (h : XB M0 M cb id a bx l e cs) (h2 : XB M0 M cb id a b2 l e2 cs2) (hne : bx ≠ b2) (b : Blk) (hb : b.kd ≠ .ro) : XB M0 (M.set bx b) cb id a b2 l e2 cs2 := by
  have hid := h.hid
  have hcb := h.hcb
  have hge := h.ge
  exact ⟨hid, hcb, h.cw.put hge hb, h.cur.put (by omega) (by omega) _, h2.box.set_ne hne b, h2.ge⟩
end
set_option maxHeartbeats 4000000 in
theorem item_ac (M : Mem) (cb id a : Nat) (l : List Int) (h : CurA M cb l id a) (ha : a ≤ 999999000) :
    AC Try.prog 24 [.pointer (some ⟨id, 0, none⟩)] M fun v M' => ∃ (x : It) (a' : Nat), v = itV x ∧ a' ≤ a + 14 ∧ Cw id M M' ∧ CurA M' cb l id a' := by
  refine ac_of_run mixed ok_spec_l1Cur__item (by simp) (go_start _ _ _ ?_)
  simp (config := {implicitDefEqProofs := false, maxDischargeDepth := 20}) (disch := first | omega | (simp only [lenE]; done) | (simp only [lenE]; omega) | rfl | (simp only [lenE, markR_len]; done) | (simp only [lenE, markR_len]; omega)) only [runE, mapE, listE, initT_5, initT_6, initT_7, initT_8, resV, oneV, binA, unA, reduceCtorEq, Nat.reduceEqDiff, Nat.reduceAdd, Nat.reduceLT, Nat.reduceLeDiff, Nat.reduceMul, Nat.reduceSub, ↓reduceIte, decide_true, decide_false, Bool.true_eq_false, Bool.false_eq_true, Bool.not_true, Bool.not_false, if_true, if_false, and_true, true_and, memE, celE, w64, Nat.zero_add, Nat.add_zero, Nat.mul_one, putL, and_self, ldn, c_spec_l1Cur__item, r_spec_l1Cur__item, bl_a0]
  obtain ⟨E, hE⟩ : ∃ E, E = M ++ [⟨.own, 25, [.int .i64 0, .int .i64 0, .int .i64 0, .int .i64 0, .int .i64 0]⟩] := ⟨_, rfl⟩
  have d : XB M E cb id a M.length l 25 [.int .i64 0, .int .i64 0, .int .i64 0, .int .i64 0, .int .i64 0] := by rw [hE]; exact XB.start h _ _
  have LE : M.length + 1 = E.length := by rw [hE]; simp
  rw [← hE, LE]
  clear hE
  refine callH_ac (among_new E cb id a l [1, 2, 3, 5, 8, 20] d.cur (by omega) rfl rfl (by simp) (by simp)) ?_
  rintro v M1 ⟨y0, -, rfl, w, a1, h1, k⟩
  have d := d.draw w k
  clear w k
  simp (config := {implicitDefEqProofs := false, maxDischargeDepth := 20}) (disch := first | omega | (simp only [lenE]; done) | (simp only [lenE]; omega) | rfl | (simp only [lenE, markR_len]; done) | (simp only [lenE, markR_len]; omega)) only [runE, mapE, listE, initT_5, initT_6, initT_7, initT_8, resV, oneV, binA, unA, reduceCtorEq, Nat.reduceEqDiff, Nat.reduceAdd, Nat.reduceLT, Nat.reduceLeDiff, Nat.reduceMul, Nat.reduceSub, ↓reduceIte, decide_true, decide_false, Bool.true_eq_false, Bool.false_eq_true, Bool.not_true, Bool.not_false, if_true, if_false, and_true, true_and, memE, celE, w64, Nat.zero_add, Nat.add_zero, Nat.mul_one, putL, and_self, ldn, bl_a1]
  refine callH_ac (among_new M1 cb id a1 l [1, 5, 10, 20, 50, 99] d.cur (by omega) rfl rfl (by simp) (by simp)) ?_
  rintro v M2 ⟨y1, -, rfl, w, a2, h2, k⟩
  have d := d.draw w k
  clear w k
  simp (config := {implicitDefEqProofs := false, maxDischargeDepth := 20}) (disch := first | omega | (simp only [lenE]; done) | (simp only [lenE]; omega) | rfl | (simp only [lenE, markR_len]; done) | (simp only [lenE, markR_len]; omega)) only [runE, mapE, listE, initT_5, initT_6, initT_7, initT_8, resV, oneV, binA, unA, reduceCtorEq, Nat.reduceEqDiff, Nat.reduceAdd, Nat.reduceLT, Nat.reduceLeDiff, Nat.reduceMul, Nat.reduceSub, ↓reduceIte, decide_true, decide_false, Bool.true_eq_false, Bool.false_eq_true, Bool.not_true, Bool.not_false, if_true, if_false, and_true, true_and, memE, celE, w64, Nat.zero_add, Nat.add_zero, Nat.mul_one, putL, and_self, ldn, bl_a2]
  refine callH_ac (among_new M2 cb id a2 l [1, 1, 2, 3, 9] d.cur (by omega) rfl rfl (by simp) (by simp)) ?_
  rintro v M3 ⟨y2, -, rfl, w, a3, h3, k⟩
  have d := d.draw w k
  clear w k
  simp (config := {implicitDefEqProofs := false, maxDischargeDepth := 20}) (disch := first | omega | (simp only [lenE]; done) | (simp only [lenE]; omega) | rfl | (simp only [lenE, markR_len]; done) | (simp only [lenE, markR_len]; omega)) only [runE, mapE, listE, initT_5, initT_6, initT_7, initT_8, resV, oneV, binA, unA, reduceCtorEq, Nat.reduceEqDiff, Nat.reduceAdd, Nat.reduceLT, Nat.reduceLeDiff, Nat.reduceMul, Nat.reduceSub, ↓reduceIte, decide_true, decide_false, Bool.true_eq_false, Bool.false_eq_true, Bool.not_true, Bool.not_false, if_true, if_false, and_true, true_and, memE, celE, w64, Nat.zero_add, Nat.add_zero, Nat.mul_one, putL, and_self, ldn, bl_a3]
  refine callH_ac (among_new M3 cb id a3 l [1, 2, 5, 10, 20] d.cur (by omega) rfl rfl (by simp) (by simp)) ?_
  rintro v M4 ⟨y3, -, rfl, w, a4, h4, k⟩
  have d := d.draw w k
  clear w k
  simp (config := {implicitDefEqProofs := false, maxDischargeDepth := 20}) (disch := first | omega | (simp only [lenE]; done) | (simp only [lenE]; omega) | rfl | (simp only [lenE, markR_len]; done) | (simp only [lenE, markR_len]; omega)) only [runE, mapE, listE, initT_5, initT_6, initT_7, initT_8, resV, oneV, binA, unA, reduceCtorEq, Nat.reduceEqDiff, Nat.reduceAdd, Nat.reduceLT, Nat.reduceLeDiff, Nat.reduceMul, Nat.reduceSub, ↓reduceIte, decide_true, decide_false, Bool.true_eq_false, Bool.false_eq_true, Bool.not_true, Bool.not_false, if_true, if_false, and_true, true_and, memE, celE, w64, Nat.zero_add, Nat.add_zero, Nat.mul_one, putL, and_self, ldn]
  refine callH_rc (l1Least_rcK _ _ _) ?_
  rintro r new ⟨rfl, rfl⟩
  rw [List.append_nil]
  generalize min (IntKind.i64.wrap (y0 + y3)) 40 = z3
  simp (config := {implicitDefEqProofs := false, maxDischargeDepth := 20}) (disch := first | omega | (simp only [lenE]; done) | (simp only [lenE]; omega) | rfl | (simp only [lenE, markR_len]; done) | (simp only [lenE, markR_len]; omega)) only [runE, mapE, listE, initT_5, initT_6, initT_7, initT_8, resV, oneV, binA, unA, reduceCtorEq, Nat.reduceEqDiff, Nat.reduceAdd, Nat.reduceLT, Nat.reduceLeDiff, Nat.reduceMul, Nat.reduceSub, ↓reduceIte, decide_true, decide_false, Bool.true_eq_false, Bool.false_eq_true, Bool.not_true, Bool.not_false, if_true, if_false, and_true, true_and, memE, celE, w64, Nat.zero_add, Nat.add_zero, Nat.mul_one, putL, and_self, ldn, bl_a4]
  refine callH_ac (among_new M4 cb id a4 l [0, 0, 1, 2, 9] d.cur (by omega) rfl rfl (by simp) (by simp)) ?_
  rintro v M5 ⟨y4, -, rfl, w, a5, h5, k⟩
  have d := d.draw w k
  clear w k
  simp (config := {implicitDefEqProofs := false, maxDischargeDepth := 20}) (disch := first | omega | (simp only [lenE]; done) | (simp only [lenE]; omega) | rfl | (simp only [lenE, markR_len]; done) | (simp only [lenE, markR_len]; omega)) only [runE, mapE, listE, initT_5, initT_6, initT_7, initT_8, resV, oneV, binA, unA, reduceCtorEq, Nat.reduceEqDiff, Nat.reduceAdd, Nat.reduceLT, Nat.reduceLeDiff, Nat.reduceMul, Nat.reduceSub, ↓reduceIte, decide_true, decide_false, Bool.true_eq_false, Bool.false_eq_true, Bool.not_true, Bool.not_false, if_true, if_false, and_true, true_and, memE, celE, w64, Nat.zero_add, Nat.add_zero, Nat.mul_one, putL, and_self, ldn, bld_it, stP_agg5]
  have dX := d.new 25 [.int .i64 y0, .int .i64 y1, .int .i64 y2, .int .i64 z3, .int .i64 y4]
  have dR := d.ext (new := [⟨.own, 25, [.int .i64 y0, .int .i64 y1, .int .i64 y2, .int .i64 z3, .int .i64 y4]⟩]) (noRo_own noRo_nil)
  have hne : M5.length ≠ M.length := by have := d.box.lt; omega
  obtain ⟨N, hN⟩ : ∃ N, N = M5 ++ [⟨.own, 25, [.int .i64 y0, .int .i64 y1, .int .i64 y2, .int .i64 z3, .int .i64 y4]⟩] := ⟨_, rfl⟩
  rw [← hN] at dX dR ⊢
  clear hN d
  generalize M5.length = bx at *
  refine callH_ac (pick_ac N cb id a5 l 60 dX.cur (by omega) (by omega) (by omega)) ?_
  rintro v N2 ⟨p, rfl, hp0, hp1, w, a6, h6, k⟩
  have dX := dX.draw w k
  have dR := dR.draw w k
  clear w k
  have fin : ∀ (M' : Mem) (a' : Nat) (x0 x1 x2 x3 x4 : Int), a' ≤ a + 14 → XB M M' cb id a' bx l 25 [.int .i64 x0, .int .i64 x1, .int .i64 x2, .int .i64 x3, .int .i64 x4] → XB M M' cb id a' M.length l 25 [.int .i64 0, .int .i64 0, .int .i64 0, .int .i64 0, .int .i64 0] →
      (∀ k, rdc M' bx k = [Value.int .i64 x0, .int .i64 x1, .int .i64 x2, .int .i64 x3, .int .i64 x4][k]?) ∧
      stA M' M.length 0 [.int .i64 x0, .int .i64 x1, .int .i64 x2, .int .i64 x3, .int .i64 x4] = some (M'.set M.length ⟨.own, 25, [.int .i64 x0, .int .i64 x1, .int .i64 x2, .int .i64 x3, .int .i64 x4]⟩) ∧
      (∀ k, rdc (M'.set M.length ⟨.own, 25, [.int .i64 x0, .int .i64 x1, .int .i64 x2, .int .i64 x3, .int .i64 x4]⟩) M.length k = [Value.int .i64 x0, .int .i64 x1, .int .i64 x2, .int .i64 x3, .int .i64 x4][k]?) ∧
      Cw id M (M'.set M.length ⟨.own, 25, [.int .i64 x0, .int .i64 x1, .int .i64 x2, .int .i64 x3, .int .i64 x4]⟩) ∧ CurA (M'.set M.length ⟨.own, 25, [.int .i64 x0, .int .i64 x1, .int .i64 x2, .int .i64 x3, .int .i64 x4]⟩) cb l id a' := by
    intro M' a' x0 x1 x2 x3 x4 _ dX dR
    have q := dR.put 25 [.int .i64 x0, .int .i64 x1, .int .i64 x2, .int .i64 x3, .int .i64 x4]
    exact ⟨fun k => dX.box.rd k, dR.box.st (off := 0) (vs := [.int .i64 x0, .int .i64 x1, .int .i64 x2, .int .i64 x3, .int .i64 x4]) (by simp) rfl, fun k => q.box.rd k, q.cw, q.cur⟩
  by_cases c0 : p = 0
  · have q0 : (p == 0) = true := by simp [c0]
    simp (config := {implicitDefEqProofs := false, maxDischargeDepth := 20}) (disch := first | omega | (simp only [lenE]; done) | (simp only [lenE]; omega) | rfl | (simp only [lenE, markR_len]; done) | (simp only [lenE, markR_len]; omega)) only [runE, mapE, listE, initT_5, initT_6, initT_7, initT_8, resV, oneV, binA, unA, reduceCtorEq, Nat.reduceEqDiff, Nat.reduceAdd, Nat.reduceLT, Nat.reduceLeDiff, Nat.reduceMul, Nat.reduceSub, ↓reduceIte, decide_true, decide_false, Bool.true_eq_false, Bool.false_eq_true, Bool.not_true, Bool.not_false, if_true, if_false, and_true, true_and, memE, celE, w64, Nat.zero_add, Nat.add_zero, Nat.mul_one, putL, and_self, ldn, q0, bl_s0]
    refine callH_ac (among_new N2 cb id a6 l [0, 20, 21, -1] dX.cur (by omega) rfl rfl (by simp) (by simp)) ?_
    rintro v N3 ⟨u, -, rfl, w, a7, h7, k⟩
    have dX := dX.draw w k
    have dR := dR.draw w k
    have s1 : stA N3 bx 0 [.int .i64 u] = some (N3.set bx ⟨.own, 25, [.int .i64 u, .int .i64 y1, .int .i64 y2, .int .i64 z3, .int .i64 y4]⟩) := dX.box.st (off := 0) (vs := [.int .i64 u]) (by simp) rfl
    have dR := dX.other dR hne ⟨.own, 25, [.int .i64 u, .int .i64 y1, .int .i64 y2, .int .i64 z3, .int .i64 y4]⟩ (by simp)
    have dX := dX.put 25 [.int .i64 u, .int .i64 y1, .int .i64 y2, .int .i64 z3, .int .i64 y4]
    simp (config := {implicitDefEqProofs := false, maxDischargeDepth := 20}) (disch := first | omega | (simp only [lenE]; done) | (simp only [lenE]; omega) | rfl | (simp only [lenE, markR_len]; done) | (simp only [lenE, markR_len]; omega)) only [runE, mapE, listE, initT_5, initT_6, initT_7, initT_8, resV, oneV, binA, unA, reduceCtorEq, Nat.reduceEqDiff, Nat.reduceAdd, Nat.reduceLT, Nat.reduceLeDiff, Nat.reduceMul, Nat.reduceSub, ↓reduceIte, decide_true, decide_false, Bool.true_eq_false, Bool.false_eq_true, Bool.not_true, Bool.not_false, if_true, if_false, and_true, true_and, memE, celE, w64, Nat.zero_add, Nat.add_zero, Nat.mul_one, putL, and_self, ldn, s1]
    obtain ⟨N4, hN4⟩ : ∃ N4, N4 = N3.set bx ⟨.own, 25, [.int .i64 u, .int .i64 y1, .int .i64 y2, .int .i64 z3, .int .i64 y4]⟩ := ⟨_, rfl⟩
    rw [← hN4] at dX dR ⊢
    clear hN4
    obtain ⟨f1, f2, f3, f4, f5⟩ := fin N4 a7 u y1 y2 z3 y4 (by omega) dX dR
    simp (config := {implicitDefEqProofs := false, maxDischargeDepth := 20}) (disch := first | omega | (simp only [lenE]; done) | (simp only [lenE]; omega) | rfl | (simp only [lenE, markR_len]; done) | (simp only [lenE, markR_len]; omega)) only [runE, mapE, listE, initT_5, initT_6, initT_7, initT_8, resV, oneV, binA, unA, reduceCtorEq, Nat.reduceEqDiff, Nat.reduceAdd, Nat.reduceLT, Nat.reduceLeDiff, Nat.reduceMul, Nat.reduceSub, ↓reduceIte, decide_true, decide_false, Bool.true_eq_false, Bool.false_eq_true, Bool.not_true, Bool.not_false, if_true, if_false, and_true, true_and, memE, celE, w64, Nat.zero_add, Nat.add_zero, Nat.mul_one, putL, and_self, ldn, f1, stP_agg5, f2, f3]
    exact ⟨⟨u, y1, y2, z3, y4⟩, a7, rfl, by omega, f4, f5⟩
  · have q0 : (p == 0) = false := by simp [c0]
    by_cases c1 : p = 1
    · have q1 : (p == 1) = true := by simp [c1]
      simp (config := {implicitDefEqProofs := false, maxDischargeDepth := 20}) (disch := first | omega | (simp only [lenE]; done) | (simp only [lenE]; omega) | rfl | (simp only [lenE, markR_len]; done) | (simp only [lenE, markR_len]; omega)) only [runE, mapE, listE, initT_5, initT_6, initT_7, initT_8, resV, oneV, binA, unA, reduceCtorEq, Nat.reduceEqDiff, Nat.reduceAdd, Nat.reduceLT, Nat.reduceLeDiff, Nat.reduceMul, Nat.reduceSub, ↓reduceIte, decide_true, decide_false, Bool.true_eq_false, Bool.false_eq_true, Bool.not_true, Bool.not_false, if_true, if_false, and_true, true_and, memE, celE, w64, Nat.zero_add, Nat.add_zero, Nat.mul_one, putL, and_self, ldn, q0, q1, bl_s1]
      refine callH_ac (among_new N2 cb id a6 l [0, 99, 100] dX.cur (by omega) rfl rfl (by simp) (by simp)) ?_
      rintro v N3 ⟨u, -, rfl, w, a7, h7, k⟩
      have dX := dX.draw w k
      have dR := dR.draw w k
      have s1 : stA N3 bx 1 [.int .i64 u] = some (N3.set bx ⟨.own, 25, [.int .i64 y0, .int .i64 u, .int .i64 y2, .int .i64 z3, .int .i64 y4]⟩) := dX.box.st (off := 1) (vs := [.int .i64 u]) (by simp) rfl
      have dR := dX.other dR hne ⟨.own, 25, [.int .i64 y0, .int .i64 u, .int .i64 y2, .int .i64 z3, .int .i64 y4]⟩ (by simp)
      have dX := dX.put 25 [.int .i64 y0, .int .i64 u, .int .i64 y2, .int .i64 z3, .int .i64 y4]
      simp (config := {implicitDefEqProofs := false, maxDischargeDepth := 20}) (disch := first | omega | (simp only [lenE]; done) | (simp only [lenE]; omega) | rfl | (simp only [lenE, markR_len]; done) | (simp only [lenE, markR_len]; omega)) only [runE, mapE, listE, initT_5, initT_6, initT_7, initT_8, resV, oneV, binA, unA, reduceCtorEq, Nat.reduceEqDiff, Nat.reduceAdd, Nat.reduceLT, Nat.reduceLeDiff, Nat.reduceMul, Nat.reduceSub, ↓reduceIte, decide_true, decide_false, Bool.true_eq_false, Bool.false_eq_true, Bool.not_true, Bool.not_false, if_true, if_false, and_true, true_and, memE, celE, w64, Nat.zero_add, Nat.add_zero, Nat.mul_one, putL, and_self, ldn, s1]
      obtain ⟨N4, hN4⟩ : ∃ N4, N4 = N3.set bx ⟨.own, 25, [.int .i64 y0, .int .i64 u, .int .i64 y2, .int .i64 z3, .int .i64 y4]⟩ := ⟨_, rfl⟩
      rw [← hN4] at dX dR ⊢
      clear hN4
      obtain ⟨f1, f2, f3, f4, f5⟩ := fin N4 a7 y0 u y2 z3 y4 (by omega) dX dR
      simp (config := {implicitDefEqProofs := false, maxDischargeDepth := 20}) (disch := first | omega | (simp only [lenE]; done) | (simp only [lenE]; omega) | rfl | (simp only [lenE, markR_len]; done) | (simp only [lenE, markR_len]; omega)) only [runE, mapE, listE, initT_5, initT_6, initT_7, initT_8, resV, oneV, binA, unA, reduceCtorEq, Nat.reduceEqDiff, Nat.reduceAdd, Nat.reduceLT, Nat.reduceLeDiff, Nat.reduceMul, Nat.reduceSub, ↓reduceIte, decide_true, decide_false, Bool.true_eq_false, Bool.false_eq_true, Bool.not_true, Bool.not_false, if_true, if_false, and_true, true_and, memE, celE, w64, Nat.zero_add, Nat.add_zero, Nat.mul_one, putL, and_self, ldn, f1, stP_agg5, f2, f3]
      exact ⟨⟨y0, u, y2, z3, y4⟩, a7, rfl, by omega, f4, f5⟩
    · have q1 : (p == 1) = false := by simp [c1]
      by_cases c2 : p = 2
      · have q2 : (p == 2) = true := by simp [c2]
        simp (config := {implicitDefEqProofs := false, maxDischargeDepth := 20}) (disch := first | omega | (simp only [lenE]; done) | (simp only [lenE]; omega) | rfl | (simp only [lenE, markR_len]; done) | (simp only [lenE, markR_len]; omega)) only [runE, mapE, listE, initT_5, initT_6, initT_7, initT_8, resV, oneV, binA, unA, reduceCtorEq, Nat.reduceEqDiff, Nat.reduceAdd, Nat.reduceLT, Nat.reduceLeDiff, Nat.reduceMul, Nat.reduceSub, ↓reduceIte, decide_true, decide_false, Bool.true_eq_false, Bool.false_eq_true, Bool.not_true, Bool.not_false, if_true, if_false, and_true, true_and, memE, celE, w64, Nat.zero_add, Nat.add_zero, Nat.mul_one, putL, and_self, ldn, q0, q1, q2, bl_s2]
        refine callH_ac (among_new N2 cb id a6 l [0, 9, 10] dX.cur (by omega) rfl rfl (by simp) (by simp)) ?_
        rintro v N3 ⟨u, -, rfl, w, a7, h7, k⟩
        have dX := dX.draw w k
        have dR := dR.draw w k
        have s1 : stA N3 bx 2 [.int .i64 u] = some (N3.set bx ⟨.own, 25, [.int .i64 y0, .int .i64 y1, .int .i64 u, .int .i64 z3, .int .i64 y4]⟩) := dX.box.st (off := 2) (vs := [.int .i64 u]) (by simp) rfl
        have dR := dX.other dR hne ⟨.own, 25, [.int .i64 y0, .int .i64 y1, .int .i64 u, .int .i64 z3, .int .i64 y4]⟩ (by simp)
        have dX := dX.put 25 [.int .i64 y0, .int .i64 y1, .int .i64 u, .int .i64 z3, .int .i64 y4]
        simp (config := {implicitDefEqProofs := false, maxDischargeDepth := 20}) (disch := first | omega | (simp only [lenE]; done) | (simp only [lenE]; omega) | rfl | (simp only [lenE, markR_len]; done) | (simp only [lenE, markR_len]; omega)) only [runE, mapE, listE, initT_5, initT_6, initT_7, initT_8, resV, oneV, binA, unA, reduceCtorEq, Nat.reduceEqDiff, Nat.reduceAdd, Nat.reduceLT, Nat.reduceLeDiff, Nat.reduceMul, Nat.reduceSub, ↓reduceIte, decide_true, decide_false, Bool.true_eq_false, Bool.false_eq_true, Bool.not_true, Bool.not_false, if_true, if_false, and_true, true_and, memE, celE, w64, Nat.zero_add, Nat.add_zero, Nat.mul_one, putL, and_self, ldn, s1]
        obtain ⟨N4, hN4⟩ : ∃ N4, N4 = N3.set bx ⟨.own, 25, [.int .i64 y0, .int .i64 y1, .int .i64 u, .int .i64 z3, .int .i64 y4]⟩ := ⟨_, rfl⟩
        rw [← hN4] at dX dR ⊢
        clear hN4
        obtain ⟨f1, f2, f3, f4, f5⟩ := fin N4 a7 y0 y1 u z3 y4 (by omega) dX dR
        simp (config := {implicitDefEqProofs := false, maxDischargeDepth := 20}) (disch := first | omega | (simp only [lenE]; done) | (simp only [lenE]; omega) | rfl | (simp only [lenE, markR_len]; done) | (simp only [lenE, markR_len]; omega)) only [runE, mapE, listE, initT_5, initT_6, initT_7, initT_8, resV, oneV, binA, unA, reduceCtorEq, Nat.reduceEqDiff, Nat.reduceAdd, Nat.reduceLT, Nat.reduceLeDiff, Nat.reduceMul, Nat.reduceSub, ↓reduceIte, decide_true, decide_false, Bool.true_eq_false, Bool.false_eq_true, Bool.not_true, Bool.not_false, if_true, if_false, and_true, true_and, memE, celE, w64, Nat.zero_add, Nat.add_zero, Nat.mul_one, putL, and_self, ldn, f1, stP_agg5, f2, f3]
        exact ⟨⟨y0, y1, u, z3, y4⟩, a7, rfl, by omega, f4, f5⟩
      · have q2 : (p == 2) = false := by simp [c2]
        by_cases c3 : p = 3
        · have q3 : (p == 3) = true := by simp [c3]
          have rX := dX.box.rd 0
          simp (config := {implicitDefEqProofs := false, maxDischargeDepth := 20}) (disch := first | omega | (simp only [lenE]; done) | (simp only [lenE]; omega) | rfl | (simp only [lenE, markR_len]; done) | (simp only [lenE, markR_len]; omega)) only [runE, mapE, listE, initT_5, initT_6, initT_7, initT_8, resV, oneV, binA, unA, reduceCtorEq, Nat.reduceEqDiff, Nat.reduceAdd, Nat.reduceLT, Nat.reduceLeDiff, Nat.reduceMul, Nat.reduceSub, ↓reduceIte, decide_true, decide_false, Bool.true_eq_false, Bool.false_eq_true, Bool.not_true, Bool.not_false, if_true, if_false, and_true, true_and, memE, celE, w64, Nat.zero_add, Nat.add_zero, Nat.mul_one, putL, and_self, ldn, q0, q1, q2, q3, rX, bl_s3]
          refine callH_ac (among_new N2 cb id a6 l [y0, 40, 41, 4611686018427387904] dX.cur (by omega) rfl rfl (by simp) (by simp)) ?_
          rintro v N3 ⟨u, -, rfl, w, a7, h7, k⟩
          have dX := dX.draw w k
          have dR := dR.draw w k
          have s1 : stA N3 bx 3 [.int .i64 u] = some (N3.set bx ⟨.own, 25, [.int .i64 y0, .int .i64 y1, .int .i64 y2, .int .i64 u, .int .i64 y4]⟩) := dX.box.st (off := 3) (vs := [.int .i64 u]) (by simp) rfl
          have dR := dX.other dR hne ⟨.own, 25, [.int .i64 y0, .int .i64 y1, .int .i64 y2, .int .i64 u, .int .i64 y4]⟩ (by simp)
          have dX := dX.put 25 [.int .i64 y0, .int .i64 y1, .int .i64 y2, .int .i64 u, .int .i64 y4]
          simp (config := {implicitDefEqProofs := false, maxDischargeDepth := 20}) (disch := first | omega | (simp only [lenE]; done) | (simp only [lenE]; omega) | rfl | (simp only [lenE, markR_len]; done) | (simp only [lenE, markR_len]; omega)) only [runE, mapE, listE, initT_5, initT_6, initT_7, initT_8, resV, oneV, binA, unA, reduceCtorEq, Nat.reduceEqDiff, Nat.reduceAdd, Nat.reduceLT, Nat.reduceLeDiff, Nat.reduceMul, Nat.reduceSub, ↓reduceIte, decide_true, decide_false, Bool.true_eq_false, Bool.false_eq_true, Bool.not_true, Bool.not_false, if_true, if_false, and_true, true_and, memE, celE, w64, Nat.zero_add, Nat.add_zero, Nat.mul_one, putL, and_self, ldn, s1]
          obtain ⟨N4, hN4⟩ : ∃ N4, N4 = N3.set bx ⟨.own, 25, [.int .i64 y0, .int .i64 y1, .int .i64 y2, .int .i64 u, .int .i64 y4]⟩ := ⟨_, rfl⟩
          rw [← hN4] at dX dR ⊢
          clear hN4
          obtain ⟨f1, f2, f3, f4, f5⟩ := fin N4 a7 y0 y1 y2 u y4 (by omega) dX dR
          simp (config := {implicitDefEqProofs := false, maxDischargeDepth := 20}) (disch := first | omega | (simp only [lenE]; done) | (simp only [lenE]; omega) | rfl | (simp only [lenE, markR_len]; done) | (simp only [lenE, markR_len]; omega)) only [runE, mapE, listE, initT_5, initT_6, initT_7, initT_8, resV, oneV, binA, unA, reduceCtorEq, Nat.reduceEqDiff, Nat.reduceAdd, Nat.reduceLT, Nat.reduceLeDiff, Nat.reduceMul, Nat.reduceSub, ↓reduceIte, decide_true, decide_false, Bool.true_eq_false, Bool.false_eq_true, Bool.not_true, Bool.not_false, if_true, if_false, and_true, true_and, memE, celE, w64, Nat.zero_add, Nat.add_zero, Nat.mul_one, putL, and_self, ldn, f1, stP_agg5, f2, f3]
          exact ⟨⟨y0, y1, y2, u, y4⟩, a7, rfl, by omega, f4, f5⟩
        · have q3 : (p == 3) = false := by simp [c3]
          by_cases c4 : p = 4
          · have q4 : (p == 4) = true := by simp [c4]
            simp (config := {implicitDefEqProofs := false, maxDischargeDepth := 20}) (disch := first | omega | (simp only [lenE]; done) | (simp only [lenE]; omega) | rfl | (simp only [lenE, markR_len]; done) | (simp only [lenE, markR_len]; omega)) only [runE, mapE, listE, initT_5, initT_6, initT_7, initT_8, resV, oneV, binA, unA, reduceCtorEq, Nat.reduceEqDiff, Nat.reduceAdd, Nat.reduceLT, Nat.reduceLeDiff, Nat.reduceMul, Nat.reduceSub, ↓reduceIte, decide_true, decide_false, Bool.true_eq_false, Bool.false_eq_true, Bool.not_true, Bool.not_false, if_true, if_false, and_true, true_and, memE, celE, w64, Nat.zero_add, Nat.add_zero, Nat.mul_one, putL, and_self, ldn, q0, q1, q2, q3, q4, bl_s4]
            refine callH_ac (among_new N2 cb id a6 l [-1, 9, 10] dX.cur (by omega) rfl rfl (by simp) (by simp)) ?_
            rintro v N3 ⟨u, -, rfl, w, a7, h7, k⟩
            have dX := dX.draw w k
            have dR := dR.draw w k
            have s1 : stA N3 bx 4 [.int .i64 u] = some (N3.set bx ⟨.own, 25, [.int .i64 y0, .int .i64 y1, .int .i64 y2, .int .i64 z3, .int .i64 u]⟩) := dX.box.st (off := 4) (vs := [.int .i64 u]) (by simp) rfl
            have dR := dX.other dR hne ⟨.own, 25, [.int .i64 y0, .int .i64 y1, .int .i64 y2, .int .i64 z3, .int .i64 u]⟩ (by simp)
            have dX := dX.put 25 [.int .i64 y0, .int .i64 y1, .int .i64 y2, .int .i64 z3, .int .i64 u]
            simp (config := {implicitDefEqProofs := false, maxDischargeDepth := 20}) (disch := first | omega | (simp only [lenE]; done) | (simp only [lenE]; omega) | rfl | (simp only [lenE, markR_len]; done) | (simp only [lenE, markR_len]; omega)) only [runE, mapE, listE, initT_5, initT_6, initT_7, initT_8, resV, oneV, binA, unA, reduceCtorEq, Nat.reduceEqDiff, Nat.reduceAdd, Nat.reduceLT, Nat.reduceLeDiff, Nat.reduceMul, Nat.reduceSub, ↓reduceIte, decide_true, decide_false, Bool.true_eq_false, Bool.false_eq_true, Bool.not_true, Bool.not_false, if_true, if_false, and_true, true_and, memE, celE, w64, Nat.zero_add, Nat.add_zero, Nat.mul_one, putL, and_self, ldn, s1]
            obtain ⟨N4, hN4⟩ : ∃ N4, N4 = N3.set bx ⟨.own, 25, [.int .i64 y0, .int .i64 y1, .int .i64 y2, .int .i64 z3, .int .i64 u]⟩ := ⟨_, rfl⟩
            rw [← hN4] at dX dR ⊢
            clear hN4
            obtain ⟨f1, f2, f3, f4, f5⟩ := fin N4 a7 y0 y1 y2 z3 u (by omega) dX dR
            simp (config := {implicitDefEqProofs := false, maxDischargeDepth := 20}) (disch := first | omega | (simp only [lenE]; done) | (simp only [lenE]; omega) | rfl | (simp only [lenE, markR_len]; done) | (simp only [lenE, markR_len]; omega)) only [runE, mapE, listE, initT_5, initT_6, initT_7, initT_8, resV, oneV, binA, unA, reduceCtorEq, Nat.reduceEqDiff, Nat.reduceAdd, Nat.reduceLT, Nat.reduceLeDiff, Nat.reduceMul, Nat.reduceSub, ↓reduceIte, decide_true, decide_false, Bool.true_eq_false, Bool.false_eq_true, Bool.not_true, Bool.not_false, if_true, if_false, and_true, true_and, memE, celE, w64, Nat.zero_add, Nat.add_zero, Nat.mul_one, putL, and_self, ldn, f1, stP_agg5, f2, f3]
            exact ⟨⟨y0, y1, y2, z3, u⟩, a7, rfl, by omega, f4, f5⟩
          · have q4 : (p == 4) = false := by simp [c4]
            simp (config := {implicitDefEqProofs := false, maxDischargeDepth := 20}) (disch := first | omega | (simp only [lenE]; done) | (simp only [lenE]; omega) | rfl | (simp only [lenE, markR_len]; done) | (simp only [lenE, markR_len]; omega)) only [runE, mapE, listE, initT_5, initT_6, initT_7, initT_8, resV, oneV, binA, unA, reduceCtorEq, Nat.reduceEqDiff, Nat.reduceAdd, Nat.reduceLT, Nat.reduceLeDiff, Nat.reduceMul, Nat.reduceSub, ↓reduceIte, decide_true, decide_false, Bool.true_eq_false, Bool.false_eq_true, Bool.not_true, Bool.not_false, if_true, if_false, and_true, true_and, memE, celE, w64, Nat.zero_add, Nat.add_zero, Nat.mul_one, putL, and_self, ldn, q0, q1, q2, q3, q4]
            obtain ⟨f1, f2, f3, f4, f5⟩ := fin N2 a6 y0 y1 y2 z3 y4 (by omega) dX dR
            simp (config := {implicitDefEqProofs := false, maxDischargeDepth := 20}) (disch := first | omega | (simp only [lenE]; done) | (simp only [lenE]; omega) | rfl | (simp only [lenE, markR_len]; done) | (simp only [lenE, markR_len]; omega)) only [runE, mapE, listE, initT_5, initT_6, initT_7, initT_8, resV, oneV, binA, unA, reduceCtorEq, Nat.reduceEqDiff, Nat.reduceAdd, Nat.reduceLT, Nat.reduceLeDiff, Nat.reduceMul, Nat.reduceSub, ↓reduceIte, decide_true, decide_false, Bool.true_eq_false, Bool.false_eq_true, Bool.not_true, Bool.not_false, if_true, if_false, and_true, true_and, memE, celE, w64, Nat.zero_add, Nat.add_zero, Nat.mul_one, putL, and_self, ldn, f1, stP_agg5, f2, f3]
            exact ⟨⟨y0, y1, y2, z3, y4⟩, a6, rfl, by omega, f4, f5⟩
set_option maxHeartbeats 4000000 in
theorem family_ac (M : Mem) (cb id a : Nat) (l : List Int) (h : CurA M cb l id a) (ha : a ≤ 999998000) :
    AC Try.prog 35 [.pointer (some ⟨id, 0, none⟩)] M fun v M' => ∃ (L : List It) (rid a' : Nat), v = .slice (some ⟨rid, 0, none⟩) L.length 5 ∧ L.length ≤ 5 ∧ a' ≤ a + 200 ∧ XB M M' cb id a' rid l 25 (itemsC L) := by
  refine ac_of_run mixed ok_spec_l1Cur__family (by simp) (go_start _ _ _ ?_)
  simp (config := {implicitDefEqProofs := false, maxDischargeDepth := 20}) (disch := first | omega | (simp only [lenE]; done) | (simp only [lenE]; omega) | rfl | (simp only [lenE, markR_len]; done) | (simp only [lenE, markR_len]; omega)) only [runE, mapE, listE, initT_5, initT_6, initT_7, initT_8, resV, oneV, binA, unA, reduceCtorEq, Nat.reduceEqDiff, Nat.reduceAdd, Nat.reduceLT, Nat.reduceLeDiff, Nat.reduceMul, Nat.reduceSub, ↓reduceIte, decide_true, decide_false, Bool.true_eq_false, Bool.false_eq_true, Bool.not_true, Bool.not_false, if_true, if_false, and_true, true_and, memE, celE, w64, Nat.zero_add, Nat.add_zero, Nat.mul_one, putL, and_self, ldn, c_spec_l1Cur__family, r_spec_l1Cur__family, bsl_no, bl_f0]
  obtain ⟨E, hE⟩ : ∃ E, E = M ++ [⟨.own, 25, []⟩] := ⟨_, rfl⟩
  have d : XB M E cb id a M.length l 25 [] := by rw [hE]; exact XB.start h _ _
  have LE : M.length + 1 = E.length := by rw [hE]; simp
  rw [← hE, LE]
  clear hE
  refine callH_ac (among_new E cb id a l [2, 3, 1, 4, 2, 3, 0, 5] d.cur (by omega) rfl rfl (by simp) (by simp)) ?_
  rintro v M1 ⟨z0, hz, rfl, w, a1, h1, k⟩
  have d := d.draw w k
  clear w k
  have hz0 : 0 ≤ z0 ∧ z0 ≤ 5 := by
    simp only [List.mem_cons, List.not_mem_nil, or_false] at hz
    omega
  simp (config := {implicitDefEqProofs := false, maxDischargeDepth := 20}) (disch := first | omega | (simp only [lenE]; done) | (simp only [lenE]; omega) | rfl | (simp only [lenE, markR_len]; done) | (simp only [lenE, markR_len]; omega)) only [runE, mapE, listE, initT_5, initT_6, initT_7, initT_8, resV, oneV, binA, unA, reduceCtorEq, Nat.reduceEqDiff, Nat.reduceAdd, Nat.reduceLT, Nat.reduceLeDiff, Nat.reduceMul, Nat.reduceSub, ↓reduceIte, decide_true, decide_false, Bool.true_eq_false, Bool.false_eq_true, Bool.not_true, Bool.not_false, if_true, if_false, and_true, true_and, memE, celE, w64, Nat.zero_add, Nat.add_zero, Nat.mul_one, putL, and_self, ldn]
  refine loop_inv mixed (fun s => ∃ (M' : Mem) (rid a2 : Nat) (L : List It) (z : Int), s.m = M' ∧ XB M M' cb id a2 rid l 25 (itemsC L) ∧ 0 ≤ z ∧ (L.length : Int) + z ≤ 5 ∧ a2 ≤ a + 2 + 30 * L.length ∧ s.t 0 = .pointer (some ⟨id, 0, none⟩) ∧ s.t 3 = .slice (some ⟨rid, 0, none⟩) L.length 5 ∧ s.t 4 = .int .i64 z) (fun s => (intOf (s.t 4)).toNat)
    ⟨M1, M.length, a1, [], z0, rfl, d, by omega, by simp; omega, by simp; omega, rfl, rfl, rfl⟩ ?_
  clear d
  rintro s ⟨M', rid, a2, L, z, tm, d, hz1, hLz, ha2, t0, t3, t4⟩
  by_cases hzp : 0 < z
  · simp (config := {implicitDefEqProofs := false, maxDischargeDepth := 20}) (disch := first | omega | (simp only [lenE]; done) | (simp only [lenE]; omega) | rfl | (simp only [lenE, markR_len]; done) | (simp only [lenE, markR_len]; omega)) only [runE, mapE, listE, initT_5, initT_6, initT_7, initT_8, resV, oneV, binA, unA, reduceCtorEq, Nat.reduceEqDiff, Nat.reduceAdd, Nat.reduceLT, Nat.reduceLeDiff, Nat.reduceMul, Nat.reduceSub, ↓reduceIte, decide_true, decide_false, Bool.true_eq_false, Bool.false_eq_true, Bool.not_true, Bool.not_false, if_true, if_false, and_true, true_and, memE, celE, w64, Nat.zero_add, Nat.add_zero, Nat.mul_one, putL, and_self, ldn, tm, t0, t3, t4, gt_iff_lt, hzp]
    refine callH_ac (item_ac M' cb id a2 l d.cur (by omega)) ?_
    rintro v N1 ⟨x, a3, rfl, h3, w, k⟩
    have d := d.draw w k
    clear w k
    obtain ⟨x0, x1, x2, x3, x4⟩ := x
    simp only [itV]
    simp (config := {implicitDefEqProofs := false, maxDischargeDepth := 20}) (disch := first | omega | (simp only [lenE]; done) | (simp only [lenE]; omega) | rfl | (simp only [lenE, markR_len]; done) | (simp only [lenE, markR_len]; omega)) only [runE, mapE, listE, initT_5, initT_6, initT_7, initT_8, resV, oneV, binA, unA, reduceCtorEq, Nat.reduceEqDiff, Nat.reduceAdd, Nat.reduceLT, Nat.reduceLeDiff, Nat.reduceMul, Nat.reduceSub, ↓reduceIte, decide_true, decide_false, Bool.true_eq_false, Bool.false_eq_true, Bool.not_true, Bool.not_false, if_true, if_false, and_true, true_and, memE, celE, w64, Nat.zero_add, Nat.add_zero, Nat.mul_one, putL, and_self, ldn, tm, t0, t3, t4, stP_agg5]
    have dX := d.new 25 [.int .i64 x0, .int .i64 x1, .int .i64 x2, .int .i64 x3, .int .i64 x4]
    have dR := d.ext (new := [⟨.own, 25, [.int .i64 x0, .int .i64 x1, .int .i64 x2, .int .i64 x3, .int .i64 x4]⟩]) (noRo_own noRo_nil)
    have hne : N1.length ≠ rid := by have := d.box.lt; omega
    obtain ⟨N, hN⟩ : ∃ N, N = N1 ++ [⟨.own, 25, [.int .i64 x0, .int .i64 x1, .int .i64 x2, .int .i64 x3, .int .i64 x4]⟩] := ⟨_, rfl⟩
    rw [← hN] at dX dR ⊢
    clear hN d
    generalize N1.length = bx at *
    have put : ∀ (M' : Mem) (a' : Nat) (x0 x1 x2 x3 x4 : Int), XB M M' cb id a' bx l 25 [.int .i64 x0, .int .i64 x1, .int .i64 x2, .int .i64 x3, .int .i64 x4] → XB M M' cb id a' rid l 25 (itemsC L) → ∃ M2,
        appP (M' ++ [⟨.own, 25, [.int .i64 x0, .int .i64 x1, .int .i64 x2, .int .i64 x3, .int .i64 x4]⟩]) 25 5 40 (.slice (some ⟨rid, 0, none⟩) L.length 5) (.slice (some ⟨M'.length, 0, none⟩) 1 5) = some (.slice (some ⟨M'.length + 1, 0, none⟩) (L.length + 1) 5, M2) ∧
        XB M M2 cb id a' (M'.length + 1) l 25 (itemsC (L ++ [⟨x0, x1, x2, x3, x4⟩])) := by
      intro M' a' x0 x1 x2 x3 x4 dX dR
      refine ⟨_, app_back (byt := 40) (sz := 5) (n := L.length) dR.box rfl (itemsC_len L) rfl rfl (by omega) (by omega), ?_⟩
      have e0 : itemsC L ++ [.int .i64 x0, .int .i64 x1, .int .i64 x2, .int .i64 x3, .int .i64 x4] = itemsC (L ++ [⟨x0, x1, x2, x3, x4⟩]) := by
        simp [itemsC, itC]
      have q := ((dR.put 25 []).ext (new := [⟨.own, 25, [.int .i64 x0, .int .i64 x1, .int .i64 x2, .int .i64 x3, .int .i64 x4]⟩]) (noRo_own noRo_nil))
      have hid := dR.hid
      have hcb := dR.hcb
      have hge := dR.ge
      have hlen := dR.cw.len
      rw [e0]
      exact ⟨hid, hcb, ((dR.cw.put hge (by simp [deadB])).ext (noRo_own noRo_nil)).ext (noRo_own noRo_nil), ((dR.cur.put (by omega) (by omega) deadB).ext _).ext _, OwnB.here (by simp), by omega⟩
    refine callH_ac (one_ac N cb id a3 l 2 dX.cur (by omega) (by omega) (by omega)) ?_
    rintro v N2 ⟨b, rfl, w, a4, h4, k⟩
    have dX := dX.draw w k
    have dR := dR.draw w k
    clear w k
    cases b with
    | false =>
      obtain ⟨N3, ap, d⟩ := put N2 a4 x0 x1 x2 x3 x4 dX dR
      simp (config := {implicitDefEqProofs := false, maxDischargeDepth := 20}) (disch := first | omega | (simp only [lenE]; done) | (simp only [lenE]; omega) | rfl | (simp only [lenE, markR_len]; done) | (simp only [lenE, markR_len]; omega)) only [runE, mapE, listE, initT_5, initT_6, initT_7, initT_8, resV, oneV, binA, unA, reduceCtorEq, Nat.reduceEqDiff, Nat.reduceAdd, Nat.reduceLT, Nat.reduceLeDiff, Nat.reduceMul, Nat.reduceSub, ↓reduceIte, decide_true, decide_false, Bool.true_eq_false, Bool.false_eq_true, Bool.not_true, Bool.not_false, if_true, if_false, and_true, true_and, memE, celE, w64, Nat.zero_add, Nat.add_zero, Nat.mul_one, putL, and_self, ldn, tm, t0, t3, t4, dX.box.ld5, bsl_it, ap]
      exact ⟨⟨_, _, a4, _, z - 1, rfl, d, by omega, by simp; omega, by simp; omega, by simp⟩, by simp [intOf]; omega⟩
    | true =>
      simp (config := {implicitDefEqProofs := false, maxDischargeDepth := 20}) (disch := first | omega | (simp only [lenE]; done) | (simp only [lenE]; omega) | rfl | (simp only [lenE, markR_len]; done) | (simp only [lenE, markR_len]; omega)) only [runE, mapE, listE, initT_5, initT_6, initT_7, initT_8, resV, oneV, binA, unA, reduceCtorEq, Nat.reduceEqDiff, Nat.reduceAdd, Nat.reduceLT, Nat.reduceLeDiff, Nat.reduceMul, Nat.reduceSub, ↓reduceIte, decide_true, decide_false, Bool.true_eq_false, Bool.false_eq_true, Bool.not_true, Bool.not_false, if_true, if_false, and_true, true_and, memE, celE, w64, Nat.zero_add, Nat.add_zero, Nat.mul_one, putL, and_self, ldn, tm, t0, t3, t4, dX.box.ld5]
      refine callH_rc (l8Item_rc N2 ⟨x0, x1, x2, x3, x4⟩) ?_
      rintro r new ⟨rfl, nr⟩
      have dX := dX.ext nr
      have dR := dR.ext nr
      generalize N2 ++ new = N3 at *
      cases hg : It.good ⟨x0, x1, x2, x3, x4⟩ with
      | false =>
        obtain ⟨N4, ap, d⟩ := put N3 a4 x0 x1 x2 x3 x4 dX dR
        simp (config := {implicitDefEqProofs := false, maxDischargeDepth := 20}) (disch := first | omega | (simp only [lenE]; done) | (simp only [lenE]; omega) | rfl | (simp only [lenE, markR_len]; done) | (simp only [lenE, markR_len]; omega)) only [runE, mapE, listE, initT_5, initT_6, initT_7, initT_8, resV, oneV, binA, unA, reduceCtorEq, Nat.reduceEqDiff, Nat.reduceAdd, Nat.reduceLT, Nat.reduceLeDiff, Nat.reduceMul, Nat.reduceSub, ↓reduceIte, decide_true, decide_false, Bool.true_eq_false, Bool.false_eq_true, Bool.not_true, Bool.not_false, if_true, if_false, and_true, true_and, memE, celE, w64, Nat.zero_add, Nat.add_zero, Nat.mul_one, putL, and_self, ldn, tm, t0, t3, t4, dX.box.ld5, bsl_it, ap]
        exact ⟨⟨_, _, a4, _, z - 1, rfl, d, by omega, by simp; omega, by simp; omega, by simp⟩, by simp [intOf]; omega⟩
      | true =>
        simp (config := {implicitDefEqProofs := false, maxDischargeDepth := 20}) (disch := first | omega | (simp only [lenE]; done) | (simp only [lenE]; omega) | rfl | (simp only [lenE, markR_len]; done) | (simp only [lenE, markR_len]; omega)) only [runE, mapE, listE, initT_5, initT_6, initT_7, initT_8, resV, oneV, binA, unA, reduceCtorEq, Nat.reduceEqDiff, Nat.reduceAdd, Nat.reduceLT, Nat.reduceLeDiff, Nat.reduceMul, Nat.reduceSub, ↓reduceIte, decide_true, decide_false, Bool.true_eq_false, Bool.false_eq_true, Bool.not_true, Bool.not_false, if_true, if_false, and_true, true_and, memE, celE, w64, Nat.zero_add, Nat.add_zero, Nat.mul_one, putL, and_self, ldn, tm, t0, t3, t4]
        refine callH_ac (pick_ac N3 cb id a4 l 3 dX.cur (by omega) (by omega) (by omega)) ?_
        rintro v N4 ⟨p, rfl, hp0, hp1, w, a5, h5, k⟩
        have dX := dX.draw w k
        have dR := dR.draw w k
        clear w k
        have s1 : stA N4 bx 0 [.int .i64 (1 + p)] = some (N4.set bx ⟨.own, 25, [.int .i64 (1 + p), .int .i64 x1, .int .i64 x2, .int .i64 x3, .int .i64 x4]⟩) := dX.box.st (off := 0) (vs := [.int .i64 (1 + p)]) (by simp) rfl
        have dR := dX.other dR hne ⟨.own, 25, [.int .i64 (1 + p), .int .i64 x1, .int .i64 x2, .int .i64 x3, .int .i64 x4]⟩ (by simp)
        have dX := dX.put 25 [.int .i64 (1 + p), .int .i64 x1, .int .i64 x2, .int .i64 x3, .int .i64 x4]
        simp (config := {implicitDefEqProofs := false, maxDischargeDepth := 20}) (disch := first | omega | (simp only [lenE]; done) | (simp only [lenE]; omega) | rfl | (simp only [lenE, markR_len]; done) | (simp only [lenE, markR_len]; omega)) only [runE, mapE, listE, initT_5, initT_6, initT_7, initT_8, resV, oneV, binA, unA, reduceCtorEq, Nat.reduceEqDiff, Nat.reduceAdd, Nat.reduceLT, Nat.reduceLeDiff, Nat.reduceMul, Nat.reduceSub, ↓reduceIte, decide_true, decide_false, Bool.true_eq_false, Bool.false_eq_true, Bool.not_true, Bool.not_false, if_true, if_false, and_true, true_and, memE, celE, w64, Nat.zero_add, Nat.add_zero, Nat.mul_one, putL, and_self, ldn, tm, t0, t3, t4, s1]
        generalize N4.set bx ⟨.own, 25, [.int .i64 (1 + p), .int .i64 x1, .int .i64 x2, .int .i64 x3, .int .i64 x4]⟩ = N5 at *
        refine callH_ac (pick_ac N5 cb id a5 l 20 dX.cur (by omega) (by omega) (by omega)) ?_
        rintro v N6 ⟨p2, rfl, hp2, hp3, w, a6, h6, k⟩
        have dX := dX.draw w k
        have dR := dR.draw w k
        clear w k
        have s2 : stA N6 bx 3 [.int .i64 (10 + p2)] = some (N6.set bx ⟨.own, 25, [.int .i64 (1 + p), .int .i64 x1, .int .i64 x2, .int .i64 (10 + p2), .int .i64 x4]⟩) := dX.box.st (off := 3) (vs := [.int .i64 (10 + p2)]) (by simp) rfl
        have dR := dX.other dR hne ⟨.own, 25, [.int .i64 (1 + p), .int .i64 x1, .int .i64 x2, .int .i64 (10 + p2), .int .i64 x4]⟩ (by simp)
        have dX := dX.put 25 [.int .i64 (1 + p), .int .i64 x1, .int .i64 x2, .int .i64 (10 + p2), .int .i64 x4]
        simp (config := {implicitDefEqProofs := false, maxDischargeDepth := 20}) (disch := first | omega | (simp only [lenE]; done) | (simp only [lenE]; omega) | rfl | (simp only [lenE, markR_len]; done) | (simp only [lenE, markR_len]; omega)) only [runE, mapE, listE, initT_5, initT_6, initT_7, initT_8, resV, oneV, binA, unA, reduceCtorEq, Nat.reduceEqDiff, Nat.reduceAdd, Nat.reduceLT, Nat.reduceLeDiff, Nat.reduceMul, Nat.reduceSub, ↓reduceIte, decide_true, decide_false, Bool.true_eq_false, Bool.false_eq_true, Bool.not_true, Bool.not_false, if_true, if_false, and_true, true_and, memE, celE, w64, Nat.zero_add, Nat.add_zero, Nat.mul_one, putL, and_self, ldn, tm, t0, t3, t4, s2]
        generalize N6.set bx ⟨.own, 25, [.int .i64 (1 + p), .int .i64 x1, .int .i64 x2, .int .i64 (10 + p2), .int .i64 x4]⟩ = N7 at *
        obtain ⟨N8, ap, d⟩ := put N7 a6 (1 + p) x1 x2 (10 + p2) x4 dX dR
        simp (config := {implicitDefEqProofs := false, maxDischargeDepth := 20}) (disch := first | omega | (simp only [lenE]; done) | (simp only [lenE]; omega) | rfl | (simp only [lenE, markR_len]; done) | (simp only [lenE, markR_len]; omega)) only [runE, mapE, listE, initT_5, initT_6, initT_7, initT_8, resV, oneV, binA, unA, reduceCtorEq, Nat.reduceEqDiff, Nat.reduceAdd, Nat.reduceLT, Nat.reduceLeDiff, Nat.reduceMul, Nat.reduceSub, ↓reduceIte, decide_true, decide_false, Bool.true_eq_false, Bool.false_eq_true, Bool.not_true, Bool.not_false, if_true, if_false, and_true, true_and, memE, celE, w64, Nat.zero_add, Nat.add_zero, Nat.mul_one, putL, and_self, ldn, tm, t0, t3, t4, dX.box.rd, bsl_it, ap]
        exact ⟨⟨_, _, a6, _, z - 1, rfl, d, by omega, by simp; omega, by simp; omega, by simp⟩, by simp [intOf]; omega⟩
  · simp (config := {implicitDefEqProofs := false, maxDischargeDepth := 20}) (disch := first | omega | (simp only [lenE]; done) | (simp only [lenE]; omega) | rfl | (simp only [lenE, markR_len]; done) | (simp only [lenE, markR_len]; omega)) only [runE, mapE, listE, initT_5, initT_6, initT_7, initT_8, resV, oneV, binA, unA, reduceCtorEq, Nat.reduceEqDiff, Nat.reduceAdd, Nat.reduceLT, Nat.reduceLeDiff, Nat.reduceMul, Nat.reduceSub, ↓reduceIte, decide_true, decide_false, Bool.true_eq_false, Bool.false_eq_true, Bool.not_true, Bool.not_false, if_true, if_false, and_true, true_and, memE, celE, w64, Nat.zero_add, Nat.add_zero, Nat.mul_one, putL, and_self, ldn, tm, t0, t3, t4, gt_iff_lt, hzp]
    exact ⟨L, rid, a2, rfl, by omega, by omega, d⟩
theorem ItemsA.own {M : Mem} {rid fl : Nat} {t : TypeId} {L : List It} (h : OwnB M rid t (itemsC L)) (h5 : L.length ≤ 1000) : ItemsA M (.slice (some ⟨rid, 0, none⟩) L.length fl) L :=
  ⟨by omega, rid, fl, rfl, fun k i hk hi => by rw [h.rd]; exact itemsC_at L k i hk hi⟩
def AnsF2 (m : Mem) (r : Value) (new : Mem) : Prop := NoRo new ∧ ∃ (L : List It) (v : Value) (c : Int), r = .tuple #[v, .int .i64 c] ∧ ItemsA (m ++ new) v L
theorem DrawCycleFits_rc (m : Mem) (cb fl : Nat) (l : List Int) (h : BytesA m cb l) :
    RC Try.prog 15 [.slice (some ⟨cb, 0, none⟩) l.length fl] m (AnsF2 m) := by
  refine rc_of_run mixed ok_spec_DrawCycleFits (by simp) (go_start _ _ _ ?_)
  have k0 := CurA.start (fl := fl) h (id := m.length) rfl
  simp (config := {implicitDefEqProofs := false, maxDischargeDepth := 20}) (disch := first | omega | (simp only [lenE]; done) | (simp only [lenE]; omega) | rfl | (simp only [lenE, markR_len]; done) | (simp only [lenE, markR_len]; omega)) only [runE, mapE, listE, initT_5, initT_6, initT_7, initT_8, resV, oneV, binA, unA, reduceCtorEq, Nat.reduceEqDiff, Nat.reduceAdd, Nat.reduceLT, Nat.reduceLeDiff, Nat.reduceMul, Nat.reduceSub, ↓reduceIte, decide_true, decide_false, Bool.true_eq_false, Bool.false_eq_true, Bool.not_true, Bool.not_false, if_true, if_false, and_true, true_and, memE, celE, w64, Nat.zero_add, Nat.add_zero, Nat.mul_one, putL, and_self, ldn, c_spec_DrawCycleFits, r_spec_DrawCycleFits, bldCur]
  obtain ⟨B, hB⟩ : ∃ B : Blk, B = ⟨.own, 45, [.slice (some ⟨cb, 0, none⟩) l.length fl, .int .i64 0, .int .u64 0]⟩ := ⟨_, rfl⟩
  rw [← hB] at k0 ⊢
  have LB : (roM m ++ [B]).length = m.length + 1 := by simp [roM_len]
  obtain ⟨E, hE⟩ : ∃ E, E = roM m ++ [B] := ⟨_, rfl⟩
  rw [← hE] at k0 LB ⊢
  refine callH_ac (family_ac E cb m.length 0 l k0 (by omega)) ?_
  rintro v M1 ⟨L, rid, a1, rfl, h5, h1, d⟩
  simp (config := {implicitDefEqProofs := false, maxDischargeDepth := 20}) (disch := first | omega | (simp only [lenE]; done) | (simp only [lenE]; omega) | rfl | (simp only [lenE, markR_len]; done) | (simp only [lenE, markR_len]; omega)) only [runE, mapE, listE, initT_5, initT_6, initT_7, initT_8, resV, oneV, binA, unA, reduceCtorEq, Nat.reduceEqDiff, Nat.reduceAdd, Nat.reduceLT, Nat.reduceLeDiff, Nat.reduceMul, Nat.reduceSub, ↓reduceIte, decide_true, decide_false, Bool.true_eq_false, Bool.false_eq_true, Bool.not_true, Bool.not_false, if_true, if_false, and_true, true_and, memE, celE, w64, Nat.zero_add, Nat.add_zero, Nat.mul_one, putL, and_self, ldn, bl_g0]
  refine callH_ac (among_new M1 cb m.length a1 l [1, 2, 5, 10, 20, 50, 400, 401, 0] d.cur (by omega) rfl rfl (by simp) (by simp)) ?_
  rintro v M2 ⟨c, -, rfl, w, a2, h2, k⟩
  have d2 := d.draw w k
  simp (config := {implicitDefEqProofs := false, maxDischargeDepth := 20}) (disch := first | omega | (simp only [lenE]; done) | (simp only [lenE]; omega) | rfl | (simp only [lenE, markR_len]; done) | (simp only [lenE, markR_len]; omega)) only [runE, mapE, listE, initT_5, initT_6, initT_7, initT_8, resV, oneV, binA, unA, reduceCtorEq, Nat.reduceEqDiff, Nat.reduceAdd, Nat.reduceLT, Nat.reduceLeDiff, Nat.reduceMul, Nat.reduceSub, ↓reduceIte, decide_true, decide_false, Bool.true_eq_false, Bool.false_eq_true, Bool.not_true, Bool.not_false, if_true, if_false, and_true, true_and, memE, celE, w64, Nat.zero_add, Nat.add_zero, Nat.mul_one, putL, and_self, ldn]
  have hc := d2.cw
  rw [hE] at hc
  have hX : Ext m M2 := Cw.toExt hc d2.cur
  obtain ⟨n0, rfl, h0⟩ := hX
  refine ⟨n0, rfl, h0, h0, L, _, c, rfl, ItemsA.own (t := 25) ?_ (by omega)⟩
  have hge := d2.ge
  rw [LB] at hge
  refine d2.box.at_ ?_
  rw [List.getElem?_append_right (by omega), List.getElem?_append_right (by rw [roM_len]; omega), roM_len]
theorem rBig_rc (m : Mem) (cb fl : Nat) (n : Nat) : RC Try.prog 5 [.slice (some ⟨cb, 0, none⟩) n fl] m fun r new => r = .bool (decide (65536 < n)) ∧ new = [] := by
  refine rc_of_run mixed ok_laws_rBig (by simp) (go_start _ _ _ ?_)
  simp (config := {implicitDefEqProofs := false, maxDischargeDepth := 20}) (disch := first | omega | (simp only [lenE]; done) | (simp only [lenE]; omega) | rfl | (simp only [lenE, markR_len]; done) | (simp only [lenE, markR_len]; omega)) only [runE, mapE, listE, initT_5, initT_6, initT_7, initT_8, resV, oneV, binA, unA, reduceCtorEq, Nat.reduceEqDiff, Nat.reduceAdd, Nat.reduceLT, Nat.reduceLeDiff, Nat.reduceMul, Nat.reduceSub, ↓reduceIte, decide_true, decide_false, Bool.true_eq_false, Bool.false_eq_true, Bool.not_true, Bool.not_false, if_true, if_false, and_true, true_and, memE, celE, w64, Nat.zero_add, Nat.add_zero, Nat.mul_one, putL, and_self, ldn, c_laws_rBig, r_laws_rBig, gt_iff_lt]
  refine newQ_nil ⟨?_, rfl⟩
  congr 1
  rw [decide_eq_decide]
  omega
end Go.Proofs.Ytbjjkcoecaopcaa.Ab
end
section
namespace Go.Proofs.Ytbjjkcoecaopcaa.Ab
open Go Go.RowKit
set_option linter.unusedVariables false
set_option linter.unusedSimpArgs false
theorem famB_good {L : List It} (h : famB L = true) : GoodF L := goodF_iff.1 h
theorem com_fits {L : List It} {c : Int} (h : comOk L c = true) : fitsA L c = (leastOk L && decide (leastN L ≤ c)) := by
  have h0 := h
  unfold comOk at h0
  rw [Bool.and_eq_true, inR_iff] at h0
  have hF := famB_good h0.1
  unfold fitsA leastOk leastN
  rw [h, h0.1, Bool.true_and, Bool.true_and, if_pos rfl]
  have hm : c ∈ fitL L ↔ fitsB L c = true := by
    unfold fitL
    rw [List.mem_filter, upFrom_mem]
    exact ⟨fun h => h.2, fun h => ⟨by omega, h⟩⟩
  rcases fitL_form hF with e | ⟨b, k, h1, h2, e⟩
  · rw [e] at hm ⊢
    cases hf : fitsB L c with
    | false => rfl
    | true => exact absurd (hm.2 hf) (by simp)
  · rw [e, upFrom_mem] at hm
    rw [e]
    have hl : (upFrom b (k + 1)).getD 0 0 = b := rfl
    have hp : 0 < (upFrom b (k + 1)).length := by simp [upFrom]
    rw [hl, decide_eq_true hp, Bool.true_and]
    by_cases hb : b ≤ c
    · rw [decide_eq_true hb]; exact hm.1 (by omega)
    · rw [decide_eq_false hb]
      cases hf : fitsB L c with
      | false => rfl
      | true => have := hm.2 hf; omega
theorem com_best {L : List It} (h : leastOk L = true) : leastN L ≤ bestComN L := by
  unfold leastOk at h
  rw [Bool.and_eq_true, decide_eq_true_eq] at h
  have hF := famB_good h.1
  unfold leastN bestComN
  rw [if_pos h.1, if_pos h.1]
  rcases fitL_form hF with e | ⟨b, k, h1, h2, e⟩
  · rw [e] at h; simp at h
  · rw [e]
    have hl : (upFrom b (k + 1)).getD 0 0 = b := rfl
    have hm : pickOf (sharedF L) (upFrom b (k + 1)) ∈ upFrom b (k + 1) := by
      unfold pickOf
      rcases bestIn_mem (fun a b => lessF (sharedF L a) (sharedF L b)) ((upFrom b (k + 1)).drop 1) ((upFrom b (k + 1)).getD 0 0) with h | h
      · rw [h, hl, upFrom_mem]; omega
      · exact List.mem_of_mem_drop h
    rw [upFrom_mem] at hm
    rw [hl]; exact hm.1
end Go.Proofs.Ytbjjkcoecaopcaa.Ab
end
section
namespace Go.Proofs.Ytbjjkcoecaopcaa.Ab
open Go Go.RowKit Go.Proofs
set_option maxRecDepth 100000
def c_laws_FnCommon : ACode := .seq (.reg [⟨(some 2), .mv (.const (.bool false)), none⟩])
 (.seq (.seq (.reg [⟨(some 21), .mv (.tmp 0), none⟩,
  ⟨(some 22), .call (.func 5) [(.tmp 21)], none⟩])
 (.cond (.tmp 22) (.seq (.reg [⟨(some 2), .mv (.const (.bool true)), none⟩])
 (.ret)) (.skip)))
 (.seq (.reg [⟨(some 24), .mv (.tmp 0), none⟩,
  ⟨(some 25), .call (.func 15) [(.tmp 24)], none⟩,
  ⟨(some 23), .mv (.tmp 25), none⟩,
  ⟨(some 26), .ext 0 (.tmp 23), none⟩,
  ⟨(some 27), .ext 1 (.tmp 23), none⟩,
  ⟨(some 3), .mv (.tmp 26), none⟩,
  ⟨(some 4), .mv (.tmp 27), none⟩])
 (.seq (.reg [⟨(some 29), .mv (.tmp 3), none⟩,
  ⟨(some 30), .mv (.tmp 4), none⟩,
  ⟨(some 31), .call (.func 16) [(.tmp 29), (.tmp 30)], none⟩,
  ⟨(some 28), .mv (.tmp 31), none⟩,
  ⟨(some 32), .ext 0 (.tmp 28), none⟩,
  ⟨(some 33), .ext 1 (.tmp 28), none⟩,
  ⟨(some 5), .mv (.tmp 32), none⟩,
  ⟨(some 6), .mv (.tmp 33), none⟩])
 (.seq (.seq (.reg [⟨(some 35), .mv (.tmp 3), none⟩,
  ⟨(some 36), .mv (.tmp 4), none⟩,
  ⟨(some 37), .call (.func 17) [(.tmp 35), (.tmp 36)], none⟩,
  ⟨(some 34), .mv (.tmp 37), none⟩,
  ⟨(some 38), .ext 0 (.tmp 34), none⟩,
  ⟨(some 39), .ext 1 (.tmp 34), none⟩,
  ⟨(some 7), .mv (.tmp 38), none⟩,
  ⟨(some 8), .mv (.tmp 39), none⟩])
 (.seq (.reg [⟨(some 40), .mv (.tmp 5), none⟩,
  ⟨(some 41), .mv (.tmp 7), none⟩,
  ⟨(some 42), .beq true (.tmp 40) (.tmp 41), none⟩,
  ⟨(some 43), .mv (.tmp 42), none⟩,
  ⟨(some 44), .mv (.tmp 6), (some (43, false))⟩,
  ⟨(some 45), .mv (.tmp 8), (some (43, false))⟩,
  ⟨(some 46), .beq true (.tmp 44) (.tmp 45), (some (43, false))⟩,
  ⟨(some 47), .pick (.tmp 43) (.const (.bool true)) (.tmp 46), none⟩])
 (.cond (.tmp 47) (.seq (.reg [⟨(some 2), .mv (.const (.bool false)), none⟩])
 (.ret)) (.skip))))
 (.seq (.reg [⟨(some 49), .mv (.tmp 3), none⟩,
  ⟨(some 50), .call (.func 18) [(.tmp 49)], none⟩,
  ⟨(some 48), .mv (.tmp 50), none⟩,
  ⟨(some 51), .ext 0 (.tmp 48), none⟩,
  ⟨(some 52), .ext 1 (.tmp 48), none⟩,
  ⟨(some 9), .mv (.tmp 51), none⟩,
  ⟨(some 10), .mv (.tmp 52), none⟩])
 (.seq (.seq (.reg [⟨(some 54), .mv (.tmp 3), none⟩,
  ⟨(some 55), .call (.func 19) [(.tmp 54)], none⟩,
  ⟨(some 53), .mv (.tmp 55), none⟩,
  ⟨(some 56), .ext 0 (.tmp 53), none⟩,
  ⟨(some 57), .ext 1 (.tmp 53), none⟩,
  ⟨(some 11), .mv (.tmp 56), none⟩,
  ⟨(some 12), .mv (.tmp 57), none⟩])
 (.seq (.reg [⟨(some 58), .mv (.tmp 9), none⟩,
  ⟨(some 59), .mv (.tmp 11), none⟩,
  ⟨(some 60), .bin .neq (.tmp 58) (.tmp 59), none⟩,
  ⟨(some 61), .mv (.tmp 60), none⟩,
  ⟨(some 62), .mv (.tmp 10), (some (61, false))⟩,
  ⟨(some 63), .mv (.tmp 12), (some (61, false))⟩,
  ⟨(some 64), .beq true (.tmp 62) (.tmp 63), (some (61, false))⟩,
  ⟨(some 65), .pick (.tmp 61) (.const (.bool true)) (.tmp 64), none⟩])
 (.cond (.tmp 65) (.seq (.reg [⟨(some 2), .mv (.const (.bool false)), none⟩])
 (.ret)) (.skip))))
 (.seq (.reg [⟨(some 67), .mv (.tmp 3), none⟩,
  ⟨(some 68), .mv (.tmp 4), none⟩,
  ⟨(some 69), .call (.func 20) [(.tmp 67), (.tmp 68)], none⟩,
  ⟨(some 66), .mv (.tmp 69), none⟩,
  ⟨(some 70), .ext 0 (.tmp 66), none⟩,
  ⟨(some 71), .ext 1 (.tmp 66), none⟩,
  ⟨(some 13), .alc 28 [(.int .i64 0), (.int .i64 0)], none⟩,
  ⟨none, .st 2 (.tmp 13) (.tmp 70), none⟩,
  ⟨(some 14), .mv (.tmp 71), none⟩])
 (.seq (.seq (.reg [⟨(some 73), .mv (.tmp 3), none⟩,
  ⟨(some 74), .mv (.tmp 4), none⟩,
  ⟨(some 75), .call (.func 21) [(.tmp 73), (.tmp 74)], none⟩,
  ⟨(some 72), .mv (.tmp 75), none⟩,
  ⟨(some 76), .ext 0 (.tmp 72), none⟩,
  ⟨(some 77), .ext 1 (.tmp 72), none⟩,
  ⟨(some 15), .alc 28 [(.int .i64 0), (.int .i64 0)], none⟩,
  ⟨none, .st 2 (.tmp 15) (.tmp 76), none⟩,
  ⟨(some 16), .mv (.tmp 77), none⟩])
 (.seq (.reg [⟨(some 78), .ld (some 2) (.tmp 13), none⟩,
  ⟨(some 79), .ld (some 2) (.tmp 15), none⟩,
  ⟨(some 80), .aeq true 2 (.tmp 78) (.tmp 79), none⟩,
  ⟨(some 81), .mv (.tmp 80), none⟩,
  ⟨(some 82), .mv (.tmp 14), (some (81, false))⟩,
  ⟨(some 83), .mv (.tmp 16), (some (81, false))⟩,
  ⟨(some 84), .beq true (.tmp 82) (.tmp 83), (some (81, false))⟩,
  ⟨(some 85), .pick (.tmp 81) (.const (.bool true)) (.tmp 84), none⟩,
  ⟨(some 86), .mv (.tmp 85), none⟩,
  ⟨(some 87), .mv (.tmp 14), (some (86, false))⟩,
  ⟨(some 88), .mv (.tmp 6), (some (86, false))⟩,
  ⟨(some 89), .beq true (.tmp 87) (.tmp 88), (some (86, false))⟩,
  ⟨(some 90), .pick (.tmp 86) (.const (.bool true)) (.tmp 89), none⟩])
 (.cond (.tmp 90) (.seq (.reg [⟨(some 2), .mv (.const (.bool false)), none⟩])
 (.ret)) (.skip))))
 (.seq (.reg [⟨(some 92), .mv (.tmp 3), none⟩,
  ⟨(some 93), .call (.func 22) [(.tmp 92)], none⟩,
  ⟨(some 91), .mv (.tmp 93), none⟩,
  ⟨(some 94), .ext 0 (.tmp 91), none⟩,
  ⟨(some 95), .ext 1 (.tmp 91), none⟩,
  ⟨(some 17), .mv (.tmp 94), none⟩,
  ⟨(some 18), .mv (.tmp 95), none⟩])
 (.seq (.seq (.reg [⟨(some 97), .mv (.tmp 3), none⟩,
  ⟨(some 98), .call (.func 23) [(.tmp 97)], none⟩,
  ⟨(some 96), .mv (.tmp 98), none⟩,
  ⟨(some 99), .ext 0 (.tmp 96), none⟩,
  ⟨(some 100), .ext 1 (.tmp 96), none⟩,
  ⟨(some 19), .mv (.tmp 99), none⟩,
  ⟨(some 20), .mv (.tmp 100), none⟩])
 (.seq (.reg [⟨(some 101), .mv (.tmp 17), none⟩,
  ⟨(some 102), .mv (.tmp 19), none⟩,
  ⟨(some 103), .bin .neq (.tmp 101) (.tmp 102), none⟩,
  ⟨(some 104), .mv (.tmp 103), none⟩,
  ⟨(some 105), .mv (.tmp 18), (some (104, false))⟩,
  ⟨(some 106), .mv (.tmp 20), (some (104, false))⟩,
  ⟨(some 107), .beq true (.tmp 105) (.tmp 106), (some (104, false))⟩,
  ⟨(some 108), .pick (.tmp 104) (.const (.bool true)) (.tmp 107), none⟩,
  ⟨(some 109), .mv (.tmp 108), none⟩,
  ⟨(some 110), .mv (.tmp 18), (some (109, false))⟩,
  ⟨(some 111), .mv (.tmp 10), (some (109, false))⟩,
  ⟨(some 112), .beq true (.tmp 110) (.tmp 111), (some (109, false))⟩,
  ⟨(some 113), .pick (.tmp 109) (.const (.bool true)) (.tmp 112), none⟩])
 (.cond (.tmp 113) (.seq (.reg [⟨(some 2), .mv (.const (.bool false)), none⟩])
 (.ret)) (.skip))))
 (.seq (.seq (.reg [⟨(some 114), .mv (.tmp 6), none⟩,
  ⟨(some 115), .mv (.tmp 114), none⟩,
  ⟨(some 116), .mv (.tmp 5), (some (115, true))⟩,
  ⟨(some 117), .mv (.tmp 10), (some (115, true))⟩,
  ⟨(some 118), .mv (.tmp 117), (some (115, true))⟩,
  ⟨(some 119), .mv (.tmp 4), (some (118, true))⟩,
  ⟨(some 120), .mv (.tmp 9), (some (118, true))⟩,
  ⟨(some 121), .bin .geq (.tmp 119) (.tmp 120), (some (118, true))⟩,
  ⟨(some 122), .pick (.tmp 118) (.tmp 121) (.const (.bool false)), (some (115, true))⟩,
  ⟨(some 123), .beq true (.tmp 116) (.tmp 122), (some (115, true))⟩,
  ⟨(some 124), .pick (.tmp 115) (.tmp 123) (.const (.bool false)), none⟩])
 (.cond (.tmp 124) (.seq (.reg [⟨(some 2), .mv (.const (.bool false)), none⟩])
 (.ret)) (.skip)))
 (.seq (.reg [⟨(some 125), .mv (.tmp 18), none⟩,
  ⟨(some 126), .un .not (.tmp 125), none⟩,
  ⟨(some 127), .mv (.tmp 126), none⟩,
  ⟨(some 128), .mv (.tmp 17), (some (127, false))⟩,
  ⟨(some 129), .mv (.tmp 9), (some (127, false))⟩,
  ⟨(some 130), .bin .geq (.tmp 128) (.tmp 129), (some (127, false))⟩,
  ⟨(some 131), .pick (.tmp 127) (.const (.bool true)) (.tmp 130), none⟩,
  ⟨(some 2), .mv (.tmp 131), none⟩])
 (.ret)))))))))))))
def r_laws_FnCommon : List ARes := [.tmp 2]
theorem ok_laws_FnCommon : FnOk Try.prog 4 132 c_laws_FnCommon r_laws_FnCommon := ⟨⟨Try.f4, _, Try.func4, by kernel_rfl, rfl, rfl, by kernel_rfl, by kernel_rfl⟩⟩
end Go.Proofs.Ytbjjkcoecaopcaa.Ab
end
section
namespace Go.Proofs.Ytbjjkcoecaopcaa.Ab
open Go Go.RowKit
set_option linter.unusedVariables false
set_option linter.unusedSimpArgs false
set_option maxRecDepth 100000
theorem ae_two (a b : Int) : aeqA true 2 (.agg #[.int .i64 a, .int .i64 b]) (.agg #[.int .i64 a, .int .i64 b]) = some (.bool false) := by
  simp [aeqA, intsEq]
set_option maxHeartbeats 16000000 in
theorem law_FnCommon (l : List Int) (hb : ∀ x ∈ l, 0 ≤ x ∧ x ≤ 255) :
    AC Try.prog 4 [.slice (some ⟨0, 0, none⟩) l.length 0] [⟨.ro, 5, l.map (Value.int .u8)⟩] fun r _ => r = .bool true := by
  refine ac_of_run mixed ok_laws_FnCommon (by simp) (go_start _ _ _ ?_)
  simp (config := {implicitDefEqProofs := false, maxDischargeDepth := 20}) (disch := first | omega | (simp only [lenE]; done) | (simp only [lenE]; omega) | rfl | (simp only [lenE, markR_len]; done) | (simp only [lenE, markR_len]; omega)) only [runE, mapE, listE, initT_5, initT_6, initT_7, initT_8, resV, oneV, binA, unA, reduceCtorEq, Nat.reduceEqDiff, Nat.reduceAdd, Nat.reduceLT, Nat.reduceLeDiff, Nat.reduceMul, Nat.reduceSub, ↓reduceIte, decide_true, decide_false, Bool.true_eq_false, Bool.false_eq_true, Bool.not_true, Bool.not_false, if_true, if_false, and_true, true_and, memE, celE, w64, Nat.zero_add, Nat.add_zero, Nat.mul_one, putL, and_self, ldn, c_laws_FnCommon, r_laws_FnCommon]
  refine callH_rc (rBig_rc _ 0 0 l.length) ?_
  rintro r new ⟨rfl, rfl⟩
  by_cases hbig : 65536 < l.length
  · simp (config := {implicitDefEqProofs := false, maxDischargeDepth := 20}) (disch := first | omega | (simp only [lenE]; done) | (simp only [lenE]; omega) | rfl | (simp only [lenE, markR_len]; done) | (simp only [lenE, markR_len]; omega)) only [runE, mapE, listE, initT_5, initT_6, initT_7, initT_8, resV, oneV, binA, unA, reduceCtorEq, Nat.reduceEqDiff, Nat.reduceAdd, Nat.reduceLT, Nat.reduceLeDiff, Nat.reduceMul, Nat.reduceSub, ↓reduceIte, decide_true, decide_false, Bool.true_eq_false, Bool.false_eq_true, Bool.not_true, Bool.not_false, if_true, if_false, and_true, true_and, memE, celE, w64, Nat.zero_add, Nat.add_zero, Nat.mul_one, putL, and_self, ldn, decide_eq_true hbig]
  have hB : BytesA [⟨.ro, 5, l.map (Value.int .u8)⟩] 0 l := ⟨⟨.ro, by simp, rfl⟩, hb, by omega⟩
  obtain ⟨M0, hM0⟩ : ∃ M : Mem, M = [⟨.ro, 5, l.map (Value.int .u8)⟩] := ⟨_, rfl⟩
  rw [← hM0] at hB
  rw [List.append_nil, ← hM0]
  clear hM0
  simp (config := {implicitDefEqProofs := false, maxDischargeDepth := 20}) (disch := first | omega | (simp only [lenE]; done) | (simp only [lenE]; omega) | rfl | (simp only [lenE, markR_len]; done) | (simp only [lenE, markR_len]; omega)) only [runE, mapE, listE, initT_5, initT_6, initT_7, initT_8, resV, oneV, binA, unA, reduceCtorEq, Nat.reduceEqDiff, Nat.reduceAdd, Nat.reduceLT, Nat.reduceLeDiff, Nat.reduceMul, Nat.reduceSub, ↓reduceIte, decide_true, decide_false, Bool.true_eq_false, Bool.false_eq_true, Bool.not_true, Bool.not_false, if_true, if_false, and_true, true_and, memE, celE, w64, Nat.zero_add, Nat.add_zero, Nat.mul_one, putL, and_self, ldn, decide_eq_false hbig]
  refine callH_rc (DrawCycleFits_rc _ 0 0 l hB) ?_
  rintro r new ⟨nr, L, v, c, rfl, h⟩
  obtain ⟨M, hM⟩ : ∃ M, M = M0 ++ new := ⟨_, rfl⟩
  rw [← hM] at h ⊢
  clear hM nr hB
  have m1 := com_fits (L := L) (c := c)
  have m2 := com_best (L := L)
  obtain ⟨ft, hft⟩ : ∃ t, t = fitsA L c := ⟨_, rfl⟩
  obtain ⟨ok, hok⟩ : ∃ t, t = comOk L c := ⟨_, rfl⟩
  obtain ⟨ln, hln⟩ : ∃ t, t = leastN L := ⟨_, rfl⟩
  obtain ⟨on, hon⟩ : ∃ t, t = leastOk L := ⟨_, rfl⟩
  obtain ⟨ca, hca⟩ : ∃ t, t = comA L c := ⟨_, rfl⟩
  obtain ⟨bn, hbn⟩ : ∃ t, t = bestComN L := ⟨_, rfl⟩
  rw [← hft, ← hok, ← hln, ← hon] at m1
  rw [← hon, ← hln, ← hbn] at m2

  have C1 : ∀ M, ItemsA M v L → RC Try.prog 16 [v, .int .i64 c] M (AnsV (.tuple #[.bool ft, .bool ok])) := fun M h => by rw [hft, hok]; exact implCycleFits_rc _ _ L c h
  have C2 : ∀ M, ItemsA M v L → RC Try.prog 17 [v, .int .i64 c] M (AnsV (.tuple #[.bool ft, .bool ok])) := fun M h => by rw [hft, hok]; exact specCycleFits_rc _ _ L c h
  have C3 : ∀ M, ItemsA M v L → RC Try.prog 18 [v] M (AnsV (.tuple #[.int .i64 ln, .bool on])) := fun M h => by rw [hln, hon]; exact implLeastCommon_rc _ _ L h
  have C4 : ∀ M, ItemsA M v L → RC Try.prog 19 [v] M (AnsV (.tuple #[.int .i64 ln, .bool on])) := fun M h => by rw [hln, hon]; exact specLeastCommon_rc _ _ L h
  have C5 : ∀ M, ItemsA M v L → RC Try.prog 20 [v, .int .i64 c] M (AnsV (.tuple #[.agg #[.int .i64 ca.1, .int .i64 ca.2], .bool ok])) := fun M h => by rw [hca, hok]; exact implCommonCost_rc _ _ L c h
  have C6 : ∀ M, ItemsA M v L → RC Try.prog 21 [v, .int .i64 c] M (AnsV (.tuple #[.agg #[.int .i64 ca.1, .int .i64 ca.2], .bool ok])) := fun M h => by rw [hca, hok]; exact specCommonCost_rc _ _ L c h
  have C7 : ∀ M, ItemsA M v L → RC Try.prog 22 [v] M (AnsV (.tuple #[.int .i64 bn, .bool on])) := fun M h => by rw [hbn, hon]; exact implBestCommon_rc _ _ L h
  have C8 : ∀ M, ItemsA M v L → RC Try.prog 23 [v] M (AnsV (.tuple #[.int .i64 bn, .bool on])) := fun M h => by rw [hbn, hon]; exact specBestCommon_rc _ _ L h
  clear hft hok hln hon hca hbn
  generalize ca.1 = ca1 at *
  generalize ca.2 = ca2 at *
  simp (config := {implicitDefEqProofs := false, maxDischargeDepth := 20}) (disch := first | omega | (simp only [lenE]; done) | (simp only [lenE]; omega) | rfl | (simp only [lenE, markR_len]; done) | (simp only [lenE, markR_len]; omega)) only [runE, mapE, listE, initT_5, initT_6, initT_7, initT_8, resV, oneV, binA, unA, reduceCtorEq, Nat.reduceEqDiff, Nat.reduceAdd, Nat.reduceLT, Nat.reduceLeDiff, Nat.reduceMul, Nat.reduceSub, ↓reduceIte, decide_true, decide_false, Bool.true_eq_false, Bool.false_eq_true, Bool.not_true, Bool.not_false, if_true, if_false, and_true, true_and, memE, celE, w64, Nat.zero_add, Nat.add_zero, Nat.mul_one, putL, and_self, ldn, Bool.and_self, Bool.and_true, Bool.true_and, Bool.and_false, Bool.false_and, ext_2_0, ext_2_1, bne_self_eq_false, beq_self_eq_true, goG_undef, Bool.not_true, Bool.not_false]
  refine callH_rc (C1 _ h) ?_
  rintro r new ⟨rfl, nr⟩
  have h := h.ext new
  obtain ⟨N1, hN⟩ : ∃ N, N = M ++ new := ⟨_, rfl⟩
  rw [← hN] at h  ⊢
  clear hN nr
  simp (config := {implicitDefEqProofs := false, maxDischargeDepth := 20}) (disch := first | omega | (simp only [lenE]; done) | (simp only [lenE]; omega) | rfl | (simp only [lenE, markR_len]; done) | (simp only [lenE, markR_len]; omega)) only [runE, mapE, listE, initT_5, initT_6, initT_7, initT_8, resV, oneV, binA, unA, reduceCtorEq, Nat.reduceEqDiff, Nat.reduceAdd, Nat.reduceLT, Nat.reduceLeDiff, Nat.reduceMul, Nat.reduceSub, ↓reduceIte, decide_true, decide_false, Bool.true_eq_false, Bool.false_eq_true, Bool.not_true, Bool.not_false, if_true, if_false, and_true, true_and, memE, celE, w64, Nat.zero_add, Nat.add_zero, Nat.mul_one, putL, and_self, ldn, Bool.and_self, Bool.and_true, Bool.true_and, Bool.and_false, Bool.false_and, ext_2_0, ext_2_1, bne_self_eq_false, beq_self_eq_true, goG_undef, Bool.not_true, Bool.not_false]
  refine callH_rc (C2 _ h) ?_
  rintro r new ⟨rfl, nr⟩
  have h := h.ext new
  obtain ⟨N2, hN⟩ : ∃ N, N = N1 ++ new := ⟨_, rfl⟩
  rw [← hN] at h  ⊢
  clear hN nr
  simp (config := {implicitDefEqProofs := false, maxDischargeDepth := 20}) (disch := first | omega | (simp only [lenE]; done) | (simp only [lenE]; omega) | rfl | (simp only [lenE, markR_len]; done) | (simp only [lenE, markR_len]; omega)) only [runE, mapE, listE, initT_5, initT_6, initT_7, initT_8, resV, oneV, binA, unA, reduceCtorEq, Nat.reduceEqDiff, Nat.reduceAdd, Nat.reduceLT, Nat.reduceLeDiff, Nat.reduceMul, Nat.reduceSub, ↓reduceIte, decide_true, decide_false, Bool.true_eq_false, Bool.false_eq_true, Bool.not_true, Bool.not_false, if_true, if_false, and_true, true_and, memE, celE, w64, Nat.zero_add, Nat.add_zero, Nat.mul_one, putL, and_self, ldn, Bool.and_self, Bool.and_true, Bool.true_and, Bool.and_false, Bool.false_and, ext_2_0, ext_2_1, bne_self_eq_false, beq_self_eq_true, goG_undef, Bool.not_true, Bool.not_false]
  refine callH_rc (C3 _ h) ?_
  rintro r new ⟨rfl, nr⟩
  have h := h.ext new
  obtain ⟨N3, hN⟩ : ∃ N, N = N2 ++ new := ⟨_, rfl⟩
  rw [← hN] at h  ⊢
  clear hN nr
  simp (config := {implicitDefEqProofs := false, maxDischargeDepth := 20}) (disch := first | omega | (simp only [lenE]; done) | (simp only [lenE]; omega) | rfl | (simp only [lenE, markR_len]; done) | (simp only [lenE, markR_len]; omega)) only [runE, mapE, listE, initT_5, initT_6, initT_7, initT_8, resV, oneV, binA, unA, reduceCtorEq, Nat.reduceEqDiff, Nat.reduceAdd, Nat.reduceLT, Nat.reduceLeDiff, Nat.reduceMul, Nat.reduceSub, ↓reduceIte, decide_true, decide_false, Bool.true_eq_false, Bool.false_eq_true, Bool.not_true, Bool.not_false, if_true, if_false, and_true, true_and, memE, celE, w64, Nat.zero_add, Nat.add_zero, Nat.mul_one, putL, and_self, ldn, Bool.and_self, Bool.and_true, Bool.true_and, Bool.and_false, Bool.false_and, ext_2_0, ext_2_1, bne_self_eq_false, beq_self_eq_true, goG_undef, Bool.not_true, Bool.not_false]
  refine callH_rc (C4 _ h) ?_
  rintro r new ⟨rfl, nr⟩
  have h := h.ext new
  obtain ⟨N4, hN⟩ : ∃ N, N = N3 ++ new := ⟨_, rfl⟩
  rw [← hN] at h  ⊢
  clear hN nr
  simp (config := {implicitDefEqProofs := false, maxDischargeDepth := 20}) (disch := first | omega | (simp only [lenE]; done) | (simp only [lenE]; omega) | rfl | (simp only [lenE, markR_len]; done) | (simp only [lenE, markR_len]; omega)) only [runE, mapE, listE, initT_5, initT_6, initT_7, initT_8, resV, oneV, binA, unA, reduceCtorEq, Nat.reduceEqDiff, Nat.reduceAdd, Nat.reduceLT, Nat.reduceLeDiff, Nat.reduceMul, Nat.reduceSub, ↓reduceIte, decide_true, decide_false, Bool.true_eq_false, Bool.false_eq_true, Bool.not_true, Bool.not_false, if_true, if_false, and_true, true_and, memE, celE, w64, Nat.zero_add, Nat.add_zero, Nat.mul_one, putL, and_self, ldn, Bool.and_self, Bool.and_true, Bool.true_and, Bool.and_false, Bool.false_and, ext_2_0, ext_2_1, bne_self_eq_false, beq_self_eq_true, goG_undef, Bool.not_true, Bool.not_false]
  refine callH_rc (C5 _ h) ?_
  rintro r new ⟨rfl, nr⟩
  have h := h.ext new
  obtain ⟨N5, hN⟩ : ∃ N, N = N4 ++ new := ⟨_, rfl⟩
  rw [← hN] at h  ⊢
  clear hN nr
  simp (config := {implicitDefEqProofs := false, maxDischargeDepth := 20}) (disch := first | omega | (simp only [lenE]; done) | (simp only [lenE]; omega) | rfl | (simp only [lenE, markR_len]; done) | (simp only [lenE, markR_len]; omega)) only [runE, mapE, listE, initT_5, initT_6, initT_7, initT_8, resV, oneV, binA, unA, reduceCtorEq, Nat.reduceEqDiff, Nat.reduceAdd, Nat.reduceLT, Nat.reduceLeDiff, Nat.reduceMul, Nat.reduceSub, ↓reduceIte, decide_true, decide_false, Bool.true_eq_false, Bool.false_eq_true, Bool.not_true, Bool.not_false, if_true, if_false, and_true, true_and, memE, celE, w64, Nat.zero_add, Nat.add_zero, Nat.mul_one, putL, and_self, ldn, Bool.and_self, Bool.and_true, Bool.true_and, Bool.and_false, Bool.false_and, ext_2_0, ext_2_1, bne_self_eq_false, beq_self_eq_true, goG_undef, Bool.not_true, Bool.not_false, stP_agg2]
  have b1 : OwnB (N5 ++ [⟨.own, 28, [.int .i64 ca1, .int .i64 ca2]⟩]) N5.length 28 [.int .i64 ca1, .int .i64 ca2] := OwnB.here rfl
  have h := h.ext [⟨.own, 28, [.int .i64 ca1, .int .i64 ca2]⟩]
  obtain ⟨N6, hN⟩ : ∃ N, N = N5 ++ [⟨.own, 28, [.int .i64 ca1, .int .i64 ca2]⟩] := ⟨_, rfl⟩
  rw [← hN] at h b1 ⊢
  clear hN
  refine callH_rc (C6 _ h) ?_
  rintro r new ⟨rfl, nr⟩
  have h := h.ext new
  have b1 := b1.ext new
  obtain ⟨N7, hN⟩ : ∃ N, N = N6 ++ new := ⟨_, rfl⟩
  rw [← hN] at h b1 ⊢
  clear hN nr
  simp (config := {implicitDefEqProofs := false, maxDischargeDepth := 20}) (disch := first | omega | (simp only [lenE]; done) | (simp only [lenE]; omega) | rfl | (simp only [lenE, markR_len]; done) | (simp only [lenE, markR_len]; omega)) only [runE, mapE, listE, initT_5, initT_6, initT_7, initT_8, resV, oneV, binA, unA, reduceCtorEq, Nat.reduceEqDiff, Nat.reduceAdd, Nat.reduceLT, Nat.reduceLeDiff, Nat.reduceMul, Nat.reduceSub, ↓reduceIte, decide_true, decide_false, Bool.true_eq_false, Bool.false_eq_true, Bool.not_true, Bool.not_false, if_true, if_false, and_true, true_and, memE, celE, w64, Nat.zero_add, Nat.add_zero, Nat.mul_one, putL, and_self, ldn, Bool.and_self, Bool.and_true, Bool.true_and, Bool.and_false, Bool.false_and, ext_2_0, ext_2_1, bne_self_eq_false, beq_self_eq_true, goG_undef, Bool.not_true, Bool.not_false, stP_agg2]
  have b2 : OwnB (N7 ++ [⟨.own, 28, [.int .i64 ca1, .int .i64 ca2]⟩]) N7.length 28 [.int .i64 ca1, .int .i64 ca2] := OwnB.here rfl
  have h := h.ext [⟨.own, 28, [.int .i64 ca1, .int .i64 ca2]⟩]
  have b1 := b1.ext [⟨.own, 28, [.int .i64 ca1, .int .i64 ca2]⟩]
  obtain ⟨N8, hN⟩ : ∃ N, N = N7 ++ [⟨.own, 28, [.int .i64 ca1, .int .i64 ca2]⟩] := ⟨_, rfl⟩
  rw [← hN] at h b2 b1 ⊢
  clear hN
  simp (config := {implicitDefEqProofs := false, maxDischargeDepth := 20}) (disch := first | omega | (simp only [lenE]; done) | (simp only [lenE]; omega) | rfl | (simp only [lenE, markR_len]; done) | (simp only [lenE, markR_len]; omega)) only [runE, mapE, listE, initT_5, initT_6, initT_7, initT_8, resV, oneV, binA, unA, reduceCtorEq, Nat.reduceEqDiff, Nat.reduceAdd, Nat.reduceLT, Nat.reduceLeDiff, Nat.reduceMul, Nat.reduceSub, ↓reduceIte, decide_true, decide_false, Bool.true_eq_false, Bool.false_eq_true, Bool.not_true, Bool.not_false, if_true, if_false, and_true, true_and, memE, celE, w64, Nat.zero_add, Nat.add_zero, Nat.mul_one, putL, and_self, ldn, Bool.and_self, Bool.and_true, Bool.true_and, Bool.and_false, Bool.false_and, ext_2_0, ext_2_1, bne_self_eq_false, beq_self_eq_true, goG_undef, Bool.not_true, Bool.not_false, b1.ld2, b2.ld2, b1.rd, b2.rd, ae_two]
  refine callH_rc (C7 _ h) ?_
  rintro r new ⟨rfl, nr⟩
  have h := h.ext new
  obtain ⟨N9, hN⟩ : ∃ N, N = N8 ++ new := ⟨_, rfl⟩
  rw [← hN] at h  ⊢
  clear hN nr
  simp (config := {implicitDefEqProofs := false, maxDischargeDepth := 20}) (disch := first | omega | (simp only [lenE]; done) | (simp only [lenE]; omega) | rfl | (simp only [lenE, markR_len]; done) | (simp only [lenE, markR_len]; omega)) only [runE, mapE, listE, initT_5, initT_6, initT_7, initT_8, resV, oneV, binA, unA, reduceCtorEq, Nat.reduceEqDiff, Nat.reduceAdd, Nat.reduceLT, Nat.reduceLeDiff, Nat.reduceMul, Nat.reduceSub, ↓reduceIte, decide_true, decide_false, Bool.true_eq_false, Bool.false_eq_true, Bool.not_true, Bool.not_false, if_true, if_false, and_true, true_and, memE, celE, w64, Nat.zero_add, Nat.add_zero, Nat.mul_one, putL, and_self, ldn, Bool.and_self, Bool.and_true, Bool.true_and, Bool.and_false, Bool.false_and, ext_2_0, ext_2_1, bne_self_eq_false, beq_self_eq_true, goG_undef, Bool.not_true, Bool.not_false]
  refine callH_rc (C8 _ h) ?_
  rintro r new ⟨rfl, nr⟩
  have h := h.ext new
  obtain ⟨N10, hN⟩ : ∃ N, N = N9 ++ new := ⟨_, rfl⟩
  rw [← hN] at h  ⊢
  clear hN nr
  cases ok with
  | true =>
    have m1 := m1 rfl
    subst m1
    cases on with
    | true =>
      have m2 := m2 rfl
      by_cases hc : ln ≤ c
      · simp (config := {implicitDefEqProofs := false, maxDischargeDepth := 20}) (disch := first | omega | (simp only [lenE]; done) | (simp only [lenE]; omega) | rfl | (simp only [lenE, markR_len]; done) | (simp only [lenE, markR_len]; omega)) only [runE, mapE, listE, initT_5, initT_6, initT_7, initT_8, resV, oneV, binA, unA, reduceCtorEq, Nat.reduceEqDiff, Nat.reduceAdd, Nat.reduceLT, Nat.reduceLeDiff, Nat.reduceMul, Nat.reduceSub, ↓reduceIte, decide_true, decide_false, Bool.true_eq_false, Bool.false_eq_true, Bool.not_true, Bool.not_false, if_true, if_false, and_true, true_and, memE, celE, w64, Nat.zero_add, Nat.add_zero, Nat.mul_one, putL, and_self, ldn, Bool.and_self, Bool.and_true, Bool.true_and, Bool.and_false, Bool.false_and, ext_2_0, ext_2_1, bne_self_eq_false, beq_self_eq_true, goG_undef, Bool.not_true, Bool.not_false, ge_iff_le, decide_eq_true hc, hc, m2]
      · simp (config := {implicitDefEqProofs := false, maxDischargeDepth := 20}) (disch := first | omega | (simp only [lenE]; done) | (simp only [lenE]; omega) | rfl | (simp only [lenE, markR_len]; done) | (simp only [lenE, markR_len]; omega)) only [runE, mapE, listE, initT_5, initT_6, initT_7, initT_8, resV, oneV, binA, unA, reduceCtorEq, Nat.reduceEqDiff, Nat.reduceAdd, Nat.reduceLT, Nat.reduceLeDiff, Nat.reduceMul, Nat.reduceSub, ↓reduceIte, decide_true, decide_false, Bool.true_eq_false, Bool.false_eq_true, Bool.not_true, Bool.not_false, if_true, if_false, and_true, true_and, memE, celE, w64, Nat.zero_add, Nat.add_zero, Nat.mul_one, putL, and_self, ldn, Bool.and_self, Bool.and_true, Bool.true_and, Bool.and_false, Bool.false_and, ext_2_0, ext_2_1, bne_self_eq_false, beq_self_eq_true, goG_undef, Bool.not_true, Bool.not_false, ge_iff_le, decide_eq_false hc, hc, m2]
    | false => simp (config := {implicitDefEqProofs := false, maxDischargeDepth := 20}) (disch := first | omega | (simp only [lenE]; done) | (simp only [lenE]; omega) | rfl | (simp only [lenE, markR_len]; done) | (simp only [lenE, markR_len]; omega)) only [runE, mapE, listE, initT_5, initT_6, initT_7, initT_8, resV, oneV, binA, unA, reduceCtorEq, Nat.reduceEqDiff, Nat.reduceAdd, Nat.reduceLT, Nat.reduceLeDiff, Nat.reduceMul, Nat.reduceSub, ↓reduceIte, decide_true, decide_false, Bool.true_eq_false, Bool.false_eq_true, Bool.not_true, Bool.not_false, if_true, if_false, and_true, true_and, memE, celE, w64, Nat.zero_add, Nat.add_zero, Nat.mul_one, putL, and_self, ldn, Bool.and_self, Bool.and_true, Bool.true_and, Bool.and_false, Bool.false_and, ext_2_0, ext_2_1, bne_self_eq_false, beq_self_eq_true, goG_undef, Bool.not_true, Bool.not_false, Bool.false_and]
  | false =>
    cases on with
    | true =>
      have m2 := m2 rfl
      simp (config := {implicitDefEqProofs := false, maxDischargeDepth := 20}) (disch := first | omega | (simp only [lenE]; done) | (simp only [lenE]; omega) | rfl | (simp only [lenE, markR_len]; done) | (simp only [lenE, markR_len]; omega)) only [runE, mapE, listE, initT_5, initT_6, initT_7, initT_8, resV, oneV, binA, unA, reduceCtorEq, Nat.reduceEqDiff, Nat.reduceAdd, Nat.reduceLT, Nat.reduceLeDiff, Nat.reduceMul, Nat.reduceSub, ↓reduceIte, decide_true, decide_false, Bool.true_eq_false, Bool.false_eq_true, Bool.not_true, Bool.not_false, if_true, if_false, and_true, true_and, memE, celE, w64, Nat.zero_add, Nat.add_zero, Nat.mul_one, putL, and_self, ldn, Bool.and_self, Bool.and_true, Bool.true_and, Bool.and_false, Bool.false_and, ext_2_0, ext_2_1, bne_self_eq_false, beq_self_eq_true, goG_undef, Bool.not_true, Bool.not_false, ge_iff_le, m2]
    | false => simp (config := {implicitDefEqProofs := false, maxDischargeDepth := 20}) (disch := first | omega | (simp only [lenE]; done) | (simp only [lenE]; omega) | rfl | (simp only [lenE, markR_len]; done) | (simp only [lenE, markR_len]; omega)) only [runE, mapE, listE, initT_5, initT_6, initT_7, initT_8, resV, oneV, binA, unA, reduceCtorEq, Nat.reduceEqDiff, Nat.reduceAdd, Nat.reduceLT, Nat.reduceLeDiff, Nat.reduceMul, Nat.reduceSub, ↓reduceIte, decide_true, decide_false, Bool.true_eq_false, Bool.false_eq_true, Bool.not_true, Bool.not_false, if_true, if_false, and_true, true_and, memE, celE, w64, Nat.zero_add, Nat.add_zero, Nat.mul_one, putL, and_self, ldn, Bool.and_self, Bool.and_true, Bool.true_and, Bool.and_false, Bool.false_and, ext_2_0, ext_2_1, bne_self_eq_false, beq_self_eq_true, goG_undef, Bool.not_true, Bool.not_false]
end Go.Proofs.Ytbjjkcoecaopcaa.Ab
end
section
namespace Go.Proofs.Ytbjjkcoecaopcaa.Ab
open Go Go.RowKit
set_option linter.unusedVariables false
theorem ws_word : ∀ (p r : List Char), p.all (fun c => c != ' ') = true → wordsSigns (p ++ ' ' :: r) = p :: wordsSigns r
  | [], r, _ => by rw [List.nil_append, wordsSigns]
  | c :: p, r, h => by
    rw [List.all_cons, Bool.and_eq_true] at h
    have hc : c ≠ ' ' := by simpa using h.1
    rw [List.cons_append, wordsSigns, ws_word p r h.2]
    intro e; exact hc e
def sumW : List Char := ['d', '7', 'e', '2', '6', '6', '3', 'b', 'e', '1', '3', '2', '0', 'b', '9', 'd', 'd', '3', 'e', 'c', '6', '4', '5', '2', 'a', '2', 'c', '1', '1', 'b', '4', '2', '2', 'b', '6', '4', 'a', '0', '9', '1', '6', '8', 'f', '6', 'a', 'a', '5', 'c', '1', '2', '8', 'b', '0', 'e', '7', '9', '2', '4', '6', 'c', '6', '0', 'b', '9']
def restW : List Char := ['a', 't', ' ', 'l', 'o', 'o', 'p', '.', 'e', 'x', 'a', 'm', 'p', 'l', 'e', '/', 'g', '0', '1', '1', '1', '1', '/', 'l', 'a', 'w', 's', '.', 'F', 'n', 'C', 'y', 'c', 'l', 'e', 's', ' ', 'l', 'o', 'o', 'p', '.', 'e', 'x', 'a', 'm', 'p', 'l', 'e', '/', 'g', '0', '1', '1', '1', '1', '/', 'l', 'a', 'w', 's', '.', 'F', 'n', 'C', 'o', 'm', 'm', 'o', 'n']
set_option maxRecDepth 100000 in
theorem head_is : Try.prog.initOrder = String.ofList (['h', 'a', 'r', 'n', 'e', 's', 's'] ++ ' ' :: (sumW ++ ' ' :: (['c', 'u', 't'] ++ ' ' :: restW))) := by kernel_rfl
set_option maxRecDepth 100000 in
theorem sum_ok : isSumSigns sumW = true := by kernel_rfl
theorem head_words : behindMainWord (wordsSigns Try.prog.initOrder.toList) = ['c', 'u', 't'] :: wordsSigns restW := by
  rw [head_is, String.toList_ofList, ws_word _ _ (by decide), ws_word _ _ (by decide), ws_word _ _ (by decide)]
  simp only [behindMainWord, sum_ok, Bool.and_true]
  rfl
set_option maxRecDepth 100000 in
theorem strip_cut (X : List (List Char)) : stripLifts liftWords (['c', 'u', 't'] :: X) = ([], ['c', 'u', 't'] :: X) := by kernel_rfl
theorem lifts_gen (P : Program) (X : List (List Char)) (h : behindMainWord (wordsSigns P.initOrder.toList) = ['c', 'u', 't'] :: X) : P.headLifts = [] := by
  unfold Program.headLifts
  rw [h, strip_cut]
  rfl
theorem enters_gen (P : Program) (X : List (List Char)) (h : behindMainWord (wordsSigns P.initOrder.toList) = ['c', 'u', 't'] :: X) (h1 : P.laysLater = false) (h2 : P.bearsReflect = false) (h3 : P.doorFits [] = true) : P.mayEnter = true := by
  unfold Program.mayEnter
  rw [h]
  simp only [strip_cut, h1, h2, h3]
  rfl
theorem finals_gen (P : Program) (X : List (List Char)) (h : behindMainWord (wordsSigns P.initOrder.toList) = ['c', 'u', 't'] :: X) : P.liftsFinal = false := by
  unfold Program.liftsFinal
  rw [lifts_gen P X h, h]
  rfl
theorem make_gen (P : Program) (X : List (List Char)) (h : behindMainWord (wordsSigns P.initOrder.toList) = ['c', 'u', 't'] :: X) : P.make = some .cut := by
  unfold Program.make
  rw [h]
  rfl
set_option maxRecDepth 100000 in
theorem enters : Try.prog.mayEnter = true := enters_gen _ _ head_words (by kernel_rfl) (by kernel_rfl) (by kernel_rfl)
theorem no_finals : Try.prog.liftsFinal = false := finals_gen _ _ head_words
theorem makes : Try.prog.make = some .cut := make_gen _ _ head_words
end Go.Proofs.Ytbjjkcoecaopcaa.Ab
end
