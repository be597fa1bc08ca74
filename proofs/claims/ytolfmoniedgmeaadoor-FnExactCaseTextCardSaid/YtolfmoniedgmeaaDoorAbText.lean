/- Cases: their texts (a Door seat). -/
import Derived.Test.YtolfmoniedgmeaaDoorAbGood
import Derived.Test.YtolfmoniedgmeaaDoorAbStr
namespace Go.Proofs.YtolfmoniedgmeaaDoor.Ab
open Go Go.RowKit
set_option linter.unusedVariables false
set_option linter.unusedSimpArgs false

def rowAt (k : Cs) (t : Nat) : List Int := [k.need.getD t 0, k.setup.getD t 0, k.unit.getD t 0, k.hold.getD t 0]
def rowsK (k : Cs) : List (List Int) := (List.range k.need.length).map (rowAt k)
theorem rowsK_len (k : Cs) : (rowsK k).length = k.need.length := by simp [rowsK]
theorem rowsK_at {k : Cs} {t : Nat} (h : t < k.need.length) : (rowsK k).getD t [] = rowAt k t := by
  rw [List.getD_eq_getElem?_getD, rowsK, List.getElem?_map, List.getElem?_range h]; rfl
theorem rowsK_take {k : Cs} {t : Nat} (h : t < k.need.length) : (rowsK k).take (t + 1) = (rowsK k).take t ++ [rowAt k t] := by
  have h' : t < (rowsK k).length := by rw [rowsK_len]; exact h
  rw [List.take_succ_eq_append_getElem h', ← rowsK_at h, List.getD_eq_getElem?_getD, List.getElem?_eq_getElem h']; rfl
theorem getD_bd {l : List Int} {b : Int} (hb : 0 ≤ b) (h : ∀ x ∈ l, 0 ≤ x ∧ x ≤ b) (i : Nat) : 0 ≤ l.getD i 0 ∧ l.getD i 0 ≤ b := by
  rw [List.getD_eq_getElem?_getD]
  rcases Nat.lt_or_ge i l.length with h1 | h1
  · rw [List.getElem?_eq_getElem h1]; exact h _ (List.getElem_mem h1)
  · rw [List.getElem?_eq_none h1]; exact ⟨Int.le_refl _, hb⟩
theorem row_small {k : Cs} (hg : Good k) (t : Nat) : SmallL (rowAt k t) := by
  have h1 := getD_bd (b := 20) (by omega) hg.need t
  have h2 := getD_bd (b := 99) (by omega) hg.setup t
  have h3 := getD_bd (b := 9) (by omega) hg.unit t
  have h4 := getD_bd (b := 9) (by omega) hg.hold t
  refine ⟨by simp [rowAt], by simp [rowAt], fun x hx => ?_⟩
  simp only [rowAt, List.mem_cons, List.not_mem_nil, or_false] at hx
  rcases hx with rfl | rfl | rfl | rfl <;> omega
theorem rowsK_small {k : Cs} (hg : Good k) : ∀ l ∈ rowsK k, SmallL l := by
  intro l hl
  obtain ⟨t, _, rfl⟩ := List.mem_map.1 hl
  exact row_small hg t
theorem bsl_four {m : Mem} {e : TypeId} {a b c d : Int} : bslA m e 1 4 [.int .i64 0, .int .i64 0, .int .i64 0, .int .i64 0] [(0, 1, .int .i64 a), (1, 1, .int .i64 b), (2, 1, .int .i64 c), (3, 1, .int .i64 d)] = some (.slice (some ⟨m.length, 0, none⟩) 4 1, m ++ [⟨.own, e, [.int .i64 a, .int .i64 b, .int .i64 c, .int .i64 d]⟩]) := rfl
theorem bsl_sl4 {m : Mem} {e : TypeId} {A : Option Addr} {n c : Nat} : bslA m e 1 1 [.slice none 0 0] [(0, 1, .slice A n c)] = some (.slice (some ⟨m.length, 0, none⟩) 1 1, m ++ [⟨.own, e, [.slice A n c]⟩]) := rfl
/-- What the text of a Case is. -/
def textK (k : Cs) : ByteArray := if k.good = true then rowsS (rowsK k) else ⟨#[]⟩
theorem implCaseText_rc (m : Mem) (v : Value) (k : Cs) (h : CaseA m v k) : RC Tryd.prog 8 [v] m (AnsV (.tuple #[.string (textK k), .bool k.good])) := by
  refine rc_of_run mixed ok_impl_CaseText (by simp) (go_start _ _ _ ?_)
  obtain ⟨v1, v2, v3, v4, rfl, h1, h2, h3, h4⟩ := h.ro.ok
  simp (config := {implicitDefEqProofs := false, maxDischargeDepth := 20}) (disch := first | omega | (simp only [lenE]; done) | (simp only [lenE]; omega) | rfl | (simp only [lenE, markR_len]; done) | (simp only [lenE, markR_len]; omega)) only [runE, mapE, listE, initT_5, initT_6, initT_7, initT_8, resV, oneV, binA, unA, reduceCtorEq, Nat.reduceEqDiff, Nat.reduceAdd, Nat.reduceLT, Nat.reduceLeDiff, Nat.reduceMul, Nat.reduceSub, ↓reduceIte, decide_true, decide_false, Bool.true_eq_false, Bool.false_eq_true, Bool.not_true, Bool.not_false, if_true, if_false, and_true, true_and, memE, celE, w64, Nat.zero_add, Nat.add_zero, Nat.mul_one, putL, and_self, ldn, c_impl_CaseText, r_impl_CaseText]
  refine callH_rc (implIsCase_rc _ _ k (h.ro.ext _)) ?_
  rintro r n1 ⟨rfl, nr1⟩
  cases hg : k.good with
  | false =>
    simp (config := {implicitDefEqProofs := false, maxDischargeDepth := 20}) (disch := first | omega | (simp only [lenE]; done) | (simp only [lenE]; omega) | rfl | (simp only [lenE, markR_len]; done) | (simp only [lenE, markR_len]; omega)) only [runE, mapE, listE, initT_5, initT_6, initT_7, initT_8, resV, oneV, binA, unA, reduceCtorEq, Nat.reduceEqDiff, Nat.reduceAdd, Nat.reduceLT, Nat.reduceLeDiff, Nat.reduceMul, Nat.reduceSub, ↓reduceIte, decide_true, decide_false, Bool.true_eq_false, Bool.false_eq_true, Bool.not_true, Bool.not_false, if_true, if_false, and_true, true_and, memE, celE, w64, Nat.zero_add, Nat.add_zero, Nat.mul_one, putL, and_self, ldn]
    try simp only [List.append_assoc, List.cons_append, List.nil_append, List.append_nil]
    exact ⟨_, rfl, by (repeat (first | exact noRo_nil | assumption | apply noRo_own | apply noRo_dead | apply noRo_app)), by simp [textK, hg], by (repeat (first | exact noRo_nil | assumption | apply noRo_own | apply noRo_dead | apply noRo_app))⟩
  | true =>
  have hG := good_iff.1 hg
  have n8 := hG.n8
  have ls := hG.ls
  have lu := hG.lu
  have lh := hG.lh
  have hX0 := ((Ext.refl m).one 28 [v1, v2, v3, v4]).app nr1
  have hb0 : OwnB (roM m ++ [⟨.own, 28, [v1, v2, v3, v4]⟩] ++ n1) m.length 28 [v1, v2, v3, v4] := (OwnB.here (roM_len m).symm).ext _
  obtain ⟨A, hA⟩ : ∃ A : Mem, A = roM m ++ [⟨.own, 28, [v1, v2, v3, v4]⟩] ++ n1 := ⟨_, rfl⟩
  rw [← hA] at hX0 hb0
  simp (config := {implicitDefEqProofs := false, maxDischargeDepth := 20}) (disch := first | omega | (simp only [lenE]; done) | (simp only [lenE]; omega) | rfl | (simp only [lenE, markR_len]; done) | (simp only [lenE, markR_len]; omega)) only [runE, mapE, listE, initT_5, initT_6, initT_7, initT_8, resV, oneV, binA, unA, reduceCtorEq, Nat.reduceEqDiff, Nat.reduceAdd, Nat.reduceLT, Nat.reduceLeDiff, Nat.reduceMul, Nat.reduceSub, ↓reduceIte, decide_true, decide_false, Bool.true_eq_false, Bool.false_eq_true, Bool.not_true, Bool.not_false, if_true, if_false, and_true, true_and, memE, celE, w64, Nat.zero_add, Nat.add_zero, Nat.mul_one, putL, and_self, ldn]
  rw [← hA]
  simp (config := {implicitDefEqProofs := false, maxDischargeDepth := 20}) (disch := first | omega | (simp only [lenE]; done) | (simp only [lenE]; omega) | rfl | (simp only [lenE, markR_len]; done) | (simp only [lenE, markR_len]; omega)) only [runE, mapE, listE, initT_5, initT_6, initT_7, initT_8, resV, oneV, binA, unA, reduceCtorEq, Nat.reduceEqDiff, Nat.reduceAdd, Nat.reduceLT, Nat.reduceLeDiff, Nat.reduceMul, Nat.reduceSub, ↓reduceIte, decide_true, decide_false, Bool.true_eq_false, Bool.false_eq_true, Bool.not_true, Bool.not_false, if_true, if_false, and_true, true_and, memE, celE, w64, Nat.zero_add, Nat.add_zero, Nat.mul_one, putL, and_self, ldn, bsl_no]
  have hb0' := hb0.ext [⟨.own, 22, []⟩]
  simp (config := {implicitDefEqProofs := false, maxDischargeDepth := 20}) (disch := first | omega | (simp only [lenE]; done) | (simp only [lenE]; omega) | rfl | (simp only [lenE, markR_len]; done) | (simp only [lenE, markR_len]; omega)) only [runE, mapE, listE, initT_5, initT_6, initT_7, initT_8, resV, oneV, binA, unA, reduceCtorEq, Nat.reduceEqDiff, Nat.reduceAdd, Nat.reduceLT, Nat.reduceLeDiff, Nat.reduceMul, Nat.reduceSub, ↓reduceIte, decide_true, decide_false, Bool.true_eq_false, Bool.false_eq_true, Bool.not_true, Bool.not_false, if_true, if_false, and_true, true_and, memE, celE, w64, Nat.zero_add, Nat.add_zero, Nat.mul_one, putL, and_self, ldn, hb0'.rd, h1.len]
  have hAl := hX0.len
  refine loop_inv mixed (fun s => ∃ (i : Nat) (M : Mem) (rid : Nat) (ids : List Nat), i ≤ k.need.length ∧ s.m = M ∧ Ext m M ∧ ids.length = i ∧ OwnB M m.length 28 [v1, v2, v3, v4] ∧ OwnB M rid 22 (ids.map fun b => .slice (some ⟨b, 0, none⟩) 4 1) ∧ m.length < rid ∧ (∀ j b, ids[j]? = some b → b ≠ rid ∧ OwnB M b 3 ((rowAt k j).map (Value.int .i64))) ∧ s.t 1 = .pointer (some ⟨m.length, 0, none⟩) ∧ s.t 4 = .slice (some ⟨rid, 0, none⟩) i 1 ∧ s.t 12 = .int .i64 k.need.length ∧ s.t 13 = .int .i64 i) (fun s => k.need.length - (intOf (s.t 13)).toNat)
    ⟨0, _, A.length, [], by omega, rfl, hX0.one _ _, rfl, hb0', OwnB.here rfl, by have := hb0.lt; omega, fun j b hj => by simp at hj, by simp only [put_t, put_t', put_m, putT_t, putT_t', putT_m, init_t, init_m, initT_0, initT_1, initT_2, initT_3, initT_4, initT_5, initT_6, initT_7, initT_8, Nat.reduceEqDiff, ↓reduceIte], by simp only [put_t, put_t', put_m, putT_t, putT_t', putT_m, init_t, init_m, initT_0, initT_1, initT_2, initT_3, initT_4, initT_5, initT_6, initT_7, initT_8, Nat.reduceEqDiff, ↓reduceIte], rfl, rfl⟩ ?_
  rintro s ⟨i, M, rid, ids, hi, tm, hX, hil, hb, ho, hrid, hids, t1, t4, t12, t13⟩
  by_cases hlt : i < k.need.length
  · have hlt' : (i : Int) < k.need.length := by omega
    have g1 := hX.ints h1
    have g2 := hX.ints h2
    have g3 := hX.ints h3
    have g4 := hX.ints h4
    have a1 := g1.at_ i hlt
    have a2 := g2.at_ i (by omega)
    have a3 := g3.at_ i (by omega)
    have a4 := g4.at_ i (by omega)
    have d1 := g1.ld i hlt
    have d2 := g2.ld i (by omega)
    have d3 := g3.ld i (by omega)
    have d4 := g4.ld i (by omega)
    obtain ⟨M1, hM1⟩ : ∃ M' : Mem, M' = M ++ [⟨.own, 3, [.int .i64 (k.need.getD i 0), .int .i64 (k.setup.getD i 0), .int .i64 (k.unit.getD i 0), .int .i64 (k.hold.getD i 0)]⟩] := ⟨_, rfl⟩
    have hX1 : Ext m M1 := by rw [hM1]; exact hX.one _ _
    have hbp : OwnB M1 M.length 3 ((rowAt k i).map (Value.int .i64)) := by rw [hM1]; exact OwnB.here rfl
    have ho1 : OwnB M1 rid 22 (ids.map fun b => .slice (some ⟨b, 0, none⟩) 4 1) := by rw [hM1]; exact ho.ext _
    have hb1 : OwnB M1 m.length 28 [v1, v2, v3, v4] := by rw [hM1]; exact hb.ext _
    have hM1l : M1.length = M.length + 1 := by rw [hM1]; simp
    have hol := ho.lt
    simp (config := {implicitDefEqProofs := false, maxDischargeDepth := 20}) (disch := first | omega | (simp only [lenE]; done) | (simp only [lenE]; omega) | rfl | (simp only [lenE, markR_len]; done) | (simp only [lenE, markR_len]; omega)) only [runE, mapE, listE, initT_5, initT_6, initT_7, initT_8, resV, oneV, binA, unA, reduceCtorEq, Nat.reduceEqDiff, Nat.reduceAdd, Nat.reduceLT, Nat.reduceLeDiff, Nat.reduceMul, Nat.reduceSub, ↓reduceIte, decide_true, decide_false, Bool.true_eq_false, Bool.false_eq_true, Bool.not_true, Bool.not_false, if_true, if_false, and_true, true_and, memE, celE, w64, Nat.zero_add, Nat.add_zero, Nat.mul_one, putL, and_self, ldn, tm, t1, t4, t12, t13, hlt', hb.rd, a1, a2, a3, a4, d1, d2, d3, d4, bsl_four]
    rw [← hM1]
    have happ := app_back (M := M1) (id2 := M1.length) (sz := 1) (byt := 24) (n := i) (ys := [.slice (some ⟨M.length, 0, none⟩) 4 1]) ho1 rfl (by rw [List.length_map]; omega) rfl rfl (by omega) (by omega)
    simp (config := {implicitDefEqProofs := false, maxDischargeDepth := 20}) (disch := first | omega | (simp only [lenE]; done) | (simp only [lenE]; omega) | rfl | (simp only [lenE, markR_len]; done) | (simp only [lenE, markR_len]; omega)) only [runE, mapE, listE, initT_5, initT_6, initT_7, initT_8, resV, oneV, binA, unA, reduceCtorEq, Nat.reduceEqDiff, Nat.reduceAdd, Nat.reduceLT, Nat.reduceLeDiff, Nat.reduceMul, Nat.reduceSub, ↓reduceIte, decide_true, decide_false, Bool.true_eq_false, Bool.false_eq_true, Bool.not_true, Bool.not_false, if_true, if_false, and_true, true_and, memE, celE, w64, Nat.zero_add, Nat.add_zero, Nat.mul_one, putL, and_self, ldn, t1, t4, t12, t13, bsl_sl4, happ]
    refine ⟨⟨i + 1, _, M1.length + 1, ids ++ [M.length], by omega, rfl, ((hX1.dead (by omega)).one _ _).one _ _, by simp [hil], ((OwnB.set_ne hb1 (by omega) _).ext _).ext _, ?_, by omega, fun j c hj => ?_, rfl, by simp⟩, by simp [intOf]; omega⟩
    · rw [List.map_append]
      exact OwnB.here (by simp)
    · by_cases e : j < ids.length
      · rw [List.getElem?_append_left e] at hj
        obtain ⟨q1, q2⟩ := hids j c hj
        have q3 := q2.lt
        refine ⟨by omega, ((OwnB.set_ne (?_ : OwnB M1 c _ _) (Ne.symm q1) _).ext _).ext _⟩
        rw [hM1]; exact q2.ext _
      · rw [List.getElem?_append_right (by omega)] at hj
        have hj0 : j - ids.length = 0 := by
          rcases Nat.eq_zero_or_pos (j - ids.length) with h0 | h0
          · exact h0
          · rw [List.getElem?_eq_none (by simp; omega)] at hj; cases hj
        rw [hj0] at hj
        obtain rfl : M.length = c := by simpa using hj
        have hjk : j = i := by omega
        subst hjk
        exact ⟨by omega, ((OwnB.set_ne hbp (by omega) _).ext _).ext _⟩
  · have hlt' : ¬ ((i : Int) < k.need.length) := by omega
    have e : i = k.need.length := by omega
    subst e
    have hTab : TabA M (.slice (some ⟨rid, 0, none⟩) k.need.length 1) (rowsK k) := by
      have := TabA.blk (m := M) (id := rid) (fl := 1) (T := rowsK k) (by rw [rowsK_len]; omega) fun j hj => by
        rw [rowsK_len] at hj
        have hi' : ids[j]? = some ids[j] := List.getElem?_eq_getElem (by omega)
        obtain ⟨q1, q2⟩ := hids j _ hi'
        refine ⟨.slice (some ⟨ids[j], 0, none⟩) 4 1, ?_, ?_⟩
        · rw [ho.rd, List.getElem?_map, hi']; rfl
        · rw [rowsK_at hj]
          refine IntsA.of_block (l := rowAt k j) (by simp [rowAt]) (fun x hx => ?_) (q2.rdl rfl)
          rw [Nat.zero_add, q2.rd, List.getElem?_map, List.getElem?_eq_getElem hx, List.getD_eq_getElem?_getD, List.getElem?_eq_getElem hx]
          rfl
      rwa [rowsK_len] at this
    simp (config := {implicitDefEqProofs := false, maxDischargeDepth := 20}) (disch := first | omega | (simp only [lenE]; done) | (simp only [lenE]; omega) | rfl | (simp only [lenE, markR_len]; done) | (simp only [lenE, markR_len]; omega)) only [runE, mapE, listE, initT_5, initT_6, initT_7, initT_8, resV, oneV, binA, unA, reduceCtorEq, Nat.reduceEqDiff, Nat.reduceAdd, Nat.reduceLT, Nat.reduceLeDiff, Nat.reduceMul, Nat.reduceSub, ↓reduceIte, decide_true, decide_false, Bool.true_eq_false, Bool.false_eq_true, Bool.not_true, Bool.not_false, if_true, if_false, and_true, true_and, memE, celE, w64, Nat.zero_add, Nat.add_zero, Nat.mul_one, putL, and_self, ldn, tm, t1, t4, t12, t13, hlt']
    refine callH_rc (rowsText_rc _ _ (rowsK k) hTab (rowsK_small hG) (by rw [rowsK_len]; omega)) ?_
    rintro r n2 ⟨rfl, nr2⟩
    simp (config := {implicitDefEqProofs := false, maxDischargeDepth := 20}) (disch := first | omega | (simp only [lenE]; done) | (simp only [lenE]; omega) | rfl | (simp only [lenE, markR_len]; done) | (simp only [lenE, markR_len]; omega)) only [runE, mapE, listE, initT_5, initT_6, initT_7, initT_8, resV, oneV, binA, unA, reduceCtorEq, Nat.reduceEqDiff, Nat.reduceAdd, Nat.reduceLT, Nat.reduceLeDiff, Nat.reduceMul, Nat.reduceSub, ↓reduceIte, decide_true, decide_false, Bool.true_eq_false, Bool.false_eq_true, Bool.not_true, Bool.not_false, if_true, if_false, and_true, true_and, memE, celE, w64, Nat.zero_add, Nat.add_zero, Nat.mul_one, putL, and_self, ldn, ext_2_0, ext_2_1]
    exact ext_ansV (hX.app nr2) (by rw [textK, if_pos hg])
theorem l2Text_rc (m : Mem) (v : Value) (k : Cs) (h : CaseA m v k) (hG : Good k) : RC Tryd.prog 16 [v] m (AnsV (.string (rowsS (rowsK k)))) := by
  refine rc_of_run mixed ok_spec_l2Text (by simp) (go_start _ _ _ ?_)
  obtain ⟨v1, v2, v3, v4, rfl, h1, h2, h3, h4⟩ := h.ro.ok
  have n8 := hG.n8
  have ls := hG.ls
  have lu := hG.lu
  have lh := hG.lh
  have hsm := rowsK_small hG
  simp (config := {implicitDefEqProofs := false, maxDischargeDepth := 20}) (disch := first | omega | (simp only [lenE]; done) | (simp only [lenE]; omega) | rfl | (simp only [lenE, markR_len]; done) | (simp only [lenE, markR_len]; omega)) only [runE, mapE, listE, initT_5, initT_6, initT_7, initT_8, resV, oneV, binA, unA, reduceCtorEq, Nat.reduceEqDiff, Nat.reduceAdd, Nat.reduceLT, Nat.reduceLeDiff, Nat.reduceMul, Nat.reduceSub, ↓reduceIte, decide_true, decide_false, Bool.true_eq_false, Bool.false_eq_true, Bool.not_true, Bool.not_false, if_true, if_false, and_true, true_and, memE, celE, w64, Nat.zero_add, Nat.add_zero, Nat.mul_one, putL, and_self, ldn, c_spec_l2Text, r_spec_l2Text]
  have e0 : (⟨#[]⟩ : ByteArray) = ⟨(rowT ((rowsK k).take 0)).toArray⟩ := rfl
  refine loop_inv mixed (fun s => ∃ (i : Nat) (M : Mem), i ≤ k.need.length ∧ s.m = M ∧ Ext m M ∧ OwnB M m.length 28 [v1, v2, v3, v4] ∧ s.t 1 = .pointer (some ⟨m.length, 0, none⟩) ∧ s.t 3 = .string ⟨(rowT ((rowsK k).take i)).toArray⟩ ∧ s.t 4 = .int .i64 i) (fun s => k.need.length - (intOf (s.t 4)).toNat)
    ⟨0, _, by omega, rfl, (Ext.refl m).one _ _, OwnB.here (roM_len m).symm, by simp only [put_t, put_t', put_m, putT_t, putT_t', putT_m, init_t, init_m, initT_0, initT_1, initT_2, initT_3, initT_4, initT_5, initT_6, initT_7, initT_8, Nat.reduceEqDiff, ↓reduceIte]; try simp [roM_len], by rw [← e0]; rfl, rfl⟩ ?_
  rintro s ⟨i, M, hi, tm, hX, hb, t1, t3, t4⟩
  have g1 := hX.ints h1
  have g2 := hX.ints h2
  have g3 := hX.ints h3
  have g4 := hX.ints h4
  by_cases hlt : i < k.need.length
  · have hlt' : (i : Int) < k.need.length := by omega
    have a1 := g1.at_ i hlt
    have a2 := g2.at_ i (by omega)
    have a3 := g3.at_ i (by omega)
    have a4 := g4.at_ i (by omega)
    have d1 := g1.ld i hlt
    have d2 := g2.ld i (by omega)
    have d3 := g3.ld i (by omega)
    have d4 := g4.ld i (by omega)
    have htk := rowT_step (rowsK_take hlt) (by rw [rowsK_len]; omega)
    have hql := row_small hG i
    obtain ⟨a, ha⟩ : ∃ a, a = k.need.getD i 0 := ⟨_, rfl⟩
    obtain ⟨b, hb'⟩ : ∃ b, b = k.setup.getD i 0 := ⟨_, rfl⟩
    obtain ⟨c, hc'⟩ : ∃ c, c = k.unit.getD i 0 := ⟨_, rfl⟩
    obtain ⟨d, hd'⟩ : ∃ d, d = k.hold.getD i 0 := ⟨_, rfl⟩
    have hrow : rowAt k i = [a, b, c, d] := by rw [ha, hb', hc', hd']; rfl
    rw [hrow] at htk hql
    rw [numT_four] at htk
    rw [← ha] at d1
    rw [← hb'] at d2
    rw [← hc'] at d3
    rw [← hd'] at d4
    have qa := hql.2.2 a (by simp)
    have qb := hql.2.2 b (by simp)
    have qc := hql.2.2 c (by simp)
    have qd := hql.2.2 d (by simp)
    have la := itoa_len7 qa.1 qa.2
    have lb := itoa_len7 qb.1 qb.2
    have lc := itoa_len7 qc.1 qc.2
    have ld := itoa_len7 qd.1 qd.2
    have hXl : (rowT ((rowsK k).take i)).length ≤ 648 := by
      have := rowT_len (T := (rowsK k).take i) fun l hl => hsm l (List.mem_of_mem_take hl)
      rw [List.length_take, rowsK_len] at this
      omega
    obtain ⟨X, hX'⟩ : ∃ X, X = rowT ((rowsK k).take i) := ⟨_, rfl⟩
    rw [← hX'] at t3 htk hXl
    obtain ⟨TA, hTA⟩ : ∃ TA, TA = Lib.itoa a := ⟨_, rfl⟩
    obtain ⟨TB, hTB⟩ : ∃ TB, TB = Lib.itoa b := ⟨_, rfl⟩
    obtain ⟨TC, hTC⟩ : ∃ TC, TC = Lib.itoa c := ⟨_, rfl⟩
    obtain ⟨TD, hTD⟩ : ∃ TD, TD = Lib.itoa d := ⟨_, rfl⟩
    rw [← hTA] at htk la
    rw [← hTB] at htk lb
    rw [← hTC] at htk lc
    rw [← hTD] at htk ld
    obtain ⟨Y, hY⟩ : ∃ Y, Y = if i = 0 then X else X ++ [32] := ⟨_, rfl⟩
    have hYl : Y.length ≤ 649 := by rw [hY]; split <;> (try simp) <;> omega
    obtain ⟨Z, hZ⟩ : ∃ Z, Z = Y ++ TA ++ [47] ++ TB ++ [47] ++ TC ++ [47] ++ TD := ⟨_, rfl⟩
    have htk' : rowT ((rowsK k).take (i + 1)) = Z := by
      rw [htk, hZ, hY]
      by_cases e : i = 0
      · subst e
        have : X = [] := by rw [hX']; rfl
        rw [this]; simp
      · simp [e]
    have c2 := add_str (x := Y) (y := TA) (by omega) rfl
    have c3 := add_str (x := Y ++ TA) (y := [47]) (by simp; omega) rfl
    have c4 := add_str (x := Y ++ TA ++ [47]) (y := TB) (by simp; omega) rfl
    have c5 := add_str (x := Y ++ TA ++ [47] ++ TB) (y := [47]) (by simp; omega) rfl
    have c6 := add_str (x := Y ++ TA ++ [47] ++ TB ++ [47]) (y := TC) (by simp; omega) rfl
    have c7 := add_str (x := Y ++ TA ++ [47] ++ TB ++ [47] ++ TC) (y := [47]) (by simp; omega) rfl
    have c8 := add_str (x := Y ++ TA ++ [47] ++ TB ++ [47] ++ TC ++ [47]) (y := TD) (by simp; omega) hZ.symm
    have c2' := add_if (x := Y) (y := TA) (by omega) rfl
    have c3' := add_if (x := Y ++ TA) (y := [47]) (by simp; omega) rfl
    have c4' := add_if (x := Y ++ TA ++ [47]) (y := TB) (by simp; omega) rfl
    have c5' := add_if (x := Y ++ TA ++ [47] ++ TB) (y := [47]) (by simp; omega) rfl
    have c6' := add_if (x := Y ++ TA ++ [47] ++ TB ++ [47]) (y := TC) (by simp; omega) rfl
    have c7' := add_if (x := Y ++ TA ++ [47] ++ TB ++ [47] ++ TC) (y := [47]) (by simp; omega) rfl
    have c8' := add_if (x := Y ++ TA ++ [47] ++ TB ++ [47] ++ TC ++ [47]) (y := TD) (by simp; omega) hZ.symm
    by_cases hk0 : i = 0
    · have hd0 : ¬ (0 < (i : Int)) := by omega
      rw [if_pos hk0] at hY
      rw [← hY] at t3
      simp (config := {implicitDefEqProofs := false, maxDischargeDepth := 20}) (disch := first | omega | (simp only [lenE]; done) | (simp only [lenE]; omega) | rfl | (simp only [lenE, markR_len]; done) | (simp only [lenE, markR_len]; omega)) only [runE, mapE, listE, initT_5, initT_6, initT_7, initT_8, resV, oneV, binA, unA, reduceCtorEq, Nat.reduceEqDiff, Nat.reduceAdd, Nat.reduceLT, Nat.reduceLeDiff, Nat.reduceMul, Nat.reduceSub, ↓reduceIte, decide_true, decide_false, Bool.true_eq_false, Bool.false_eq_true, Bool.not_true, Bool.not_false, if_true, if_false, and_true, true_and, memE, celE, w64, Nat.zero_add, Nat.add_zero, Nat.mul_one, putL, and_self, ldn, tm, t1, t3, t4, hlt', gt_iff_lt, hd0, hb.rd, g1.len, a1, a2, a3, a4, d1, d2, d3, d4]
      refine rcallH_rc (l1Num_rc M a qa.1 qa.2) ?_
      rintro r m1 ⟨rfl, nr1⟩
      rw [← hTA]
      simp (config := {implicitDefEqProofs := false, maxDischargeDepth := 20}) (disch := first | omega | (simp only [lenE]; done) | (simp only [lenE]; omega) | rfl | (simp only [lenE, markR_len]; done) | (simp only [lenE, markR_len]; omega)) only [runE, mapE, listE, initT_5, initT_6, initT_7, initT_8, resV, oneV, binA, unA, reduceCtorEq, Nat.reduceEqDiff, Nat.reduceAdd, Nat.reduceLT, Nat.reduceLeDiff, Nat.reduceMul, Nat.reduceSub, ↓reduceIte, decide_true, decide_false, Bool.true_eq_false, Bool.false_eq_true, Bool.not_true, Bool.not_false, if_true, if_false, and_true, true_and, memE, celE, w64, Nat.zero_add, Nat.add_zero, Nat.mul_one, putL, and_self, ldn, c2, c2', c3, c3']
      refine rcallH_rc (l1Num_rc _ b qb.1 qb.2) ?_
      rintro r m2 ⟨rfl, nr2⟩
      rw [← hTB]
      simp (config := {implicitDefEqProofs := false, maxDischargeDepth := 20}) (disch := first | omega | (simp only [lenE]; done) | (simp only [lenE]; omega) | rfl | (simp only [lenE, markR_len]; done) | (simp only [lenE, markR_len]; omega)) only [runE, mapE, listE, initT_5, initT_6, initT_7, initT_8, resV, oneV, binA, unA, reduceCtorEq, Nat.reduceEqDiff, Nat.reduceAdd, Nat.reduceLT, Nat.reduceLeDiff, Nat.reduceMul, Nat.reduceSub, ↓reduceIte, decide_true, decide_false, Bool.true_eq_false, Bool.false_eq_true, Bool.not_true, Bool.not_false, if_true, if_false, and_true, true_and, memE, celE, w64, Nat.zero_add, Nat.add_zero, Nat.mul_one, putL, and_self, ldn, c4, c4', c5, c5']
      refine rcallH_rc (l1Num_rc _ c qc.1 qc.2) ?_
      rintro r m3 ⟨rfl, nr3⟩
      rw [← hTC]
      simp (config := {implicitDefEqProofs := false, maxDischargeDepth := 20}) (disch := first | omega | (simp only [lenE]; done) | (simp only [lenE]; omega) | rfl | (simp only [lenE, markR_len]; done) | (simp only [lenE, markR_len]; omega)) only [runE, mapE, listE, initT_5, initT_6, initT_7, initT_8, resV, oneV, binA, unA, reduceCtorEq, Nat.reduceEqDiff, Nat.reduceAdd, Nat.reduceLT, Nat.reduceLeDiff, Nat.reduceMul, Nat.reduceSub, ↓reduceIte, decide_true, decide_false, Bool.true_eq_false, Bool.false_eq_true, Bool.not_true, Bool.not_false, if_true, if_false, and_true, true_and, memE, celE, w64, Nat.zero_add, Nat.add_zero, Nat.mul_one, putL, and_self, ldn, c6, c6', c7, c7']
      refine rcallH_rc (l1Num_rc _ d qd.1 qd.2) ?_
      rintro r m4 ⟨rfl, nr4⟩
      rw [← hTD]
      simp (config := {implicitDefEqProofs := false, maxDischargeDepth := 20}) (disch := first | omega | (simp only [lenE]; done) | (simp only [lenE]; omega) | rfl | (simp only [lenE, markR_len]; done) | (simp only [lenE, markR_len]; omega)) only [runE, mapE, listE, initT_5, initT_6, initT_7, initT_8, resV, oneV, binA, unA, reduceCtorEq, Nat.reduceEqDiff, Nat.reduceAdd, Nat.reduceLT, Nat.reduceLeDiff, Nat.reduceMul, Nat.reduceSub, ↓reduceIte, decide_true, decide_false, Bool.true_eq_false, Bool.false_eq_true, Bool.not_true, Bool.not_false, if_true, if_false, and_true, true_and, memE, celE, w64, Nat.zero_add, Nat.add_zero, Nat.mul_one, putL, and_self, ldn, t1, t4, c8, c8']
      exact ⟨⟨i + 1, _, by omega, rfl, (((hX.app nr1).app nr2).app nr3).app nr4, (((hb.ext _).ext _).ext _).ext _, by rw [htk'], by simp⟩, by simp [intOf]; omega⟩
    · have hd0 : 0 < (i : Int) := by omega
      rw [if_neg hk0] at hY
      have c1 := add_str (x := X) (y := [32]) (by simp; omega) hY.symm
      have c1' := add_if (x := X) (y := [32]) (by simp; omega) hY.symm
      simp (config := {implicitDefEqProofs := false, maxDischargeDepth := 20}) (disch := first | omega | (simp only [lenE]; done) | (simp only [lenE]; omega) | rfl | (simp only [lenE, markR_len]; done) | (simp only [lenE, markR_len]; omega)) only [runE, mapE, listE, initT_5, initT_6, initT_7, initT_8, resV, oneV, binA, unA, reduceCtorEq, Nat.reduceEqDiff, Nat.reduceAdd, Nat.reduceLT, Nat.reduceLeDiff, Nat.reduceMul, Nat.reduceSub, ↓reduceIte, decide_true, decide_false, Bool.true_eq_false, Bool.false_eq_true, Bool.not_true, Bool.not_false, if_true, if_false, and_true, true_and, memE, celE, w64, Nat.zero_add, Nat.add_zero, Nat.mul_one, putL, and_self, ldn, tm, t1, t3, t4, hlt', gt_iff_lt, hd0, hb.rd, g1.len, a1, a2, a3, a4, d1, d2, d3, d4, c1, c1']
      refine rcallH_rc (l1Num_rc M a qa.1 qa.2) ?_
      rintro r m1 ⟨rfl, nr1⟩
      rw [← hTA]
      simp (config := {implicitDefEqProofs := false, maxDischargeDepth := 20}) (disch := first | omega | (simp only [lenE]; done) | (simp only [lenE]; omega) | rfl | (simp only [lenE, markR_len]; done) | (simp only [lenE, markR_len]; omega)) only [runE, mapE, listE, initT_5, initT_6, initT_7, initT_8, resV, oneV, binA, unA, reduceCtorEq, Nat.reduceEqDiff, Nat.reduceAdd, Nat.reduceLT, Nat.reduceLeDiff, Nat.reduceMul, Nat.reduceSub, ↓reduceIte, decide_true, decide_false, Bool.true_eq_false, Bool.false_eq_true, Bool.not_true, Bool.not_false, if_true, if_false, and_true, true_and, memE, celE, w64, Nat.zero_add, Nat.add_zero, Nat.mul_one, putL, and_self, ldn, c2, c2', c3, c3']
      refine rcallH_rc (l1Num_rc _ b qb.1 qb.2) ?_
      rintro r m2 ⟨rfl, nr2⟩
      rw [← hTB]
      simp (config := {implicitDefEqProofs := false, maxDischargeDepth := 20}) (disch := first | omega | (simp only [lenE]; done) | (simp only [lenE]; omega) | rfl | (simp only [lenE, markR_len]; done) | (simp only [lenE, markR_len]; omega)) only [runE, mapE, listE, initT_5, initT_6, initT_7, initT_8, resV, oneV, binA, unA, reduceCtorEq, Nat.reduceEqDiff, Nat.reduceAdd, Nat.reduceLT, Nat.reduceLeDiff, Nat.reduceMul, Nat.reduceSub, ↓reduceIte, decide_true, decide_false, Bool.true_eq_false, Bool.false_eq_true, Bool.not_true, Bool.not_false, if_true, if_false, and_true, true_and, memE, celE, w64, Nat.zero_add, Nat.add_zero, Nat.mul_one, putL, and_self, ldn, c4, c4', c5, c5']
      refine rcallH_rc (l1Num_rc _ c qc.1 qc.2) ?_
      rintro r m3 ⟨rfl, nr3⟩
      rw [← hTC]
      simp (config := {implicitDefEqProofs := false, maxDischargeDepth := 20}) (disch := first | omega | (simp only [lenE]; done) | (simp only [lenE]; omega) | rfl | (simp only [lenE, markR_len]; done) | (simp only [lenE, markR_len]; omega)) only [runE, mapE, listE, initT_5, initT_6, initT_7, initT_8, resV, oneV, binA, unA, reduceCtorEq, Nat.reduceEqDiff, Nat.reduceAdd, Nat.reduceLT, Nat.reduceLeDiff, Nat.reduceMul, Nat.reduceSub, ↓reduceIte, decide_true, decide_false, Bool.true_eq_false, Bool.false_eq_true, Bool.not_true, Bool.not_false, if_true, if_false, and_true, true_and, memE, celE, w64, Nat.zero_add, Nat.add_zero, Nat.mul_one, putL, and_self, ldn, c6, c6', c7, c7']
      refine rcallH_rc (l1Num_rc _ d qd.1 qd.2) ?_
      rintro r m4 ⟨rfl, nr4⟩
      rw [← hTD]
      simp (config := {implicitDefEqProofs := false, maxDischargeDepth := 20}) (disch := first | omega | (simp only [lenE]; done) | (simp only [lenE]; omega) | rfl | (simp only [lenE, markR_len]; done) | (simp only [lenE, markR_len]; omega)) only [runE, mapE, listE, initT_5, initT_6, initT_7, initT_8, resV, oneV, binA, unA, reduceCtorEq, Nat.reduceEqDiff, Nat.reduceAdd, Nat.reduceLT, Nat.reduceLeDiff, Nat.reduceMul, Nat.reduceSub, ↓reduceIte, decide_true, decide_false, Bool.true_eq_false, Bool.false_eq_true, Bool.not_true, Bool.not_false, if_true, if_false, and_true, true_and, memE, celE, w64, Nat.zero_add, Nat.add_zero, Nat.mul_one, putL, and_self, ldn, t1, t4, c8, c8']
      exact ⟨⟨i + 1, _, by omega, rfl, (((hX.app nr1).app nr2).app nr3).app nr4, (((hb.ext _).ext _).ext _).ext _, by rw [htk'], by simp⟩, by simp [intOf]; omega⟩
  · have hlt' : ¬ ((i : Int) < k.need.length) := by omega
    have e : i = k.need.length := by omega
    subst e
    rw [List.take_of_length_le (by rw [rowsK_len]; omega)] at t3
    by_cases h0 : k.need.length = 0
    · have h0' : ((k.need.length : Int) == 0) = true := by rw [h0]; rfl
      simp (config := {implicitDefEqProofs := false, maxDischargeDepth := 20}) (disch := first | omega | (simp only [lenE]; done) | (simp only [lenE]; omega) | rfl | (simp only [lenE, markR_len]; done) | (simp only [lenE, markR_len]; omega)) only [runE, mapE, listE, initT_5, initT_6, initT_7, initT_8, resV, oneV, binA, unA, reduceCtorEq, Nat.reduceEqDiff, Nat.reduceAdd, Nat.reduceLT, Nat.reduceLeDiff, Nat.reduceMul, Nat.reduceSub, ↓reduceIte, decide_true, decide_false, Bool.true_eq_false, Bool.false_eq_true, Bool.not_true, Bool.not_false, if_true, if_false, and_true, true_and, memE, celE, w64, Nat.zero_add, Nat.add_zero, Nat.mul_one, putL, and_self, ldn, tm, t1, t3, t4, hlt', hb.rd, g1.len, h0']
      exact ext_ansV hX (by simp [rowsS, rowsK_len, h0])
    · have h0' : ((k.need.length : Int) == 0) = false := by simpa using h0
      simp (config := {implicitDefEqProofs := false, maxDischargeDepth := 20}) (disch := first | omega | (simp only [lenE]; done) | (simp only [lenE]; omega) | rfl | (simp only [lenE, markR_len]; done) | (simp only [lenE, markR_len]; omega)) only [runE, mapE, listE, initT_5, initT_6, initT_7, initT_8, resV, oneV, binA, unA, reduceCtorEq, Nat.reduceEqDiff, Nat.reduceAdd, Nat.reduceLT, Nat.reduceLeDiff, Nat.reduceMul, Nat.reduceSub, ↓reduceIte, decide_true, decide_false, Bool.true_eq_false, Bool.false_eq_true, Bool.not_true, Bool.not_false, if_true, if_false, and_true, true_and, memE, celE, w64, Nat.zero_add, Nat.add_zero, Nat.mul_one, putL, and_self, ldn, tm, t1, t3, t4, hlt', hb.rd, g1.len, h0']
      exact ext_ansV hX (by simp [rowsS, rowsK_len, h0])
theorem specCaseText_rc (m : Mem) (v : Value) (k : Cs) (h : CaseA m v k) : RC Tryd.prog 6 [v] m (AnsV (.tuple #[.string (textK k), .bool k.good])) := by
  refine rc_of_run mixed ok_spec_CaseText (by simp) (go_start _ _ _ ?_)
  have hr := h.ro
  obtain ⟨v1, v2, v3, v4, rfl, h1, h2, h3, h4⟩ := h.ro.ok
  simp (config := {implicitDefEqProofs := false, maxDischargeDepth := 20}) (disch := first | omega | (simp only [lenE]; done) | (simp only [lenE]; omega) | rfl | (simp only [lenE, markR_len]; done) | (simp only [lenE, markR_len]; omega)) only [runE, mapE, listE, initT_5, initT_6, initT_7, initT_8, resV, oneV, binA, unA, reduceCtorEq, Nat.reduceEqDiff, Nat.reduceAdd, Nat.reduceLT, Nat.reduceLeDiff, Nat.reduceMul, Nat.reduceSub, ↓reduceIte, decide_true, decide_false, Bool.true_eq_false, Bool.false_eq_true, Bool.not_true, Bool.not_false, if_true, if_false, and_true, true_and, memE, celE, w64, Nat.zero_add, Nat.add_zero, Nat.mul_one, putL, and_self, ldn, c_spec_CaseText, r_spec_CaseText]
  refine callH_rc (l2Good_rc _ _ k (hr.ext _)) ?_
  rintro r n1 ⟨rfl, nr1⟩
  cases hg : k.good with
  | false =>
    simp (config := {implicitDefEqProofs := false, maxDischargeDepth := 20}) (disch := first | omega | (simp only [lenE]; done) | (simp only [lenE]; omega) | rfl | (simp only [lenE, markR_len]; done) | (simp only [lenE, markR_len]; omega)) only [runE, mapE, listE, initT_5, initT_6, initT_7, initT_8, resV, oneV, binA, unA, reduceCtorEq, Nat.reduceEqDiff, Nat.reduceAdd, Nat.reduceLT, Nat.reduceLeDiff, Nat.reduceMul, Nat.reduceSub, ↓reduceIte, decide_true, decide_false, Bool.true_eq_false, Bool.false_eq_true, Bool.not_true, Bool.not_false, if_true, if_false, and_true, true_and, memE, celE, w64, Nat.zero_add, Nat.add_zero, Nat.mul_one, putL, and_self, ldn]
    try simp only [List.append_assoc, List.cons_append, List.nil_append, List.append_nil]
    exact ⟨_, rfl, by (repeat (first | exact noRo_nil | assumption | apply noRo_own | apply noRo_dead | apply noRo_app)), by simp [textK, hg], by (repeat (first | exact noRo_nil | assumption | apply noRo_own | apply noRo_dead | apply noRo_app))⟩
  | true =>
    simp (config := {implicitDefEqProofs := false, maxDischargeDepth := 20}) (disch := first | omega | (simp only [lenE]; done) | (simp only [lenE]; omega) | rfl | (simp only [lenE, markR_len]; done) | (simp only [lenE, markR_len]; omega)) only [runE, mapE, listE, initT_5, initT_6, initT_7, initT_8, resV, oneV, binA, unA, reduceCtorEq, Nat.reduceEqDiff, Nat.reduceAdd, Nat.reduceLT, Nat.reduceLeDiff, Nat.reduceMul, Nat.reduceSub, ↓reduceIte, decide_true, decide_false, Bool.true_eq_false, Bool.false_eq_true, Bool.not_true, Bool.not_false, if_true, if_false, and_true, true_and, memE, celE, w64, Nat.zero_add, Nat.add_zero, Nat.mul_one, putL, and_self, ldn]
    refine callH_rc (l2Text_rc _ _ k ((hr.ext _).ext _) (good_iff.1 hg)) ?_
    rintro r n2 ⟨rfl, nr2⟩
    simp (config := {implicitDefEqProofs := false, maxDischargeDepth := 20}) (disch := first | omega | (simp only [lenE]; done) | (simp only [lenE]; omega) | rfl | (simp only [lenE, markR_len]; done) | (simp only [lenE, markR_len]; omega)) only [runE, mapE, listE, initT_5, initT_6, initT_7, initT_8, resV, oneV, binA, unA, reduceCtorEq, Nat.reduceEqDiff, Nat.reduceAdd, Nat.reduceLT, Nat.reduceLeDiff, Nat.reduceMul, Nat.reduceSub, ↓reduceIte, decide_true, decide_false, Bool.true_eq_false, Bool.false_eq_true, Bool.not_true, Bool.not_false, if_true, if_false, and_true, true_and, memE, celE, w64, Nat.zero_add, Nat.add_zero, Nat.mul_one, putL, and_self, ldn]
    try simp only [List.append_assoc, List.cons_append, List.nil_append, List.append_nil]
    exact ⟨_, rfl, by (repeat (first | exact noRo_nil | assumption | apply noRo_own | apply noRo_dead | apply noRo_app)), by simp [textK, hg], by (repeat (first | exact noRo_nil | assumption | apply noRo_own | apply noRo_dead | apply noRo_app))⟩
end Go.Proofs.YtolfmoniedgmeaaDoor.Ab
