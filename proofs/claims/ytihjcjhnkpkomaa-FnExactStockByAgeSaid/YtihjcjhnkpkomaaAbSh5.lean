/- Shelves: the stock by its age. -/
import Derived.Test.YtihjcjhnkpkomaaAbSh4
namespace Go.Proofs.Ytihjcjhnkpkomaa.Ab
open Go Go.RowKit
set_option linter.unusedVariables false
set_option linter.unusedSimpArgs false

theorem TabA.take9 {m : Mem} {T : List (List Int)} {id fl fl' k : Nat} (h : TabA m (.slice (some ⟨id, 0, none⟩) T.length fl) T) (hk : k ≤ T.length) : TabA m (.slice (some ⟨id, 0, none⟩) k fl') (T.take k) := by
  have hl : (T.take k).length = k := by rw [List.length_take]; omega
  have hb := h.bd
  refine ⟨by rw [hl]; rfl, by omega, fun j hj => ?_, fun j hj => ?_, id, fl', by rw [hl]⟩
  · simp only [iadA, pAt, Int.toNat_natCast, Nat.mul_one]
    rw [if_pos (by omega)]
  · obtain ⟨u, h1, h2⟩ := h.ld j (by omega)
    refine ⟨u, h1, ?_⟩
    have e : (T.take k).getD j [] = T.getD j [] := by
      rw [List.getD_eq_getElem?_getD, List.getElem?_take, if_pos (by omega), ← List.getD_eq_getElem?_getD]
    rw [e]; exact h2
theorem slc_pre9 {id n fl k : Nat} {z : Int} (hz : z = k) (hk : k ≤ n) : slcA 1 (.slice (some ⟨id, 0, none⟩) n fl) none (some (.int .i64 z)) = some (.slice (some ⟨id, 0, none⟩) k fl) := by
  subst hz
  simp [slcA, boundA, hk]
theorem take_row {T : List (List Int)} {k j : Nat} (hj : j < k) : (T.take k).getD j [] = T.getD j [] := by
  rw [List.getD_eq_getElem?_getD, List.getElem?_take, if_pos hj, ← List.getD_eq_getElem?_getD]
theorem col_take {T : List (List Int)} {f k : Nat} : ∀ j, j ≤ k → colT (T.take k) f j = colT T f j := by
  intro j
  induction j with
  | zero => intro _; rfl
  | succ j ih =>
    intro hj
    simp only [colT]
    rw [ih (by omega), take_row (by omega)]
theorem irows_take {s : Sh} {T : List (List Int)} {k n : Nat} (h : irows s T n) (hk : k ≤ n) : irows s (T.take k) k := by
  refine ⟨fun t ht => ?_, fun f hf => ?_⟩
  · have := h.1 t (by omega)
    unfold irow at this ⊢
    rw [take_row ht]; exact this
  · rw [col_take k (Nat.le_refl _)]
    exact Int.le_trans (col_mono h.1 hf hk (Nat.le_refl _)) (h.2 f hf)
def ageOk (s : Sh) (T : List (List Int)) (t : Int) : Bool := two9 s T && (decide (0 ≤ t) && decide (t ≤ (T.length : Int) - 1))
def ageTo (s : Sh) (T : List (List Int)) (t k : Nat) : List Int := (List.range k).map fun age => if t < age then 0 else s.arr.getD (t - age) 0 - colT T (t - age) (t + 1)
theorem ageTo_s (s : Sh) (T : List (List Int)) (t k : Nat) : ageTo s T t (k + 1) = ageTo s T t k ++ [if t < k then 0 else s.arr.getD (t - k) 0 - colT T (t - k) (t + 1)] := by simp [ageTo, List.range_succ]
theorem ageTo_len (s : Sh) (T : List (List Int)) (t k : Nat) : (ageTo s T t k).length = k := by simp [ageTo]
def ageA (s : Sh) (T : List (List Int)) (t : Int) : List Int := if ageOk s T t then ageTo s T t.toNat (s.life - 1).toNat else []
theorem specByAge_rc (m : Mem) (v vt : Value) (s : Sh) (T : List (List Int)) (z : Int) (h : ShA m v s) (hT : TabA m vt T) :
    RC Try.prog 42 [v, vt, .int .i64 z] m (AnsO m (IntsO (ageA s T z)) fun v => .tuple #[v, .bool (ageOk s T z)]) := by
  refine rc_of_run mixed ok_spec_StockByAge (by simp) (go_start _ _ _ ?_)
  obtain ⟨a, b, rfl, ha, hb⟩ := h.ro
  have hX := ((Ext.refl m).one 27 [.int .i64 s.life, a, b, .int .i64 s.waste, .int .i64 s.lost]).one 3 []
  simp (config := {implicitDefEqProofs := false, maxDischargeDepth := 20}) (disch := first | omega | (simp only [lenE]; done) | (simp only [lenE]; omega) | rfl | (simp only [lenE, markR_len]; done) | (simp only [lenE, markR_len]; omega)) only [runE, mapE, listE, initT_5, initT_6, initT_7, initT_8, resV, oneV, binA, unA, reduceCtorEq, Nat.reduceEqDiff, Nat.reduceAdd, Nat.reduceLT, Nat.reduceLeDiff, Nat.reduceMul, Nat.reduceSub, ↓reduceIte, decide_true, decide_false, Bool.true_eq_false, Bool.false_eq_true, Bool.not_true, Bool.not_false, if_true, if_false, and_true, true_and, memE, celE, w64, Nat.zero_add, Nat.add_zero, Nat.mul_one, putL, and_self, ldn, c_spec_StockByAge, r_spec_StockByAge, bsl_no]
  obtain ⟨M0, hM0⟩ : ∃ M0, M0 = roM m ++ [⟨.own, 27, [.int .i64 s.life, a, b, .int .i64 s.waste, .int .i64 s.lost]⟩] ++ [⟨.own, 3, []⟩] := ⟨_, rfl⟩
  have o1 : OwnB M0 m.length 27 [.int .i64 s.life, a, b, .int .i64 s.waste, .int .i64 s.lost] := by rw [hM0]; exact (OwnB.here (by simp [roM_len])).ext _
  have r1 : OwnR M0 (m.length + 1) [] := by rw [hM0]; exact OwnR.end' (l := []) (by simp [roM_len])
  rw [← hM0] at hX ⊢
  refine callH_rc (l9Two_rc _ _ vt s T (ShA.mk (hX.ints ha) (hX.ints hb)) (TabA.xt hT hX)) ?_
  rintro r n1 ⟨rfl, nr1⟩
  replace hX := hX.app nr1
  replace o1 := o1.ext n1
  replace r1 := r1.ext n1
  obtain ⟨M1, hM1⟩ : ∃ M1, M1 = M0 ++ n1 := ⟨_, rfl⟩
  rw [← hM1] at hX o1 r1 ⊢
  have no : ageOk s T z = false → newQ m (AnsO m (IntsO (ageA s T z)) fun v => .tuple #[v, .bool (ageOk s T z)]) (.tuple #[.slice (some ⟨m.length + 1, 0, none⟩) 0 1, .bool false]) M1 := fun e => by
    unfold ageA
    rw [e]
    refine ext_ansO (f := fun v => .tuple #[v, .bool false]) hX fun M' hM => ?_
    exact IntsA.ownO (l := []) (fl := 1) (r1.at_ (hM _ (by omega) r1.lt)) (by simp) (by omega) r1.lt
  cases h2 : two9 s T with
  | false =>
    simp (config := {implicitDefEqProofs := false, maxDischargeDepth := 20}) (disch := first | omega | (simp only [lenE]; done) | (simp only [lenE]; omega) | rfl | (simp only [lenE, markR_len]; done) | (simp only [lenE, markR_len]; omega)) only [runE, mapE, listE, initT_5, initT_6, initT_7, initT_8, resV, oneV, binA, unA, reduceCtorEq, Nat.reduceEqDiff, Nat.reduceAdd, Nat.reduceLT, Nat.reduceLeDiff, Nat.reduceMul, Nat.reduceSub, ↓reduceIte, decide_true, decide_false, Bool.true_eq_false, Bool.false_eq_true, Bool.not_true, Bool.not_false, if_true, if_false, and_true, true_and, memE, celE, w64, Nat.zero_add, Nat.add_zero, Nat.mul_one, putL, and_self, ldn]
    exact no (by simp [ageOk, h2])
  | true =>
    have hI := iss_of h2
    have n8 := hI.g.n8
    have hl := hI.l
    have l8 := hI.g.l8
    have l1 := hI.g.l1
    simp (config := {implicitDefEqProofs := false, maxDischargeDepth := 20}) (disch := first | omega | (simp only [lenE]; done) | (simp only [lenE]; omega) | rfl | (simp only [lenE, markR_len]; done) | (simp only [lenE, markR_len]; omega)) only [runE, mapE, listE, initT_5, initT_6, initT_7, initT_8, resV, oneV, binA, unA, reduceCtorEq, Nat.reduceEqDiff, Nat.reduceAdd, Nat.reduceLT, Nat.reduceLeDiff, Nat.reduceMul, Nat.reduceSub, ↓reduceIte, decide_true, decide_false, Bool.true_eq_false, Bool.false_eq_true, Bool.not_true, Bool.not_false, if_true, if_false, and_true, true_and, memE, celE, w64, Nat.zero_add, Nat.add_zero, Nat.mul_one, putL, and_self, ldn, (TabA.xt hT hX).len]
    refine callH_rc (l1In_rc _ _ _ _) ?_
    rintro r new ⟨rfl, rfl⟩
    cases h3 : (decide (0 ≤ z) && decide (z ≤ (T.length : Int) - 1)) with
    | false =>
      simp (config := {implicitDefEqProofs := false, maxDischargeDepth := 20}) (disch := first | omega | (simp only [lenE]; done) | (simp only [lenE]; omega) | rfl | (simp only [lenE, markR_len]; done) | (simp only [lenE, markR_len]; omega)) only [runE, mapE, listE, initT_5, initT_6, initT_7, initT_8, resV, oneV, binA, unA, reduceCtorEq, Nat.reduceEqDiff, Nat.reduceAdd, Nat.reduceLT, Nat.reduceLeDiff, Nat.reduceMul, Nat.reduceSub, ↓reduceIte, decide_true, decide_false, Bool.true_eq_false, Bool.false_eq_true, Bool.not_true, Bool.not_false, if_true, if_false, and_true, true_and, memE, celE, w64, Nat.zero_add, Nat.add_zero, Nat.mul_one, putL, and_self, ldn]
      exact no (by simp [ageOk, h3])
    | true =>
      have h3' : 0 ≤ z ∧ z ≤ (T.length : Int) - 1 := by simpa using h3
      have eok : ageOk s T z = true := by simp [ageOk, h2, h3]
      unfold ageA
      rw [eok, if_pos rfl]
      obtain ⟨t, rfl⟩ : ∃ t : Nat, z = t := ⟨z.toNat, by omega⟩
      obtain ⟨L, hL⟩ : ∃ L : Nat, s.life = (L : Int) + 1 := ⟨(s.life - 1).toNat, by omega⟩
      have eL : (s.life - 1).toNat = L := by omega
      rw [eL, Int.toNat_natCast]
      simp (config := {implicitDefEqProofs := false, maxDischargeDepth := 20}) (disch := first | omega | (simp only [lenE]; done) | (simp only [lenE]; omega) | rfl | (simp only [lenE, markR_len]; done) | (simp only [lenE, markR_len]; omega)) only [runE, mapE, listE, initT_5, initT_6, initT_7, initT_8, resV, oneV, binA, unA, reduceCtorEq, Nat.reduceEqDiff, Nat.reduceAdd, Nat.reduceLT, Nat.reduceLeDiff, Nat.reduceMul, Nat.reduceSub, ↓reduceIte, decide_true, decide_false, Bool.true_eq_false, Bool.false_eq_true, Bool.not_true, Bool.not_false, if_true, if_false, and_true, true_and, memE, celE, w64, Nat.zero_add, Nat.add_zero, Nat.mul_one, putL, and_self, ldn]
      refine loop_inv mixed (fun s' => ∃ (k : Nat) (M : Mem) (id : Nat), k ≤ L ∧ s'.m = M ∧ Ext m M ∧ OwnB M m.length 27 [.int .i64 s.life, a, b, .int .i64 s.waste, .int .i64 s.lost] ∧ m.length < id ∧ OwnR M id (ageTo s T t k) ∧ s'.t 1 = vt ∧ s'.t 2 = .int .i64 (t : Int) ∧ s'.t 3 = .pointer (some ⟨m.length, 0, none⟩) ∧ s'.t 8 = .slice (some ⟨id, 0, none⟩) k 1 ∧ s'.t 9 = .int .i64 (k : Int)) (fun s' => L - (intOf (s'.t 9)).toNat)
        ⟨0, M1, m.length + 1, by omega, rfl, hX, o1, by omega, r1, rfl, rfl, rfl, rfl, rfl⟩ ?_
      rintro s' ⟨k, M, id, hk, tm, hX, o1, hid, r1, t1, t2, t3, t8, t9⟩
      have hTM := TabA.xt hT hX
      by_cases hlt : k < L
      · have hlt' : (k : Int) < s.life - 1 := by omega
        have hidl := r1.lt
        by_cases hneg : (t : Int) - k < 0
        · have happ := app_num (x := 0) (id2 := M.length) (n := k) r1 (by rw [ageTo_len]; omega) rfl (by rw [ageTo_len])
          simp (config := {implicitDefEqProofs := false, maxDischargeDepth := 20}) (disch := first | omega | (simp only [lenE]; done) | (simp only [lenE]; omega) | rfl | (simp only [lenE, markR_len]; done) | (simp only [lenE, markR_len]; omega)) only [runE, mapE, listE, initT_5, initT_6, initT_7, initT_8, resV, oneV, binA, unA, reduceCtorEq, Nat.reduceEqDiff, Nat.reduceAdd, Nat.reduceLT, Nat.reduceLeDiff, Nat.reduceMul, Nat.reduceSub, ↓reduceIte, decide_true, decide_false, Bool.true_eq_false, Bool.false_eq_true, Bool.not_true, Bool.not_false, if_true, if_false, and_true, true_and, memE, celE, w64, Nat.zero_add, Nat.add_zero, Nat.mul_one, putL, and_self, ldn, tm, t1, t2, t3, t8, t9, o1.rd, hlt', hneg, bsl_one, happ]
          refine ⟨⟨k + 1, _, M.length + 1, by omega, rfl, ((hX.dead (by omega)).one _ _).one _ _, o1.at_ (same_gen (by omega) hidl), by have := hX.len; omega, ?_, rfl, by simp⟩, ?_⟩
          · rw [ageTo_s, if_pos (by omega)]
            exact OwnB.here (by simp)
          · simp [intOf]; omega
        · obtain ⟨q, hq⟩ : ∃ q : Nat, (t : Int) - k = q := ⟨t - k, by omega⟩
          have xa := hX.ints ha
          have hla := hI.g.la
          obtain ⟨tid, tfl, htv⟩ := hT.fm
          subst htv
          have hTk := hTM.take9 (k := t + 1) (fl' := tfl) (by omega)
          have hq0 : ¬ ((q : Int) < 0) := by omega
          have hsl := slc_pre9 (id := tid) (n := T.length) (fl := tfl) (z := (t : Int) + 1) (k := t + 1) (by omega) (by omega)
          simp (config := {implicitDefEqProofs := false, maxDischargeDepth := 20}) (disch := first | omega | (simp only [lenE]; done) | (simp only [lenE]; omega) | rfl | (simp only [lenE, markR_len]; done) | (simp only [lenE, markR_len]; omega)) only [runE, mapE, listE, initT_5, initT_6, initT_7, initT_8, resV, oneV, binA, unA, reduceCtorEq, Nat.reduceEqDiff, Nat.reduceAdd, Nat.reduceLT, Nat.reduceLeDiff, Nat.reduceMul, Nat.reduceSub, ↓reduceIte, decide_true, decide_false, Bool.true_eq_false, Bool.false_eq_true, Bool.not_true, Bool.not_false, if_true, if_false, and_true, true_and, memE, celE, w64, Nat.zero_add, Nat.add_zero, Nat.mul_one, putL, and_self, ldn, tm, t1, t2, t3, t8, t9, o1.rd, hlt', hq0, hq, xa.at_ q (by omega), xa.ld q (by omega), Option.map_none, hsl]
          refine rcallH_rc (column_rc M _ (T.take (t + 1)) q hTk (fun j hj => ?_) (fun j hj => ?_) (by rw [List.length_take]; omega)) ?_
          · rw [List.length_take] at hj
            rw [take_row (by omega), hI.len j (by omega)]; omega
          · rw [List.length_take] at hj
            rw [take_row (by omega)]
            have := hI.bd j q (by omega) (by omega)
            omega
          rintro r new ⟨rfl, rfl⟩
          have el : (T.take (t + 1)).length = t + 1 := by rw [List.length_take]; omega
          rw [el, col_take _ (Nat.le_refl _)]
          have ab := memD9 hI.g.arr (k := q) (by omega)
          have h9 := (two9_iff.1 h2).2.2
          have c1 := col_mono h9.1 (f := q) (by omega) (i := 0) (j := t + 1) (by omega) (by omega)
          have c2 := col_mono h9.1 (f := q) (by omega) (i := t + 1) (j := s.need.length) (by omega) (Nat.le_refl _)
          have c3 := h9.2 q (by omega)
          simp only [show colT T q 0 = 0 from rfl] at c1
          have happ := app_num (x := s.arr.getD q 0 - colT T q (t + 1)) (id2 := M.length) (n := k) r1 (by rw [ageTo_len]; omega) rfl (by rw [ageTo_len])
          simp (config := {implicitDefEqProofs := false, maxDischargeDepth := 20}) (disch := first | omega | (simp only [lenE]; done) | (simp only [lenE]; omega) | rfl | (simp only [lenE, markR_len]; done) | (simp only [lenE, markR_len]; omega)) only [runE, mapE, listE, initT_5, initT_6, initT_7, initT_8, resV, oneV, binA, unA, reduceCtorEq, Nat.reduceEqDiff, Nat.reduceAdd, Nat.reduceLT, Nat.reduceLeDiff, Nat.reduceMul, Nat.reduceSub, ↓reduceIte, decide_true, decide_false, Bool.true_eq_false, Bool.false_eq_true, Bool.not_true, Bool.not_false, if_true, if_false, and_true, true_and, memE, celE, w64, Nat.zero_add, Nat.add_zero, Nat.mul_one, putL, and_self, ldn, tm, t1, t2, t3, t8, t9, bsl_one, happ]
          refine ⟨⟨k + 1, _, M.length + 1, by omega, rfl, ((hX.dead (by omega)).one _ _).one _ _, o1.at_ (same_gen (by omega) hidl), by have := hX.len; omega, ?_, rfl, by simp⟩, ?_⟩
          · rw [ageTo_s, if_neg (by omega), show t - k = q by omega]
            exact OwnB.here (by simp)
          · simp [intOf]; omega
      · have hlt' : ¬ ((k : Int) < s.life - 1) := by omega
        have e : k = L := by omega
        subst e
        simp (config := {implicitDefEqProofs := false, maxDischargeDepth := 20}) (disch := first | omega | (simp only [lenE]; done) | (simp only [lenE]; omega) | rfl | (simp only [lenE, markR_len]; done) | (simp only [lenE, markR_len]; omega)) only [runE, mapE, listE, initT_5, initT_6, initT_7, initT_8, resV, oneV, binA, unA, reduceCtorEq, Nat.reduceEqDiff, Nat.reduceAdd, Nat.reduceLT, Nat.reduceLeDiff, Nat.reduceMul, Nat.reduceSub, ↓reduceIte, decide_true, decide_false, Bool.true_eq_false, Bool.false_eq_true, Bool.not_true, Bool.not_false, if_true, if_false, and_true, true_and, memE, celE, w64, Nat.zero_add, Nat.add_zero, Nat.mul_one, putL, and_self, ldn, tm, t1, t2, t3, t8, t9, o1.rd, hlt']
        refine ext_ansO (f := fun v => .tuple #[v, .bool true]) hX fun M' hM => ?_
        have := IntsA.ownO (fl := 1) (lo := m.length) (hi := M.length) (r1.at_ (hM _ (by omega) r1.lt)) (by rw [ageTo_len]; omega) (by omega) r1.lt
        rw [ageTo_len] at this
        exact this
/-- What the stock by age holds when k ages are done. -/
def AgeAt (s : Sh) (T : List (List Int)) (t L k : Nat) (W : List Int) : Prop := W.length = L ∧ ∀ i, i < L → W.getD i 0 = if i < k then s.arr.getD (t - i) 0 - colT T (t - i) (t + 1) else 0
theorem AgeAt.zero (s : Sh) (T : List (List Int)) (t L : Nat) : AgeAt s T t L 0 (List.replicate L 0) := by
  refine ⟨by simp, fun i hi => ?_⟩
  rw [if_neg (by omega), List.getD_eq_getElem?_getD, List.getElem?_replicate, if_pos hi]; rfl
theorem AgeAt.next {s : Sh} {T : List (List Int)} {t L k : Nat} {W : List Int} (h : AgeAt s T t L k W) (hk : k < L) (hk2 : k ≤ t) : AgeAt s T t L (k + 1) (W.set k (s.arr.getD (t - k) 0 - colT T (t - k) (t + 1))) := by
  have hl := h.1
  refine ⟨by rw [List.length_set]; exact hl, fun i hi => ?_⟩
  rw [setD9 (by omega)]
  by_cases e : i = k
  · subst e; rw [if_pos rfl, if_pos (by omega)]
  · rw [if_neg e, h.2 i hi]
    by_cases e2 : i < k
    · rw [if_pos e2, if_pos (by omega)]
    · rw [if_neg e2, if_neg (by omega)]
theorem AgeAt.done {s : Sh} {T : List (List Int)} {t L k : Nat} {W : List Int} (h : AgeAt s T t L k W) (hk : L ≤ k ∨ t + 1 ≤ k) (hk2 : k ≤ t + 1) : W = ageTo s T t L := by
  refine extD9 h.1 (ageTo_len _ _ _ _) fun i hi => ?_
  rw [h.2 i hi, ageTo, mapD9 hi]
  by_cases e : t < i
  · rw [if_pos e]
    by_cases e2 : i < k
    · rw [if_pos e2]
      exact absurd e2 (by omega)
    · rw [if_neg e2]
  · rw [if_neg e, if_pos (by omega)]
theorem implByAge_rc (m : Mem) (v vt : Value) (s : Sh) (T : List (List Int)) (z : Int) (h : ShA m v s) (hT : TabA m vt T) :
    RC Try.prog 43 [v, vt, .int .i64 z] m (AnsO m (IntsO (ageA s T z)) fun v => .tuple #[v, .bool (ageOk s T z)]) := by
  refine rc_of_run mixed ok_impl_StockByAge (by simp) (go_start _ _ _ ?_)
  obtain ⟨a, b, rfl, ha, hb⟩ := h.ro
  have hX := (Ext.refl m).one 27 [.int .i64 s.life, a, b, .int .i64 s.waste, .int .i64 s.lost]
  simp (config := {implicitDefEqProofs := false, maxDischargeDepth := 20}) (disch := first | omega | (simp only [lenE]; done) | (simp only [lenE]; omega) | rfl | (simp only [lenE, markR_len]; done) | (simp only [lenE, markR_len]; omega)) only [runE, mapE, listE, initT_5, initT_6, initT_7, initT_8, resV, oneV, binA, unA, reduceCtorEq, Nat.reduceEqDiff, Nat.reduceAdd, Nat.reduceLT, Nat.reduceLeDiff, Nat.reduceMul, Nat.reduceSub, ↓reduceIte, decide_true, decide_false, Bool.true_eq_false, Bool.false_eq_true, Bool.not_true, Bool.not_false, if_true, if_false, and_true, true_and, memE, celE, w64, Nat.zero_add, Nat.add_zero, Nat.mul_one, putL, and_self, ldn, c_impl_StockByAge, r_impl_StockByAge]
  obtain ⟨M0, hM0⟩ : ∃ M0, M0 = roM m ++ [⟨.own, 27, [.int .i64 s.life, a, b, .int .i64 s.waste, .int .i64 s.lost]⟩] := ⟨_, rfl⟩
  have o1 : OwnB M0 m.length 27 [.int .i64 s.life, a, b, .int .i64 s.waste, .int .i64 s.lost] := by rw [hM0]; exact OwnB.here (by simp [roM_len])
  rw [← hM0] at hX ⊢
  refine callH_rc (leftOf_rc _ _ vt s T (ShA.mk (hX.ints ha) (hX.ints hb)) (TabA.xt hT hX)) ?_
  have no : ∀ M, Ext m M → ageOk s T z = false → newQ m (AnsO m (IntsO (ageA s T z)) fun v => .tuple #[v, .bool (ageOk s T z)]) (.tuple #[.slice (some ⟨M.length, 0, none⟩) 0 1, .bool false]) (M ++ [⟨.own, 3, []⟩]) := fun M hX e => by
    unfold ageA
    rw [e]
    exact ext_noInts (f := fun v => .tuple #[v, .bool false]) hX rfl
  rintro r n2 ⟨nr2, ⟨hb1, rfl⟩ | ⟨hb1, w, rfl, ia, ib, fa, fb, hne, ga, gb, rfl, oa, ob⟩⟩
  · simp (config := {implicitDefEqProofs := false, maxDischargeDepth := 20}) (disch := first | omega | (simp only [lenE]; done) | (simp only [lenE]; omega) | rfl | (simp only [lenE, markR_len]; done) | (simp only [lenE, markR_len]; omega)) only [runE, mapE, listE, initT_5, initT_6, initT_7, initT_8, resV, oneV, binA, unA, reduceCtorEq, Nat.reduceEqDiff, Nat.reduceAdd, Nat.reduceLT, Nat.reduceLeDiff, Nat.reduceMul, Nat.reduceSub, ↓reduceIte, decide_true, decide_false, Bool.true_eq_false, Bool.false_eq_true, Bool.not_true, Bool.not_false, if_true, if_false, and_true, true_and, memE, celE, w64, Nat.zero_add, Nat.add_zero, Nat.mul_one, putL, and_self, ldn, ext_2_0, ext_2_1, noShV, stP_agg5']
    obtain ⟨M2, hM2⟩ : ∃ M2, M2 = M0 ++ n2 ++ [⟨.own, 27, [.int .i64 0, .slice none 0 0, .slice none 0 0, .int .i64 0, .int .i64 0]⟩] := ⟨_, rfl⟩
    have hX2 : Ext m M2 := by rw [hM2]; exact (hX.app nr2).one _ _
    rw [← hM2]
    simp (config := {implicitDefEqProofs := false, maxDischargeDepth := 20}) (disch := first | omega | (simp only [lenE]; done) | (simp only [lenE]; omega) | rfl | (simp only [lenE, markR_len]; done) | (simp only [lenE, markR_len]; omega)) only [runE, mapE, listE, initT_5, initT_6, initT_7, initT_8, resV, oneV, binA, unA, reduceCtorEq, Nat.reduceEqDiff, Nat.reduceAdd, Nat.reduceLT, Nat.reduceLeDiff, Nat.reduceMul, Nat.reduceSub, ↓reduceIte, decide_true, decide_false, Bool.true_eq_false, Bool.false_eq_true, Bool.not_true, Bool.not_false, if_true, if_false, and_true, true_and, memE, celE, w64, Nat.zero_add, Nat.add_zero, Nat.mul_one, putL, and_self, ldn, bsl_no]
    exact no M2 hX2 (by simp [ageOk, hb1])
  · have hI := iss_of hb1
    have hl := hI.l
    have n8 := hI.g.n8
    have l8 := hI.g.l8
    have l1 := hI.g.l1
    simp (config := {implicitDefEqProofs := false, maxDischargeDepth := 20}) (disch := first | omega | (simp only [lenE]; done) | (simp only [lenE]; omega) | rfl | (simp only [lenE, markR_len]; done) | (simp only [lenE, markR_len]; omega)) only [runE, mapE, listE, initT_5, initT_6, initT_7, initT_8, resV, oneV, binA, unA, reduceCtorEq, Nat.reduceEqDiff, Nat.reduceAdd, Nat.reduceLT, Nat.reduceLeDiff, Nat.reduceMul, Nat.reduceSub, ↓reduceIte, decide_true, decide_false, Bool.true_eq_false, Bool.false_eq_true, Bool.not_true, Bool.not_false, if_true, if_false, and_true, true_and, memE, celE, w64, Nat.zero_add, Nat.add_zero, Nat.mul_one, putL, and_self, ldn, ext_2_0, ext_2_1, stP_agg5']
    obtain ⟨M2, hM2⟩ : ∃ M2, M2 = M0 ++ n2 ++ [⟨.own, 27, [.int .i64 s.life, .slice (some ⟨ia, 0, none⟩) (leftArr s T T.length).length fa, .slice (some ⟨ib, 0, none⟩) (leftNeed s T T.length).length fb, .int .i64 s.waste, .int .i64 s.lost]⟩] := ⟨_, rfl⟩
    have hX2 : Ext m M2 := by rw [hM2]; exact (hX.app nr2).one _ _
    have o2 : OwnB M2 m.length 27 [.int .i64 s.life, a, b, .int .i64 s.waste, .int .i64 s.lost] := by rw [hM2]; exact (o1.ext _).ext _
    rw [← hM2]
    simp (config := {implicitDefEqProofs := false, maxDischargeDepth := 20}) (disch := first | omega | (simp only [lenE]; done) | (simp only [lenE]; omega) | rfl | (simp only [lenE, markR_len]; done) | (simp only [lenE, markR_len]; omega)) only [runE, mapE, listE, initT_5, initT_6, initT_7, initT_8, resV, oneV, binA, unA, reduceCtorEq, Nat.reduceEqDiff, Nat.reduceAdd, Nat.reduceLT, Nat.reduceLeDiff, Nat.reduceMul, Nat.reduceSub, ↓reduceIte, decide_true, decide_false, Bool.true_eq_false, Bool.false_eq_true, Bool.not_true, Bool.not_false, if_true, if_false, and_true, true_and, memE, celE, w64, Nat.zero_add, Nat.add_zero, Nat.mul_one, putL, and_self, ldn, (TabA.xt hT hX2).len]
    refine callH_rc (isWithin_rc _ _ _) ?_
    rintro r new ⟨rfl, rfl⟩
    cases h3 : inB ((T.length : Int) - 1) z with
    | false =>
      simp (config := {implicitDefEqProofs := false, maxDischargeDepth := 20}) (disch := first | omega | (simp only [lenE]; done) | (simp only [lenE]; omega) | rfl | (simp only [lenE, markR_len]; done) | (simp only [lenE, markR_len]; omega)) only [runE, mapE, listE, initT_5, initT_6, initT_7, initT_8, resV, oneV, binA, unA, reduceCtorEq, Nat.reduceEqDiff, Nat.reduceAdd, Nat.reduceLT, Nat.reduceLeDiff, Nat.reduceMul, Nat.reduceSub, ↓reduceIte, decide_true, decide_false, Bool.true_eq_false, Bool.false_eq_true, Bool.not_true, Bool.not_false, if_true, if_false, and_true, true_and, memE, celE, w64, Nat.zero_add, Nat.add_zero, Nat.mul_one, putL, and_self, ldn, bsl_no]
      refine no M2 hX2 ?_
      unfold ageOk
      rw [show (decide (0 ≤ z) && decide (z ≤ (T.length : Int) - 1)) = inB ((T.length : Int) - 1) z from rfl, h3, Bool.and_false]
    | true =>
      have h3' := inB_iff.1 h3
      have eok : ageOk s T z = true := by simp [ageOk, hb1, h3']
      unfold ageA
      rw [eok, if_pos rfl]
      obtain ⟨t, rfl⟩ : ∃ t : Nat, z = t := ⟨z.toNat, by omega⟩
      obtain ⟨L, hL⟩ : ∃ L : Nat, s.life = (L : Int) + 1 := ⟨(s.life - 1).toNat, by omega⟩
      have eL : (s.life - 1).toNat = L := by omega
      have eL2 : s.life - 1 = (L : Int) := by omega
      rw [eL, Int.toNat_natCast]
      obtain ⟨tid, tfl, htv⟩ := hT.fm
      subst htv
      have hTM := TabA.xt hT hX2
      have hTk := hTM.take9 (k := t + 1) (fl' := tfl) (by omega)
      have hsl := slc_pre9 (id := tid) (n := T.length) (fl := tfl) (z := (t : Int) + 1) (k := t + 1) (by omega) (by omega)
      have ek : (T.take (t + 1)).length = t + 1 := by rw [List.length_take]; omega
      have h9 := (two9_iff.1 hb1).2.2
      have hir := irows_take h9 (k := t + 1) (by omega)
      simp (config := {implicitDefEqProofs := false, maxDischargeDepth := 20}) (disch := first | omega | (simp only [lenE]; done) | (simp only [lenE]; omega) | rfl | (simp only [lenE, markR_len]; done) | (simp only [lenE, markR_len]; omega)) only [runE, mapE, listE, initT_5, initT_6, initT_7, initT_8, resV, oneV, binA, unA, reduceCtorEq, Nat.reduceEqDiff, Nat.reduceAdd, Nat.reduceLT, Nat.reduceLeDiff, Nat.reduceMul, Nat.reduceSub, ↓reduceIte, decide_true, decide_false, Bool.true_eq_false, Bool.false_eq_true, Bool.not_true, Bool.not_false, if_true, if_false, and_true, true_and, memE, celE, w64, Nat.zero_add, Nat.add_zero, Nat.mul_one, putL, and_self, ldn, Option.map_none, hsl, o2.rd]
      with_reducible refine ⟨?_, ?_⟩
      · have K := leftBehind_rc M2 _ _ s (T.take (t + 1)) (ShA.mk (hX2.ints ha) (hX2.ints hb)) (TabA.take9 (fl' := tfl) (TabA.xt hT hX2) (by omega)) hI.g (by omega)
        rw [ek, decide_eq_true hir] at K
        refine rcallH_rc K ?_
        rintro r n3 ⟨nr3, ⟨hb3, rfl⟩ | ⟨hb3, w, rfl, ia3, ib3, fa3, fb3, hne3, ga3, gb3, rfl, oa3, ob3⟩⟩
        · cases hb3
        have la3 := oa3.lt
        have hlm := hX2.len
        have l2m := o2.lt
        simp (config := {implicitDefEqProofs := false, maxDischargeDepth := 20}) (disch := first | omega | (simp only [lenE]; done) | (simp only [lenE]; omega) | rfl | (simp only [lenE, markR_len]; done) | (simp only [lenE, markR_len]; omega)) only [runE, mapE, listE, initT_5, initT_6, initT_7, initT_8, resV, oneV, binA, unA, reduceCtorEq, Nat.reduceEqDiff, Nat.reduceAdd, Nat.reduceLT, Nat.reduceLeDiff, Nat.reduceMul, Nat.reduceSub, ↓reduceIte, decide_true, decide_false, Bool.true_eq_false, Bool.false_eq_true, Bool.not_true, Bool.not_false, if_true, if_false, and_true, true_and, memE, celE, w64, Nat.zero_add, Nat.add_zero, Nat.mul_one, putL, and_self, ldn, ext_2_0, ext_2_1, stP_agg5', (o2.ext n3).rd, eL2, mksA_eq (byt := 8) (n := L) rfl (by omega)]
        obtain ⟨M3, hM3⟩ : ∃ M3, M3 = M2 ++ n3 ++ [⟨.own, 27, [.int .i64 s.life, .slice (some ⟨ia3, 0, none⟩) (leftArr s (T.take (t + 1)) (t + 1)).length fa3, .slice (some ⟨ib3, 0, none⟩) (leftNeed s (T.take (t + 1)) (t + 1)).length fb3, .int .i64 s.waste, .int .i64 s.lost]⟩] := ⟨_, rfl⟩
        have eM3 : M3.length = M2.length + n3.length + 1 := by rw [hM3]; simp; omega
        have hX3 : Ext m M3 := by rw [hM3]; exact (hX2.app nr3).one _ _
        have p3 : OwnR M3 ia3 (leftArr s (T.take (t + 1)) (t + 1)) := by rw [hM3]; exact oa3.ext _
        have b3 : OwnB M3 (M2.length + n3.length) 27 [.int .i64 s.life, .slice (some ⟨ia3, 0, none⟩) (leftArr s (T.take (t + 1)) (t + 1)).length fa3, .slice (some ⟨ib3, 0, none⟩) (leftNeed s (T.take (t + 1)) (t + 1)).length fb3, .int .i64 s.waste, .int .i64 s.lost] := by rw [hM3]; exact OwnB.here (by simp)
        rw [List.length_append] at la3
        rw [← hM3]
        have z3 : OwnR (M3 ++ [⟨.own, 3, List.replicate L (.int .i64 0)⟩]) M3.length (List.replicate L 0) := OwnR.zeros rfl
        have hl3 := hX3.len
        have lb3 := b3.lt
        have lp3 := p3.lt
        refine loop_inv mixed (fun s' => ∃ (k : Nat) (M : Mem) (W : List Int), k ≤ L ∧ k ≤ t + 1 ∧ s'.m = M ∧ Ext m M ∧ OwnB M (M2.length + n3.length) 27 [.int .i64 s.life, .slice (some ⟨ia3, 0, none⟩) (leftArr s (T.take (t + 1)) (t + 1)).length fa3, .slice (some ⟨ib3, 0, none⟩) (leftNeed s (T.take (t + 1)) (t + 1)).length fb3, .int .i64 s.waste, .int .i64 s.lost] ∧ OwnR M ia3 (leftArr s (T.take (t + 1)) (t + 1)) ∧ OwnR M M3.length W ∧ AgeAt s T t L k W ∧ s'.t 2 = .int .i64 (t : Int) ∧ s'.t 10 = .pointer (some ⟨(M2.length + n3.length), 0, none⟩) ∧ s'.t 12 = .slice (some ⟨M3.length, 0, none⟩) L 1 ∧ s'.t 48 = .int .i64 (min (L : Int) ((t : Int) + 1)) ∧ s'.t 49 = .int .i64 (k : Int)) (fun s' => L - (intOf (s'.t 49)).toNat)
          ⟨0, _, List.replicate L 0, by omega, by omega, rfl, hX3.one _ _, b3.ext _, p3.ext _, z3, AgeAt.zero s T t L, rfl, (by first | rfl | (simp only [put_t, put_t', put_m, putT_t, putT_t', putT_m, init_t, init_m, initT_0, initT_1, initT_2, initT_3, initT_4, initT_5, initT_6, initT_7, initT_8, Nat.reduceEqDiff, ↓reduceIte]; simp; done) | (simp only [put_t, put_t', put_m, putT_t, putT_t', putT_m, init_t, init_m, initT_0, initT_1, initT_2, initT_3, initT_4, initT_5, initT_6, initT_7, initT_8, Nat.reduceEqDiff, ↓reduceIte]; simp; omega)), (by first | rfl | (simp only [put_t, put_t', put_m, putT_t, putT_t', putT_m, init_t, init_m, initT_0, initT_1, initT_2, initT_3, initT_4, initT_5, initT_6, initT_7, initT_8, Nat.reduceEqDiff, ↓reduceIte]; simp; done) | (simp only [put_t, put_t', put_m, putT_t, putT_t', putT_m, init_t, init_m, initT_0, initT_1, initT_2, initT_3, initT_4, initT_5, initT_6, initT_7, initT_8, Nat.reduceEqDiff, ↓reduceIte]; simp; omega)), (by first | rfl | (simp only [put_t, put_t', put_m, putT_t, putT_t', putT_m, init_t, init_m, initT_0, initT_1, initT_2, initT_3, initT_4, initT_5, initT_6, initT_7, initT_8, Nat.reduceEqDiff, ↓reduceIte]; simp; done) | (simp only [put_t, put_t', put_m, putT_t, putT_t', putT_m, init_t, init_m, initT_0, initT_1, initT_2, initT_3, initT_4, initT_5, initT_6, initT_7, initT_8, Nat.reduceEqDiff, ↓reduceIte]; simp; omega)), rfl⟩ ?_
        rintro s' ⟨k, M, W, hk, hk2, tm, hX, b4, p4, z4, hW, t2, t10, t12, t48, t49⟩
        have hla := leftArr_len s (T.take (t + 1)) (t + 1)
        by_cases hlt : (k : Int) < min (L : Int) ((t : Int) + 1)
        · obtain ⟨q, hq⟩ : ∃ q : Nat, (t : Int) - k = q := ⟨t - k, by omega⟩
          have i1 : iadA 1 (.slice (some ⟨ia3, 0, none⟩) (leftArr s (T.take (t + 1)) (t + 1)).length fa3) (.int .i64 (q : Int)) = some (.pointer (some ⟨ia3, q, none⟩)) := iad0 rfl (by omega)
          have i2 : iadA 1 (.slice (some ⟨M3.length, 0, none⟩) L 1) (.int .i64 (k : Int)) = some (.pointer (some ⟨M3.length, k, none⟩)) := iad0 rfl (by omega)
          have k1 := p4.rd' (i := q) (by omega)
          have st := z4.st (off := k) (x := (leftArr s (T.take (t + 1)) (t + 1)).getD q 0) (by rw [hW.1]; omega)
          simp (config := {implicitDefEqProofs := false, maxDischargeDepth := 20}) (disch := first | omega | (simp only [lenE]; done) | (simp only [lenE]; omega) | rfl | (simp only [lenE, markR_len]; done) | (simp only [lenE, markR_len]; omega)) only [runE, mapE, listE, initT_5, initT_6, initT_7, initT_8, resV, oneV, binA, unA, reduceCtorEq, Nat.reduceEqDiff, Nat.reduceAdd, Nat.reduceLT, Nat.reduceLeDiff, Nat.reduceMul, Nat.reduceSub, ↓reduceIte, decide_true, decide_false, Bool.true_eq_false, Bool.false_eq_true, Bool.not_true, Bool.not_false, if_true, if_false, and_true, true_and, memE, celE, w64, Nat.zero_add, Nat.add_zero, Nat.mul_one, putL, and_self, ldn, tm, t2, t10, t12, t48, t49, hlt, b4.rd, hq, i1, i2, k1, st]
          refine ⟨⟨k + 1, _, _, by omega, by omega, rfl, hX.put (by omega) _ _, b4.set_ne (by omega) _, p4.set_ne (by omega), z4.set_self, ?_, by simp⟩, ?_⟩
          · rw [leftArr_at (by omega), col_take _ (Nat.le_refl _), show q = t - k by omega]
            exact hW.next (by omega) (by omega)
          · simp [intOf]; omega
        · simp (config := {implicitDefEqProofs := false, maxDischargeDepth := 20}) (disch := first | omega | (simp only [lenE]; done) | (simp only [lenE]; omega) | rfl | (simp only [lenE, markR_len]; done) | (simp only [lenE, markR_len]; omega)) only [runE, mapE, listE, initT_5, initT_6, initT_7, initT_8, resV, oneV, binA, unA, reduceCtorEq, Nat.reduceEqDiff, Nat.reduceAdd, Nat.reduceLT, Nat.reduceLeDiff, Nat.reduceMul, Nat.reduceSub, ↓reduceIte, decide_true, decide_false, Bool.true_eq_false, Bool.false_eq_true, Bool.not_true, Bool.not_false, if_true, if_false, and_true, true_and, memE, celE, w64, Nat.zero_add, Nat.add_zero, Nat.mul_one, putL, and_self, ldn, tm, t2, t10, t12, t48, t49, hlt]
          have eW : W = ageTo s T t L := hW.done (by omega) hk2
          subst eW
          refine ext_ansO (f := fun v => .tuple #[v, .bool true]) hX fun M' hM => ?_
          have := IntsA.ownO (fl := 1) (lo := m.length) (hi := M.length) (z4.at_ (hM _ (by omega) z4.lt)) (by rw [ageTo_len]; omega) (by omega) z4.lt
          rw [ageTo_len] at this
          exact this
      · have K := leftBehind_rc (M2 ++ [⟨.own, 27, [.int .i64 0, .slice none 0 0, .slice none 0 0, .int .i64 0, .int .i64 0]⟩]) _ _ s (T.take (t + 1)) (ShA.mk ((hX2.one 27 [.int .i64 0, .slice none 0 0, .slice none 0 0, .int .i64 0, .int .i64 0]).ints ha) ((hX2.one 27 [.int .i64 0, .slice none 0 0, .slice none 0 0, .int .i64 0, .int .i64 0]).ints hb)) (TabA.take9 (fl' := tfl) (TabA.xt hT (hX2.one 27 [.int .i64 0, .slice none 0 0, .slice none 0 0, .int .i64 0, .int .i64 0])) (by omega)) hI.g (by omega)
        rw [ek, decide_eq_true hir] at K
        refine rcallH_rc K ?_
        rintro r n3 ⟨nr3, ⟨hb3, rfl⟩ | ⟨hb3, w, rfl, ia3, ib3, fa3, fb3, hne3, ga3, gb3, rfl, oa3, ob3⟩⟩
        · cases hb3
        have la3 := oa3.lt
        have hlm := hX2.len
        have l2m := o2.lt
        have hz : OwnB (M2 ++ [⟨.own, 27, [.int .i64 0, .slice none 0 0, .slice none 0 0, .int .i64 0, .int .i64 0]⟩] ++ n3) M2.length 27 [.int .i64 0, .slice none 0 0, .slice none 0 0, .int .i64 0, .int .i64 0] := (OwnB.here rfl).ext _
        have hst := hz.st (off := 0) (vs := [.int .i64 s.life, .slice (some ⟨ia3, 0, none⟩) (leftArr s (T.take (t + 1)) (t + 1)).length fa3, .slice (some ⟨ib3, 0, none⟩) (leftNeed s (T.take (t + 1)) (t + 1)).length fb3, .int .i64 s.waste, .int .i64 s.lost]) (by simp) rfl
        have o3 : OwnB ((M2 ++ [(⟨.own, 27, [.int .i64 0, .slice none 0 0, .slice none 0 0, .int .i64 0, .int .i64 0]⟩ : Blk)] ++ n3).set M2.length (⟨.own, 27, [.int .i64 s.life, .slice (some ⟨ia3, 0, none⟩) (leftArr s (T.take (t + 1)) (t + 1)).length fa3, .slice (some ⟨ib3, 0, none⟩) (leftNeed s (T.take (t + 1)) (t + 1)).length fb3, .int .i64 s.waste, .int .i64 s.lost]⟩ : Blk)) m.length 27 [.int .i64 s.life, a, b, .int .i64 s.waste, .int .i64 s.lost] := ((o2.ext _).ext _).set_ne (by omega) _
        simp (config := {implicitDefEqProofs := false, maxDischargeDepth := 20}) (disch := first | omega | (simp only [lenE]; done) | (simp only [lenE]; omega) | rfl | (simp only [lenE, markR_len]; done) | (simp only [lenE, markR_len]; omega)) only [runE, mapE, listE, initT_5, initT_6, initT_7, initT_8, resV, oneV, binA, unA, reduceCtorEq, Nat.reduceEqDiff, Nat.reduceAdd, Nat.reduceLT, Nat.reduceLeDiff, Nat.reduceMul, Nat.reduceSub, ↓reduceIte, decide_true, decide_false, Bool.true_eq_false, Bool.false_eq_true, Bool.not_true, Bool.not_false, if_true, if_false, and_true, true_and, memE, celE, w64, Nat.zero_add, Nat.add_zero, Nat.mul_one, putL, and_self, ldn, ext_2_0, ext_2_1, stP_agg5', hst, o3.rd, eL2, mksA_eq (byt := 8) (n := L) rfl (by omega)]
        obtain ⟨M3, hM3⟩ : ∃ M3, M3 = (M2 ++ [(⟨.own, 27, [.int .i64 0, .slice none 0 0, .slice none 0 0, .int .i64 0, .int .i64 0]⟩ : Blk)] ++ n3).set M2.length (⟨.own, 27, [.int .i64 s.life, .slice (some ⟨ia3, 0, none⟩) (leftArr s (T.take (t + 1)) (t + 1)).length fa3, .slice (some ⟨ib3, 0, none⟩) (leftNeed s (T.take (t + 1)) (t + 1)).length fb3, .int .i64 s.waste, .int .i64 s.lost]⟩ : Blk) := ⟨_, rfl⟩
        have ga3' : M2.length + 1 ≤ ia3 := by simpa using ga3
        have eM3 : M3.length = M2.length + 1 + n3.length := by rw [hM3]; simp; try omega
        have hX3 : Ext m M3 := by rw [hM3]; exact (((hX2.one _ _).app nr3).put (by omega) _ _)
        have p3 : OwnR M3 ia3 (leftArr s (T.take (t + 1)) (t + 1)) := by rw [hM3]; exact oa3.set_ne (by omega)
        have b3 : OwnB M3 M2.length 27 [.int .i64 s.life, .slice (some ⟨ia3, 0, none⟩) (leftArr s (T.take (t + 1)) (t + 1)).length fa3, .slice (some ⟨ib3, 0, none⟩) (leftNeed s (T.take (t + 1)) (t + 1)).length fb3, .int .i64 s.waste, .int .i64 s.lost] := by rw [hM3]; exact hz.set_self _ _
        rw [← hM3]
        have z3 : OwnR (M3 ++ [⟨.own, 3, List.replicate L (.int .i64 0)⟩]) M3.length (List.replicate L 0) := OwnR.zeros rfl
        have hl3 := hX3.len
        have lb3 := b3.lt
        have lp3 := p3.lt
        refine loop_inv mixed (fun s' => ∃ (k : Nat) (M : Mem) (W : List Int), k ≤ L ∧ k ≤ t + 1 ∧ s'.m = M ∧ Ext m M ∧ OwnB M M2.length 27 [.int .i64 s.life, .slice (some ⟨ia3, 0, none⟩) (leftArr s (T.take (t + 1)) (t + 1)).length fa3, .slice (some ⟨ib3, 0, none⟩) (leftNeed s (T.take (t + 1)) (t + 1)).length fb3, .int .i64 s.waste, .int .i64 s.lost] ∧ OwnR M ia3 (leftArr s (T.take (t + 1)) (t + 1)) ∧ OwnR M M3.length W ∧ AgeAt s T t L k W ∧ s'.t 2 = .int .i64 (t : Int) ∧ s'.t 10 = .pointer (some ⟨M2.length, 0, none⟩) ∧ s'.t 12 = .slice (some ⟨M3.length, 0, none⟩) L 1 ∧ s'.t 48 = .int .i64 (min (L : Int) ((t : Int) + 1)) ∧ s'.t 49 = .int .i64 (k : Int)) (fun s' => L - (intOf (s'.t 49)).toNat)
          ⟨0, _, List.replicate L 0, by omega, by omega, rfl, hX3.one _ _, b3.ext _, p3.ext _, z3, AgeAt.zero s T t L, rfl, (by first | rfl | (simp only [put_t, put_t', put_m, putT_t, putT_t', putT_m, init_t, init_m, initT_0, initT_1, initT_2, initT_3, initT_4, initT_5, initT_6, initT_7, initT_8, Nat.reduceEqDiff, ↓reduceIte]; simp; done) | (simp only [put_t, put_t', put_m, putT_t, putT_t', putT_m, init_t, init_m, initT_0, initT_1, initT_2, initT_3, initT_4, initT_5, initT_6, initT_7, initT_8, Nat.reduceEqDiff, ↓reduceIte]; simp; omega)), (by first | rfl | (simp only [put_t, put_t', put_m, putT_t, putT_t', putT_m, init_t, init_m, initT_0, initT_1, initT_2, initT_3, initT_4, initT_5, initT_6, initT_7, initT_8, Nat.reduceEqDiff, ↓reduceIte]; simp; done) | (simp only [put_t, put_t', put_m, putT_t, putT_t', putT_m, init_t, init_m, initT_0, initT_1, initT_2, initT_3, initT_4, initT_5, initT_6, initT_7, initT_8, Nat.reduceEqDiff, ↓reduceIte]; simp; omega)), (by first | rfl | (simp only [put_t, put_t', put_m, putT_t, putT_t', putT_m, init_t, init_m, initT_0, initT_1, initT_2, initT_3, initT_4, initT_5, initT_6, initT_7, initT_8, Nat.reduceEqDiff, ↓reduceIte]; simp; done) | (simp only [put_t, put_t', put_m, putT_t, putT_t', putT_m, init_t, init_m, initT_0, initT_1, initT_2, initT_3, initT_4, initT_5, initT_6, initT_7, initT_8, Nat.reduceEqDiff, ↓reduceIte]; simp; omega)), rfl⟩ ?_
        rintro s' ⟨k, M, W, hk, hk2, tm, hX, b4, p4, z4, hW, t2, t10, t12, t48, t49⟩
        have hla := leftArr_len s (T.take (t + 1)) (t + 1)
        by_cases hlt : (k : Int) < min (L : Int) ((t : Int) + 1)
        · obtain ⟨q, hq⟩ : ∃ q : Nat, (t : Int) - k = q := ⟨t - k, by omega⟩
          have i1 : iadA 1 (.slice (some ⟨ia3, 0, none⟩) (leftArr s (T.take (t + 1)) (t + 1)).length fa3) (.int .i64 (q : Int)) = some (.pointer (some ⟨ia3, q, none⟩)) := iad0 rfl (by omega)
          have i2 : iadA 1 (.slice (some ⟨M3.length, 0, none⟩) L 1) (.int .i64 (k : Int)) = some (.pointer (some ⟨M3.length, k, none⟩)) := iad0 rfl (by omega)
          have k1 := p4.rd' (i := q) (by omega)
          have st := z4.st (off := k) (x := (leftArr s (T.take (t + 1)) (t + 1)).getD q 0) (by rw [hW.1]; omega)
          simp (config := {implicitDefEqProofs := false, maxDischargeDepth := 20}) (disch := first | omega | (simp only [lenE]; done) | (simp only [lenE]; omega) | rfl | (simp only [lenE, markR_len]; done) | (simp only [lenE, markR_len]; omega)) only [runE, mapE, listE, initT_5, initT_6, initT_7, initT_8, resV, oneV, binA, unA, reduceCtorEq, Nat.reduceEqDiff, Nat.reduceAdd, Nat.reduceLT, Nat.reduceLeDiff, Nat.reduceMul, Nat.reduceSub, ↓reduceIte, decide_true, decide_false, Bool.true_eq_false, Bool.false_eq_true, Bool.not_true, Bool.not_false, if_true, if_false, and_true, true_and, memE, celE, w64, Nat.zero_add, Nat.add_zero, Nat.mul_one, putL, and_self, ldn, tm, t2, t10, t12, t48, t49, hlt, b4.rd, hq, i1, i2, k1, st]
          refine ⟨⟨k + 1, _, _, by omega, by omega, rfl, hX.put (by omega) _ _, b4.set_ne (by omega) _, p4.set_ne (by omega), z4.set_self, ?_, by simp⟩, ?_⟩
          · rw [leftArr_at (by omega), col_take _ (Nat.le_refl _), show q = t - k by omega]
            exact hW.next (by omega) (by omega)
          · simp [intOf]; omega
        · simp (config := {implicitDefEqProofs := false, maxDischargeDepth := 20}) (disch := first | omega | (simp only [lenE]; done) | (simp only [lenE]; omega) | rfl | (simp only [lenE, markR_len]; done) | (simp only [lenE, markR_len]; omega)) only [runE, mapE, listE, initT_5, initT_6, initT_7, initT_8, resV, oneV, binA, unA, reduceCtorEq, Nat.reduceEqDiff, Nat.reduceAdd, Nat.reduceLT, Nat.reduceLeDiff, Nat.reduceMul, Nat.reduceSub, ↓reduceIte, decide_true, decide_false, Bool.true_eq_false, Bool.false_eq_true, Bool.not_true, Bool.not_false, if_true, if_false, and_true, true_and, memE, celE, w64, Nat.zero_add, Nat.add_zero, Nat.mul_one, putL, and_self, ldn, tm, t2, t10, t12, t48, t49, hlt]
          have eW : W = ageTo s T t L := hW.done (by omega) hk2
          subst eW
          refine ext_ansO (f := fun v => .tuple #[v, .bool true]) hX fun M' hM => ?_
          have := IntsA.ownO (fl := 1) (lo := m.length) (hi := M.length) (z4.at_ (hM _ (by omega) z4.lt)) (by rw [ageTo_len]; omega) (by omega) z4.lt
          rw [ageTo_len] at this
          exact this
end Go.Proofs.Ytihjcjhnkpkomaa.Ab
