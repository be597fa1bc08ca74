/- What is drawn for the laws of chapter 2: a Case and amounts; the laws' helpers rBig, rInts, rHas. -/
import Derived.Test.YtfjpickejgbmaaaAbDraw2
import Derived.Test.YtfjpickejgbmaaaAbNamed
namespace Go.Proofs.Ytfjpickejgbmaaa.Ab
open Go Go.RowKit
set_option linter.unusedVariables false
set_option linter.unusedSimpArgs false

theorem Lives.lower {lo lo' : Nat} {M : Mem} {v : Value} {k : Cs} (h : Lives lo M v k) (hl : lo' ≤ lo) : Lives lo' M v k := fun M3 h3 => h M3 fun i h1 h2 => h3 i (by omega) h2
theorem Lives.up {lo : Nat} {M M' : Mem} {v : Value} {k : Cs} (h : Lives lo M v k) (hl : M.length ≤ M'.length) (he : ∀ i, lo ≤ i → i < M.length → M'[i]? = M[i]?) : Lives lo M' v k := fun M3 h3 =>
  h M3 fun i h1 h2 => (h3 i h1 (by omega)).trans (he i h1 h2)
/-- What a draw of a Case and a row leaves. -/
def AnsCD (m : Mem) (r : Value) (new : Mem) : Prop :=
  NoRo new ∧ ∃ (v1 v2 v3 v4 : Value) (k : Cs) (i : Nat) (L : List Int), r = .tuple #[.agg #[v1, v2, v3, v4], .slice (some ⟨m.length + i, 0, none⟩) L.length 1] ∧ new[i]? = some (rowB L) ∧ L.length ≤ 1001 ∧ Lives m.length (m ++ new) (.agg #[v1, v2, v3, v4]) k
theorem cell_st {M : Mem} {c : Nat} {v1 v2 v3 v4 : Value} {cs : List Value} {k : Cs} {M0 : Mem} (h : M[c]? = some ⟨.own, 26, cs⟩) (hc : cs.length = 4) (hk : CaseA M0 (.agg #[v1, v2, v3, v4]) k) :
    stA M c 0 [v1, v2, v3, v4] = some (M.set c ⟨.own, 26, [v1, v2, v3, v4]⟩) ∧
    ∀ j, rdc (M.set c ⟨.own, 26, [v1, v2, v3, v4]⟩) c j = [v1, v2, v3, v4][j]? := by
  obtain ⟨w1, w2, w3, w4, e, i1, i2, i3, i4⟩ := hk.ok
  cases e
  have hlt := (List.getElem?_eq_some_iff.1 h).1
  refine ⟨?_, fun j => ?_⟩
  · unfold stA
    rw [h]
    obtain ⟨a, b, c', d, rfl⟩ : ∃ a b c' d, cs = [a, b, c', d] := by
      match cs, hc with
      | [a, b, c', d], _ => exact ⟨a, b, c', d, rfl⟩
    simp [onesB, i1.one, i2.one, i3.one, i4.one, putL]
  · unfold rdc
    rw [List.getElem?_set_self hlt]
    rfl
theorem fin_cell {m N : Mem} {r n : Nat} {v1 v2 v3 v4 : Value} {k : Cs} {L : List Int} {lo : Nat} (hx : Ext m N) (hlv : Lives lo N (.agg #[v1, v2, v3, v4]) k) (hlo : m.length ≤ lo) (ho : OwnR N r L) (hr : m.length ≤ r) (hn : n = L.length) (hL : L.length ≤ 1001) :
    newQ m (AnsCD m) (.tuple #[.agg #[v1, v2, v3, v4], .slice (some ⟨r, 0, none⟩) n 1]) N := by
  subst hn
  obtain ⟨n0, i, rfl, h0, rfl, hrow⟩ := draw_row' hx ho hr
  refine ⟨n0, rfl, h0, h0, v1, v2, v3, v4, k, i, L, rfl, hrow, hL, fun M3 h3 => hlv M3 fun j h1 h2 => ?_⟩
  have hj : j < (m ++ n0).length := by simp [roM_len] at h2 ⊢; exact h2
  rw [h3 j (by omega) hj, List.getElem?_append_right (by omega), List.getElem?_append_right (by rw [roM_len]; omega), roM_len]

theorem rBig_rc (m : Mem) (cb fl : Nat) (n : Nat) : RC Try.prog 4 [.slice (some ⟨cb, 0, none⟩) n fl] m fun r new => r = .bool (decide (65536 < n)) ∧ new = [] := by
  refine rc_of_run mixed ok_laws_rBig (by simp) (go_start _ _ _ ?_)
  simp (config := {implicitDefEqProofs := false, maxDischargeDepth := 20}) (disch := first | omega | (simp only [lenE]; done) | (simp only [lenE]; omega) | rfl | (simp only [lenE, markR_len]; done) | (simp only [lenE, markR_len]; omega)) only [runE, mapE, listE, initT_5, initT_6, initT_7, initT_8, resV, oneV, binA, unA, reduceCtorEq, Nat.reduceEqDiff, Nat.reduceAdd, Nat.reduceLT, Nat.reduceLeDiff, Nat.reduceMul, Nat.reduceSub, ↓reduceIte, decide_true, decide_false, Bool.true_eq_false, Bool.false_eq_true, Bool.not_true, Bool.not_false, if_true, if_false, and_true, true_and, memE, celE, w64, Nat.zero_add, Nat.add_zero, Nat.mul_one, putL, and_self, ldn, c_laws_rBig, r_laws_rBig, gt_iff_lt]
  refine newQ_nil ⟨?_, rfl⟩
  congr 1
  rw [decide_eq_decide]
  omega
theorem rInts_rc (m : Mem) (v u : Value) (l : List Int) (h : IntsA m v l) (h' : IntsA m u l) : RC Try.prog 13 [v, u] m fun r new => r = .bool true ∧ new = [] := by
  refine rc_of_run mixed ok_laws_rInts (by simp) (go_start _ _ _ ?_)
  obtain ⟨e1, e2, e3, e4, -⟩ := h.ro
  obtain ⟨d1, d2, d3, d4, -⟩ := h'.ro
  simp (config := {implicitDefEqProofs := false, maxDischargeDepth := 20}) (disch := first | omega | (simp only [lenE]; done) | (simp only [lenE]; omega) | rfl | (simp only [lenE, markR_len]; done) | (simp only [lenE, markR_len]; omega)) only [runE, mapE, listE, initT_5, initT_6, initT_7, initT_8, resV, oneV, binA, unA, reduceCtorEq, Nat.reduceEqDiff, Nat.reduceAdd, Nat.reduceLT, Nat.reduceLeDiff, Nat.reduceMul, Nat.reduceSub, ↓reduceIte, decide_true, decide_false, Bool.true_eq_false, Bool.false_eq_true, Bool.not_true, Bool.not_false, if_true, if_false, and_true, true_and, memE, celE, w64, Nat.zero_add, Nat.add_zero, Nat.mul_one, putL, and_self, ldn, c_laws_rInts, r_laws_rInts, e1, d1, bne_self_eq_false]
  refine loop_inv mixed (fun s => ∃ k : Nat, k ≤ l.length ∧ s.t 0 = v ∧ s.t 1 = u ∧ s.t 5 = .int .i64 k ∧ s.m = roM m) (fun s => l.length - (intOf (s.t 5)).toNat) ⟨0, by omega, rfl, rfl, rfl, rfl⟩ ?_
  rintro s ⟨k, hk, t0, t1, t5, tm⟩
  by_cases hlt : k < l.length
  · have hlt' : (k : Int) < l.length := by omega
    simp (config := {implicitDefEqProofs := false, maxDischargeDepth := 20}) (disch := first | omega | (simp only [lenE]; done) | (simp only [lenE]; omega) | rfl | (simp only [lenE, markR_len]; done) | (simp only [lenE, markR_len]; omega)) only [runE, mapE, listE, initT_5, initT_6, initT_7, initT_8, resV, oneV, binA, unA, reduceCtorEq, Nat.reduceEqDiff, Nat.reduceAdd, Nat.reduceLT, Nat.reduceLeDiff, Nat.reduceMul, Nat.reduceSub, ↓reduceIte, decide_true, decide_false, Bool.true_eq_false, Bool.false_eq_true, Bool.not_true, Bool.not_false, if_true, if_false, and_true, true_and, memE, celE, w64, Nat.zero_add, Nat.add_zero, Nat.mul_one, putL, and_self, ldn, t0, t1, t5, tm, e1, e3 k hlt, e4 k hlt, d3 k hlt, d4 k hlt, hlt', bne_self_eq_false]
    exact ⟨⟨k + 1, by omega, by simp⟩, by simp [intOf]; omega⟩
  · have hlt' : ¬ ((k : Int) < l.length) := by omega
    simp (config := {implicitDefEqProofs := false, maxDischargeDepth := 20}) (disch := first | omega | (simp only [lenE]; done) | (simp only [lenE]; omega) | rfl | (simp only [lenE, markR_len]; done) | (simp only [lenE, markR_len]; omega)) only [runE, mapE, listE, initT_5, initT_6, initT_7, initT_8, resV, oneV, binA, unA, reduceCtorEq, Nat.reduceEqDiff, Nat.reduceAdd, Nat.reduceLT, Nat.reduceLeDiff, Nat.reduceMul, Nat.reduceSub, ↓reduceIte, decide_true, decide_false, Bool.true_eq_false, Bool.false_eq_true, Bool.not_true, Bool.not_false, if_true, if_false, and_true, true_and, memE, celE, w64, Nat.zero_add, Nat.add_zero, Nat.mul_one, putL, and_self, ldn, t0, t1, t5, tm, e1, hlt']
    exact newQ_nil ⟨rfl, rfl⟩
/-- Whether a number is among the first ones. -/
def hasTo (l : List Int) (x : Int) : Nat → Bool
  | 0 => false
  | n + 1 => hasTo l x n || (l.getD n 0 == x)
theorem rHas_rc (m : Mem) (v : Value) (l : List Int) (x : Int) (h : IntsA m v l) : RC Try.prog 20 [v, .int .i64 x] m fun r new => r = .bool (decide (x ∈ l)) ∧ new = [] := by
  refine rc_of_run mixed ok_laws_rHas (by simp) (go_start _ _ _ ?_)
  obtain ⟨e1, e2, e3, e4, -⟩ := h.ro
  simp (config := {implicitDefEqProofs := false, maxDischargeDepth := 20}) (disch := first | omega | (simp only [lenE]; done) | (simp only [lenE]; omega) | rfl | (simp only [lenE, markR_len]; done) | (simp only [lenE, markR_len]; omega)) only [runE, mapE, listE, initT_5, initT_6, initT_7, initT_8, resV, oneV, binA, unA, reduceCtorEq, Nat.reduceEqDiff, Nat.reduceAdd, Nat.reduceLT, Nat.reduceLeDiff, Nat.reduceMul, Nat.reduceSub, ↓reduceIte, decide_true, decide_false, Bool.true_eq_false, Bool.false_eq_true, Bool.not_true, Bool.not_false, if_true, if_false, and_true, true_and, memE, celE, w64, Nat.zero_add, Nat.add_zero, Nat.mul_one, putL, and_self, ldn, c_laws_rHas, r_laws_rHas]
  refine loop_inv mixed (fun s => ∃ k : Nat, k ≤ l.length ∧ s.t 0 = v ∧ s.t 1 = .int .i64 x ∧ s.t 5 = .int .i64 k ∧ s.m = roM m ∧ (∀ j, j < k → l.getD j 0 ≠ x)) (fun s => l.length - (intOf (s.t 5)).toNat) ⟨0, by omega, rfl, rfl, rfl, rfl, fun j hj => absurd hj (by omega)⟩ ?_
  rintro s ⟨k, hk, t0, t1, t5, tm, hno⟩
  by_cases hlt : k < l.length
  · have hlt' : (k : Int) < l.length := by omega
    cases he : (l.getD k 0 == x) with
    | true =>
      simp (config := {implicitDefEqProofs := false, maxDischargeDepth := 20}) (disch := first | omega | (simp only [lenE]; done) | (simp only [lenE]; omega) | rfl | (simp only [lenE, markR_len]; done) | (simp only [lenE, markR_len]; omega)) only [runE, mapE, listE, initT_5, initT_6, initT_7, initT_8, resV, oneV, binA, unA, reduceCtorEq, Nat.reduceEqDiff, Nat.reduceAdd, Nat.reduceLT, Nat.reduceLeDiff, Nat.reduceMul, Nat.reduceSub, ↓reduceIte, decide_true, decide_false, Bool.true_eq_false, Bool.false_eq_true, Bool.not_true, Bool.not_false, if_true, if_false, and_true, true_and, memE, celE, w64, Nat.zero_add, Nat.add_zero, Nat.mul_one, putL, and_self, ldn, t0, t1, t5, tm, e1, e3 k hlt, e4 k hlt, hlt', he]
      refine newQ_nil ⟨?_, rfl⟩
      rw [decide_eq_true]
      rw [← beq_iff_eq.1 he, List.getD_eq_getElem?_getD, List.getElem?_eq_getElem hlt]
      exact List.getElem_mem _
    | false =>
      simp (config := {implicitDefEqProofs := false, maxDischargeDepth := 20}) (disch := first | omega | (simp only [lenE]; done) | (simp only [lenE]; omega) | rfl | (simp only [lenE, markR_len]; done) | (simp only [lenE, markR_len]; omega)) only [runE, mapE, listE, initT_5, initT_6, initT_7, initT_8, resV, oneV, binA, unA, reduceCtorEq, Nat.reduceEqDiff, Nat.reduceAdd, Nat.reduceLT, Nat.reduceLeDiff, Nat.reduceMul, Nat.reduceSub, ↓reduceIte, decide_true, decide_false, Bool.true_eq_false, Bool.false_eq_true, Bool.not_true, Bool.not_false, if_true, if_false, and_true, true_and, memE, celE, w64, Nat.zero_add, Nat.add_zero, Nat.mul_one, putL, and_self, ldn, t0, t1, t5, tm, e1, e3 k hlt, e4 k hlt, hlt', he]
      refine ⟨⟨k + 1, by omega, by simp, fun j hj => ?_⟩, by simp [intOf]; omega⟩
      by_cases e : j = k
      · rw [e]; simpa using he
      · exact hno j (by omega)
  · have hlt' : ¬ ((k : Int) < l.length) := by omega
    simp (config := {implicitDefEqProofs := false, maxDischargeDepth := 20}) (disch := first | omega | (simp only [lenE]; done) | (simp only [lenE]; omega) | rfl | (simp only [lenE, markR_len]; done) | (simp only [lenE, markR_len]; omega)) only [runE, mapE, listE, initT_5, initT_6, initT_7, initT_8, resV, oneV, binA, unA, reduceCtorEq, Nat.reduceEqDiff, Nat.reduceAdd, Nat.reduceLT, Nat.reduceLeDiff, Nat.reduceMul, Nat.reduceSub, ↓reduceIte, decide_true, decide_false, Bool.true_eq_false, Bool.false_eq_true, Bool.not_true, Bool.not_false, if_true, if_false, and_true, true_and, memE, celE, w64, Nat.zero_add, Nat.add_zero, Nat.mul_one, putL, and_self, ldn, t0, t1, t5, tm, e1, hlt']
    refine newQ_nil ⟨?_, rfl⟩
    rw [decide_eq_false]
    intro hm
    obtain ⟨j, hj, e⟩ := List.getElem_of_mem hm
    refine hno j (by omega) ?_
    rw [List.getD_eq_getElem?_getD, List.getElem?_eq_getElem hj]; exact e

/-- What a function leaves: all that came in, only to be read, and blocks that may be written. -/
theorem ext_of {m M' : Mem} (hl : m.length ≤ M'.length) (old : ∀ i, i < m.length → M'[i]? = (roM m)[i]?) (new : ∀ (i : Nat) (b : Blk), m.length ≤ i → M'[i]? = some b → b.kd ≠ .ro) : Ext m M' := by
  have e : M' = roM m ++ M'.drop m.length := by
    apply List.ext_getElem?
    intro i
    by_cases hi : i < m.length
    · rw [List.getElem?_append_left (by rw [roM_len]; exact hi), old i hi]
    · rw [List.getElem?_append_right (by rw [roM_len]; omega), List.getElem?_drop, roM_len, Nat.add_sub_cancel' (by omega)]
  refine ⟨M'.drop m.length, e, fun c hc => ?_⟩
  obtain ⟨j, hj, rfl⟩ := List.getElem_of_mem hc
  have hg : M'[m.length + j]? = some (M'.drop m.length)[j] := by
    rw [← List.getElem?_drop, List.getElem?_eq_getElem hj]
  exact new (m.length + j) _ (by omega) hg
theorem CurA.start2 {M : Mem} {cb fl : Nat} {l : List Int} (h : M[cb]? = some ⟨.ro, 5, l.map (Value.int .u8)⟩) (hb : ∀ x ∈ l, 0 ≤ x ∧ x ≤ 255) (hf : l.length ≤ 65536) : CurA (M ++ [⟨.own, 52, [.slice (some ⟨cb, 0, none⟩) l.length fl, .int .i64 0, .int .u64 0]⟩]) cb l M.length 0 :=
  ⟨by rw [List.getElem?_append_left (List.getElem?_eq_some_iff.1 h).1]; exact h, hb, hf, (fl, 0), by simp⟩
theorem Cw.noRo {id : Nat} {A B : Mem} {lo : Nat} (h : Cw id A B) (hA : ∀ (i : Nat) (b : Blk), lo ≤ i → A[i]? = some b → b.kd ≠ .ro) {cb a : Nat} {l : List Int} (k : CurA B cb l id a) : ∀ (i : Nat) (b : Blk), lo ≤ i → B[i]? = some b → b.kd ≠ .ro := fun i b hi hb => by
  by_cases e : i = id
  · subst e
    obtain ⟨s, h2⟩ := k.box
    rw [h2] at hb
    cases hb
    simp
  · by_cases hl : i < A.length
    · rw [h.old i e hl] at hb; exact hA i b hi hb
    · exact h.new i b (by omega) hb
theorem DrawStocksOf_rc (m : Mem) (cb fl : Nat) (l : List Int) (h : BytesA m cb l) :
    RC Try.prog 21 [.slice (some ⟨cb, 0, none⟩) l.length fl] m (AnsCD m) := by
  refine rc_of_run mixed ok_spec_DrawStocksOf (by simp) (go_start _ _ _ ?_)
  simp (config := {implicitDefEqProofs := false, maxDischargeDepth := 20}) (disch := first | omega | (simp only [lenE]; done) | (simp only [lenE]; omega) | rfl | (simp only [lenE, markR_len]; done) | (simp only [lenE, markR_len]; omega)) only [runE, mapE, listE, initT_5, initT_6, initT_7, initT_8, resV, oneV, binA, unA, reduceCtorEq, Nat.reduceEqDiff, Nat.reduceAdd, Nat.reduceLT, Nat.reduceLeDiff, Nat.reduceMul, Nat.reduceSub, ↓reduceIte, decide_true, decide_false, Bool.true_eq_false, Bool.false_eq_true, Bool.not_true, Bool.not_false, if_true, if_false, and_true, true_and, memE, celE, w64, Nat.zero_add, Nat.add_zero, Nat.mul_one, putL, and_self, ldn, c_spec_DrawStocksOf, r_spec_DrawStocksOf, bldCur]
  obtain ⟨M0, hM0⟩ : ∃ M0 : Mem, M0 = roM m ++ [⟨.own, 26, [.slice none 0 0, .slice none 0 0, .slice none 0 0, .slice none 0 0]⟩] := ⟨_, rfl⟩
  have hl0 : M0.length = m.length + 1 := by rw [hM0]; simp [roM_len]
  have hc0 : M0[m.length]? = some ⟨.own, 26, [.slice none 0 0, .slice none 0 0, .slice none 0 0, .slice none 0 0]⟩ := by rw [hM0, List.getElem?_append_right (by rw [roM_len]; omega), roM_len]; simp
  have ho0 : ∀ i, i < m.length → M0[i]? = (roM m)[i]? := fun i hi => by rw [hM0, List.getElem?_append_left (by rw [roM_len]; exact hi)]
  have hb0 : M0[cb]? = some ⟨.ro, 5, l.map (Value.int .u8)⟩ := by
    have := h.ro
    rw [hM0, List.getElem?_append_left (List.getElem?_eq_some_iff.1 this).1]; exact this
  have k0 := CurA.start2 (fl := fl) hb0 h.byte h.few
  rw [hl0] at k0
  have hn0 : ∀ (i : Nat) (b : Blk), m.length ≤ i → (M0 ++ [(⟨.own, 52, [.slice (some ⟨cb, 0, none⟩) l.length fl, .int .i64 0, .int .u64 0]⟩ : Blk)])[i]? = some b → b.kd ≠ .ro := fun i b hi hb => by
    by_cases e : i = m.length
    · subst e
      rw [List.getElem?_append_left (by omega), hc0] at hb
      cases hb
      simp
    · rw [List.getElem?_append_right (by omega)] at hb
      have e1 : i - M0.length = 0 := by
        have := (List.getElem?_eq_some_iff.1 hb).1
        simpa using this
      rw [e1] at hb
      cases hb
      simp
  rw [← hM0]
  refine callH_ac (lots_ac _ cb _ 0 l k0 (by omega)) ?_
  rintro v M1 ⟨k, ⟨hsm, lv⟩, w1, a1, ha1, k1⟩
  obtain ⟨v1, v2, v3, v4, rfl, i1, i2, i3, i4⟩ := lv.here.ok
  have hl1 := w1.len
  have hll : (M0 ++ [(⟨.own, 52, [.slice (some ⟨cb, 0, none⟩) l.length fl, .int .i64 0, .int .u64 0]⟩ : Blk)]).length = m.length + 2 := by simp; omega
  rw [hll] at hl1 lv
  have hc1 : M1[m.length]? = some ⟨.own, 26, [.slice none 0 0, .slice none 0 0, .slice none 0 0, .slice none 0 0]⟩ := by
    rw [w1.old m.length (by omega) (by omega), List.getElem?_append_left (by omega)]; exact hc0
  have hn1 := w1.noRo hn0 k1
  have ho1 : ∀ i, i < m.length → M1[i]? = (roM m)[i]? := fun i hi => by
    rw [w1.old i (by omega) (by omega), List.getElem?_append_left (by omega)]; exact ho0 i hi
  have hx : (M1 ++ [(⟨.own, 26, [.slice none 0 0, .slice none 0 0, .slice none 0 0, .slice none 0 0]⟩ : Blk)])[M1.length]? = some ⟨.own, 26, [.slice none 0 0, .slice none 0 0, .slice none 0 0, .slice none 0 0]⟩ := by simp
  obtain ⟨s1, r1⟩ := cell_st hx rfl lv.here
  have e2 : (M1 ++ [(⟨.own, 26, [.slice none 0 0, .slice none 0 0, .slice none 0 0, .slice none 0 0]⟩ : Blk)]).set M1.length ⟨.own, 26, [v1, v2, v3, v4]⟩ = M1 ++ [⟨.own, 26, [v1, v2, v3, v4]⟩] := by simp
  rw [e2] at s1 r1
  obtain ⟨M2, hM2⟩ : ∃ M2 : Mem, M2 = M1 ++ [⟨.own, 26, [v1, v2, v3, v4]⟩] := ⟨_, rfl⟩
  rw [← hM2] at s1 r1
  have q0 : rdc M2 M1.length 0 = some v1 := r1 0
  have q1 : rdc M2 M1.length 1 = some v2 := r1 1
  have q2 : rdc M2 M1.length 2 = some v3 := r1 2
  have q3 : rdc M2 M1.length 3 = some v4 := r1 3
  have k2 : CurA M2 cb l (m.length + 1) a1 := by rw [hM2]; exact k1.ext _
  have hl2 : M2.length = M1.length + 1 := by rw [hM2]; simp
  have lv2 : Lives (m.length + 2) M2 (.agg #[v1, v2, v3, v4]) k := lv.up (by omega) fun i _ hi => by rw [hM2, List.getElem?_append_left hi]
  have hn2 : ∀ (i : Nat) (b : Blk), m.length ≤ i → M2[i]? = some b → b.kd ≠ .ro := fun i b hi hb => by
    by_cases e : i < M1.length
    · rw [hM2, List.getElem?_append_left e] at hb; exact hn1 i b hi hb
    · rw [hM2, List.getElem?_append_right (by omega)] at hb
      have e1 : i - M1.length = 0 := by
        have := (List.getElem?_eq_some_iff.1 hb).1
        simpa using this
      rw [e1] at hb
      cases hb
      simp
  have ho2 : ∀ i, i < M1.length → M2[i]? = M1[i]? := fun i hi => by rw [hM2, List.getElem?_append_left hi]
  simp (config := {implicitDefEqProofs := false, maxDischargeDepth := 20}) (disch := first | omega | (simp only [lenE]; done) | (simp only [lenE]; omega) | rfl | (simp only [lenE, markR_len]; done) | (simp only [lenE, markR_len]; omega)) only [runE, mapE, listE, initT_5, initT_6, initT_7, initT_8, resV, oneV, binA, unA, reduceCtorEq, Nat.reduceEqDiff, Nat.reduceAdd, Nat.reduceLT, Nat.reduceLeDiff, Nat.reduceMul, Nat.reduceSub, ↓reduceIte, decide_true, decide_false, Bool.true_eq_false, Bool.false_eq_true, Bool.not_true, Bool.not_false, if_true, if_false, and_true, true_and, memE, celE, w64, Nat.zero_add, Nat.add_zero, Nat.mul_one, putL, and_self, ldn, stP_aggL, s1, q0, q1, q2, q3]
  refine ⟨?_, ?_⟩
  all_goals
    refine callH_ac (amounts_ac M2 cb _ a1 _ l _ k k2 (by omega) lv2 (by omega) hsm) ?_
    rintro u M3 ⟨r, L, a3, rfl, hL, ha3, d3⟩
    have hl3 := d3.cw.len
    have hge3 := d3.ge
    have f3 : M3[M1.length]? = some ⟨.own, 26, [v1, v2, v3, v4]⟩ := by
      rw [d3.cw.old M1.length (by omega) (by omega), hM2]; simp
    have p0 : rdc M3 M1.length 0 = some v1 := by unfold rdc; rw [f3]; rfl
    have p1 : rdc M3 M1.length 1 = some v2 := by unfold rdc; rw [f3]; rfl
    have p2 : rdc M3 M1.length 2 = some v3 := by unfold rdc; rw [f3]; rfl
    have p3 : rdc M3 M1.length 3 = some v4 := by unfold rdc; rw [f3]; rfl
    have hc3 : M3[m.length]? = some ⟨.own, 26, [.slice none 0 0, .slice none 0 0, .slice none 0 0, .slice none 0 0]⟩ := by
      rw [d3.cw.old m.length (by omega) (by omega), ho2 _ (by omega)]; exact hc1
    obtain ⟨s4, r4⟩ := cell_st hc3 rfl lv.here
    have lv3 : Lives (m.length + 2) M3 (.agg #[v1, v2, v3, v4]) k := lv2.up hl3 fun i h1 h2 => d3.cw.old i (by omega) h2
    have x3 : Ext m M3 := ext_of (by omega) (fun i hi => by rw [d3.cw.old i (by omega) (by omega), ho2 i (by omega)]; exact ho1 i hi) (d3.cw.noRo hn2 d3.cur)
    have x4 := x3.put (Nat.le_refl _) 26 [v1, v2, v3, v4]
    have lv4 : Lives (m.length + 2) (M3.set m.length ⟨.own, 26, [v1, v2, v3, v4]⟩) (.agg #[v1, v2, v3, v4]) k := lv3.up (by simp) fun i h1 h2 => List.getElem?_set_ne (by omega)
    have o4 : OwnR (M3.set m.length ⟨.own, 26, [v1, v2, v3, v4]⟩) r L := d3.own.set_ne (by omega)
    have z0 := r4 0
    have z1 := r4 1
    have z2 := r4 2
    have z3 := r4 3
    simp only [List.getElem?_cons_zero, List.getElem?_cons_succ] at z0 z1 z2 z3
    simp (config := {implicitDefEqProofs := false, maxDischargeDepth := 20}) (disch := first | omega | (simp only [lenE]; done) | (simp only [lenE]; omega) | rfl | (simp only [lenE, markR_len]; done) | (simp only [lenE, markR_len]; omega)) only [runE, mapE, listE, initT_5, initT_6, initT_7, initT_8, resV, oneV, binA, unA, reduceCtorEq, Nat.reduceEqDiff, Nat.reduceAdd, Nat.reduceLT, Nat.reduceLeDiff, Nat.reduceMul, Nat.reduceSub, ↓reduceIte, decide_true, decide_false, Bool.true_eq_false, Bool.false_eq_true, Bool.not_true, Bool.not_false, if_true, if_false, and_true, true_and, memE, celE, w64, Nat.zero_add, Nat.add_zero, Nat.mul_one, putL, and_self, ldn, stP_aggL, s4, p0, p1, p2, p3, z0, z1, z2, z3]
    exact fin_cell x4 lv4 (by omega) o4 (by omega) rfl hL
/-- A draw function that hands on what another one draws. -/
theorem draw_on {m : Mem} {r : Value} {new : Mem} (h : AnsCD (roM m ++ [⟨.own, 26, [.slice none 0 0, .slice none 0 0, .slice none 0 0, .slice none 0 0]⟩]) r new) : ∃ (v1 v2 v3 v4 : Value) (i : Nat) (L : List Int) (M2 : Mem), r = .tuple #[.agg #[v1, v2, v3, v4], .slice (some ⟨m.length + 1 + i, 0, none⟩) L.length 1] ∧
    stA (roM m ++ [(⟨.own, 26, [.slice none 0 0, .slice none 0 0, .slice none 0 0, .slice none 0 0]⟩ : Blk)] ++ new) m.length 0 [v1, v2, v3, v4] = some M2 ∧
    rdc M2 m.length 0 = some v1 ∧ rdc M2 m.length 1 = some v2 ∧ rdc M2 m.length 2 = some v3 ∧ rdc M2 m.length 3 = some v4 ∧
    newQ m (AnsCD m) (.tuple #[.agg #[v1, v2, v3, v4], .slice (some ⟨m.length + 1 + i, 0, none⟩) L.length 1]) M2 := by
  obtain ⟨h0, v1, v2, v3, v4, k, i, L, rfl, hrow, hL, hk⟩ := h
  have hl : (roM m ++ [(⟨.own, 26, [.slice none 0 0, .slice none 0 0, .slice none 0 0, .slice none 0 0]⟩ : Blk)]).length = m.length + 1 := by simp [roM_len]
  rw [hl] at hk ⊢
  have hc : (roM m ++ [(⟨.own, 26, [.slice none 0 0, .slice none 0 0, .slice none 0 0, .slice none 0 0]⟩ : Blk)] ++ new)[m.length]? = some ⟨.own, 26, [.slice none 0 0, .slice none 0 0, .slice none 0 0, .slice none 0 0]⟩ := by
    rw [List.getElem?_append_left (by omega), List.getElem?_append_right (by rw [roM_len]; omega), roM_len]; simp
  obtain ⟨s1, r1⟩ := cell_st hc rfl hk.here
  have ho : OwnR (roM m ++ [(⟨.own, 26, [.slice none 0 0, .slice none 0 0, .slice none 0 0, .slice none 0 0]⟩ : Blk)] ++ new) (m.length + 1 + i) L := OwnR.new hrow (by rw [hl])
  have hx : Ext m (roM m ++ [(⟨.own, 26, [.slice none 0 0, .slice none 0 0, .slice none 0 0, .slice none 0 0]⟩ : Blk)] ++ new) := ((Ext.refl m).one _ _).app h0
  have lv : Lives (m.length + 1) ((roM m ++ [(⟨.own, 26, [.slice none 0 0, .slice none 0 0, .slice none 0 0, .slice none 0 0]⟩ : Blk)] ++ new).set m.length ⟨.own, 26, [v1, v2, v3, v4]⟩) (.agg #[v1, v2, v3, v4]) k := hk.up (by simp) fun j h1 h2 => List.getElem?_set_ne (by omega)
  exact ⟨v1, v2, v3, v4, i, L, _, rfl, s1, r1 0, r1 1, r1 2, r1 3, fin_cell (hx.put (Nat.le_refl _) _ _) lv (by omega) (ho.set_ne (by omega)) (by omega) rfl hL⟩
theorem DrawPlanCost_rc (m : Mem) (cb fl : Nat) (l : List Int) (h : BytesA m cb l) :
    RC Try.prog 5 [.slice (some ⟨cb, 0, none⟩) l.length fl] m (AnsCD m) := by
  refine rc_of_run mixed ok_spec_DrawPlanCost (by simp) (go_start _ _ _ ?_)
  have hb : BytesA (roM m ++ [⟨.own, 26, [.slice none 0 0, .slice none 0 0, .slice none 0 0, .slice none 0 0]⟩]) cb l := by
    have := h.ro
    exact ⟨⟨.ro, by simp, by rw [List.getElem?_append_left (List.getElem?_eq_some_iff.1 this).1]; exact this⟩, h.byte, h.few⟩
  simp (config := {implicitDefEqProofs := false, maxDischargeDepth := 20}) (disch := first | omega | (simp only [lenE]; done) | (simp only [lenE]; omega) | rfl | (simp only [lenE, markR_len]; done) | (simp only [lenE, markR_len]; omega)) only [runE, mapE, listE, initT_5, initT_6, initT_7, initT_8, resV, oneV, binA, unA, reduceCtorEq, Nat.reduceEqDiff, Nat.reduceAdd, Nat.reduceLT, Nat.reduceLeDiff, Nat.reduceMul, Nat.reduceSub, ↓reduceIte, decide_true, decide_false, Bool.true_eq_false, Bool.false_eq_true, Bool.not_true, Bool.not_false, if_true, if_false, and_true, true_and, memE, celE, w64, Nat.zero_add, Nat.add_zero, Nat.mul_one, putL, and_self, ldn, c_spec_DrawPlanCost, r_spec_DrawPlanCost]
  refine callH_rc (DrawStocksOf_rc _ cb fl l hb) ?_
  intro r new hA
  obtain ⟨v1, v2, v3, v4, i, L, M2, rfl, s1, r0, r1, r2, r3, fin⟩ := draw_on hA
  simp (config := {implicitDefEqProofs := false, maxDischargeDepth := 20}) (disch := first | omega | (simp only [lenE]; done) | (simp only [lenE]; omega) | rfl | (simp only [lenE, markR_len]; done) | (simp only [lenE, markR_len]; omega)) only [runE, mapE, listE, initT_5, initT_6, initT_7, initT_8, resV, oneV, binA, unA, reduceCtorEq, Nat.reduceEqDiff, Nat.reduceAdd, Nat.reduceLT, Nat.reduceLeDiff, Nat.reduceMul, Nat.reduceSub, ↓reduceIte, decide_true, decide_false, Bool.true_eq_false, Bool.false_eq_true, Bool.not_true, Bool.not_false, if_true, if_false, and_true, true_and, memE, celE, w64, Nat.zero_add, Nat.add_zero, Nat.mul_one, putL, and_self, ldn, ext_2_0, ext_2_1, stP_aggL, s1, r0, r1, r2, r3]
  exact fin
end Go.Proofs.Ytfjpickejgbmaaa.Ab
