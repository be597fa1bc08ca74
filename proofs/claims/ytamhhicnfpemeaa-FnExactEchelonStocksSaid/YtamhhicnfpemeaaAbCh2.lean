/- Chains: stocks of all stages, chain plans, by the model. -/
import Derived.Test.YtamhhicnfpemeaaAbCh1
namespace Go.Proofs.Ytamhhicnfpemeaa.Ab
open Go Go.RowKit
set_option linter.unusedVariables false
set_option linter.unusedSimpArgs false

theorem Grow.same {M M' : Mem} (h : Grow M M') {i : Nat} (hi : i < M.length) : M'[i]? = M[i]? := by
  obtain ⟨R, rfl, _⟩ := h
  exact List.getElem?_append_left hi
theorem rowsC_snoc {T : List (List Int)} {r : List Int} {R F : Nat → Nat} {rid f : Nat} :
    rowsC (T ++ [r]) (fun j => if j < T.length then R j else rid) (fun j => if j < T.length then F j else f) = rowsC T R F ++ [.slice (some ⟨rid, 0, none⟩) r.length f] := by
  unfold rowsC
  rw [List.length_append, List.length_singleton, List.range_succ, List.map_append]
  congr 1
  · apply List.map_congr_left
    intro j hj
    have hj' := List.mem_range.1 hj
    simp [hj', List.getD_eq_getElem?_getD, List.getElem?_append_left hj']
  · simp [List.getD_eq_getElem?_getD]
theorem TabX.snoc {T : List (List Int)} {r : List Int} {lo hi hi' : Nat} {M M' : Mem} {id id' rid f : Nat} {R F : Nat → Nat} (h : TabX T lo hi M id R F) (hs : ∀ i, lo ≤ i → i < hi → i ≠ id → M'[i]? = M[i]?)
    (h1 : lo ≤ id') (h2 : id' < hi') (h3 : OwnB M' id' 24 (rowsC T R F ++ [.slice (some ⟨rid, 0, none⟩) r.length f])) (h4 : hi ≤ rid) (h5 : rid < hi') (h6 : OwnR M' rid r) (h7 : hi ≤ hi') :
    TabX (T ++ [r]) lo hi' M' id' (fun j => if j < T.length then R j else rid) (fun j => if j < T.length then F j else f) := by
  refine ⟨h1, h2, by rw [rowsC_snoc]; exact h3, fun j hj => ?_, fun i j hi hj he => ?_⟩
  · by_cases e : j < T.length
    · obtain ⟨a, b, c⟩ := h.2.2.2.1 j e
      have hne : R j ≠ id := fun e2 => by
        have c' : M[R j]? = some (Ab.rowB (T.getD j [])) := c
        have d : M[id]? = some ⟨.own, 24, rowsC T R F⟩ := h.2.2.1
        rw [e2, d] at c'
        cases c'
      simp only [e, if_true]
      refine ⟨a, by omega, ?_⟩
      have e3 : (T ++ [r]).getD j [] = T.getD j [] := by simp [List.getD_eq_getElem?_getD, List.getElem?_append_left e]
      rw [e3]
      exact c.at_ (hs _ a b hne)
    · have e4 : j = T.length := by simp at hj; omega
      simp only [e, if_false]
      refine ⟨by have := h.1; have := h.2.1; omega, h5, ?_⟩
      have e3 : (T ++ [r]).getD j [] = r := by subst e4; simp [List.getD_eq_getElem?_getD]
      rw [e3]; exact h6
  · simp at hi hj he
    by_cases e1 : i < T.length <;> by_cases e2 : j < T.length
    · rw [if_pos e1, if_pos e2] at he
      exact h.2.2.2.2 i j e1 e2 he
    · rw [if_pos e1, if_neg e2] at he
      have := (h.2.2.2.1 i e1).2.1
      omega
    · rw [if_neg e1, if_pos e2] at he
      have := (h.2.2.2.1 j e2).2.1
      omega
    · omega
theorem TabX.nil {lo : Nat} {M : Mem} {id : Nat} (h : OwnB M id 24 []) (h1 : lo ≤ id) : TabX [] lo (id + 1) M id (fun _ => 0) (fun _ => 0) :=
  ⟨h1, by omega, h, fun j hj => absurd hj (by simp), fun i j hi => absurd hi (by simp)⟩
theorem TabA.xg {m M M' : Mem} {v : Value} {T : List (List Int)} (h : TabA m v T) (hx : Ext m M) : TabA M v T := TabA.xt h hx
/-- What goes out of a stage, in a period. -/
theorem l7Out_rc (m : Mem) (v vt : Value) (c : Ch) (T : List (List Int)) (s t : Nat) (h : ChA m v c) (hT : TabA m vt T) (hs : s < T.length) (h3 : T.length ≤ 3) (hr : ∀ j, j < T.length → (T.getD j []).length = c.need.length) (ht : t < c.need.length) :
    RC Try.prog 129 [v, vt, .int .i64 (s : Int), .int .i64 (t : Int)] m (AnsV (.int .i64 ((outR c.need T s).getD t 0))) := by
  refine rc_of_run mixed ok_spec_l7Out (by simp) (go_start _ _ _ ?_)
  obtain ⟨a, b, d, rfl, ha, hb, hd⟩ := h.ro
  have hT1 := hT.ro.ext [⟨.own, 26, [a, b, d]⟩]
  have ha1 := ha.ext [⟨.own, 26, [a, b, d]⟩]
  have hX := (Ext.refl m).one 26 [a, b, d]
  unfold outR
  by_cases e : s + 1 < T.length
  · have e' : (s : Int) + 1 < T.length := by omega
    have ec : ((s + 1 : Nat) : Int) = (s : Int) + 1 := by omega
    obtain ⟨u, hu, hl⟩ := hT1.ld (s + 1) e
    have ha2 := hT1.at_ (s + 1) e
    rw [ec] at ha2
    have hlr := hr (s + 1) e
    simp (config := {implicitDefEqProofs := false, maxDischargeDepth := 20}) (disch := first | omega | (simp only [lenE]; done) | (simp only [lenE]; omega) | rfl | (simp only [lenE, markR_len]; done) | (simp only [lenE, markR_len]; omega)) only [runE, mapE, listE, initT_5, initT_6, initT_7, initT_8, resV, oneV, binA, unA, reduceCtorEq, Nat.reduceEqDiff, Nat.reduceAdd, Nat.reduceLT, Nat.reduceLeDiff, Nat.reduceMul, Nat.reduceSub, ↓reduceIte, decide_true, decide_false, Bool.true_eq_false, Bool.false_eq_true, Bool.not_true, Bool.not_false, if_true, if_false, and_true, true_and, memE, celE, w64, Nat.zero_add, Nat.add_zero, Nat.mul_one, putL, and_self, ldn, c_spec_l7Out, r_spec_l7Out, hT1.len, e', ha2, hu, hl.at_ t (by omega), hl.ld t (by omega)]
    exact ext_ansV hX (by rw [if_pos e])
  · have e' : ¬ ((s : Int) + 1 < T.length) := by omega
    simp (config := {implicitDefEqProofs := false, maxDischargeDepth := 20}) (disch := first | omega | (simp only [lenE]; done) | (simp only [lenE]; omega) | rfl | (simp only [lenE, markR_len]; done) | (simp only [lenE, markR_len]; omega)) only [runE, mapE, listE, initT_5, initT_6, initT_7, initT_8, resV, oneV, binA, unA, reduceCtorEq, Nat.reduceEqDiff, Nat.reduceAdd, Nat.reduceLT, Nat.reduceLeDiff, Nat.reduceMul, Nat.reduceSub, ↓reduceIte, decide_true, decide_false, Bool.true_eq_false, Bool.false_eq_true, Bool.not_true, Bool.not_false, if_true, if_false, and_true, true_and, memE, celE, w64, Nat.zero_add, Nat.add_zero, Nat.mul_one, putL, and_self, ldn, c_spec_l7Out, r_spec_l7Out, hT1.len, e', ha1.at_ t ht, ha1.ld t ht]
    exact ext_ansV hX (by rw [if_neg e])
/-- All rows have as many numbers as there are periods, in their bounds. -/
def rowsOk (c : Ch) (T : List (List Int)) : Prop := ∀ j, j < T.length → (T.getD j []).length = c.need.length ∧ ∀ x ∈ T.getD j [], 0 ≤ x ∧ x ≤ 120
theorem out_bd {c : Ch} {T : List (List Int)} (hg : GoodCh c) (hr : rowsOk c T) (s : Nat) : (outR c.need T s).length = c.need.length ∧ ∀ x ∈ outR c.need T s, 0 ≤ x ∧ x ≤ 120 := by
  unfold outR
  split
  · rename_i h; exact hr _ h
  · exact ⟨rfl, fun x hx => by have := hg.need x hx; omega⟩
theorem nowK_bd {am out : List Int} (h1 : ∀ x ∈ am, 0 ≤ x ∧ x ≤ 120) (h2 : ∀ x ∈ out, 0 ≤ x ∧ x ≤ 120) {k : Nat} (k1 : k ≤ am.length) (k2 : k ≤ out.length) (k6 : k ≤ 6) : -720 ≤ nowK am out k ∧ nowK am out k ≤ 720 := by
  have b1 := sumTo_in h1 k k1
  have b2 := sumTo_in h2 k k2
  unfold nowK; omega
theorem stocksT_take (need : List Int) (T : List (List Int)) {s : Nat} (h : s < T.length) : (stocksT need T).take (s + 1) = (stocksT need T).take s ++ [stocksL (T.getD s []) (outR need T s)] := by
  rw [List.take_add_one]
  congr 1
  have := stocksT_at (need := need) h
  rw [List.getD_eq_getElem?_getD, List.getElem?_eq_getElem (by rw [stocksT_len]; exact h)] at this
  rw [List.getElem?_eq_getElem (by rw [stocksT_len]; exact h)]
  simp only [Option.getD_some] at this
  rw [this]; rfl
theorem tsz_bd {T : List (List Int)} {n : Nat} (h : ∀ j, j < T.length → (T.getD j []).length ≤ n) (k : Nat) (hk : k ≤ T.length) : tsz T k ≤ (k : Int) * n := by
  induction k with
  | zero => simp [tsz]
  | succ k ih =>
    have := ih (by omega)
    have h2 := h k (by omega)
    simp only [tsz]
    rw [Int.natCast_add, Int.add_mul]
    omega
theorem stocksT_sz {c : Ch} {T : List (List Int)} (h3 : T.length ≤ 3) (n6 : c.need.length ≤ 6) (hr : rowsOk c T) : tsz (stocksT c.need T) (stocksT c.need T).length ≤ 1048576 := by
  have := tsz_bd (T := stocksT c.need T) (n := 6) (fun j hj => by
    rw [stocksT_len] at hj
    rw [stocksT_at hj, stocksL_len, (hr j hj).1]; exact n6) (stocksT c.need T).length (Nat.le_refl _)
  rw [stocksT_len] at this ⊢
  omega
theorem l7Stocks_rc (m : Mem) (v vt : Value) (c : Ch) (T : List (List Int)) (h : ChA m v c) (hT : TabA m vt T) (hg : GoodCh c) (hl3 : T.length ≤ 3) (hr : rowsOk c T) :
    RC Try.prog 98 [v, vt] m (AnsO m (TabO (stocksT c.need T)) id) := by
  refine rc_of_run mixed ok_spec_l7Stocks (by simp) (go_start _ _ _ ?_)
  obtain ⟨a, b, d, rfl, ha, hb, hd⟩ := h.ro
  have hTr := hT.ro
  have n6 := hg.n6
  have hX0 := ((Ext.refl m).one 26 [a, b, d]).one 24 []
  have hb0 : OwnB (roM m ++ [⟨.own, 26, [a, b, d]⟩] ++ [⟨.own, 24, []⟩]) m.length 26 [a, b, d] := (OwnB.here (roM_len m).symm).ext _
  have ht0 : TabX [] (m.length + 1) (roM m ++ [(⟨.own, 26, [a, b, d]⟩ : Blk)] ++ [(⟨.own, 24, []⟩ : Blk)]).length (roM m ++ [⟨.own, 26, [a, b, d]⟩] ++ [⟨.own, 24, []⟩]) (m.length + 1) (fun _ => 0) (fun _ => 0) := by
    have e : (roM m ++ [(⟨.own, 26, [a, b, d]⟩ : Blk)] ++ [(⟨.own, 24, []⟩ : Blk)]).length = m.length + 1 + 1 := by simp [roM_len]
    rw [e]
    exact TabX.nil (OwnB.here (by simp [roM_len])) (Nat.le_refl _)
  simp (config := {implicitDefEqProofs := false, maxDischargeDepth := 20}) (disch := first | omega | (simp only [lenE]; done) | (simp only [lenE]; omega) | rfl | (simp only [lenE, markR_len]; done) | (simp only [lenE, markR_len]; omega)) only [runE, mapE, listE, initT_5, initT_6, initT_7, initT_8, resV, oneV, binA, unA, reduceCtorEq, Nat.reduceEqDiff, Nat.reduceAdd, Nat.reduceLT, Nat.reduceLeDiff, Nat.reduceMul, Nat.reduceSub, ↓reduceIte, decide_true, decide_false, Bool.true_eq_false, Bool.false_eq_true, Bool.not_true, Bool.not_false, if_true, if_false, and_true, true_and, memE, celE, w64, Nat.zero_add, Nat.add_zero, Nat.mul_one, putL, and_self, ldn, c_spec_l7Stocks, r_spec_l7Stocks, bsl_no]
  refine loop_inv mixed (fun s => ∃ (k : Nat) (M : Mem) (id : Nat) (R F : Nat → Nat), k ≤ T.length ∧ s.m = M ∧ Ext m M ∧ OwnB M m.length 26 [a, b, d] ∧ TabX ((stocksT c.need T).take k) (m.length + 1) M.length M id R F ∧ s.t 1 = vt ∧ s.t 2 = .pointer (some ⟨m.length, 0, none⟩) ∧ s.t 5 = .slice (some ⟨id, 0, none⟩) k 1 ∧ s.t 6 = .int .i64 (k : Int)) (fun s => T.length - (intOf (s.t 6)).toNat)
    ⟨0, _, m.length + 1, _, _, by omega, rfl, hX0, hb0, ht0, rfl, rfl, rfl, rfl⟩ ?_
  rintro s ⟨k, M, id, R, F, hk, tm, hX, hbx, hTX, t1, t2, t5, t6⟩
  by_cases hlt : k < T.length
  · have hlt' : (k : Int) < T.length := by omega
    obtain ⟨am, ham⟩ : ∃ am, am = T.getD k [] := ⟨_, rfl⟩
    obtain ⟨out, hout⟩ : ∃ out, out = outR c.need T k := ⟨_, rfl⟩
    have hrk := hr k hlt
    have hok := out_bd hg hr k
    rw [← ham] at hrk
    rw [← hout] at hok
    simp (config := {implicitDefEqProofs := false, maxDischargeDepth := 20}) (disch := first | omega | (simp only [lenE]; done) | (simp only [lenE]; omega) | rfl | (simp only [lenE, markR_len]; done) | (simp only [lenE, markR_len]; omega)) only [runE, mapE, listE, initT_5, initT_6, initT_7, initT_8, resV, oneV, binA, unA, reduceCtorEq, Nat.reduceEqDiff, Nat.reduceAdd, Nat.reduceLT, Nat.reduceLeDiff, Nat.reduceMul, Nat.reduceSub, ↓reduceIte, decide_true, decide_false, Bool.true_eq_false, Bool.false_eq_true, Bool.not_true, Bool.not_false, if_true, if_false, and_true, true_and, memE, celE, w64, Nat.zero_add, Nat.add_zero, Nat.mul_one, putL, and_self, ldn, tm, t1, t2, t5, t6, hlt', hTr.len, bsl_no]
    have ho0 : OwnR (M ++ [⟨.own, 3, []⟩]) M.length [] := OwnB.here rfl
    refine loop_inv mixed (fun s => ∃ (t : Nat) (M' : Mem) (rid : Nat), t ≤ c.need.length ∧ s.m = M' ∧ Grow M M' ∧ M.length ≤ rid ∧ OwnR M' rid (stocksTo am out t) ∧ s.t 1 = vt ∧ s.t 2 = .pointer (some ⟨m.length, 0, none⟩) ∧ s.t 5 = .slice (some ⟨id, 0, none⟩) k 1 ∧ s.t 6 = .int .i64 (k : Int) ∧ s.t 7 = .slice (some ⟨rid, 0, none⟩) t 1 ∧ s.t 8 = .int .i64 (nowK am out t) ∧ s.t 9 = .int .i64 (t : Int)) (fun s => c.need.length - (intOf (s.t 9)).toNat)
      ⟨0, _, M.length, by omega, rfl, (Grow.refl M).one _ _, Nat.le_refl _, ho0, t1, t2, t5, t6, rfl, rfl, rfl⟩ ?_
    rintro s ⟨t, M', rid, ht, tm, hG, hrid, ho, t1, t2, t5, t6, t7, t8, t9⟩
    have hX' := hX.grow hG
    have hbx' := hbx.at_ (hG.same hbx.lt)
    have ha' := hX'.ints ha
    by_cases hlt2 : t < c.need.length
    · have hlt2' : (t : Int) < c.need.length := by omega
      have hT' := TabA.xt hT hX'
      obtain ⟨u, hu, hrow⟩ := hT'.ld k hlt
      rw [← ham] at hrow
      have b1 := nowK_bd hrk.2 hok.2 (k := t) (by omega) (by omega) (by omega)
      have b2 := getD_in hrk.2 (k := t) (by omega)
      have b3 := getD_in hok.2 (k := t) (by omega)
      have b4 := nowK_s (plan := am) (need := out) (k := t) (by omega) (by omega)
      simp (config := {implicitDefEqProofs := false, maxDischargeDepth := 20}) (disch := first | omega | (simp only [lenE]; done) | (simp only [lenE]; omega) | rfl | (simp only [lenE, markR_len]; done) | (simp only [lenE, markR_len]; omega)) only [runE, mapE, listE, initT_5, initT_6, initT_7, initT_8, resV, oneV, binA, unA, reduceCtorEq, Nat.reduceEqDiff, Nat.reduceAdd, Nat.reduceLT, Nat.reduceLeDiff, Nat.reduceMul, Nat.reduceSub, ↓reduceIte, decide_true, decide_false, Bool.true_eq_false, Bool.false_eq_true, Bool.not_true, Bool.not_false, if_true, if_false, and_true, true_and, memE, celE, w64, Nat.zero_add, Nat.add_zero, Nat.mul_one, putL, and_self, ldn, tm, t1, t2, t5, t6, t7, t8, t9, hbx'.rd, ha'.len, hlt2', hT'.at_ k hlt, hu, hrow.at_ t (by omega), hrow.ld t (by omega)]
      refine rcallH_rc (l7Out_rc _ _ vt c T k t (ChA.mk ha' (hX'.ints hb) (hX'.ints hd)) hT' hlt hl3 (fun j hj => (hr j hj).1) hlt2) ?_
      rintro r n1 ⟨rfl, nr1⟩
      rw [← hout]
      have ho1 := ho.ext n1
      have hG1 := hG.app nr1
      have happ := app_num (x := nowK am out t + am.getD t 0 - out.getD t 0) (id2 := (M' ++ n1).length) (n := t) ho1 (by rw [stocksTo_len]; omega) rfl (by rw [stocksTo_len])
      obtain ⟨M2, hM2⟩ : ∃ M2, M2 = M' ++ n1 := ⟨_, rfl⟩
      rw [← hM2] at happ ho1 hG1 ⊢
      simp (config := {implicitDefEqProofs := false, maxDischargeDepth := 20}) (disch := first | omega | (simp only [lenE]; done) | (simp only [lenE]; omega) | rfl | (simp only [lenE, markR_len]; done) | (simp only [lenE, markR_len]; omega)) only [runE, mapE, listE, initT_5, initT_6, initT_7, initT_8, resV, oneV, binA, unA, reduceCtorEq, Nat.reduceEqDiff, Nat.reduceAdd, Nat.reduceLT, Nat.reduceLeDiff, Nat.reduceMul, Nat.reduceSub, ↓reduceIte, decide_true, decide_false, Bool.true_eq_false, Bool.false_eq_true, Bool.not_true, Bool.not_false, if_true, if_false, and_true, true_and, memE, celE, w64, Nat.zero_add, Nat.add_zero, Nat.mul_one, putL, and_self, ldn, t1, t2, t5, t6, t7, t8, t9, bsl_one, happ]
      have hl2 := hG1.len
      refine ⟨⟨t + 1, _, M2.length + 1, by omega, rfl, ((hG1.dead hrid).one _ _).one _ _, by omega, ?_, rfl, by rw [b4], by simp⟩, ?_⟩
      · rw [stocksTo_succ, stk_now, b4]
        exact OwnB.here (by simp)
      · simp [intOf]; omega
    · have hlt2' : ¬ ((t : Int) < c.need.length) := by omega
      have et : t = c.need.length := by omega
      subst et
      have hTX' := hTX.at_ (M' := M') fun i _ hi => hG.same hi
      have hidl := hTX'.2.2.1.lt
      have hrl := ho.lt
      have happ := app_back (e := 24) (sz := 1) (byt := 24) (n := k) (ys := [.slice (some ⟨rid, 0, none⟩) c.need.length 1]) hTX'.2.2.1 rfl (by rw [rowsC_len, List.length_take, stocksT_len]; omega) rfl (by rfl) (by omega) (by omega)
      simp (config := {implicitDefEqProofs := false, maxDischargeDepth := 20}) (disch := first | omega | (simp only [lenE]; done) | (simp only [lenE]; omega) | rfl | (simp only [lenE, markR_len]; done) | (simp only [lenE, markR_len]; omega)) only [runE, mapE, listE, initT_5, initT_6, initT_7, initT_8, resV, oneV, binA, unA, reduceCtorEq, Nat.reduceEqDiff, Nat.reduceAdd, Nat.reduceLT, Nat.reduceLeDiff, Nat.reduceMul, Nat.reduceSub, ↓reduceIte, decide_true, decide_false, Bool.true_eq_false, Bool.false_eq_true, Bool.not_true, Bool.not_false, if_true, if_false, and_true, true_and, memE, celE, w64, Nat.zero_add, Nat.add_zero, Nat.mul_one, putL, and_self, ldn, tm, t1, t2, t5, t6, t7, t8, t9, hbx'.rd, ha'.len, hlt2', bsl_sl', happ]
      refine ⟨⟨k + 1, _, M'.length + 1, fun j => if j < ((stocksT c.need T).take k).length then R j else rid, fun j => if j < ((stocksT c.need T).take k).length then F j else 1, by omega, rfl, ?_, ?_, ?_, rfl, by simp⟩, ?_⟩
      · exact ((hX'.dead (by have := hTX'.1; omega)).one _ _).one _ _
      · exact hbx'.at_ (by rw [List.append_assoc, List.getElem?_append_left (by rw [List.length_set]; exact hbx'.lt), List.getElem?_set_ne (by have := hTX'.1; omega)])
      · rw [stocksT_take c.need T hlt, ← ham, ← hout]
        have hlen : (stocksL am out).length = c.need.length := by rw [stocksL_len]; exact hrk.1
        have hpl : stocksTo am out c.need.length = stocksL am out := by unfold stocksL; rw [hrk.1]
        refine TabX.snoc (rid := rid) (f := 1) (hTX'.wider (Nat.le_refl _)) (fun i h1 h2 h3 => ?_) (by have := hTX'.1; have := hTX'.2.1; have := hG.len; omega) (by simp) ?_ hrid (by simp; omega) ?_ (by simp; have := hG.len; omega)
        · have := hG.len
          rw [List.append_assoc, List.getElem?_append_left (by rw [List.length_set]; omega), List.getElem?_set_ne (by omega)]
        · rw [hlen]
          exact OwnB.here (by simp)
        · rw [hpl] at ho
          have hne : id ≠ rid := by have := hTX.2.1; omega
          exact (((ho.dead hne).ext _).ext _)
      · simp [intOf]; omega
  · have hlt' : ¬ ((k : Int) < T.length) := by omega
    have e : k = T.length := by omega
    subst e
    simp (config := {implicitDefEqProofs := false, maxDischargeDepth := 20}) (disch := first | omega | (simp only [lenE]; done) | (simp only [lenE]; omega) | rfl | (simp only [lenE, markR_len]; done) | (simp only [lenE, markR_len]; omega)) only [runE, mapE, listE, initT_5, initT_6, initT_7, initT_8, resV, oneV, binA, unA, reduceCtorEq, Nat.reduceEqDiff, Nat.reduceAdd, Nat.reduceLT, Nat.reduceLeDiff, Nat.reduceMul, Nat.reduceSub, ↓reduceIte, decide_true, decide_false, Bool.true_eq_false, Bool.false_eq_true, Bool.not_true, Bool.not_false, if_true, if_false, and_true, true_and, memE, celE, w64, Nat.zero_add, Nat.add_zero, Nat.mul_one, putL, and_self, ldn, tm, t1, t2, t5, t6, hlt', hTr.len]
    rw [List.take_of_length_le (by rw [stocksT_len]; omega)] at hTX
    have hO := hTX.obj (fl := 1) (by rw [stocksT_len]; omega) (stocksT_sz hl3 n6 hr)
    rw [stocksT_len] at hO
    refine ext_ansO (f := _root_.id) hX fun M' hM => ?_
    have := (hTX.at_ (M' := M') fun i h1 h2 => hM i (by omega) h2).obj (fl := 1) (by rw [stocksT_len]; omega) (stocksT_sz hl3 n6 hr)
    rw [stocksT_len] at this
    exact TabO.wide _ _ _ _ _ _ _ (by omega) (Nat.le_refl _) this
/-- The stocks of a stage are right. -/
theorem stage_of {am out : List Int} {n : Nat} (h1 : am.length = n) (h2 : ∀ x ∈ am, 0 ≤ x ∧ x ≤ 120) (h3 : ∀ t, t < n → 0 ≤ stk am out t ∧ (t + 1 = n → stk am out t ≤ 0)) : StageP am out n :=
  ⟨h1, h2, fun t ht => (h3 t ht).1, by
    by_cases h0 : n = 0
    · subst h0; rfl
    · have := h3 (n - 1) (by omega)
      have h4 := this.2 (by omega)
      unfold stk at *
      rw [Nat.sub_add_cancel (by omega)] at *
      omega⟩
theorem stage_last {am out : List Int} {n t : Nat} (h : StageP am out n) (ht : t < n) : 0 ≤ stk am out t ∧ (t + 1 = n → stk am out t ≤ 0) :=
  ⟨h.stk t ht, fun e => by have := h.all; unfold stk; rw [e]; omega⟩
theorem cplan_no {c : Ch} {T : List (List Int)} {s : Nat} (hs : s < T.length) (h : ¬ StageP (T.getD s []) (outR c.need T s) c.need.length) : cplanB c T = false := by
  cases hb : cplanB c T with
  | false => rfl
  | true => exact absurd ((cplanB_iff.1 hb).2 s hs) h
theorem l7Plan_rc (m : Mem) (v vt : Value) (c : Ch) (T : List (List Int)) (h : ChA m v c) (hT : TabA m vt T) (hg : GoodCh c) : RC Try.prog 101 [v, vt] m (AnsV (.bool (cplanB c T))) := by
  refine rc_of_run mixed ok_spec_l7Plan (by simp) (go_start _ _ _ ?_)
  obtain ⟨a, b, d, rfl, ha, hb, hd⟩ := h.ro
  have hTr := hT.ro
  have n6 := hg.n6
  have s3 := hg.s3
  have hX0 := (Ext.refl m).one 26 [a, b, d]
  by_cases hlen : T.length = c.setup.length
  · have hlen' : ((T.length : Int) != c.setup.length) = false := by simp; omega
    simp (config := {implicitDefEqProofs := false, maxDischargeDepth := 20}) (disch := first | omega | (simp only [lenE]; done) | (simp only [lenE]; omega) | rfl | (simp only [lenE, markR_len]; done) | (simp only [lenE, markR_len]; omega)) only [runE, mapE, listE, initT_5, initT_6, initT_7, initT_8, resV, oneV, binA, unA, reduceCtorEq, Nat.reduceEqDiff, Nat.reduceAdd, Nat.reduceLT, Nat.reduceLeDiff, Nat.reduceMul, Nat.reduceSub, ↓reduceIte, decide_true, decide_false, Bool.true_eq_false, Bool.false_eq_true, Bool.not_true, Bool.not_false, if_true, if_false, and_true, true_and, memE, celE, w64, Nat.zero_add, Nat.add_zero, Nat.mul_one, putL, and_self, ldn, c_spec_l7Plan, r_spec_l7Plan, hTr.len, hb.len, hlen']
    refine loop_inv mixed (fun s => ∃ (k : Nat) , k ≤ T.length ∧ s.m = roM m ++ [⟨.own, 26, [a, b, d]⟩] ∧ s.t 1 = vt ∧ s.t 2 = .pointer (some ⟨m.length, 0, none⟩) ∧ s.t 5 = .int .i64 (k : Int) ∧ ∀ j, j < k → Go.Proofs.Ytamhhicnfpemeaa.rowB (T.getD j []) c.need.length 120 = true) (fun s => T.length - (intOf (s.t 5)).toNat)
      ⟨0, by omega, rfl, rfl, rfl, rfl, fun j hj => absurd hj (by omega)⟩ ?_
    rintro s ⟨k, hk, tm, t1, t2, t5, hall⟩
    by_cases hlt : k < T.length
    · have hlt' : (k : Int) < T.length := by omega
      have hT' := TabA.xt hT hX0
      obtain ⟨u, hu, hrow⟩ := hT'.ld k hlt
      simp (config := {implicitDefEqProofs := false, maxDischargeDepth := 20}) (disch := first | omega | (simp only [lenE]; done) | (simp only [lenE]; omega) | rfl | (simp only [lenE, markR_len]; done) | (simp only [lenE, markR_len]; omega)) only [runE, mapE, listE, initT_5, initT_6, initT_7, initT_8, resV, oneV, binA, unA, reduceCtorEq, Nat.reduceEqDiff, Nat.reduceAdd, Nat.reduceLT, Nat.reduceLeDiff, Nat.reduceMul, Nat.reduceSub, ↓reduceIte, decide_true, decide_false, Bool.true_eq_false, Bool.false_eq_true, Bool.not_true, Bool.not_false, if_true, if_false, and_true, true_and, memE, celE, w64, Nat.zero_add, Nat.add_zero, Nat.mul_one, putL, and_self, ldn, tm, t1, t2, t5, hlt', hTr.len, hT'.at_ k hlt, hu, ha.len]
      refine rcallH_rc (l2Row_rc _ u (T.getD k []) c.need.length 120 hrow) ?_
      rintro r n1 ⟨rfl, rfl⟩
      cases hb : Go.Proofs.Ytamhhicnfpemeaa.rowB (T.getD k []) c.need.length 120 with
      | false =>
        simp (config := {implicitDefEqProofs := false, maxDischargeDepth := 20}) (disch := first | omega | (simp only [lenE]; done) | (simp only [lenE]; omega) | rfl | (simp only [lenE, markR_len]; done) | (simp only [lenE, markR_len]; omega)) only [runE, mapE, listE, initT_5, initT_6, initT_7, initT_8, resV, oneV, binA, unA, reduceCtorEq, Nat.reduceEqDiff, Nat.reduceAdd, Nat.reduceLT, Nat.reduceLeDiff, Nat.reduceMul, Nat.reduceSub, ↓reduceIte, decide_true, decide_false, Bool.true_eq_false, Bool.false_eq_true, Bool.not_true, Bool.not_false, if_true, if_false, and_true, true_and, memE, celE, w64, Nat.zero_add, Nat.add_zero, Nat.mul_one, putL, and_self, ldn, tm, t1, t2, t5, List.append_nil]
        refine ext_ansV hX0 ?_
        rw [cplan_no (s := k) hlt fun hp => by rw [rowB_iff.2 ⟨hp.bd, hp.len⟩] at hb; cases hb]
      | true =>
        simp (config := {implicitDefEqProofs := false, maxDischargeDepth := 20}) (disch := first | omega | (simp only [lenE]; done) | (simp only [lenE]; omega) | rfl | (simp only [lenE, markR_len]; done) | (simp only [lenE, markR_len]; omega)) only [runE, mapE, listE, initT_5, initT_6, initT_7, initT_8, resV, oneV, binA, unA, reduceCtorEq, Nat.reduceEqDiff, Nat.reduceAdd, Nat.reduceLT, Nat.reduceLeDiff, Nat.reduceMul, Nat.reduceSub, ↓reduceIte, decide_true, decide_false, Bool.true_eq_false, Bool.false_eq_true, Bool.not_true, Bool.not_false, if_true, if_false, and_true, true_and, memE, celE, w64, Nat.zero_add, Nat.add_zero, Nat.mul_one, putL, and_self, ldn, tm, t1, t2, t5, List.append_nil]
        refine ⟨⟨k + 1, by omega, by simp, fun j hj => ?_⟩, ?_⟩
        · by_cases e : j = k
          · subst e; exact hb
          · exact hall j (by omega)
        · simp [intOf]; omega
    · have hlt' : ¬ ((k : Int) < T.length) := by omega
      have e : k = T.length := by omega
      subst e
      have hr : rowsOk c T := fun j hj => by obtain ⟨h1, h2⟩ := rowB_iff.1 (hall j hj); exact ⟨h2, h1⟩
      simp (config := {implicitDefEqProofs := false, maxDischargeDepth := 20}) (disch := first | omega | (simp only [lenE]; done) | (simp only [lenE]; omega) | rfl | (simp only [lenE, markR_len]; done) | (simp only [lenE, markR_len]; omega)) only [runE, mapE, listE, initT_5, initT_6, initT_7, initT_8, resV, oneV, binA, unA, reduceCtorEq, Nat.reduceEqDiff, Nat.reduceAdd, Nat.reduceLT, Nat.reduceLeDiff, Nat.reduceMul, Nat.reduceSub, ↓reduceIte, decide_true, decide_false, Bool.true_eq_false, Bool.false_eq_true, Bool.not_true, Bool.not_false, if_true, if_false, and_true, true_and, memE, celE, w64, Nat.zero_add, Nat.add_zero, Nat.mul_one, putL, and_self, ldn, tm, t1, t2, t5, hlt', hTr.len]
      refine callH_rc (l7Stocks_rc _ _ vt c T (ChA.mk (ha.ext _) (hb.ext _) (hd.ext _)) (TabA.xt hT hX0) hg (by omega) hr) ?_
      rintro r n1 ⟨nr1, w, hwe, hw⟩
      rw [id_eq] at hwe
      subst r
      have hW := hw.now.in
      have hX1 := hX0.app nr1
      obtain ⟨M1, hM1⟩ : ∃ M1, M1 = roM m ++ [⟨.own, 26, [a, b, d]⟩] ++ n1 := ⟨_, rfl⟩
      rw [← hM1] at hW hX1 ⊢
      have wlen := stocksT_len c.need T
      have hWl := hW.len
      rw [wlen] at hWl
      simp (config := {implicitDefEqProofs := false, maxDischargeDepth := 20}) (disch := first | omega | (simp only [lenE]; done) | (simp only [lenE]; omega) | rfl | (simp only [lenE, markR_len]; done) | (simp only [lenE, markR_len]; omega)) only [runE, mapE, listE, initT_5, initT_6, initT_7, initT_8, resV, oneV, binA, unA, reduceCtorEq, Nat.reduceEqDiff, Nat.reduceAdd, Nat.reduceLT, Nat.reduceLeDiff, Nat.reduceMul, Nat.reduceSub, ↓reduceIte, decide_true, decide_false, Bool.true_eq_false, Bool.false_eq_true, Bool.not_true, Bool.not_false, if_true, if_false, and_true, true_and, memE, celE, w64, Nat.zero_add, Nat.add_zero, Nat.mul_one, putL, and_self, ldn, id_eq]
      refine loop_inv mixed (fun s => ∃ (k : Nat) , k ≤ T.length ∧ s.m = M1 ∧ s.t 6 = w ∧ s.t 7 = .int .i64 (k : Int) ∧ ∀ j, j < k → StageP (T.getD j []) (outR c.need T j) c.need.length) (fun s => T.length - (intOf (s.t 7)).toNat)
        ⟨0, by omega, rfl, rfl, rfl, fun j hj => absurd hj (by omega)⟩ ?_
      rintro s ⟨k, hk, tm, t6, t7, hst⟩
      by_cases hlt : k < T.length
      · have hlt' : (k : Int) < T.length := by omega
        obtain ⟨u, hu, hrow⟩ := hW.ld k (by omega)
        have hat := hW.at_ k (by omega)
        rw [stocksT_at hlt] at hrow
        have hrk := hr k hlt
        have hll := stocksL_len (T.getD k []) (outR c.need T k)
        simp (config := {implicitDefEqProofs := false, maxDischargeDepth := 20}) (disch := first | omega | (simp only [lenE]; done) | (simp only [lenE]; omega) | rfl | (simp only [lenE, markR_len]; done) | (simp only [lenE, markR_len]; omega)) only [runE, mapE, listE, initT_5, initT_6, initT_7, initT_8, resV, oneV, binA, unA, reduceCtorEq, Nat.reduceEqDiff, Nat.reduceAdd, Nat.reduceLT, Nat.reduceLeDiff, Nat.reduceMul, Nat.reduceSub, ↓reduceIte, decide_true, decide_false, Bool.true_eq_false, Bool.false_eq_true, Bool.not_true, Bool.not_false, if_true, if_false, and_true, true_and, memE, celE, w64, Nat.zero_add, Nat.add_zero, Nat.mul_one, putL, and_self, ldn, tm, t6, t7, hlt', hWl]
        refine loop_inv mixed (fun s => ∃ (t : Nat) , t ≤ c.need.length ∧ s.m = M1 ∧ s.t 6 = w ∧ s.t 7 = .int .i64 (k : Int) ∧ s.t 8 = .int .i64 (t : Int) ∧ ∀ j, j < t → 0 ≤ stk (T.getD k []) (outR c.need T k) j ∧ (j + 1 = c.need.length → stk (T.getD k []) (outR c.need T k) j ≤ 0)) (fun s => c.need.length - (intOf (s.t 8)).toNat)
          ⟨0, by omega, tm, t6, t7, rfl, fun j hj => absurd hj (by omega)⟩ ?_
        rintro s ⟨t, ht, tm, t6, t7, t8, hok⟩
        have hrl : lenA u = some (.int .i64 (c.need.length : Int)) := by rw [hrow.len, hll, hrk.1]
        by_cases hlt2 : t < c.need.length
        · have hlt2' : (t : Int) < c.need.length := by omega
          have hval : (stocksL (T.getD k []) (outR c.need T k)).getD t 0 = stk (T.getD k []) (outR c.need T k) t := stocksL_at (by omega)
          obtain ⟨x, hx⟩ : ∃ x, x = stk (T.getD k []) (outR c.need T k) t := ⟨_, rfl⟩
          have hld := hrow.ld t (by omega)
          rw [hval, ← hx] at hld
          have hne : ∀ {P : Prop}, ¬ (0 ≤ x ∧ (t + 1 = c.need.length → x ≤ 0)) → cplanB c T = false := fun hn => cplan_no hlt fun hp => hn (by rw [hx]; exact stage_last hp hlt2)
          by_cases n1 : x < 0
          · simp (config := {implicitDefEqProofs := false, maxDischargeDepth := 20}) (disch := first | omega | (simp only [lenE]; done) | (simp only [lenE]; omega) | rfl | (simp only [lenE, markR_len]; done) | (simp only [lenE, markR_len]; omega)) only [runE, mapE, listE, initT_5, initT_6, initT_7, initT_8, resV, oneV, binA, unA, reduceCtorEq, Nat.reduceEqDiff, Nat.reduceAdd, Nat.reduceLT, Nat.reduceLeDiff, Nat.reduceMul, Nat.reduceSub, ↓reduceIte, decide_true, decide_false, Bool.true_eq_false, Bool.false_eq_true, Bool.not_true, Bool.not_false, if_true, if_false, and_true, true_and, memE, celE, w64, Nat.zero_add, Nat.add_zero, Nat.mul_one, putL, and_self, ldn, tm, t6, t7, t8, hat, hu, hrl, hlt2', hrow.at_ t (by omega), hld, n1, goG_undef]
            refine ext_ansV hX1 ?_
            rw [hne (P := True) (by omega)]
          · by_cases n2 : t + 1 = c.need.length
            · have n2' : (((t : Int) + 1) == (c.need.length : Int)) = true := by rw [beq_iff_eq]; omega
              by_cases n3 : 0 < x
              · simp (config := {implicitDefEqProofs := false, maxDischargeDepth := 20}) (disch := first | omega | (simp only [lenE]; done) | (simp only [lenE]; omega) | rfl | (simp only [lenE, markR_len]; done) | (simp only [lenE, markR_len]; omega)) only [runE, mapE, listE, initT_5, initT_6, initT_7, initT_8, resV, oneV, binA, unA, reduceCtorEq, Nat.reduceEqDiff, Nat.reduceAdd, Nat.reduceLT, Nat.reduceLeDiff, Nat.reduceMul, Nat.reduceSub, ↓reduceIte, decide_true, decide_false, Bool.true_eq_false, Bool.false_eq_true, Bool.not_true, Bool.not_false, if_true, if_false, and_true, true_and, memE, celE, w64, Nat.zero_add, Nat.add_zero, Nat.mul_one, putL, and_self, ldn, tm, t6, t7, t8, hat, hu, hrl, hlt2', hrow.at_ t (by omega), hld, n1, n2', n3, gt_iff_lt, goG_undef]
                refine ext_ansV hX1 ?_
                rw [hne (P := True) (by omega)]
              · simp (config := {implicitDefEqProofs := false, maxDischargeDepth := 20}) (disch := first | omega | (simp only [lenE]; done) | (simp only [lenE]; omega) | rfl | (simp only [lenE, markR_len]; done) | (simp only [lenE, markR_len]; omega)) only [runE, mapE, listE, initT_5, initT_6, initT_7, initT_8, resV, oneV, binA, unA, reduceCtorEq, Nat.reduceEqDiff, Nat.reduceAdd, Nat.reduceLT, Nat.reduceLeDiff, Nat.reduceMul, Nat.reduceSub, ↓reduceIte, decide_true, decide_false, Bool.true_eq_false, Bool.false_eq_true, Bool.not_true, Bool.not_false, if_true, if_false, and_true, true_and, memE, celE, w64, Nat.zero_add, Nat.add_zero, Nat.mul_one, putL, and_self, ldn, tm, t6, t7, t8, hat, hu, hrl, hlt2', hrow.at_ t (by omega), hld, n1, n2', n3, gt_iff_lt, goG_undef]
                refine ⟨⟨t + 1, by omega, by simp, fun j hj => ?_⟩, ?_⟩
                · by_cases e : j = t
                  · subst e; rw [← hx]; omega
                  · exact hok j (by omega)
                · simp [intOf]; omega
            · have n2' : (((t : Int) + 1) == (c.need.length : Int)) = false := by rw [beq_eq_false_iff_ne]; omega
              simp (config := {implicitDefEqProofs := false, maxDischargeDepth := 20}) (disch := first | omega | (simp only [lenE]; done) | (simp only [lenE]; omega) | rfl | (simp only [lenE, markR_len]; done) | (simp only [lenE, markR_len]; omega)) only [runE, mapE, listE, initT_5, initT_6, initT_7, initT_8, resV, oneV, binA, unA, reduceCtorEq, Nat.reduceEqDiff, Nat.reduceAdd, Nat.reduceLT, Nat.reduceLeDiff, Nat.reduceMul, Nat.reduceSub, ↓reduceIte, decide_true, decide_false, Bool.true_eq_false, Bool.false_eq_true, Bool.not_true, Bool.not_false, if_true, if_false, and_true, true_and, memE, celE, w64, Nat.zero_add, Nat.add_zero, Nat.mul_one, putL, and_self, ldn, tm, t6, t7, t8, hat, hu, hrl, hlt2', hrow.at_ t (by omega), hld, n1, n2', gt_iff_lt, goG_undef]
              refine ⟨⟨t + 1, by omega, by simp, fun j hj => ?_⟩, ?_⟩
              · by_cases e : j = t
                · subst e; rw [← hx]; omega
                · exact hok j (by omega)
              · simp [intOf]; omega
        · have hlt2' : ¬ ((t : Int) < c.need.length) := by omega
          have et : t = c.need.length := by omega
          subst et
          simp (config := {implicitDefEqProofs := false, maxDischargeDepth := 20}) (disch := first | omega | (simp only [lenE]; done) | (simp only [lenE]; omega) | rfl | (simp only [lenE, markR_len]; done) | (simp only [lenE, markR_len]; omega)) only [runE, mapE, listE, initT_5, initT_6, initT_7, initT_8, resV, oneV, binA, unA, reduceCtorEq, Nat.reduceEqDiff, Nat.reduceAdd, Nat.reduceLT, Nat.reduceLeDiff, Nat.reduceMul, Nat.reduceSub, ↓reduceIte, decide_true, decide_false, Bool.true_eq_false, Bool.false_eq_true, Bool.not_true, Bool.not_false, if_true, if_false, and_true, true_and, memE, celE, w64, Nat.zero_add, Nat.add_zero, Nat.mul_one, putL, and_self, ldn, tm, t6, t7, t8, hat, hu, hrl, hlt2']
          refine ⟨⟨k + 1, by omega, by simp, fun j hj => ?_⟩, ?_⟩
          · by_cases e : j = k
            · subst e; exact stage_of hrk.1 hrk.2 hok
            · exact hst j (by omega)
          · simp [intOf]; omega
      · have hlt' : ¬ ((k : Int) < T.length) := by omega
        have e : k = T.length := by omega
        subst e
        simp (config := {implicitDefEqProofs := false, maxDischargeDepth := 20}) (disch := first | omega | (simp only [lenE]; done) | (simp only [lenE]; omega) | rfl | (simp only [lenE, markR_len]; done) | (simp only [lenE, markR_len]; omega)) only [runE, mapE, listE, initT_5, initT_6, initT_7, initT_8, resV, oneV, binA, unA, reduceCtorEq, Nat.reduceEqDiff, Nat.reduceAdd, Nat.reduceLT, Nat.reduceLeDiff, Nat.reduceMul, Nat.reduceSub, ↓reduceIte, decide_true, decide_false, Bool.true_eq_false, Bool.false_eq_true, Bool.not_true, Bool.not_false, if_true, if_false, and_true, true_and, memE, celE, w64, Nat.zero_add, Nat.add_zero, Nat.mul_one, putL, and_self, ldn, tm, t6, t7, hlt', hWl]
        refine ext_ansV hX1 ?_
        rw [cplanB_iff.2 ⟨hlen, hst⟩]
  · have hlen' : ((T.length : Int) != c.setup.length) = true := by simp; omega
    simp (config := {implicitDefEqProofs := false, maxDischargeDepth := 20}) (disch := first | omega | (simp only [lenE]; done) | (simp only [lenE]; omega) | rfl | (simp only [lenE, markR_len]; done) | (simp only [lenE, markR_len]; omega)) only [runE, mapE, listE, initT_5, initT_6, initT_7, initT_8, resV, oneV, binA, unA, reduceCtorEq, Nat.reduceEqDiff, Nat.reduceAdd, Nat.reduceLT, Nat.reduceLeDiff, Nat.reduceMul, Nat.reduceSub, ↓reduceIte, decide_true, decide_false, Bool.true_eq_false, Bool.false_eq_true, Bool.not_true, Bool.not_false, if_true, if_false, and_true, true_and, memE, celE, w64, Nat.zero_add, Nat.add_zero, Nat.mul_one, putL, and_self, ldn, c_spec_l7Plan, r_spec_l7Plan, hTr.len, hb.len, hlen']
    refine ext_ansV hX0 ?_
    cases hb : cplanB c T with
    | false => rfl
    | true => exact absurd (cplanB_iff.1 hb).1 hlen
theorem l7Two_rc (m : Mem) (v vt : Value) (c : Ch) (T : List (List Int)) (h : ChA m v c) (hT : TabA m vt T) : RC Try.prog 97 [v, vt] m (AnsV (.bool (two7 c T))) := by
  refine rc_of_run mixed ok_spec_l7Two (by simp) (go_start _ _ _ ?_)
  obtain ⟨a, b, d, rfl, ha, hb, hd⟩ := h.ro
  have hX0 := (Ext.refl m).one 26 [a, b, d]
  unfold two7
  simp (config := {implicitDefEqProofs := false, maxDischargeDepth := 20}) (disch := first | omega | (simp only [lenE]; done) | (simp only [lenE]; omega) | rfl | (simp only [lenE, markR_len]; done) | (simp only [lenE, markR_len]; omega)) only [runE, mapE, listE, initT_5, initT_6, initT_7, initT_8, resV, oneV, binA, unA, reduceCtorEq, Nat.reduceEqDiff, Nat.reduceAdd, Nat.reduceLT, Nat.reduceLeDiff, Nat.reduceMul, Nat.reduceSub, ↓reduceIte, decide_true, decide_false, Bool.true_eq_false, Bool.false_eq_true, Bool.not_true, Bool.not_false, if_true, if_false, and_true, true_and, memE, celE, w64, Nat.zero_add, Nat.add_zero, Nat.mul_one, putL, and_self, ldn, c_spec_l7Two, r_spec_l7Two]
  refine callH_rc (l7Good_rc _ _ c (ChA.mk (ha.ext _) (hb.ext _) (hd.ext _))) ?_
  rintro r n1 ⟨rfl, nr1⟩
  cases hg : c.good with
  | false =>
    simp (config := {implicitDefEqProofs := false, maxDischargeDepth := 20}) (disch := first | omega | (simp only [lenE]; done) | (simp only [lenE]; omega) | rfl | (simp only [lenE, markR_len]; done) | (simp only [lenE, markR_len]; omega)) only [runE, mapE, listE, initT_5, initT_6, initT_7, initT_8, resV, oneV, binA, unA, reduceCtorEq, Nat.reduceEqDiff, Nat.reduceAdd, Nat.reduceLT, Nat.reduceLeDiff, Nat.reduceMul, Nat.reduceSub, ↓reduceIte, decide_true, decide_false, Bool.true_eq_false, Bool.false_eq_true, Bool.not_true, Bool.not_false, if_true, if_false, and_true, true_and, memE, celE, w64, Nat.zero_add, Nat.add_zero, Nat.mul_one, putL, and_self, ldn]
    exact ext_ansV (hX0.app nr1) rfl
  | true =>
    simp (config := {implicitDefEqProofs := false, maxDischargeDepth := 20}) (disch := first | omega | (simp only [lenE]; done) | (simp only [lenE]; omega) | rfl | (simp only [lenE, markR_len]; done) | (simp only [lenE, markR_len]; omega)) only [runE, mapE, listE, initT_5, initT_6, initT_7, initT_8, resV, oneV, binA, unA, reduceCtorEq, Nat.reduceEqDiff, Nat.reduceAdd, Nat.reduceLT, Nat.reduceLeDiff, Nat.reduceMul, Nat.reduceSub, ↓reduceIte, decide_true, decide_false, Bool.true_eq_false, Bool.false_eq_true, Bool.not_true, Bool.not_false, if_true, if_false, and_true, true_and, memE, celE, w64, Nat.zero_add, Nat.add_zero, Nat.mul_one, putL, and_self, ldn]
    refine callH_rc (l7Plan_rc _ _ vt c T (ChA.mk ((ha.ext _).ext _) ((hb.ext _).ext _) ((hd.ext _).ext _)) (TabA.xt hT (hX0.app nr1)) (goodCh_iff.1 hg)) ?_
    rintro r n2 ⟨rfl, nr2⟩
    simp (config := {implicitDefEqProofs := false, maxDischargeDepth := 20}) (disch := first | omega | (simp only [lenE]; done) | (simp only [lenE]; omega) | rfl | (simp only [lenE, markR_len]; done) | (simp only [lenE, markR_len]; omega)) only [runE, mapE, listE, initT_5, initT_6, initT_7, initT_8, resV, oneV, binA, unA, reduceCtorEq, Nat.reduceEqDiff, Nat.reduceAdd, Nat.reduceLT, Nat.reduceLeDiff, Nat.reduceMul, Nat.reduceSub, ↓reduceIte, decide_true, decide_false, Bool.true_eq_false, Bool.false_eq_true, Bool.not_true, Bool.not_false, if_true, if_false, and_true, true_and, memE, celE, w64, Nat.zero_add, Nat.add_zero, Nat.mul_one, putL, and_self, ldn]
    exact ext_ansV ((hX0.app nr1).app nr2) rfl
def stocks7A (c : Ch) (T : List (List Int)) : List (List Int) := if two7 c T then stocksT c.need T else []
theorem two7_rows {c : Ch} {T : List (List Int)} (h : two7 c T = true) : GoodCh c ∧ T.length = c.setup.length ∧ rowsOk c T := by
  unfold two7 at h
  rw [Bool.and_eq_true] at h
  obtain ⟨h1, h2⟩ := cplanB_iff.1 h.2
  exact ⟨goodCh_iff.1 h.1, h1, fun j hj => ⟨(h2 j hj).len, (h2 j hj).bd⟩⟩
theorem specStocks7_rc (m : Mem) (v vt : Value) (c : Ch) (T : List (List Int)) (h : ChA m v c) (hT : TabA m vt T) : RC Try.prog 35 [v, vt] m (AnsO m (TabO (stocks7A c T)) fun v => .tuple #[v, .bool (two7 c T)]) := by
  refine rc_of_run mixed ok_spec_ChainStocks (by simp) (go_start _ _ _ ?_)
  obtain ⟨a, b, d, rfl, ha, hb, hd⟩ := h.ro
  have hX0 := (Ext.refl m).one 26 [a, b, d]
  unfold stocks7A
  simp (config := {implicitDefEqProofs := false, maxDischargeDepth := 20}) (disch := first | omega | (simp only [lenE]; done) | (simp only [lenE]; omega) | rfl | (simp only [lenE, markR_len]; done) | (simp only [lenE, markR_len]; omega)) only [runE, mapE, listE, initT_5, initT_6, initT_7, initT_8, resV, oneV, binA, unA, reduceCtorEq, Nat.reduceEqDiff, Nat.reduceAdd, Nat.reduceLT, Nat.reduceLeDiff, Nat.reduceMul, Nat.reduceSub, ↓reduceIte, decide_true, decide_false, Bool.true_eq_false, Bool.false_eq_true, Bool.not_true, Bool.not_false, if_true, if_false, and_true, true_and, memE, celE, w64, Nat.zero_add, Nat.add_zero, Nat.mul_one, putL, and_self, ldn, c_spec_ChainStocks, r_spec_ChainStocks]
  refine callH_rc (l7Two_rc _ _ vt c T (ChA.mk (ha.ext _) (hb.ext _) (hd.ext _)) (TabA.xt hT hX0)) ?_
  rintro r n1 ⟨rfl, nr1⟩
  cases h2 : two7 c T with
  | false =>
    simp (config := {implicitDefEqProofs := false, maxDischargeDepth := 20}) (disch := first | omega | (simp only [lenE]; done) | (simp only [lenE]; omega) | rfl | (simp only [lenE, markR_len]; done) | (simp only [lenE, markR_len]; omega)) only [runE, mapE, listE, initT_5, initT_6, initT_7, initT_8, resV, oneV, binA, unA, reduceCtorEq, Nat.reduceEqDiff, Nat.reduceAdd, Nat.reduceLT, Nat.reduceLeDiff, Nat.reduceMul, Nat.reduceSub, ↓reduceIte, decide_true, decide_false, Bool.true_eq_false, Bool.false_eq_true, Bool.not_true, Bool.not_false, if_true, if_false, and_true, true_and, memE, celE, w64, Nat.zero_add, Nat.add_zero, Nat.mul_one, putL, and_self, ldn, bsl_no]
    exact ext_noTab (f := fun v => .tuple #[v, .bool false]) (hX0.app nr1) (by simp [roM_len]; omega)
  | true =>
    obtain ⟨g1, g2, g3⟩ := two7_rows h2
    have s3 := g1.s3
    simp (config := {implicitDefEqProofs := false, maxDischargeDepth := 20}) (disch := first | omega | (simp only [lenE]; done) | (simp only [lenE]; omega) | rfl | (simp only [lenE, markR_len]; done) | (simp only [lenE, markR_len]; omega)) only [runE, mapE, listE, initT_5, initT_6, initT_7, initT_8, resV, oneV, binA, unA, reduceCtorEq, Nat.reduceEqDiff, Nat.reduceAdd, Nat.reduceLT, Nat.reduceLeDiff, Nat.reduceMul, Nat.reduceSub, ↓reduceIte, decide_true, decide_false, Bool.true_eq_false, Bool.false_eq_true, Bool.not_true, Bool.not_false, if_true, if_false, and_true, true_and, memE, celE, w64, Nat.zero_add, Nat.add_zero, Nat.mul_one, putL, and_self, ldn]
    refine callH_rc (l7Stocks_rc _ _ vt c T (ChA.mk ((ha.ext _).ext _) ((hb.ext _).ext _) ((hd.ext _).ext _)) (TabA.xt hT (hX0.app nr1)) g1 (by omega) g3) ?_
    rintro r n2 ⟨nr2, w, hwe, hw⟩
    rw [id_eq] at hwe
    subst r
    simp (config := {implicitDefEqProofs := false, maxDischargeDepth := 20}) (disch := first | omega | (simp only [lenE]; done) | (simp only [lenE]; omega) | rfl | (simp only [lenE, markR_len]; done) | (simp only [lenE, markR_len]; omega)) only [runE, mapE, listE, initT_5, initT_6, initT_7, initT_8, resV, oneV, binA, unA, reduceCtorEq, Nat.reduceEqDiff, Nat.reduceAdd, Nat.reduceLT, Nat.reduceLeDiff, Nat.reduceMul, Nat.reduceSub, ↓reduceIte, decide_true, decide_false, Bool.true_eq_false, Bool.false_eq_true, Bool.not_true, Bool.not_false, if_true, if_false, and_true, true_and, memE, celE, w64, Nat.zero_add, Nat.add_zero, Nat.mul_one, putL, and_self, ldn]
    exact Ext.pass (f := fun v => .tuple #[v, .bool true]) (hX0.app nr1) nr2 (TabO.wide _) hw
theorem specIsChainPlan_rc (m : Mem) (v vt : Value) (c : Ch) (T : List (List Int)) (h : ChA m v c) (hT : TabA m vt T) : RC Try.prog 42 [v, vt] m (AnsV (.tuple #[.bool (two7 c T), .bool c.good])) := by
  refine rc_of_run mixed ok_spec_IsChainPlan (by simp) (go_start _ _ _ ?_)
  obtain ⟨a, b, d, rfl, ha, hb, hd⟩ := h.ro
  have hX0 := (Ext.refl m).one 26 [a, b, d]
  unfold two7
  simp (config := {implicitDefEqProofs := false, maxDischargeDepth := 20}) (disch := first | omega | (simp only [lenE]; done) | (simp only [lenE]; omega) | rfl | (simp only [lenE, markR_len]; done) | (simp only [lenE, markR_len]; omega)) only [runE, mapE, listE, initT_5, initT_6, initT_7, initT_8, resV, oneV, binA, unA, reduceCtorEq, Nat.reduceEqDiff, Nat.reduceAdd, Nat.reduceLT, Nat.reduceLeDiff, Nat.reduceMul, Nat.reduceSub, ↓reduceIte, decide_true, decide_false, Bool.true_eq_false, Bool.false_eq_true, Bool.not_true, Bool.not_false, if_true, if_false, and_true, true_and, memE, celE, w64, Nat.zero_add, Nat.add_zero, Nat.mul_one, putL, and_self, ldn, c_spec_IsChainPlan, r_spec_IsChainPlan]
  refine callH_rc (l7Good_rc _ _ c (ChA.mk (ha.ext _) (hb.ext _) (hd.ext _))) ?_
  rintro r n1 ⟨rfl, nr1⟩
  cases hg : c.good with
  | false =>
    simp (config := {implicitDefEqProofs := false, maxDischargeDepth := 20}) (disch := first | omega | (simp only [lenE]; done) | (simp only [lenE]; omega) | rfl | (simp only [lenE, markR_len]; done) | (simp only [lenE, markR_len]; omega)) only [runE, mapE, listE, initT_5, initT_6, initT_7, initT_8, resV, oneV, binA, unA, reduceCtorEq, Nat.reduceEqDiff, Nat.reduceAdd, Nat.reduceLT, Nat.reduceLeDiff, Nat.reduceMul, Nat.reduceSub, ↓reduceIte, decide_true, decide_false, Bool.true_eq_false, Bool.false_eq_true, Bool.not_true, Bool.not_false, if_true, if_false, and_true, true_and, memE, celE, w64, Nat.zero_add, Nat.add_zero, Nat.mul_one, putL, and_self, ldn]
    exact ext_ansV (hX0.app nr1) rfl
  | true =>
    simp (config := {implicitDefEqProofs := false, maxDischargeDepth := 20}) (disch := first | omega | (simp only [lenE]; done) | (simp only [lenE]; omega) | rfl | (simp only [lenE, markR_len]; done) | (simp only [lenE, markR_len]; omega)) only [runE, mapE, listE, initT_5, initT_6, initT_7, initT_8, resV, oneV, binA, unA, reduceCtorEq, Nat.reduceEqDiff, Nat.reduceAdd, Nat.reduceLT, Nat.reduceLeDiff, Nat.reduceMul, Nat.reduceSub, ↓reduceIte, decide_true, decide_false, Bool.true_eq_false, Bool.false_eq_true, Bool.not_true, Bool.not_false, if_true, if_false, and_true, true_and, memE, celE, w64, Nat.zero_add, Nat.add_zero, Nat.mul_one, putL, and_self, ldn]
    refine callH_rc (l7Plan_rc _ _ vt c T (ChA.mk ((ha.ext _).ext _) ((hb.ext _).ext _) ((hd.ext _).ext _)) (TabA.xt hT (hX0.app nr1)) (goodCh_iff.1 hg)) ?_
    rintro r n2 ⟨rfl, nr2⟩
    simp (config := {implicitDefEqProofs := false, maxDischargeDepth := 20}) (disch := first | omega | (simp only [lenE]; done) | (simp only [lenE]; omega) | rfl | (simp only [lenE, markR_len]; done) | (simp only [lenE, markR_len]; omega)) only [runE, mapE, listE, initT_5, initT_6, initT_7, initT_8, resV, oneV, binA, unA, reduceCtorEq, Nat.reduceEqDiff, Nat.reduceAdd, Nat.reduceLT, Nat.reduceLeDiff, Nat.reduceMul, Nat.reduceSub, ↓reduceIte, decide_true, decide_false, Bool.true_eq_false, Bool.false_eq_true, Bool.not_true, Bool.not_false, if_true, if_false, and_true, true_and, memE, celE, w64, Nat.zero_add, Nat.add_zero, Nat.mul_one, putL, and_self, ldn]
    exact ext_ansV ((hX0.app nr1).app nr2) rfl
end Go.Proofs.Ytamhhicnfpemeaa.Ab
