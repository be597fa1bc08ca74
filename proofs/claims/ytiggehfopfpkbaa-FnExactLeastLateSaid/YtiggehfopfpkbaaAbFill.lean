/- The search is filled from behind: fill; the plan and the cost in it. -/
import Derived.Test.YtiggehfopfpkbaaAbWayF
namespace Go.Proofs.Ytiggehfopfpkbaa.Ab
open Go Go.RowKit
set_option linter.unusedVariables false
set_option linter.unusedSimpArgs false

theorem repL_app (z : List Value) : ∀ a b : Nat, repL (a + b) z = repL a z ++ repL b z := by
  intro a b
  induction a with
  | zero => simp [repL]
  | succ a ih => rw [Nat.succ_add, repL_succ, repL_succ, ih, List.append_assoc]
theorem rowW_none {f : Nat → Option (Int × Nat)} {n j : Nat} (hj : j ≤ n) (h : ∀ o, o < j → f o = none) : rowW f n j = repL n (WCell none) := by
  have e : ((List.range j).map fun o => WCell (f o)).flatten = repL j (WCell none) := by
    unfold repL
    congr 1
    apply List.ext_getElem (by simp)
    intro i h1 h2
    simp only [List.getElem_map, List.getElem_range, List.getElem_replicate]
    rw [h i (by simpa using h1)]
  unfold rowW
  rw [e, ← repL_app, Nat.add_sub_cancel' hj]
/-- The last row: one way, behind all amounts. -/
theorem rowW_end (w : Ws) (h0 : 0 ≤ w.tot) : putL (repL (w.tot.toNat + 1) (WCell none)) (w.tot.toNat * 3) [.bool true] = rowW (fun x => wayT w w.n (x : Int)) (w.tot.toNat + 1) (w.tot.toNat + 1) := by
  have hno : ∀ o, o < w.tot.toNat → (fun x : Nat => wayT w w.n (x : Int)) o = none := fun o ho => by
    show wayT w w.n (o : Int) = none
    rw [wayT_end, if_neg (by omega)]
  have hyes : wayT w w.n ((w.tot.toNat : Nat) : Int) = some (0, 0) := by rw [wayT_end, if_pos (by omega)]
  rw [← rowW_put _ (Nat.lt_succ_self w.tot.toNat), rowW_none (by omega) hno, repL_app]
  have hl : (repL w.tot.toNat (WCell none)).length = w.tot.toNat * 3 := by rw [repL_len, WCell_len]
  have e1 : repL 1 (WCell none) = WCell none := by simp [repL]
  rw [← hl, e1, putL_app _ _ _ (by simp [WCell]), putL_app _ _ _ (by simp [WCell_len])]
  simp only [hyes]
  rfl
theorem rowAt_own {M : Mem} {rid n : Nat} {e : TypeId} {f : Nat → Option (Int × Nat)} (h : Own M rid e (rowW f n n)) : RowAt M rid f n := fun o ho i v hv => by
  have hi : i < 3 := by
    have := (List.getElem?_eq_some_iff.1 hv).1
    rwa [WCell_len] at this
  rw [h.rd, rowW_at f n (Nat.le_refl _) o ho i hi]; exact hv
/-- The rows of a search from a period on. -/
def WaysFrom (w : Ws) (M : Mem) (base hi : Nat) (vs : List Value) (t : Nat) : Prop :=
  ∀ j, t ≤ j → j ≤ w.n → ∃ rid, vs[j]? = some (.slice (some ⟨rid, 0, none⟩) (w.tot.toNat + 1) 3) ∧ base ≤ rid ∧ rid < hi ∧ Own M rid 95 (rowW (fun x => wayT w j (x : Int)) (w.tot.toNat + 1) (w.tot.toNat + 1))
theorem WaysFrom.keep {w : Ws} {M M' : Mem} {base base' hi hi' t : Nat} {vs vs' : List Value} (h : WaysFrom w M base hi vs t) (hb : base' ≤ base) (hh : hi ≤ hi') (hv : ∀ j, t ≤ j → vs'[j]? = vs[j]?) (hk : ∀ rid cs, base ≤ rid → rid < hi → Own M rid 95 cs → Own M' rid 95 cs) : WaysFrom w M' base' hi' vs' t :=
  fun j h1 h2 => by obtain ⟨rid, g1, g2, g3, g4⟩ := h j h1 h2; exact ⟨rid, (hv j h1).trans g1, by omega, by omega, hk _ _ g2 g3 g4⟩
/-- A search that is filled. -/
structure Filled (w : Ws) (M : Mem) (base sp : Nat) (v1 : Value) : Prop where
  f0 : rdc M sp 0 = some v1
  tab : ∃ tid fl vs, rdc M sp 7 = some (.slice (some ⟨tid, 0, none⟩) (w.n + 1) fl) ∧ base ≤ tid ∧ Own M tid 96 vs ∧ vs.length = w.n + 1 ∧ WaysFrom w M base M.length vs 0
theorem Own.put_set {M : Mem} {id id' : Nat} {e : TypeId} {cs : List Value} {b : Blk} (h : Own M id' e cs) (hne : id ≠ id') : Own (M.set id b) id' e cs := h.set_ne hne b

set_option maxHeartbeats 4000000 in
theorem fill_ac (w : Ws) (late : Bool) (hs : SrchOk w late) (M0 : Mem) (v1 v2 v3 v4 lv rv : Value) (hc : CaseA M0 (.agg #[v1, v2, v3, v4]) w.k) (hl : IntsA M0 lv w.lims) (hr : IntsA M0 rv w.rates) :
    AC Try.prog 118 [.pointer (some ⟨M0.length, 0, none⟩)] (M0 ++ [⟨.own, 93, [v1, v2, v3, v4, lv, rv, .bool late, .slice none 0 0]⟩])
      fun r M => Grow M0 M ∧ Filled w M M0.length M0.length v1 := by
  refine ac_of_run mixed ok_impl_planSearch__fill (by simp) (go_start _ _ _ ?_)
  obtain ⟨_, _, _, _, e, h1, h2, h3, h4⟩ := hc.ok
  cases e
  have hw := hs.ok
  have h8 := hw.g.n8
  have hn : w.n = w.k.need.length := rfl
  have hT := hw.tot
  simp (config := {implicitDefEqProofs := false, maxDischargeDepth := 20}) (disch := first | omega | (simp only [lenE]; done) | (simp only [lenE]; omega) | rfl | (simp only [lenE, markR_len]; done) | (simp only [lenE, markR_len]; omega)) only [runE, mapE, listE, resV, oneV, binA, unA, reduceCtorEq, Nat.reduceEqDiff, Nat.reduceAdd, Nat.reduceLT, Nat.reduceLeDiff, Nat.reduceMul, Nat.reduceSub, ↓reduceIte, decide_true, decide_false, Bool.true_eq_false, Bool.false_eq_true, Bool.not_true, Bool.not_false, if_true, if_false, and_true, true_and, memE, celE, w64, Nat.zero_add, Nat.add_zero, Nat.mul_one, putL, and_self, ldn, c_impl_planSearch__fill, r_impl_planSearch__fill, nilc1, h1.len]
  refine rcallH_rc (sumOf_rc _ v1 w.k.need (h1.ext _) fun j hj => by have := sumTo_in hw.g.need j hj; omega) ?_
  rintro r new ⟨rfl, rfl⟩
  rw [show sumTo w.k.need w.k.need.length = w.tot from rfl, List.append_nil]
  obtain ⟨T, hTT⟩ : ∃ T, T = w.tot.toNat := ⟨_, rfl⟩
  have eT : w.tot = (T : Int) := by omega
  have eN : w.tot + 1 = ((T + 1 : Nat) : Int) := by omega
  have eK : (w.k.need.length : Int) + 1 = ((w.n + 1 : Nat) : Int) := by omega
  have mkA := fun M => mksA_eq (m := M) (e := 96) (byt := 24) (z := .slice none 0 0) eK (by omega)
  have mkB := fun M => mksA_eqs (m := M) (e := 95) (byt := 24) (z := [.bool false, .int .i64 0, .int .i64 0]) eN (by omega)
  simp (config := {implicitDefEqProofs := false, maxDischargeDepth := 20}) (disch := first | omega | (simp only [lenE]; done) | (simp only [lenE]; omega) | rfl | (simp only [lenE, markR_len]; done) | (simp only [lenE, markR_len]; omega)) only [runE, mapE, listE, resV, oneV, binA, unA, reduceCtorEq, Nat.reduceEqDiff, Nat.reduceAdd, Nat.reduceLT, Nat.reduceLeDiff, Nat.reduceMul, Nat.reduceSub, ↓reduceIte, decide_true, decide_false, Bool.true_eq_false, Bool.false_eq_true, Bool.not_true, Bool.not_false, if_true, if_false, and_true, true_and, memE, celE, w64, Nat.zero_add, Nat.add_zero, Nat.mul_one, putL, and_self, ldn, nilc1, mkA]
  obtain ⟨tid, htid⟩ : ∃ tid, tid = M0.length + 1 := ⟨_, rfl⟩
  obtain ⟨M2, hM2⟩ : ∃ M2, M2 = M0 ++ [⟨.own, 93, [v1, v2, v3, v4, lv, rv, .bool late, .slice (some ⟨tid, 0, none⟩) (w.n + 1) 1]⟩] ++ [⟨.own, 96, List.replicate (w.n + 1) (.slice none 0 0)⟩] := ⟨_, rfl⟩
  rw [← htid, ← hM2]
  have hG2 : Grow M0 M2 := by rw [hM2]; exact ((Grow.refl _).one _ _).one _ _
  have oS2 : Own M2 M0.length 93 [v1, v2, v3, v4, lv, rv, .bool late, .slice (some ⟨tid, 0, none⟩) (w.n + 1) 1] := by rw [hM2]; exact (Own.end' rfl).ext _
  have oT2 : Own M2 tid 96 (List.replicate (w.n + 1) (.slice none 0 0)) := by rw [hM2]; exact Own.end' (by rw [htid]; simp)
  have lM2 : M2.length = M0.length + 1 + 1 := by rw [hM2]; simp
  clear hM2
  have r7 := oS2.rd 7
  simp only [List.getElem?_cons_succ, List.getElem?_cons_zero] at r7
  have iN := iad0 (id := tid) (n := w.n + 1) (fl := 1) (z := (w.k.need.length : Int)) (j := w.n) (by omega) (by omega)
  have lt2 := oT2.lt
  have ls2 := oS2.lt
  have w1 := oT2.st (off := w.n) (vs := [.slice (some ⟨M2.length, 0, none⟩) (T + 1) 3]) (by simp) rfl
  rw [putL_one] at w1
  simp (config := {implicitDefEqProofs := false, maxDischargeDepth := 20}) (disch := first | omega | (simp only [lenE]; done) | (simp only [lenE]; omega) | rfl | (simp only [lenE, markR_len]; done) | (simp only [lenE, markR_len]; omega)) only [runE, mapE, listE, resV, oneV, binA, unA, reduceCtorEq, Nat.reduceEqDiff, Nat.reduceAdd, Nat.reduceLT, Nat.reduceLeDiff, Nat.reduceMul, Nat.reduceSub, ↓reduceIte, decide_true, decide_false, Bool.true_eq_false, Bool.false_eq_true, Bool.not_true, Bool.not_false, if_true, if_false, and_true, true_and, memE, celE, w64, Nat.zero_add, Nat.add_zero, Nat.mul_one, putL, and_self, ldn, mkB, iN, w1]
  obtain ⟨vs, hvs⟩ : ∃ vs : List Value, vs = (List.replicate (w.n + 1) (.slice none 0 0)).set w.n (.slice (some ⟨M2.length, 0, none⟩) (T + 1) 3) := ⟨_, rfl⟩
  obtain ⟨M3, hM3⟩ : ∃ M3, M3 = M2.set tid ⟨.own, 96, vs⟩ ++ [⟨.own, 95, repL (T + 1) [.bool false, .int .i64 0, .int .i64 0]⟩] := ⟨_, rfl⟩
  rw [← hvs, ← hM3]
  have hG3 : Grow M0 M3 := by rw [hM3]; exact (hG2.put (by omega) _ _).one _ _
  have oS3 := (oS2.set_ne (b := ⟨.own, 96, vs⟩) (show tid ≠ M0.length by omega)).ext [⟨.own, 95, repL (T + 1) [.bool false, .int .i64 0, .int .i64 0]⟩]
  have oT3 := (oT2.set_self 96 vs).ext [⟨.own, 95, repL (T + 1) [.bool false, .int .i64 0, .int .i64 0]⟩]
  have oR3 : Own M3 M2.length 95 (repL (T + 1) [.bool false, .int .i64 0, .int .i64 0]) := by rw [hM3]; exact Own.end' (by simp)
  rw [← hM3] at oS3 oT3
  clear hM3
  have hvl : vs.length = w.n + 1 := by rw [hvs]; simp
  have vN : vs[w.n]? = some (.slice (some ⟨M2.length, 0, none⟩) (T + 1) 3) := by rw [hvs, List.getElem?_set_self (by simp)]
  have r7 := oS3.rd 7
  simp only [List.getElem?_cons_succ, List.getElem?_cons_zero] at r7
  have rN := oT3.rd w.n
  rw [vN] at rN
  have iT : iadA 3 (.slice (some ⟨M2.length, 0, none⟩) (T + 1) 3) (.int .i64 w.tot) = some (.pointer (some ⟨M2.length, T * 3, none⟩)) := by
    have := iadA_at (id := M2.length) (off := 0) (n := T + 1) (fl := 3) (sz := 3) (k := .i64) eT (by omega)
    simpa using this
  have w2 := oR3.st (off := T * 3) (vs := [.bool true]) (by rw [repL_len]; simp; omega) rfl
  have eR := rowW_end w hT.1
  rw [← hTT] at eR
  rw [show putL (repL (T + 1) [.bool false, .int .i64 0, .int .i64 0]) (T * 3) [.bool true] = _ from eR] at w2
  simp (config := {implicitDefEqProofs := false, maxDischargeDepth := 20}) (disch := first | omega | (simp only [lenE]; done) | (simp only [lenE]; omega) | rfl | (simp only [lenE, markR_len]; done) | (simp only [lenE, markR_len]; omega)) only [runE, mapE, listE, resV, oneV, binA, unA, reduceCtorEq, Nat.reduceEqDiff, Nat.reduceAdd, Nat.reduceLT, Nat.reduceLeDiff, Nat.reduceMul, Nat.reduceSub, ↓reduceIte, decide_true, decide_false, Bool.true_eq_false, Bool.false_eq_true, Bool.not_true, Bool.not_false, if_true, if_false, and_true, true_and, memE, celE, w64, Nat.zero_add, Nat.add_zero, Nat.mul_one, putL, and_self, ldn, nilc1, r7, iN, rN, iT, w2]
  obtain ⟨M4, hM4⟩ : ∃ M4, M4 = M3.set M2.length ⟨.own, 95, rowW (fun x => wayT w w.n (x : Int)) (T + 1) (T + 1)⟩ := ⟨_, rfl⟩
  rw [← hM4]
  have hG4 : Grow M0 M4 := by rw [hM4]; exact hG3.put (by omega) _ _
  have oS4 := oS3.set_ne (b := ⟨.own, 95, rowW (fun x => wayT w w.n (x : Int)) (T + 1) (T + 1)⟩) (show M2.length ≠ M0.length by omega)
  have oT4 := oT3.set_ne (b := ⟨.own, 95, rowW (fun x => wayT w w.n (x : Int)) (T + 1) (T + 1)⟩) (show M2.length ≠ tid by omega)
  have oR4 := oR3.set_self 95 (rowW (fun x => wayT w w.n (x : Int)) (T + 1) (T + 1))
  rw [← hM4] at oS4 oT4 oR4
  clear hM4
  have hW4 : WaysFrom w M4 (tid + 1) M4.length vs w.n := fun j g1 g2 => by
    have : j = w.n := by omega
    subst this
    rw [← hTT]
    exact ⟨M2.length, vN, by omega, oR4.lt, oR4⟩
  clear oS3 oT3 oR3 oS2 oT2 w1 w2 r7 rN vN hG2 hG3 iT hvs
  refine loop_inv mixed (fun s => ∃ (t : Nat) (M : Mem) (vs : List Value), t ≤ w.n ∧ vs.length = w.n + 1 ∧ s.m = M ∧ Grow M0 M ∧ Own M M0.length 93 [v1, v2, v3, v4, lv, rv, .bool late, .slice (some ⟨tid, 0, none⟩) (w.n + 1) 1] ∧ Own M tid 96 vs ∧ WaysFrom w M (tid + 1) M.length vs t ∧ s.t 0 = .pointer (some ⟨M0.length, 0, none⟩) ∧ s.t 3 = .int .i64 T ∧ s.t 4 = .int .i64 ((t : Int) - 1)) (fun s => (intOf (s.t 4) + 1).toNat)
    ⟨w.n, _, vs, by omega, hvl, rfl, hG4, oS4, oT4, hW4, rfl, by simp only [put_t, put_t', put_m, putT_t, putT_t', putT_m, init_t, init_m, initT_0, initT_1, initT_2, initT_3, initT_4, Nat.reduceEqDiff, ↓reduceIte, eT], by simp only [put_t, put_t', put_m, putT_t, putT_t', putT_m, init_t, init_m, initT_0, initT_1, initT_2, initT_3, initT_4, Nat.reduceEqDiff, ↓reduceIte, hn]⟩ ?_
  clear hG4 oS4 oT4 oR4 hW4
  rintro s ⟨t, M, vs, ht, hvl, tm, hG, oS, oT, hW, t0, t3, t4⟩
  have r7 := oS.rd 7
  simp only [List.getElem?_cons_succ, List.getElem?_cons_zero] at r7
  cases t with
  | zero =>
    have hz : ¬ ((0 : Int) ≤ ((0 : Nat) : Int) - 1) := by omega
    simp (config := {implicitDefEqProofs := false, maxDischargeDepth := 20}) (disch := first | omega | (simp only [lenE]; done) | (simp only [lenE]; omega) | rfl | (simp only [lenE, markR_len]; done) | (simp only [lenE, markR_len]; omega)) only [runE, mapE, listE, resV, oneV, binA, unA, reduceCtorEq, Nat.reduceEqDiff, Nat.reduceAdd, Nat.reduceLT, Nat.reduceLeDiff, Nat.reduceMul, Nat.reduceSub, ↓reduceIte, decide_true, decide_false, Bool.true_eq_false, Bool.false_eq_true, Bool.not_true, Bool.not_false, if_true, if_false, and_true, true_and, memE, celE, w64, Nat.zero_add, Nat.add_zero, Nat.mul_one, putL, and_self, ldn, tm, t0, t3, t4, hz, ge_iff_le]
    have r0 := oS.rd 0
    simp only [List.getElem?_cons_zero] at r0
    exact ⟨hG, r0, tid, 1, vs, r7, by omega, oT, hvl, hW.keep (by omega) (Nat.le_refl _) (fun _ _ => rfl) fun _ _ _ _ ho => ho⟩
  | succ t =>
    have et : (((t + 1 : Nat) : Int) - 1) = (t : Int) := by omega
    rw [et] at t4
    have hz : (0 : Int) ≤ (t : Int) := by omega
    have it := iad0 (id := tid) (n := w.n + 1) (fl := 1) (z := (t : Int)) (j := t) (by omega) (by omega)
    have ltM := oT.lt
    have lsM := oS.lt
    have w1 := oT.st (off := t) (vs := [.slice (some ⟨M.length, 0, none⟩) (T + 1) 3]) (by simp; omega) rfl
    rw [putL_one] at w1
    rw [eT] at mkB
    simp (config := {implicitDefEqProofs := false, maxDischargeDepth := 20}) (disch := first | omega | (simp only [lenE]; done) | (simp only [lenE]; omega) | rfl | (simp only [lenE, markR_len]; done) | (simp only [lenE, markR_len]; omega)) only [runE, mapE, listE, resV, oneV, binA, unA, reduceCtorEq, Nat.reduceEqDiff, Nat.reduceAdd, Nat.reduceLT, Nat.reduceLeDiff, Nat.reduceMul, Nat.reduceSub, ↓reduceIte, decide_true, decide_false, Bool.true_eq_false, Bool.false_eq_true, Bool.not_true, Bool.not_false, if_true, if_false, and_true, true_and, memE, celE, w64, Nat.zero_add, Nat.add_zero, Nat.mul_one, putL, and_self, ldn, tm, t0, t3, t4, hz, ge_iff_le, nilc1, r7, mkB, it, w1]
    obtain ⟨rid, hrid⟩ : ∃ rid, rid = M.length := ⟨_, rfl⟩
    obtain ⟨vs', hvs'⟩ : ∃ vs' : List Value, vs' = vs.set t (.slice (some ⟨rid, 0, none⟩) (T + 1) 3) := ⟨_, rfl⟩
    obtain ⟨M5, hM5⟩ : ∃ M5, M5 = M.set tid ⟨.own, 96, vs'⟩ ++ [⟨.own, 95, repL (T + 1) [.bool false, .int .i64 0, .int .i64 0]⟩] := ⟨_, rfl⟩
    rw [← hrid, ← hvs', ← hM5]
    have hG5 : Grow M0 M5 := by rw [hM5]; exact (hG.put (by omega) _ _).one _ _
    have oS5 := (oS.set_ne (b := ⟨.own, 96, vs'⟩) (show tid ≠ M0.length by omega)).ext [⟨.own, 95, repL (T + 1) [.bool false, .int .i64 0, .int .i64 0]⟩]
    have oT5 := (oT.set_self 96 vs').ext [⟨.own, 95, repL (T + 1) [.bool false, .int .i64 0, .int .i64 0]⟩]
    have oR5 : Own M5 rid 95 (rowW (fun x => wayT w t (x : Int)) (T + 1) 0) := by rw [rowW_zero, hM5]; exact Own.end' (by rw [hrid]; simp)
    have hW5 : WaysFrom w M5 (tid + 1) rid vs' (t + 1) := hW.keep (Nat.le_refl _) (by omega) (fun j hj => by rw [hvs', List.getElem?_set_ne (by omega)]) fun r cs g1 g2 ho => by
      rw [hM5]; exact (ho.set_ne (b := ⟨.own, 96, vs'⟩) (by omega)).ext _
    rw [← hM5] at oS5 oT5
    have hvl' : vs'.length = w.n + 1 := by rw [hvs']; simpa using hvl
    have vT : vs'[t]? = some (.slice (some ⟨rid, 0, none⟩) (T + 1) 3) := by rw [hvs', List.getElem?_set_self (by omega)]
    have lM5 : M5.length = rid + 1 := by rw [hM5, hrid]; simp
    clear hM5
    refine loop_inv mixed (fun s => ∃ (o : Nat) (M : Mem), o ≤ T + 1 ∧ s.m = M ∧ Grow M0 M ∧ Own M M0.length 93 [v1, v2, v3, v4, lv, rv, .bool late, .slice (some ⟨tid, 0, none⟩) (w.n + 1) 1] ∧ Own M tid 96 vs' ∧ WaysFrom w M (tid + 1) rid vs' (t + 1) ∧ Own M rid 95 (rowW (fun x => wayT w t (x : Int)) (T + 1) o) ∧ s.t 0 = .pointer (some ⟨M0.length, 0, none⟩) ∧ s.t 3 = .int .i64 T ∧ s.t 4 = .int .i64 t ∧ s.t 59 = .int .i64 ((T : Int) + 1) ∧ s.t 60 = .int .i64 o) (fun s => T + 1 - (intOf (s.t 60)).toNat)
      ⟨0, _, by omega, rfl, hG5, oS5, oT5, hW5, oR5, by simp only [put_t, put_t', put_m, putT_t, putT_t', putT_m, init_t, init_m, initT_0, initT_1, initT_2, initT_3, initT_4, Nat.reduceEqDiff, ↓reduceIte, t0], by simp only [put_t, put_t', put_m, putT_t, putT_t', putT_m, init_t, init_m, initT_0, initT_1, initT_2, initT_3, initT_4, Nat.reduceEqDiff, ↓reduceIte, t3], by simp only [put_t, put_t', put_m, putT_t, putT_t', putT_m, init_t, init_m, initT_0, initT_1, initT_2, initT_3, initT_4, Nat.reduceEqDiff, ↓reduceIte, t4], by simp only [put_t, put_t', put_m, putT_t, putT_t', putT_m, init_t, init_m, initT_0, initT_1, initT_2, initT_3, initT_4, Nat.reduceEqDiff, ↓reduceIte], rfl⟩ ?_
    have hrt : tid < rid := by omega
    clear hG5 oS5 oT5 oR5 hW5 hG oS oT hW r7 it ltM lsM w1 tm t0 t3 t4 hvs'
    rintro s ⟨o, M6, ho, tm, hG, oS, oT, hW, oR, t0, t3, t4, t59, t60⟩
    by_cases hlt : o < T + 1
    · have hlt' : (o : Int) < (T : Int) + 1 := by omega
      have r7 := oS.rd 7
      have r0 := oS.rd 0
      have r1 := oS.rd 1
      have r2 := oS.rd 2
      have r3 := oS.rd 3
      have r4 := oS.rd 4
      have r5 := oS.rd 5
      have r6 := oS.rd 6
      simp only [List.getElem?_cons_succ, List.getElem?_cons_zero] at r0 r1 r2 r3 r4 r5 r6 r7
      have it := iad0 (id := tid) (n := w.n + 1) (fl := 1) (z := (t : Int)) (j := t) (by omega) (by omega)
      have rT := oT.rd t
      rw [vT] at rT
      obtain ⟨rid2, g1, g2, g3, g4⟩ := hW (t + 1) (Nat.le_refl _) (by omega)
      have rT1 := oT.rd (t + 1)
      rw [g1] at rT1
      simp (config := {implicitDefEqProofs := false, maxDischargeDepth := 20}) (disch := first | omega | (simp only [lenE]; done) | (simp only [lenE]; omega) | rfl | (simp only [lenE, markR_len]; done) | (simp only [lenE, markR_len]; omega)) only [runE, mapE, listE, resV, oneV, binA, unA, reduceCtorEq, Nat.reduceEqDiff, Nat.reduceAdd, Nat.reduceLT, Nat.reduceLeDiff, Nat.reduceMul, Nat.reduceSub, ↓reduceIte, decide_true, decide_false, Bool.true_eq_false, Bool.false_eq_true, Bool.not_true, Bool.not_false, if_true, if_false, and_true, true_and, memE, celE, w64, Nat.zero_add, Nat.add_zero, Nat.mul_one, putL, and_self, ldn, tm, t0, t3, t4, t59, t60, hlt', nilc1, r7, it, rT]
      refine rcallH_rc (wayFrom_rc w late hs M6 M0.length tid rid2 t o 1 v1 v2 v3 v4 lv rv ⟨r0, r1, r2, r3, r4, r5, r6, r7, hG.case hc, hG.ints hl, hG.ints hr⟩ (by omega) (by omega) rT1 (rowAt_own g4)) ?_
      rintro r new ⟨rfl, nr⟩
      have iO : iadA 3 (.slice (some ⟨rid, 0, none⟩) (T + 1) 3) (.int .i64 (o : Int)) = some (.pointer (some ⟨rid, o * 3, none⟩)) := by
        have := iadA_at (id := rid) (off := 0) (n := T + 1) (fl := 3) (sz := 3) (k := .i64) (z := (o : Int)) (j := o) rfl (by omega)
        simpa using this
      have w3 := (oR.ext new).st (off := o * 3) (vs := WCell (wayT w t o)) (by rw [rowW_len _ (by omega), WCell_len]; omega) (WCell_ones _)
      rw [rowW_put (fun x => wayT w t (x : Int)) (by omega)] at w3
      simp (config := {implicitDefEqProofs := false, maxDischargeDepth := 20}) (disch := first | omega | (simp only [lenE]; done) | (simp only [lenE]; omega) | rfl | (simp only [lenE, markR_len]; done) | (simp only [lenE, markR_len]; omega)) only [runE, mapE, listE, resV, oneV, binA, unA, reduceCtorEq, Nat.reduceEqDiff, Nat.reduceAdd, Nat.reduceLT, Nat.reduceLeDiff, Nat.reduceMul, Nat.reduceSub, ↓reduceIte, decide_true, decide_false, Bool.true_eq_false, Bool.false_eq_true, Bool.not_true, Bool.not_false, if_true, if_false, and_true, true_and, memE, celE, w64, Nat.zero_add, Nat.add_zero, Nat.mul_one, putL, and_self, ldn, t0, t3, t4, t59, t60, iO, WCell_len, w3]
      refine ⟨⟨o + 1, _, by omega, rfl, (hG.app nr).put (by omega) _ _, (oS.ext _).set_ne (by omega) _, (oT.ext _).set_ne (by omega) _, ?_, (oR.ext _).set_self _ _, by simp⟩, by simp [intOf]; omega⟩
      exact hW.keep (Nat.le_refl _) (Nat.le_refl _) (fun _ _ => rfl) fun r cs g1 g2 ho => (ho.ext _).set_ne (by omega) _
    · have hlt' : ¬ ((o : Int) < (T : Int) + 1) := by omega
      have e : o = T + 1 := by omega
      subst e
      simp (config := {implicitDefEqProofs := false, maxDischargeDepth := 20}) (disch := first | omega | (simp only [lenE]; done) | (simp only [lenE]; omega) | rfl | (simp only [lenE, markR_len]; done) | (simp only [lenE, markR_len]; omega)) only [runE, mapE, listE, resV, oneV, binA, unA, reduceCtorEq, Nat.reduceEqDiff, Nat.reduceAdd, Nat.reduceLT, Nat.reduceLeDiff, Nat.reduceMul, Nat.reduceSub, ↓reduceIte, decide_true, decide_false, Bool.true_eq_false, Bool.false_eq_true, Bool.not_true, Bool.not_false, if_true, if_false, and_true, true_and, memE, celE, w64, Nat.zero_add, Nat.add_zero, Nat.mul_one, putL, and_self, ldn, tm, t0, t3, t4, t59, t60, hlt']
      refine ⟨⟨t, M6, vs', by omega, hvl', rfl, hG, oS, oT, fun j g1 g2 => ?_, rfl⟩, by simp only [intOf]; omega⟩
      have hlr := oR.lt
      by_cases hjt : j = t
      · subst hjt
        rw [← hTT]
        exact ⟨rid, vT, by omega, hlr, oR⟩
      · obtain ⟨rid2, k1, k2, k3, k4⟩ := hW j (by omega) g2
        exact ⟨rid2, k1, k2, by omega, k4⟩
end Go.Proofs.Ytiggehfopfpkbaa.Ab
