/- The search for best amounts: the best way from a period on. -/
import Derived.Test.YtiggehfopfpkbaaAbWay
import Derived.Test.YtiggehfopfpkbaaAbApp
namespace Go.Proofs.Ytiggehfopfpkbaa.Ab
open Go Go.RowKit
set_option linter.unusedVariables false
set_option linter.unusedSimpArgs false

theorem rdo {M : Mem} {id k : Nat} {t : TypeId} {cs : List Value} (h : M[id]? = some ⟨.own, t, cs⟩) : rdc M id k = cs[k]? := by
  simp [rdc, h]
theorem RowAt.ld3 {m : Mem} {rid : Nat} {f : Nat → Option (Int × Nat)} {n o : Nat} (h : RowAt m rid f n) (ho : o < n) : ldA m (some 3) (.pointer (some ⟨rid, o * 3, none⟩)) = some (.agg (WCell (f o)).toArray) := by
  have h0 := h o ho 0
  have h1 := h o ho 1
  have h2 := h o ho 2
  cases hf : f o with
  | none =>
    rw [hf] at h0 h1 h2
    have a0 := h0 _ rfl
    have a1 := h1 _ rfl
    have a2 := h2 _ rfl
    rw [Nat.add_zero] at a0
    simp [ldA, rdn, a0, a1, a2, WCell]
  | some r =>
    rw [hf] at h0 h1 h2
    have a0 := h0 _ rfl
    have a1 := h1 _ rfl
    have a2 := h2 _ rfl
    rw [Nat.add_zero] at a0
    simp [ldA, rdn, a0, a1, a2, WCell]
theorem bld3 (x : Int) (y : Int) : bldA [.bool false, .int .i64 0, .int .i64 0] [(0, 1, .bool true), (1, 1, .int .i64 x), (2, 1, .int .i64 y)] = some (.agg #[.bool true, .int .i64 x, .int .i64 y]) := rfl
theorem ld3s {M : Mem} {id : Nat} {t : TypeId} {a b c : Value} (h : id < M.length) : ldA (M.set id ⟨.own, t, [a, b, c]⟩) (some 3) (.pointer (some ⟨id, 0, none⟩)) = some (.agg #[a, b, c]) := by
  have h' : (M.set id (⟨.own, t, [a, b, c]⟩ : Blk))[id]? = some ⟨.own, t, [a, b, c]⟩ := by rw [List.getElem?_set_self h]
  simp [ldA, rdn, rdc, h']
theorem sumR_from0 (l : List Int) (j : Nat) : sumR l 0 j = sumTo l j := by unfold sumR; rw [sumTo_zero]; omega

set_option maxHeartbeats 4000000 in
theorem wayFrom_rc (w : Ws) (late : Bool) (hs : SrchOk w late) (m : Mem) (sp tid rid t o fl : Nat) (v1 v2 v3 v4 lv rv : Value)
    (hS : SrchA w late v1 v2 v3 v4 lv rv (.slice (some ⟨tid, 0, none⟩) (w.n + 1) fl) sp m) (ht : t < w.n) (ho : (o : Int) ≤ w.tot)
    (ht1 : rdc m tid (t + 1) = some (.slice (some ⟨rid, 0, none⟩) (w.tot.toNat + 1) 3)) (hR : RowAt m rid (fun x => wayT w (t + 1) (x : Int)) (w.tot.toNat + 1)) :
    RC Try.prog 133 [.pointer (some ⟨sp, 0, none⟩), .int .i64 t, .int .i64 o] m (AnsV (.agg (WCell (wayT w t o)).toArray)) := by
  refine rc_of_run mixed ok_impl_planSearch__wayFrom (by simp) (go_start _ _ _ ?_)
  have hS' := hS.ro
  have hsl := rdc_lt' hS'.f0
  rw [roM_len] at hsl
  have ht1' := rdc_roM' ht1
  have hR' : RowAt (roM m) rid _ _ := hR.mono (fun _ _ _ h => rdc_roM' h)
  have hw := hs.ok
  have h8 := hw.g.n8
  have hn : w.n = w.k.need.length := rfl
  have hT := hw.tot
  have hd := hw.due (t + 1) (by omega)
  have hlm := hw.lim t
  have hlo160 := hw.lo
  have hll := hw.ll
  obtain ⟨_, _, _, _, e, h1, h2, h3, h4⟩ := hS'.hc.ok
  cases e
  obtain ⟨nv, hn1, hn2⟩ := (h1.ext [⟨.own, 95, [.bool false, .int .i64 0, .int .i64 0]⟩]).pre (hi := t + 1) (by omega)
  rw [show (((t + 1 : Nat) : Int)) = (t : Int) + 1 from rfl] at hn1
  simp (config := {implicitDefEqProofs := false, maxDischargeDepth := 20}) (disch := first | omega | (simp only [lenE]; done) | (simp only [lenE]; omega) | rfl | (simp only [lenE, markR_len]; done) | (simp only [lenE, markR_len]; omega)) only [runE, mapE, listE, resV, oneV, binA, unA, reduceCtorEq, Nat.reduceEqDiff, Nat.reduceAdd, Nat.reduceLT, Nat.reduceLeDiff, Nat.reduceMul, Nat.reduceSub, ↓reduceIte, decide_true, decide_false, Bool.true_eq_false, Bool.false_eq_true, Bool.not_true, Bool.not_false, if_true, if_false, and_true, true_and, memE, celE, w64, Nat.zero_add, Nat.add_zero, Nat.mul_one, putL, and_self, ldn, nilc1, goG_undef, Option.map_none, c_impl_planSearch__wayFrom, r_impl_planSearch__wayFrom, hS'.f0, hn1]
  refine callH_rc (sumOf_cut_rc _ _ w.k.need (b := 20) hn2 (by omega) (by omega) (by omega) (by omega) hw.g.need (by omega)) ?_
  rintro r new ⟨rfl, rfl⟩
  rw [sumR_from0, show sumTo w.k.need (t + 1) = w.due (t + 1) from rfl, List.append_nil]
  simp (config := {implicitDefEqProofs := false, maxDischargeDepth := 20}) (disch := first | omega | (simp only [lenE]; done) | (simp only [lenE]; omega) | rfl | (simp only [lenE, markR_len]; done) | (simp only [lenE, markR_len]; omega)) only [runE, mapE, listE, resV, oneV, binA, unA, reduceCtorEq, Nat.reduceEqDiff, Nat.reduceAdd, Nat.reduceLT, Nat.reduceLeDiff, Nat.reduceMul, Nat.reduceSub, ↓reduceIte, decide_true, decide_false, Bool.true_eq_false, Bool.false_eq_true, Bool.not_true, Bool.not_false, if_true, if_false, and_true, true_and, memE, celE, w64, Nat.zero_add, Nat.add_zero, Nat.mul_one, putL, and_self, ldn, nilc1, goG_undef, hS'.f0]
  refine callH_rc (sumOf_rc _ v1 w.k.need (h1.ext _) fun j hj => by have := sumTo_in hw.g.need j hj; omega) ?_
  rintro r new ⟨rfl, rfl⟩
  rw [show sumTo w.k.need w.k.need.length = w.tot from rfl, List.append_nil]
  have hlv := hS'.hl
  have il := (hlv.ext [⟨.own, 95, [.bool false, .int .i64 0, .int .i64 0]⟩]).ext [⟨.own, 95, [.bool false, .int .i64 0, .int .i64 0]⟩]
  simp (config := {implicitDefEqProofs := false, maxDischargeDepth := 20}) (disch := first | omega | (simp only [lenE]; done) | (simp only [lenE]; omega) | rfl | (simp only [lenE, markR_len]; done) | (simp only [lenE, markR_len]; omega)) only [runE, mapE, listE, resV, oneV, binA, unA, reduceCtorEq, Nat.reduceEqDiff, Nat.reduceAdd, Nat.reduceLT, Nat.reduceLeDiff, Nat.reduceMul, Nat.reduceSub, ↓reduceIte, decide_true, decide_false, Bool.true_eq_false, Bool.false_eq_true, Bool.not_true, Bool.not_false, if_true, if_false, and_true, true_and, memE, celE, w64, Nat.zero_add, Nat.add_zero, Nat.mul_one, putL, and_self, ldn, nilc1, goG_undef, hS'.f4, hlv.at_ t (by omega), il.ld t (by omega)]
  obtain ⟨B, hB⟩ : ∃ B, B = (min (w.lim t : Int) (w.tot - o)).toNat + 1 := ⟨_, rfl⟩
  have eB : min (w.lims.getD t 0) (w.tot - o) + 1 = (B : Int) := by rw [hB, ← hlm.2]; omega
  have hway := way_open (w := w) ht (o := (o : Int)) ho
  rw [← hB] at hway
  refine loop_inv mixed (fun s => ∃ (x : Nat) (M : Mem), x ≤ B ∧ s.m = M ∧ Ext m M ∧ M[m.length]? = some ⟨.own, 95, [.bool false, .int .i64 0, .int .i64 0]⟩ ∧ M[m.length + 1]? = some ⟨.own, 95, WCell (least (wayX w (wayT w (t + 1)) t o) x)⟩ ∧
      s.t 0 = .pointer (some ⟨sp, 0, none⟩) ∧ s.t 1 = .int .i64 t ∧ s.t 2 = .int .i64 o ∧ s.t 6 = .pointer (some ⟨m.length, 0, none⟩) ∧ s.t 7 = .int .i64 (w.due (t + 1)) ∧ s.t 9 = .pointer (some ⟨m.length + 1, 0, none⟩) ∧ s.t 40 = .int .i64 B ∧ s.t 41 = .int .i64 x) (fun s => B - (intOf (s.t 41)).toNat)
    ⟨0, _, by omega, rfl, ((Ext.refl m).one _ _).one _ _, ?_, ?_, rfl, rfl, rfl, rfl, rfl, rfl, by simp only [put_t, put_t', put_m, putT_t, putT_t', putT_m, init_t, init_m, initT_0, initT_1, initT_2, initT_3, initT_4, Nat.reduceEqDiff, ↓reduceIte]; rw [eB], rfl⟩ ?_
  · simp only [put_t, put_t', put_m, putT_t, putT_t', putT_m, init_t, init_m, initT_0, initT_1, initT_2, initT_3, initT_4, Nat.reduceEqDiff, ↓reduceIte]
    rw [List.getElem?_append_left (by simp [roM_len]), List.getElem?_append_right (by simp [roM_len])]; simp [roM_len]
  · simp only [put_t, put_t', put_m, putT_t, putT_t', putT_m, init_t, init_m, initT_0, initT_1, initT_2, initT_3, initT_4, Nat.reduceEqDiff, ↓reduceIte]
    rw [List.getElem?_append_right (by simp [roM_len])]; simp [roM_len, WCell, least]
  rintro s ⟨x, M, hx, tm, hX, b6, b9, t0, t1, t2, t6, t7, t9, t40, t41⟩
  have hSM := hS'.grow hX
  have hRM : RowAt M rid _ _ := hR'.mono (fun _ _ _ h => Grow.rd hX h)
  have htM : rdc M tid (t + 1) = _ := Grow.rd hX ht1'
  have l1 := rdc_lt' hSM.f0
  have l2 := rdc_lt' htM
  have l6 := (List.getElem?_eq_some_iff.1 b6).1
  have l9 := (List.getElem?_eq_some_iff.1 b9).1
  by_cases hlt : x < B
  · have hlt' : (x : Int) < B := by omega
    have hxo : (o : Int) + x ≤ w.tot := by omega
    have hxl : (x : Int) ≤ 160 := by omega
    have L3 := hRM.ld3 (o := o + x) (by omega)
    have i1 : iadA 1 (.slice (some ⟨tid, 0, none⟩) (w.n + 1) fl) (.int .i64 ((t : Int) + 1)) = some (.pointer (some ⟨tid, t + 1, none⟩)) := by
      have := iadA_in (id := tid) (off := 0) (n := w.n + 1) (fl := fl) (sz := 1) (k := .i64) (j := t + 1) (by omega)
      simpa using this
    have i2 : iadA 3 (.slice (some ⟨rid, 0, none⟩) (w.tot.toNat + 1) 3) (.int .i64 ((o : Int) + x)) = some (.pointer (some ⟨rid, (o + x) * 3, none⟩)) := by
      have := iadA_in (id := rid) (off := 0) (n := w.tot.toNat + 1) (fl := 3) (sz := 3) (k := .i64) (j := o + x) (by omega)
      simpa using this
    rw [show (((o + x : Nat) : Int)) = (o : Int) + x from rfl] at L3
    cases hnx : wayT w (t + 1) ((o : Int) + x) with
    | none =>
      rw [hnx] at L3
      simp only [WCell] at L3
      have e : least (wayX w (wayT w (t + 1)) t o) (x + 1) = least (wayX w (wayT w (t + 1)) t o) x := least_no (wayX_no hnx)
      simp (config := {implicitDefEqProofs := false, maxDischargeDepth := 20}) (disch := first | omega | (simp only [lenE]; done) | (simp only [lenE]; omega) | rfl | (simp only [lenE, markR_len]; done) | (simp only [lenE, markR_len]; omega)) only [runE, mapE, listE, resV, oneV, binA, unA, reduceCtorEq, Nat.reduceEqDiff, Nat.reduceAdd, Nat.reduceLT, Nat.reduceLeDiff, Nat.reduceMul, Nat.reduceSub, ↓reduceIte, decide_true, decide_false, Bool.true_eq_false, Bool.false_eq_true, Bool.not_true, Bool.not_false, if_true, if_false, and_true, true_and, memE, celE, w64, Nat.zero_add, Nat.add_zero, Nat.mul_one, putL, and_self, nilc1, goG_undef, tm, t0, t1, t2, t6, t7, t9, t40, t41, hlt', hSM.f7, i1, i2, htM, L3, stP_aggL]
      refine ⟨⟨x + 1, _, by omega, rfl, hX.one _ _, ?_, ?_, by simp⟩, by simp [intOf]; omega⟩
      · rw [List.getElem?_append_left (by omega)]; exact b6
      · rw [e]; rw [List.getElem?_append_left (by omega)]; exact b9
    | some r =>
      rw [hnx] at L3
      simp only [WCell] at L3
      obtain ⟨rb0, rb1, rb2⟩ := wayT_bd hw (by omega) hnx
      simp (config := {implicitDefEqProofs := false, maxDischargeDepth := 20}) (disch := first | omega | (simp only [lenE]; done) | (simp only [lenE]; omega) | rfl | (simp only [lenE, markR_len]; done) | (simp only [lenE, markR_len]; omega)) only [runE, mapE, listE, resV, oneV, binA, unA, reduceCtorEq, Nat.reduceEqDiff, Nat.reduceAdd, Nat.reduceLT, Nat.reduceLeDiff, Nat.reduceMul, Nat.reduceSub, ↓reduceIte, decide_true, decide_false, Bool.true_eq_false, Bool.false_eq_true, Bool.not_true, Bool.not_false, if_true, if_false, and_true, true_and, memE, celE, w64, Nat.zero_add, Nat.add_zero, Nat.mul_one, putL, and_self, nilc1, goG_undef, tm, t0, t1, t2, t6, t7, t9, t40, t41, hlt', hSM.f7, i1, i2, htM, L3, stP_aggL]
      refine callH_rc (isOwed_rc _ _) ?_
      rintro r0 new0 ⟨rfl, rfl⟩
      rw [List.append_nil]
      by_cases hb : (o : Int) + x - w.due (t + 1) < 0
      · cases hL : late with
        | false =>
          have e : least (wayX w (wayT w (t + 1)) t o) (x + 1) = least (wayX w (wayT w (t + 1)) t o) x := least_no (wayX_lo (by rw [hs.l0 hL]; exact hb))
          rw [hL] at hSM
          simp (config := {implicitDefEqProofs := false, maxDischargeDepth := 20}) (disch := first | omega | (simp only [lenE]; done) | (simp only [lenE]; omega) | rfl | (simp only [lenE, markR_len]; done) | (simp only [lenE, markR_len]; omega)) only [runE, mapE, listE, resV, oneV, binA, unA, reduceCtorEq, Nat.reduceEqDiff, Nat.reduceAdd, Nat.reduceLT, Nat.reduceLeDiff, Nat.reduceMul, Nat.reduceSub, ↓reduceIte, decide_true, decide_false, Bool.true_eq_false, Bool.false_eq_true, Bool.not_true, Bool.not_false, if_true, if_false, and_true, true_and, memE, celE, w64, Nat.zero_add, Nat.add_zero, Nat.mul_one, putL, and_self, ldn, nilc1, goG_undef, hb, t0, t1, t2, t6, t7, t9, t40, t41, hSM.f6]
          refine ⟨⟨x + 1, _, by omega, rfl, hX.one _ _, ?_, ?_, by simp⟩, by simp [intOf]; omega⟩
          · rw [List.getElem?_append_left (by omega)]; exact b6
          · rw [e]; rw [List.getElem?_append_left (by omega)]; exact b9
        | true =>
          obtain ⟨hl1, hl2⟩ := hs.l1 hL
          rw [hL] at hSM
          have hlo : w.lo ≤ (o : Int) + x - w.due (t + 1) := by omega
          have hrl : (o : Int) + x - w.due (t + 1) < 0 → w.rates.length = w.k.need.length := fun _ => hl2
          simp (config := {implicitDefEqProofs := false, maxDischargeDepth := 20}) (disch := first | omega | (simp only [lenE]; done) | (simp only [lenE]; omega) | rfl | (simp only [lenE, markR_len]; done) | (simp only [lenE, markR_len]; omega)) only [runE, mapE, listE, resV, oneV, binA, unA, reduceCtorEq, Nat.reduceEqDiff, Nat.reduceAdd, Nat.reduceLT, Nat.reduceLeDiff, Nat.reduceMul, Nat.reduceSub, ↓reduceIte, decide_true, decide_false, Bool.true_eq_false, Bool.false_eq_true, Bool.not_true, Bool.not_false, if_true, if_false, and_true, true_and, memE, celE, w64, Nat.zero_add, Nat.add_zero, Nat.mul_one, putL, and_self, ldn, nilc1, goG_undef, hb, t0, t1, t2, t6, t7, t9, t40, t41, hSM.f0, hSM.f1, hSM.f2, hSM.f3, hSM.f5, hSM.f6, hL]
          refine rcallH_rc (periodCost_rc _ _ rv w.k w.rates t (x : Int) ((o : Int) + x - w.due (t + 1)) (hSM.hc.ext _) (hSM.hr.ext _) hw.g hrl hw.rates ht (by omega) (by omega) (by omega) (by omega)) ?_
          rintro r2 new ⟨rfl, nr⟩
          have hcost : wayX w (wayT w (t + 1)) t o x = some (stepF w.k w.rates t x ((o : Int) + x - w.due (t + 1)) + r.1) := wayX_of hlo hnx
          have hsb := stepF_bd hw.g hw.rates t (x := (x : Int)) (b := (o : Int) + x - w.due (t + 1)) (by omega) (by omega) (by omega) (by omega)
          generalize stepF w.k w.rates t x ((o : Int) + x - w.due (t + 1)) = C at *
          cases hle : least (wayX w (wayT w (t + 1)) t o) x with
          | none =>
            rw [hle] at b9
            have q0 := rdo b9 (k := 0)
            simp only [WCell, List.getElem?_cons_zero] at q0
            have s9 := fun a b : Int => st3 (x := .bool true) (y := .int .i64 a) (z := .int .i64 b) b9 rfl
            have e : least (wayX w (wayT w (t + 1)) t o) (x + 1) = some (C + r.1, x) := by rw [least_yes hcost, hle]
            simp (config := {implicitDefEqProofs := false, maxDischargeDepth := 20}) (disch := first | omega | (simp only [lenE]; done) | (simp only [lenE]; omega) | rfl | (simp only [lenE, markR_len]; done) | (simp only [lenE, markR_len]; omega)) only [runE, mapE, listE, resV, oneV, binA, unA, reduceCtorEq, Nat.reduceEqDiff, Nat.reduceAdd, Nat.reduceLT, Nat.reduceLeDiff, Nat.reduceMul, Nat.reduceSub, ↓reduceIte, decide_true, decide_false, Bool.true_eq_false, Bool.false_eq_true, Bool.not_true, Bool.not_false, if_true, if_false, and_true, true_and, memE, celE, w64, Nat.zero_add, Nat.add_zero, Nat.mul_one, putL, and_self, ldn, nilc1, goG_undef, hb, t0, t1, t2, t6, t7, t9, t40, t41, q0, bld3, stP_aggL, s9]
            refine ⟨⟨x + 1, _, by omega, rfl, ((Grow.put hX (by rw [roM_len]; omega) _ _).one _ _).app nr, ?_, ?_, by simp⟩, by simp [intOf]; omega⟩
            · rw [List.getElem?_append_left (by simp; omega), List.getElem?_append_left (by simp; omega), List.getElem?_set_ne (by omega)]; exact b6
            · rw [e]; rw [List.getElem?_append_left (by simp; omega), List.getElem?_append_left (by simp; omega), List.getElem?_set_self (by omega)]; rfl
          | some b =>
            rw [hle] at b9
            have q0 := rdo b9 (k := 0)
            have q1 := rdo b9 (k := 1)
            simp only [WCell, List.getElem?_cons_zero, List.getElem?_cons_succ] at q0 q1
            have s9 := fun a b : Int => st3 (x := .bool true) (y := .int .i64 a) (z := .int .i64 b) b9 rfl
            by_cases hcb : C + r.1 < b.1
            · have e : least (wayX w (wayT w (t + 1)) t o) (x + 1) = some (C + r.1, x) := by rw [least_yes hcost, hle]; exact if_pos hcb
              simp (config := {implicitDefEqProofs := false, maxDischargeDepth := 20}) (disch := first | omega | (simp only [lenE]; done) | (simp only [lenE]; omega) | rfl | (simp only [lenE, markR_len]; done) | (simp only [lenE, markR_len]; omega)) only [runE, mapE, listE, resV, oneV, binA, unA, reduceCtorEq, Nat.reduceEqDiff, Nat.reduceAdd, Nat.reduceLT, Nat.reduceLeDiff, Nat.reduceMul, Nat.reduceSub, ↓reduceIte, decide_true, decide_false, Bool.true_eq_false, Bool.false_eq_true, Bool.not_true, Bool.not_false, if_true, if_false, and_true, true_and, memE, celE, w64, Nat.zero_add, Nat.add_zero, Nat.mul_one, putL, and_self, ldn, nilc1, goG_undef, hb, t0, t1, t2, t6, t7, t9, t40, t41, q0, q1, hcb, bld3, stP_aggL, s9]
              refine ⟨⟨x + 1, _, by omega, rfl, ((Grow.put hX (by rw [roM_len]; omega) _ _).one _ _).app nr, ?_, ?_, by simp⟩, by simp [intOf]; omega⟩
              · rw [List.getElem?_append_left (by simp; omega), List.getElem?_append_left (by simp; omega), List.getElem?_set_ne (by omega)]; exact b6
              · rw [e]; rw [List.getElem?_append_left (by simp; omega), List.getElem?_append_left (by simp; omega), List.getElem?_set_self (by omega)]; rfl
            · have e : least (wayX w (wayT w (t + 1)) t o) (x + 1) = some b := by rw [least_yes hcost, hle]; exact if_neg hcb
              simp (config := {implicitDefEqProofs := false, maxDischargeDepth := 20}) (disch := first | omega | (simp only [lenE]; done) | (simp only [lenE]; omega) | rfl | (simp only [lenE, markR_len]; done) | (simp only [lenE, markR_len]; omega)) only [runE, mapE, listE, resV, oneV, binA, unA, reduceCtorEq, Nat.reduceEqDiff, Nat.reduceAdd, Nat.reduceLT, Nat.reduceLeDiff, Nat.reduceMul, Nat.reduceSub, ↓reduceIte, decide_true, decide_false, Bool.true_eq_false, Bool.false_eq_true, Bool.not_true, Bool.not_false, if_true, if_false, and_true, true_and, memE, celE, w64, Nat.zero_add, Nat.add_zero, Nat.mul_one, putL, and_self, ldn, nilc1, goG_undef, hb, t0, t1, t2, t6, t7, t9, t40, t41, q0, q1, hcb]
              refine ⟨⟨x + 1, _, by omega, rfl, (hX.one _ _).app nr, ?_, ?_, by simp⟩, by simp [intOf]; omega⟩
              · rw [List.getElem?_append_left (by simp; omega), List.getElem?_append_left (by omega)]; exact b6
              · rw [e]; rw [List.getElem?_append_left (by simp; omega), List.getElem?_append_left (by omega)]; exact b9
      · have hlo : w.lo ≤ (o : Int) + x - w.due (t + 1) := by
          cases hL : late with
          | false => rw [hs.l0 hL]; omega
          | true => have := (hs.l1 hL).1; omega
        have hrl : (o : Int) + x - w.due (t + 1) < 0 → w.rates.length = w.k.need.length := fun h => absurd h hb
        have hL : True := trivial
        simp (config := {implicitDefEqProofs := false, maxDischargeDepth := 20}) (disch := first | omega | (simp only [lenE]; done) | (simp only [lenE]; omega) | rfl | (simp only [lenE, markR_len]; done) | (simp only [lenE, markR_len]; omega)) only [runE, mapE, listE, resV, oneV, binA, unA, reduceCtorEq, Nat.reduceEqDiff, Nat.reduceAdd, Nat.reduceLT, Nat.reduceLeDiff, Nat.reduceMul, Nat.reduceSub, ↓reduceIte, decide_true, decide_false, Bool.true_eq_false, Bool.false_eq_true, Bool.not_true, Bool.not_false, if_true, if_false, and_true, true_and, memE, celE, w64, Nat.zero_add, Nat.add_zero, Nat.mul_one, putL, and_self, ldn, nilc1, goG_undef, hb, t0, t1, t2, t6, t7, t9, t40, t41, hSM.f0, hSM.f1, hSM.f2, hSM.f3, hSM.f5, hSM.f6]
        refine rcallH_rc (periodCost_rc _ _ rv w.k w.rates t (x : Int) ((o : Int) + x - w.due (t + 1)) (hSM.hc.ext _) (hSM.hr.ext _) hw.g hrl hw.rates ht (by omega) (by omega) (by omega) (by omega)) ?_
        rintro r2 new ⟨rfl, nr⟩
        have hcost : wayX w (wayT w (t + 1)) t o x = some (stepF w.k w.rates t x ((o : Int) + x - w.due (t + 1)) + r.1) := wayX_of hlo hnx
        have hsb := stepF_bd hw.g hw.rates t (x := (x : Int)) (b := (o : Int) + x - w.due (t + 1)) (by omega) (by omega) (by omega) (by omega)
        generalize stepF w.k w.rates t x ((o : Int) + x - w.due (t + 1)) = C at *
        cases hle : least (wayX w (wayT w (t + 1)) t o) x with
        | none =>
          rw [hle] at b9
          have q0 := rdo b9 (k := 0)
          simp only [WCell, List.getElem?_cons_zero] at q0
          have s9 := fun a b : Int => st3 (x := .bool true) (y := .int .i64 a) (z := .int .i64 b) b9 rfl
          have e : least (wayX w (wayT w (t + 1)) t o) (x + 1) = some (C + r.1, x) := by rw [least_yes hcost, hle]
          simp (config := {implicitDefEqProofs := false, maxDischargeDepth := 20}) (disch := first | omega | (simp only [lenE]; done) | (simp only [lenE]; omega) | rfl | (simp only [lenE, markR_len]; done) | (simp only [lenE, markR_len]; omega)) only [runE, mapE, listE, resV, oneV, binA, unA, reduceCtorEq, Nat.reduceEqDiff, Nat.reduceAdd, Nat.reduceLT, Nat.reduceLeDiff, Nat.reduceMul, Nat.reduceSub, ↓reduceIte, decide_true, decide_false, Bool.true_eq_false, Bool.false_eq_true, Bool.not_true, Bool.not_false, if_true, if_false, and_true, true_and, memE, celE, w64, Nat.zero_add, Nat.add_zero, Nat.mul_one, putL, and_self, ldn, nilc1, goG_undef, hb, t0, t1, t2, t6, t7, t9, t40, t41, q0, bld3, stP_aggL, s9]
          refine ⟨⟨x + 1, _, by omega, rfl, ((Grow.put hX (by rw [roM_len]; omega) _ _).one _ _).app nr, ?_, ?_, by simp⟩, by simp [intOf]; omega⟩
          · rw [List.getElem?_append_left (by simp; omega), List.getElem?_append_left (by simp; omega), List.getElem?_set_ne (by omega)]; exact b6
          · rw [e]; rw [List.getElem?_append_left (by simp; omega), List.getElem?_append_left (by simp; omega), List.getElem?_set_self (by omega)]; rfl
        | some b =>
          rw [hle] at b9
          have q0 := rdo b9 (k := 0)
          have q1 := rdo b9 (k := 1)
          simp only [WCell, List.getElem?_cons_zero, List.getElem?_cons_succ] at q0 q1
          have s9 := fun a b : Int => st3 (x := .bool true) (y := .int .i64 a) (z := .int .i64 b) b9 rfl
          by_cases hcb : C + r.1 < b.1
          · have e : least (wayX w (wayT w (t + 1)) t o) (x + 1) = some (C + r.1, x) := by rw [least_yes hcost, hle]; exact if_pos hcb
            simp (config := {implicitDefEqProofs := false, maxDischargeDepth := 20}) (disch := first | omega | (simp only [lenE]; done) | (simp only [lenE]; omega) | rfl | (simp only [lenE, markR_len]; done) | (simp only [lenE, markR_len]; omega)) only [runE, mapE, listE, resV, oneV, binA, unA, reduceCtorEq, Nat.reduceEqDiff, Nat.reduceAdd, Nat.reduceLT, Nat.reduceLeDiff, Nat.reduceMul, Nat.reduceSub, ↓reduceIte, decide_true, decide_false, Bool.true_eq_false, Bool.false_eq_true, Bool.not_true, Bool.not_false, if_true, if_false, and_true, true_and, memE, celE, w64, Nat.zero_add, Nat.add_zero, Nat.mul_one, putL, and_self, ldn, nilc1, goG_undef, hb, t0, t1, t2, t6, t7, t9, t40, t41, q0, q1, hcb, bld3, stP_aggL, s9]
            refine ⟨⟨x + 1, _, by omega, rfl, ((Grow.put hX (by rw [roM_len]; omega) _ _).one _ _).app nr, ?_, ?_, by simp⟩, by simp [intOf]; omega⟩
            · rw [List.getElem?_append_left (by simp; omega), List.getElem?_append_left (by simp; omega), List.getElem?_set_ne (by omega)]; exact b6
            · rw [e]; rw [List.getElem?_append_left (by simp; omega), List.getElem?_append_left (by simp; omega), List.getElem?_set_self (by omega)]; rfl
          · have e : least (wayX w (wayT w (t + 1)) t o) (x + 1) = some b := by rw [least_yes hcost, hle]; exact if_neg hcb
            simp (config := {implicitDefEqProofs := false, maxDischargeDepth := 20}) (disch := first | omega | (simp only [lenE]; done) | (simp only [lenE]; omega) | rfl | (simp only [lenE, markR_len]; done) | (simp only [lenE, markR_len]; omega)) only [runE, mapE, listE, resV, oneV, binA, unA, reduceCtorEq, Nat.reduceEqDiff, Nat.reduceAdd, Nat.reduceLT, Nat.reduceLeDiff, Nat.reduceMul, Nat.reduceSub, ↓reduceIte, decide_true, decide_false, Bool.true_eq_false, Bool.false_eq_true, Bool.not_true, Bool.not_false, if_true, if_false, and_true, true_and, memE, celE, w64, Nat.zero_add, Nat.add_zero, Nat.mul_one, putL, and_self, ldn, nilc1, goG_undef, hb, t0, t1, t2, t6, t7, t9, t40, t41, q0, q1, hcb]
            refine ⟨⟨x + 1, _, by omega, rfl, (hX.one _ _).app nr, ?_, ?_, by simp⟩, by simp [intOf]; omega⟩
            · rw [List.getElem?_append_left (by simp; omega), List.getElem?_append_left (by omega)]; exact b6
            · rw [e]; rw [List.getElem?_append_left (by simp; omega), List.getElem?_append_left (by omega)]; exact b9
  · have e : x = B := by omega
    subst e
    have hlt' : ¬ ((x : Int) < x) := by omega
    rw [hway]
    cases hle : least (wayX w (wayT w (t + 1)) t o) x with
    | none =>
      rw [hle] at b9
      have L9 := ld3 b9
      have s6 := fun a b : Int => st3 (x := .bool false) (y := .int .i64 a) (z := .int .i64 b) b6 rfl
      simp (config := {implicitDefEqProofs := false, maxDischargeDepth := 20}) (disch := first | omega | (simp only [lenE]; done) | (simp only [lenE]; omega) | rfl | (simp only [lenE, markR_len]; done) | (simp only [lenE, markR_len]; omega)) only [runE, mapE, listE, resV, oneV, binA, unA, reduceCtorEq, Nat.reduceEqDiff, Nat.reduceAdd, Nat.reduceLT, Nat.reduceLeDiff, Nat.reduceMul, Nat.reduceSub, ↓reduceIte, decide_true, decide_false, Bool.true_eq_false, Bool.false_eq_true, Bool.not_true, Bool.not_false, if_true, if_false, and_true, true_and, memE, celE, w64, Nat.zero_add, Nat.add_zero, Nat.mul_one, putL, and_self, nilc1, goG_undef, tm, t0, t1, t2, t6, t7, t9, t40, t41, hlt', L9, stP_aggL, s6, ld3s]
      exact ext_ansV (Grow.put hX (by rw [roM_len]; omega) _ _) rfl
    | some b =>
      rw [hle] at b9
      have L9 := ld3 b9
      have s6 := fun a b : Int => st3 (x := .bool true) (y := .int .i64 a) (z := .int .i64 b) b6 rfl
      simp (config := {implicitDefEqProofs := false, maxDischargeDepth := 20}) (disch := first | omega | (simp only [lenE]; done) | (simp only [lenE]; omega) | rfl | (simp only [lenE, markR_len]; done) | (simp only [lenE, markR_len]; omega)) only [runE, mapE, listE, resV, oneV, binA, unA, reduceCtorEq, Nat.reduceEqDiff, Nat.reduceAdd, Nat.reduceLT, Nat.reduceLeDiff, Nat.reduceMul, Nat.reduceSub, ↓reduceIte, decide_true, decide_false, Bool.true_eq_false, Bool.false_eq_true, Bool.not_true, Bool.not_false, if_true, if_false, and_true, true_and, memE, celE, w64, Nat.zero_add, Nat.add_zero, Nat.mul_one, putL, and_self, nilc1, goG_undef, tm, t0, t1, t2, t6, t7, t9, t40, t41, hlt', L9, stP_aggL, s6, ld3s]
      exact ext_ansV (Grow.put hX (by rw [roM_len]; omega) _ _) rfl
end Go.Proofs.Ytiggehfopfpkbaa.Ab
