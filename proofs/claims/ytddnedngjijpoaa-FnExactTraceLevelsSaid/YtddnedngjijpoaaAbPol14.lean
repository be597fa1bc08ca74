/- Policies: traces, by both programs. -/
import Derived.Test.YtddnedngjijpoaaAbPol11
namespace Go.Proofs.Ytddnedngjijpoaa.Ab
open Go Go.RowKit
set_option linter.unusedVariables false
set_option linter.unusedSimpArgs false

def levAt (p : Pr) (L : List (Int × Int)) (x : Int) (q : List Int) : Nat → Int
  | 0 => x
  | k + 1 => p.upOf (L.getD k (0, 0)) (levAt p L x q k) - q.getD k 0
def okAt (p : Pr) (L : List (Int × Int)) (x : Int) (q : List Int) (k : Nat) : Bool := stepB p L k (levAt p L x q k) (q.getD k 0)
def costAt (p : Pr) (L : List (Int × Int)) (x : Int) (q : List Int) (k : Nat) : Int := stepCost p L k (levAt p L x q k) (q.getD k 0)
def sumAt (p : Pr) (L : List (Int × Int)) (x : Int) (q : List Int) : Nat → Int
  | 0 => 0
  | k + 1 => sumAt p L x q k + costAt p L x q k
def traceOk (p : Pr) (L : List (Int × Int)) (x : Int) (q : List Int) : Bool := (p.good && p.polB L) && levB x && (List.range q.length).all (okAt p L x q)
def levsL (p : Pr) (L : List (Int × Int)) (x : Int) (q : List Int) : List Int := (List.range q.length).map fun k => levAt p L x q (k + 1)
def traceL (p : Pr) (L : List (Int × Int)) (x : Int) (q : List Int) : List Int := if traceOk p L x q then levsL p L x q else []
def traceS (p : Pr) (L : List (Int × Int)) (x : Int) (q : List Int) : Int := if traceOk p L x q then sumAt p L x q q.length else 0
theorem levsL_len (p : Pr) (L : List (Int × Int)) (x : Int) (q : List Int) : (levsL p L x q).length = q.length := by simp [levsL]
theorem levsL_at {p : Pr} {L : List (Int × Int)} {x : Int} {q : List Int} {k : Nat} (h : k < q.length) : (levsL p L x q).getD k 0 = levAt p L x q (k + 1) := by
  simp [levsL, List.getD_eq_getElem?_getD, h]
theorem traceOk_no {p : Pr} {L : List (Int × Int)} {x : Int} {q : List Int} {k : Nat} (hk : k < q.length) (h : okAt p L x q k = false) : traceOk p L x q = false := by
  cases hr : traceOk p L x q with
  | false => rfl
  | true =>
    simp only [traceOk, Bool.and_eq_true, List.all_eq_true, List.mem_range] at hr
    rw [hr.2 k hk] at h; cases h
theorem traceOk_yes {p : Pr} {L : List (Int × Int)} {x : Int} {q : List Int} (h1 : (p.good && p.polB L) = true) (h2 : levB x = true) (h : ∀ k, k < q.length → okAt p L x q k = true) : traceOk p L x q = true := by
  simp only [traceOk, h1, h2, Bool.and_eq_true, List.all_eq_true, List.mem_range, true_and]
  exact h
theorem ok_turn {p : Pr} {L : List (Int × Int)} {x : Int} {q : List Int} {k : Nat} (h : okAt p L x q k = true) : (k : Int) ≤ p.turns - 1 ∧ stepTo p L k (levAt p L x q k) (q.getD k 0) = levAt p L x q (k + 1) := by
  have h' : stepB p L k (levAt p L x q k) (q.getD k 0) = true := h
  refine ⟨?_, ?_⟩
  · simp only [okAt, stepB, turnB, Bool.and_eq_true, inZ, decide_eq_true_eq] at h; exact h.1.1.1.2.2
  · unfold stepTo; rw [h', if_pos rfl, Int.toNat_natCast]; rfl
theorem step_bd {p : Pr} (hG : GoodP p) (L : List (Int × Int)) (t x d : Int) : 0 ≤ stepCost p L t x d ∧ stepCost p L t x d ≤ 400 := by
  unfold stepCost
  cases hb : stepB p L t x d with
  | false => simp
  | true =>
    simp only [if_true]
    simp only [stepB, turnB, askB, levB, Bool.and_eq_true, inZ, decide_eq_true_eq] at hb
    obtain ⟨⟨⟨⟨h1, h2⟩, h3⟩, h4⟩, h5, h6⟩ := hb
    have hpl := Pr.pol_len h3
    have hok := Pr.upOf_may (Pr.pol_at h3 (k := t.toNat) (by omega)) h4
    have hlv := hok.1.lv (d := d.toNat) (by omega)
    rw [show ((d.toNat : Nat) : Int) = d by omega] at hlv
    have a := hG.ord (x := x) (y := p.upOf (L.getD t.toNat (0, 0)) x) (by omega) hok.1.2
    have b := hG.kept hlv
    omega
theorem sum_bd {p : Pr} (hG : GoodP p) (L : List (Int × Int)) (x : Int) (q : List Int) (k : Nat) : 0 ≤ sumAt p L x q k ∧ sumAt p L x q k ≤ 400 * k := by
  induction k with
  | zero => simp [sumAt]
  | succ k ih =>
    have := step_bd hG L k (levAt p L x q k) (q.getD k 0)
    simp only [sumAt, costAt]
    omega
theorem PairsA.xt {m M : Mem} {v : Value} {L : List (Int × Int)} (h : PairsA m v L) (hx : Ext m M) : PairsA M v L := by
  obtain ⟨n0, rfl, _⟩ := hx
  exact h.ro.ext n0
theorem implTrace_rc (m : Mem) (v vl vq : Value) (p : Pr) (L : List (Int × Int)) (x : Int) (q : List Int) (h : ProcA m v p) (hL : PairsA m vl L) (hq : IntsA m vq q) (hql : q.length ≤ 1048576) : RC Try.prog 66 [v, vl, .int .i64 x, vq] m (AnsO m (IntsO (traceL p L x q)) fun v => .tuple #[v, .int .i64 (traceS p L x q), .bool (traceOk p L x q)]) := by
  refine rc_of_run mixed ok_impl_TraceLevels (by simp) (go_start _ _ _ ?_)
  obtain ⟨u, rfl, hu⟩ := h.ro
  have hLr := hL.ro
  have hqr := hq.ro
  have hll := levsL_len p L x q
  simp (config := {implicitDefEqProofs := false, maxDischargeDepth := 20}) (disch := first | omega | (simp only [lenE]; done) | (simp only [lenE]; omega) | rfl | (simp only [lenE, markR_len]; done) | (simp only [lenE, markR_len]; omega)) only [runE, mapE, listE, initT_5, initT_6, initT_7, initT_8, resV, oneV, binA, unA, reduceCtorEq, Nat.reduceEqDiff, Nat.reduceAdd, Nat.reduceLT, Nat.reduceLeDiff, Nat.reduceMul, Nat.reduceSub, ↓reduceIte, decide_true, decide_false, Bool.true_eq_false, Bool.false_eq_true, Bool.not_true, Bool.not_false, if_true, if_false, and_true, true_and, memE, celE, w64, Nat.zero_add, Nat.add_zero, Nat.mul_one, putL, and_self, ldn, c_impl_TraceLevels, r_impl_TraceLevels]
  have fin : ∀ (A : Mem) (id : Nat), Ext m A → id = A.length → traceOk p L x q = false → newQ m (AnsO m (IntsO (traceL p L x q)) fun v => .tuple #[v, .int .i64 (traceS p L x q), .bool (traceOk p L x q)]) (.tuple #[.slice (some ⟨id, 0, none⟩) 0 1, .int .i64 0, .bool false]) (A ++ [⟨.own, 3, []⟩]) := fun A id hA hid e => by
    unfold traceL traceS; rw [e]
    exact ext_noInts (f := fun v => .tuple #[v, .int .i64 0, .bool false]) hA hid
  refine callH_rc (isPolicy_rc _ _ vl p L (ProcA.mk (hu.ext _)) (hLr.ext _)) ?_
  rintro r n1 ⟨rfl, nr1⟩
  have hX1 := ((Ext.refl m).one 26 [.int .i64 p.turns, u, .int .i64 p.setup, .int .i64 p.unit, .int .i64 p.hold, .int .i64 p.back]).app nr1
  have hl1 := hX1.len
  cases b1 : (p.good && p.polB L) with
  | false =>
    simp (config := {implicitDefEqProofs := false, maxDischargeDepth := 20}) (disch := first | omega | (simp only [lenE]; done) | (simp only [lenE]; omega) | rfl | (simp only [lenE, markR_len]; done) | (simp only [lenE, markR_len]; omega)) only [runE, mapE, listE, initT_5, initT_6, initT_7, initT_8, resV, oneV, binA, unA, reduceCtorEq, Nat.reduceEqDiff, Nat.reduceAdd, Nat.reduceLT, Nat.reduceLeDiff, Nat.reduceMul, Nat.reduceSub, ↓reduceIte, decide_true, decide_false, Bool.true_eq_false, Bool.false_eq_true, Bool.not_true, Bool.not_false, if_true, if_false, and_true, true_and, memE, celE, w64, Nat.zero_add, Nat.add_zero, Nat.mul_one, putL, and_self, ldn, bsl_no]
    exact fin _ _ hX1 (by simp [roM_len]; omega) (by simp [traceOk, b1])
  | true =>
  simp (config := {implicitDefEqProofs := false, maxDischargeDepth := 20}) (disch := first | omega | (simp only [lenE]; done) | (simp only [lenE]; omega) | rfl | (simp only [lenE, markR_len]; done) | (simp only [lenE, markR_len]; omega)) only [runE, mapE, listE, initT_5, initT_6, initT_7, initT_8, resV, oneV, binA, unA, reduceCtorEq, Nat.reduceEqDiff, Nat.reduceAdd, Nat.reduceLT, Nat.reduceLeDiff, Nat.reduceMul, Nat.reduceSub, ↓reduceIte, decide_true, decide_false, Bool.true_eq_false, Bool.false_eq_true, Bool.not_true, Bool.not_false, if_true, if_false, and_true, true_and, memE, celE, w64, Nat.zero_add, Nat.add_zero, Nat.mul_one, putL, and_self, ldn]
  refine callH_rc (isLevel_rc _ x) ?_
  rintro r n0 ⟨rfl, rfl⟩
  rw [List.append_nil]
  cases b2 : levB x with
  | false =>
    simp (config := {implicitDefEqProofs := false, maxDischargeDepth := 20}) (disch := first | omega | (simp only [lenE]; done) | (simp only [lenE]; omega) | rfl | (simp only [lenE, markR_len]; done) | (simp only [lenE, markR_len]; omega)) only [runE, mapE, listE, initT_5, initT_6, initT_7, initT_8, resV, oneV, binA, unA, reduceCtorEq, Nat.reduceEqDiff, Nat.reduceAdd, Nat.reduceLT, Nat.reduceLeDiff, Nat.reduceMul, Nat.reduceSub, ↓reduceIte, decide_true, decide_false, Bool.true_eq_false, Bool.false_eq_true, Bool.not_true, Bool.not_false, if_true, if_false, and_true, true_and, memE, celE, w64, Nat.zero_add, Nat.add_zero, Nat.mul_one, putL, and_self, ldn, bsl_no]
    exact fin _ _ hX1 (by simp [roM_len]; omega) (by simp [traceOk, b2])
  | true =>
  have b1' := b1
  rw [Bool.and_eq_true] at b1'
  have hG := goodP_iff.1 b1'.1
  have htn := hG.turns
  obtain ⟨A, hA⟩ : ∃ A : Mem, A = roM m ++ [⟨.own, 26, [.int .i64 p.turns, u, .int .i64 p.setup, .int .i64 p.unit, .int .i64 p.hold, .int .i64 p.back]⟩] ++ n1 := ⟨_, rfl⟩
  have hbA : OwnB A m.length 26 [.int .i64 p.turns, u, .int .i64 p.setup, .int .i64 p.unit, .int .i64 p.hold, .int .i64 p.back] := by rw [hA]; exact (OwnB.here (roM_len m).symm).ext _
  rw [← hA] at hX1
  have hAl : A.length = m.length + 1 + n1.length := by rw [hA]; simp [roM_len]; try omega
  simp (config := {implicitDefEqProofs := false, maxDischargeDepth := 20}) (disch := first | omega | (simp only [lenE]; done) | (simp only [lenE]; omega) | rfl | (simp only [lenE, markR_len]; done) | (simp only [lenE, markR_len]; omega)) only [runE, mapE, listE, initT_5, initT_6, initT_7, initT_8, resV, oneV, binA, unA, reduceCtorEq, Nat.reduceEqDiff, Nat.reduceAdd, Nat.reduceLT, Nat.reduceLeDiff, Nat.reduceMul, Nat.reduceSub, ↓reduceIte, decide_true, decide_false, Bool.true_eq_false, Bool.false_eq_true, Bool.not_true, Bool.not_false, if_true, if_false, and_true, true_and, memE, celE, w64, Nat.zero_add, Nat.add_zero, Nat.mul_one, putL, and_self, ldn, bsl_no, hqr.len]
  refine loop_inv mixed (fun s => ∃ (k : Nat) (M : Mem) (id : Nat), k ≤ q.length ∧ s.m = M ∧ Ext m M ∧ OwnB M m.length 26 [.int .i64 p.turns, u, .int .i64 p.setup, .int .i64 p.unit, .int .i64 p.hold, .int .i64 p.back] ∧ m.length < id ∧ OwnR M id ((levsL p L x q).take k) ∧ (∀ j, j < k → okAt p L x q j = true) ∧ s.t 1 = vl ∧ s.t 2 = .int .i64 (levAt p L x q k) ∧ s.t 4 = .pointer (some ⟨m.length, 0, none⟩) ∧ s.t 11 = .slice (some ⟨id, 0, none⟩) k 1 ∧ s.t 12 = .int .i64 (sumAt p L x q k) ∧ s.t 30 = vq ∧ s.t 31 = .int .i64 q.length ∧ s.t 32 = .int .i64 k) (fun s => q.length - (intOf (s.t 32)).toNat)
    ⟨0, A ++ [⟨.own, 3, []⟩], A.length, by omega, by rw [hA]; rfl, hX1.one _ _, hbA.ext _, by omega, OwnR.at_end A [], fun j hj => absurd hj (by omega), rfl, rfl, rfl, by simp only [put_t, put_t', put_m, putT_t, putT_t', putT_m, init_t, init_m, initT_0, initT_1, initT_2, initT_3, initT_4, initT_5, initT_6, initT_7, initT_8, Nat.reduceEqDiff, ↓reduceIte]; rw [hAl], rfl, rfl, rfl, rfl⟩ ?_
  rintro s ⟨k, M, id, hk, tm, hX, hb, hid, ho, hall, t1, t2, t4, t11, t12, t30, t31, t32⟩
  have hqM := hq.xt2 hX
  by_cases hlt : k < q.length
  · have hlt' : (k : Int) < q.length := by omega
    simp (config := {implicitDefEqProofs := false, maxDischargeDepth := 20}) (disch := first | omega | (simp only [lenE]; done) | (simp only [lenE]; omega) | rfl | (simp only [lenE, markR_len]; done) | (simp only [lenE, markR_len]; omega)) only [runE, mapE, listE, initT_5, initT_6, initT_7, initT_8, resV, oneV, binA, unA, reduceCtorEq, Nat.reduceEqDiff, Nat.reduceAdd, Nat.reduceLT, Nat.reduceLeDiff, Nat.reduceMul, Nat.reduceSub, ↓reduceIte, decide_true, decide_false, Bool.true_eq_false, Bool.false_eq_true, Bool.not_true, Bool.not_false, if_true, if_false, and_true, true_and, memE, celE, w64, Nat.zero_add, Nat.add_zero, Nat.mul_one, putL, and_self, ldn, tm, t1, t2, t4, t11, t12, t30, t31, t32, hlt', hqM.at_ k hlt, hqM.ld k hlt, hb.rd]
    refine callH_rc (implStep_rc _ _ vl p L k _ _ (ProcA.mk (hX.ints hu)) (PairsA.xt hL hX)) ?_
    rintro r n3 ⟨rfl, nr3⟩
    have hX3 := hX.app nr3
    have hb3 := hb.ext n3
    have ho3 := ho.ext n3
    have hl3 := hX3.len
    cases hs : okAt p L x q k with
    | false =>
      have hs' : stepB p L k (levAt p L x q k) (q.getD k 0) = false := hs
      simp (config := {implicitDefEqProofs := false, maxDischargeDepth := 20}) (disch := first | omega | (simp only [lenE]; done) | (simp only [lenE]; omega) | rfl | (simp only [lenE, markR_len]; done) | (simp only [lenE, markR_len]; omega)) only [runE, mapE, listE, initT_5, initT_6, initT_7, initT_8, resV, oneV, binA, unA, reduceCtorEq, Nat.reduceEqDiff, Nat.reduceAdd, Nat.reduceLT, Nat.reduceLeDiff, Nat.reduceMul, Nat.reduceSub, ↓reduceIte, decide_true, decide_false, Bool.true_eq_false, Bool.false_eq_true, Bool.not_true, Bool.not_false, if_true, if_false, and_true, true_and, memE, celE, w64, Nat.zero_add, Nat.add_zero, Nat.mul_one, putL, and_self, ldn, t1, t2, t4, t11, t12, t30, t31, t32, hs', ext_4_0, ext_4_1, ext_4_2, ext_4_3, bsl_no]
      exact fin _ _ hX3 (by simp) (traceOk_no hlt hs)
    | true =>
      have hs' : stepB p L k (levAt p L x q k) (q.getD k 0) = true := hs
      have hot := ok_turn hs
      have hsb := sum_bd hG L x q k
      have hsc := step_bd hG L k (levAt p L x q k) (q.getD k 0)
      have hval : stepTo p L k (levAt p L x q k) (q.getD k 0) = (levsL p L x q).getD k 0 := by rw [hot.2, levsL_at hlt]
      have happ := app_num (x := (levsL p L x q).getD k 0) (id2 := (M ++ n3).length) (n := k) ho3 (by rw [List.length_take]; omega) rfl (by rw [List.length_take]; omega)
      have hidl := ho3.lt
      obtain ⟨M2, hM2⟩ : ∃ M', M' = M ++ n3 := ⟨_, rfl⟩
      rw [← hM2] at happ hidl hX3 hb3 ho3 hl3
      rw [← hM2]
      simp (config := {implicitDefEqProofs := false, maxDischargeDepth := 20}) (disch := first | omega | (simp only [lenE]; done) | (simp only [lenE]; omega) | rfl | (simp only [lenE, markR_len]; done) | (simp only [lenE, markR_len]; omega)) only [runE, mapE, listE, initT_5, initT_6, initT_7, initT_8, resV, oneV, binA, unA, reduceCtorEq, Nat.reduceEqDiff, Nat.reduceAdd, Nat.reduceLT, Nat.reduceLeDiff, Nat.reduceMul, Nat.reduceSub, ↓reduceIte, decide_true, decide_false, Bool.true_eq_false, Bool.false_eq_true, Bool.not_true, Bool.not_false, if_true, if_false, and_true, true_and, memE, celE, w64, Nat.zero_add, Nat.add_zero, Nat.mul_one, putL, and_self, ldn, t1, t2, t4, t11, t12, t30, t31, t32, hs', hval, ext_4_0, ext_4_1, ext_4_2, ext_4_3, bsl_one, happ]
      refine ⟨⟨k + 1, _, M2.length + 1, by omega, rfl, ((hX3.dead (by omega)).one _ _).one _ _, hb3.at_ (same_gen (by omega) hidl), by omega, ?_, fun j hj => ?_, by rw [levsL_at hlt], rfl, rfl, by simp⟩, by simp [intOf]; omega⟩
      · rw [take_next (by omega)]
        exact OwnB.here (by simp)
      · by_cases e : j = k
        · rw [e]; exact hs
        · exact hall j (by omega)
  · have hlt' : ¬ ((k : Int) < q.length) := by omega
    have e : k = q.length := by omega
    simp (config := {implicitDefEqProofs := false, maxDischargeDepth := 20}) (disch := first | omega | (simp only [lenE]; done) | (simp only [lenE]; omega) | rfl | (simp only [lenE, markR_len]; done) | (simp only [lenE, markR_len]; omega)) only [runE, mapE, listE, initT_5, initT_6, initT_7, initT_8, resV, oneV, binA, unA, reduceCtorEq, Nat.reduceEqDiff, Nat.reduceAdd, Nat.reduceLT, Nat.reduceLeDiff, Nat.reduceMul, Nat.reduceSub, ↓reduceIte, decide_true, decide_false, Bool.true_eq_false, Bool.false_eq_true, Bool.not_true, Bool.not_false, if_true, if_false, and_true, true_and, memE, celE, w64, Nat.zero_add, Nat.add_zero, Nat.mul_one, putL, and_self, ldn, tm, t1, t2, t4, t11, t12, t30, t31, t32, hlt', hqM.len]
    have hok := traceOk_yes (p := p) (L := L) b1 b2 (q := q) fun j hj => hall j (by omega)
    rw [List.take_of_length_le (by omega)] at ho
    unfold traceL traceS
    rw [hok]
    simp only [if_true]
    rw [e]
    refine ext_ansO (f := fun v => .tuple #[v, .int .i64 (sumAt p L x q q.length), .bool true]) hX fun M' hM => ?_
    have := IntsA.ownO (l := levsL p L x q) (lo := m.length) (hi := M.length) (fl := 1) (ho.at_ (hM _ (by omega) ho.lt)) (by omega) (by omega) ho.lt
    rw [hll] at this
    exact this
theorem specTrace_rc (m : Mem) (v vl vq : Value) (p : Pr) (L : List (Int × Int)) (x : Int) (q : List Int) (h : ProcA m v p) (hL : PairsA m vl L) (hq : IntsA m vq q) (hql : q.length ≤ 1048576) : RC Try.prog 65 [v, vl, .int .i64 x, vq] m (AnsO m (IntsO (traceL p L x q)) fun v => .tuple #[v, .int .i64 (traceS p L x q), .bool (traceOk p L x q)]) := by
  refine rc_of_run mixed ok_spec_TraceLevels (by simp) (go_start _ _ _ ?_)
  obtain ⟨u, rfl, hu⟩ := h.ro
  have hLr := hL.ro
  have hqr := hq.ro
  have hll := levsL_len p L x q
  simp (config := {implicitDefEqProofs := false, maxDischargeDepth := 20}) (disch := first | omega | (simp only [lenE]; done) | (simp only [lenE]; omega) | rfl | (simp only [lenE, markR_len]; done) | (simp only [lenE, markR_len]; omega)) only [runE, mapE, listE, initT_5, initT_6, initT_7, initT_8, resV, oneV, binA, unA, reduceCtorEq, Nat.reduceEqDiff, Nat.reduceAdd, Nat.reduceLT, Nat.reduceLeDiff, Nat.reduceMul, Nat.reduceSub, ↓reduceIte, decide_true, decide_false, Bool.true_eq_false, Bool.false_eq_true, Bool.not_true, Bool.not_false, if_true, if_false, and_true, true_and, memE, celE, w64, Nat.zero_add, Nat.add_zero, Nat.mul_one, putL, and_self, ldn, c_spec_TraceLevels, r_spec_TraceLevels, bsl_no]
  have fin : ∀ (A : Mem) (id : Nat), Ext m A → m.length ≤ id → OwnR A id [] → traceOk p L x q = false → newQ m (AnsO m (IntsO (traceL p L x q)) fun v => .tuple #[v, .int .i64 (traceS p L x q), .bool (traceOk p L x q)]) (.tuple #[.slice (some ⟨id, 0, none⟩) 0 1, .int .i64 0, .bool false]) A := fun A id hA hid ho e => by
    unfold traceL traceS; rw [e]
    exact ext_ansO (f := fun v => .tuple #[v, .int .i64 0, .bool false]) hA fun M' hM => IntsA.ownO (l := []) (ho.at_ (hM _ hid ho.lt)) (by simp) hid ho.lt
  have hX0 := ((Ext.refl m).one 26 [.int .i64 p.turns, u, .int .i64 p.setup, .int .i64 p.unit, .int .i64 p.hold, .int .i64 p.back]).one 3 []
  have ho0 : OwnR (roM m ++ [⟨.own, 26, [.int .i64 p.turns, u, .int .i64 p.setup, .int .i64 p.unit, .int .i64 p.hold, .int .i64 p.back]⟩] ++ [⟨.own, 3, []⟩]) (m.length + 1) [] := OwnB.here (by simp [roM_len])
  refine callH_rc (l6Good_rc _ _ p (ProcA.mk ((hu.ext _).ext _))) ?_
  rintro r n1 ⟨rfl, nr1⟩
  have hX1 := hX0.app nr1
  have ho1 := ho0.ext n1
  cases hg : p.good with
  | false =>
    simp (config := {implicitDefEqProofs := false, maxDischargeDepth := 20}) (disch := first | omega | (simp only [lenE]; done) | (simp only [lenE]; omega) | rfl | (simp only [lenE, markR_len]; done) | (simp only [lenE, markR_len]; omega)) only [runE, mapE, listE, initT_5, initT_6, initT_7, initT_8, resV, oneV, binA, unA, reduceCtorEq, Nat.reduceEqDiff, Nat.reduceAdd, Nat.reduceLT, Nat.reduceLeDiff, Nat.reduceMul, Nat.reduceSub, ↓reduceIte, decide_true, decide_false, Bool.true_eq_false, Bool.false_eq_true, Bool.not_true, Bool.not_false, if_true, if_false, and_true, true_and, memE, celE, w64, Nat.zero_add, Nat.add_zero, Nat.mul_one, putL, and_self, ldn]
    exact fin _ _ hX1 (by omega) ho1 (by simp [traceOk, hg])
  | true =>
  have hG := goodP_iff.1 hg
  have htn := hG.turns
  simp (config := {implicitDefEqProofs := false, maxDischargeDepth := 20}) (disch := first | omega | (simp only [lenE]; done) | (simp only [lenE]; omega) | rfl | (simp only [lenE, markR_len]; done) | (simp only [lenE, markR_len]; omega)) only [runE, mapE, listE, initT_5, initT_6, initT_7, initT_8, resV, oneV, binA, unA, reduceCtorEq, Nat.reduceEqDiff, Nat.reduceAdd, Nat.reduceLT, Nat.reduceLeDiff, Nat.reduceMul, Nat.reduceSub, ↓reduceIte, decide_true, decide_false, Bool.true_eq_false, Bool.false_eq_true, Bool.not_true, Bool.not_false, if_true, if_false, and_true, true_and, memE, celE, w64, Nat.zero_add, Nat.add_zero, Nat.mul_one, putL, and_self, ldn]
  refine callH_rc (l6Policy_rc _ _ vl p L (ProcA.mk (((hu.ext _).ext _).ext _)) (((hLr.ext _).ext _).ext _) hG) ?_
  rintro r n2 ⟨rfl, nr2⟩
  have hX2 := hX1.app nr2
  have ho2 := ho1.ext n2
  cases hp : p.polB L with
  | false =>
    simp (config := {implicitDefEqProofs := false, maxDischargeDepth := 20}) (disch := first | omega | (simp only [lenE]; done) | (simp only [lenE]; omega) | rfl | (simp only [lenE, markR_len]; done) | (simp only [lenE, markR_len]; omega)) only [runE, mapE, listE, initT_5, initT_6, initT_7, initT_8, resV, oneV, binA, unA, reduceCtorEq, Nat.reduceEqDiff, Nat.reduceAdd, Nat.reduceLT, Nat.reduceLeDiff, Nat.reduceMul, Nat.reduceSub, ↓reduceIte, decide_true, decide_false, Bool.true_eq_false, Bool.false_eq_true, Bool.not_true, Bool.not_false, if_true, if_false, and_true, true_and, memE, celE, w64, Nat.zero_add, Nat.add_zero, Nat.mul_one, putL, and_self, ldn]
    exact fin _ _ hX2 (by omega) ho2 (by simp [traceOk, hp])
  | true =>
  have b1 : (p.good && p.polB L) = true := by rw [hg, hp]; rfl
  simp (config := {implicitDefEqProofs := false, maxDischargeDepth := 20}) (disch := first | omega | (simp only [lenE]; done) | (simp only [lenE]; omega) | rfl | (simp only [lenE, markR_len]; done) | (simp only [lenE, markR_len]; omega)) only [runE, mapE, listE, initT_5, initT_6, initT_7, initT_8, resV, oneV, binA, unA, reduceCtorEq, Nat.reduceEqDiff, Nat.reduceAdd, Nat.reduceLT, Nat.reduceLeDiff, Nat.reduceMul, Nat.reduceSub, ↓reduceIte, decide_true, decide_false, Bool.true_eq_false, Bool.false_eq_true, Bool.not_true, Bool.not_false, if_true, if_false, and_true, true_and, memE, celE, w64, Nat.zero_add, Nat.add_zero, Nat.mul_one, putL, and_self, ldn]
  refine callH_rc (l6Level_rc _ x) ?_
  rintro r n0 ⟨rfl, rfl⟩
  rw [List.append_nil]
  cases b2 : levB x with
  | false =>
    simp (config := {implicitDefEqProofs := false, maxDischargeDepth := 20}) (disch := first | omega | (simp only [lenE]; done) | (simp only [lenE]; omega) | rfl | (simp only [lenE, markR_len]; done) | (simp only [lenE, markR_len]; omega)) only [runE, mapE, listE, initT_5, initT_6, initT_7, initT_8, resV, oneV, binA, unA, reduceCtorEq, Nat.reduceEqDiff, Nat.reduceAdd, Nat.reduceLT, Nat.reduceLeDiff, Nat.reduceMul, Nat.reduceSub, ↓reduceIte, decide_true, decide_false, Bool.true_eq_false, Bool.false_eq_true, Bool.not_true, Bool.not_false, if_true, if_false, and_true, true_and, memE, celE, w64, Nat.zero_add, Nat.add_zero, Nat.mul_one, putL, and_self, ldn]
    exact fin _ _ hX2 (by omega) ho2 (by simp [traceOk, b2])
  | true =>
  obtain ⟨A, hA⟩ : ∃ A : Mem, A = roM m ++ [⟨.own, 26, [.int .i64 p.turns, u, .int .i64 p.setup, .int .i64 p.unit, .int .i64 p.hold, .int .i64 p.back]⟩] ++ [⟨.own, 3, []⟩] ++ n1 ++ n2 := ⟨_, rfl⟩
  have hbA : OwnB A m.length 26 [.int .i64 p.turns, u, .int .i64 p.setup, .int .i64 p.unit, .int .i64 p.hold, .int .i64 p.back] := by rw [hA]; exact (((OwnB.here (roM_len m).symm).ext _).ext _).ext _
  rw [← hA] at hX2 ho2
  by_cases htl : p.turns < (q.length : Int)
  · simp (config := {implicitDefEqProofs := false, maxDischargeDepth := 20}) (disch := first | omega | (simp only [lenE]; done) | (simp only [lenE]; omega) | rfl | (simp only [lenE, markR_len]; done) | (simp only [lenE, markR_len]; omega)) only [runE, mapE, listE, initT_5, initT_6, initT_7, initT_8, resV, oneV, binA, unA, reduceCtorEq, Nat.reduceEqDiff, Nat.reduceAdd, Nat.reduceLT, Nat.reduceLeDiff, Nat.reduceMul, Nat.reduceSub, ↓reduceIte, decide_true, decide_false, Bool.true_eq_false, Bool.false_eq_true, Bool.not_true, Bool.not_false, if_true, if_false, and_true, true_and, memE, celE, w64, Nat.zero_add, Nat.add_zero, Nat.mul_one, putL, and_self, ldn, hqr.len, gt_iff_lt, htl]
    try rw [← hA]
    refine fin _ _ hX2 (by omega) ho2 ?_
    refine traceOk_no (k := p.turns.toNat) (by omega) ?_
    have : inZ (p.turns - 1) (p.turns.toNat : Int) = false := by
      simp only [inZ, Bool.and_eq_false_iff, decide_eq_false_iff_not]; right; omega
    unfold okAt stepB turnB
    rw [this]
    simp
  simp (config := {implicitDefEqProofs := false, maxDischargeDepth := 20}) (disch := first | omega | (simp only [lenE]; done) | (simp only [lenE]; omega) | rfl | (simp only [lenE, markR_len]; done) | (simp only [lenE, markR_len]; omega)) only [runE, mapE, listE, initT_5, initT_6, initT_7, initT_8, resV, oneV, binA, unA, reduceCtorEq, Nat.reduceEqDiff, Nat.reduceAdd, Nat.reduceLT, Nat.reduceLeDiff, Nat.reduceMul, Nat.reduceSub, ↓reduceIte, decide_true, decide_false, Bool.true_eq_false, Bool.false_eq_true, Bool.not_true, Bool.not_false, if_true, if_false, and_true, true_and, memE, celE, w64, Nat.zero_add, Nat.add_zero, Nat.mul_one, putL, and_self, ldn, hqr.len, gt_iff_lt, htl]
  try rw [← hA]
  refine loop_inv mixed (fun s => ∃ (k : Nat) (M : Mem) (id : Nat), k ≤ q.length ∧ s.m = M ∧ Ext m M ∧ OwnB M m.length 26 [.int .i64 p.turns, u, .int .i64 p.setup, .int .i64 p.unit, .int .i64 p.hold, .int .i64 p.back] ∧ m.length < id ∧ OwnR M id ((levsL p L x q).take k) ∧ (∀ j, j < k → okAt p L x q j = true) ∧ s.t 1 = vl ∧ s.t 2 = .int .i64 (levAt p L x q k) ∧ s.t 3 = vq ∧ s.t 4 = .pointer (some ⟨m.length, 0, none⟩) ∧ s.t 11 = .slice (some ⟨id, 0, none⟩) k 1 ∧ s.t 12 = .int .i64 (sumAt p L x q k) ∧ s.t 13 = .int .i64 k) (fun s => q.length - (intOf (s.t 13)).toNat)
    ⟨0, A, m.length + 1, by omega, by first | rfl | (rw [hA]; rfl), hX2, hbA, by omega, ho2, fun j hj => absurd hj (by omega), rfl, rfl, rfl, rfl, rfl, rfl, rfl⟩ ?_
  rintro s ⟨k, M, id, hk, tm, hX, hb, hid, ho, hall, t1, t2, t3, t4, t11, t12, t13⟩
  have hqM := hq.xt2 hX
  by_cases hlt : k < q.length
  · have hlt' : (k : Int) < q.length := by omega
    simp (config := {implicitDefEqProofs := false, maxDischargeDepth := 20}) (disch := first | omega | (simp only [lenE]; done) | (simp only [lenE]; omega) | rfl | (simp only [lenE, markR_len]; done) | (simp only [lenE, markR_len]; omega)) only [runE, mapE, listE, initT_5, initT_6, initT_7, initT_8, resV, oneV, binA, unA, reduceCtorEq, Nat.reduceEqDiff, Nat.reduceAdd, Nat.reduceLT, Nat.reduceLeDiff, Nat.reduceMul, Nat.reduceSub, ↓reduceIte, decide_true, decide_false, Bool.true_eq_false, Bool.false_eq_true, Bool.not_true, Bool.not_false, if_true, if_false, and_true, true_and, memE, celE, w64, Nat.zero_add, Nat.add_zero, Nat.mul_one, putL, and_self, ldn, tm, t1, t2, t3, t4, t11, t12, t13, hlt', hqM.len, hqM.at_ k hlt, hqM.ld k hlt, hb.rd]
    refine rcallH_rc (specStep_rc _ _ vl p L k _ _ (ProcA.mk (hX.ints hu)) (PairsA.xt hL hX)) ?_
    rintro r n3 ⟨rfl, nr3⟩
    have hX3 := hX.app nr3
    have hb3 := hb.ext n3
    have ho3 := ho.ext n3
    have hl3 := hX3.len
    cases hs : okAt p L x q k with
    | false =>
      have hs' : stepB p L k (levAt p L x q k) (q.getD k 0) = false := hs
      simp (config := {implicitDefEqProofs := false, maxDischargeDepth := 20}) (disch := first | omega | (simp only [lenE]; done) | (simp only [lenE]; omega) | rfl | (simp only [lenE, markR_len]; done) | (simp only [lenE, markR_len]; omega)) only [runE, mapE, listE, initT_5, initT_6, initT_7, initT_8, resV, oneV, binA, unA, reduceCtorEq, Nat.reduceEqDiff, Nat.reduceAdd, Nat.reduceLT, Nat.reduceLeDiff, Nat.reduceMul, Nat.reduceSub, ↓reduceIte, decide_true, decide_false, Bool.true_eq_false, Bool.false_eq_true, Bool.not_true, Bool.not_false, if_true, if_false, and_true, true_and, memE, celE, w64, Nat.zero_add, Nat.add_zero, Nat.mul_one, putL, and_self, ldn, t1, t2, t3, t4, t11, t12, t13, hs', ext_4_0, ext_4_1, ext_4_2, ext_4_3, bsl_no]
      refine fin _ _ (hX3.one _ _) (by have := hX.len; omega) (OwnB.here (by simp)) (traceOk_no hlt hs)
    | true =>
      have hs' : stepB p L k (levAt p L x q k) (q.getD k 0) = true := hs
      have hot := ok_turn hs
      have hsb := sum_bd hG L x q k
      have hsc := step_bd hG L k (levAt p L x q k) (q.getD k 0)
      have hval : stepTo p L k (levAt p L x q k) (q.getD k 0) = (levsL p L x q).getD k 0 := by rw [hot.2, levsL_at hlt]
      have happ := app_num (x := (levsL p L x q).getD k 0) (id2 := (M ++ n3).length) (n := k) ho3 (by rw [List.length_take]; omega) rfl (by rw [List.length_take]; omega)
      have hidl := ho3.lt
      obtain ⟨M2, hM2⟩ : ∃ M', M' = M ++ n3 := ⟨_, rfl⟩
      rw [← hM2] at happ hidl hX3 hb3 ho3 hl3
      rw [← hM2]
      simp (config := {implicitDefEqProofs := false, maxDischargeDepth := 20}) (disch := first | omega | (simp only [lenE]; done) | (simp only [lenE]; omega) | rfl | (simp only [lenE, markR_len]; done) | (simp only [lenE, markR_len]; omega)) only [runE, mapE, listE, initT_5, initT_6, initT_7, initT_8, resV, oneV, binA, unA, reduceCtorEq, Nat.reduceEqDiff, Nat.reduceAdd, Nat.reduceLT, Nat.reduceLeDiff, Nat.reduceMul, Nat.reduceSub, ↓reduceIte, decide_true, decide_false, Bool.true_eq_false, Bool.false_eq_true, Bool.not_true, Bool.not_false, if_true, if_false, and_true, true_and, memE, celE, w64, Nat.zero_add, Nat.add_zero, Nat.mul_one, putL, and_self, ldn, t1, t2, t3, t4, t11, t12, t13, hs', hval, ext_4_0, ext_4_1, ext_4_2, ext_4_3, bsl_one, happ]
      refine ⟨⟨k + 1, _, M2.length + 1, by omega, rfl, ((hX3.dead (by omega)).one _ _).one _ _, hb3.at_ (same_gen (by omega) hidl), by omega, ?_, fun j hj => ?_, by rw [levsL_at hlt], rfl, rfl, by simp⟩, by simp [intOf]; omega⟩
      · rw [take_next (by omega)]
        exact OwnB.here (by simp)
      · by_cases e : j = k
        · rw [e]; exact hs
        · exact hall j (by omega)
  · have hlt' : ¬ ((k : Int) < q.length) := by omega
    have e : k = q.length := by omega
    simp (config := {implicitDefEqProofs := false, maxDischargeDepth := 20}) (disch := first | omega | (simp only [lenE]; done) | (simp only [lenE]; omega) | rfl | (simp only [lenE, markR_len]; done) | (simp only [lenE, markR_len]; omega)) only [runE, mapE, listE, initT_5, initT_6, initT_7, initT_8, resV, oneV, binA, unA, reduceCtorEq, Nat.reduceEqDiff, Nat.reduceAdd, Nat.reduceLT, Nat.reduceLeDiff, Nat.reduceMul, Nat.reduceSub, ↓reduceIte, decide_true, decide_false, Bool.true_eq_false, Bool.false_eq_true, Bool.not_true, Bool.not_false, if_true, if_false, and_true, true_and, memE, celE, w64, Nat.zero_add, Nat.add_zero, Nat.mul_one, putL, and_self, ldn, tm, t1, t2, t3, t4, t11, t12, t13, hlt', hqM.len]
    have hok := traceOk_yes (p := p) (L := L) b1 b2 (q := q) fun j hj => hall j (by omega)
    rw [List.take_of_length_le (by omega)] at ho
    unfold traceL traceS
    rw [hok]
    simp only [if_true]
    rw [e]
    refine ext_ansO (f := fun v => .tuple #[v, .int .i64 (sumAt p L x q q.length), .bool true]) hX fun M' hM => ?_
    have := IntsA.ownO (l := levsL p L x q) (lo := m.length) (hi := M.length) (fl := 1) (ho.at_ (hM _ (by omega) ho.lt)) (by omega) (by omega) ho.lt
    rw [hll] at this
    exact this
end Go.Proofs.Ytddnedngjijpoaa.Ab
