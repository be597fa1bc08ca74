/- Policies: all moves one by one, by jumps; IsWorthProof. -/
import Derived.Test.YtddnedngjijpoaaAbPol15
namespace Go.Proofs.Ytddnedngjijpoaa.Ab
open Go Go.RowKit
set_option linter.unusedVariables false
set_option linter.unusedSimpArgs false

theorem bld_move2 (t x y : Int) : bldA [.int .i64 0, .int .i64 0, .int .i64 0] [(0, 1, .int .i64 t), (1, 1, .int .i64 x), (2, 1, .int .i64 y)] = some (moveV t x y) := rfl
theorem firstMove_rc (m : Mem) (v : Value) (p : Pr) (t : Int) (h : ProcA m v p) (hl : p.w.length ≤ 5) : RC Try.prog 133 [v, .int .i64 t] m (AnsV (moveV t (-10) p.floor)) := by
  refine rc_of_run mixed ok_impl_firstMove (by simp) (go_start _ _ _ ?_)
  obtain ⟨u, rfl, hu⟩ := h.ro
  simp (config := {implicitDefEqProofs := false, maxDischargeDepth := 20}) (disch := first | omega | (simp only [lenE]; done) | (simp only [lenE]; omega) | rfl | (simp only [lenE, markR_len]; done) | (simp only [lenE, markR_len]; omega)) only [runE, mapE, listE, initT_5, initT_6, initT_7, initT_8, resV, oneV, binA, unA, reduceCtorEq, Nat.reduceEqDiff, Nat.reduceAdd, Nat.reduceLT, Nat.reduceLeDiff, Nat.reduceMul, Nat.reduceSub, ↓reduceIte, decide_true, decide_false, Bool.true_eq_false, Bool.false_eq_true, Bool.not_true, Bool.not_false, if_true, if_false, and_true, true_and, memE, celE, w64, Nat.zero_add, Nat.add_zero, Nat.mul_one, putL, and_self, ldn, c_impl_firstMove, r_impl_firstMove]
  refine callH_rc (floorOf_rc _ _ p (ProcA.mk ((hu.ext _).ext _)) hl) ?_
  rintro r n1 ⟨rfl, nr1⟩
  simp (config := {implicitDefEqProofs := false, maxDischargeDepth := 20}) (disch := first | omega | (simp only [lenE]; done) | (simp only [lenE]; omega) | rfl | (simp only [lenE, markR_len]; done) | (simp only [lenE, markR_len]; omega)) only [runE, mapE, listE, initT_5, initT_6, initT_7, initT_8, resV, oneV, binA, unA, reduceCtorEq, Nat.reduceEqDiff, Nat.reduceAdd, Nat.reduceLT, Nat.reduceLeDiff, Nat.reduceMul, Nat.reduceSub, ↓reduceIte, decide_true, decide_false, Bool.true_eq_false, Bool.false_eq_true, Bool.not_true, Bool.not_false, if_true, if_false, and_true, true_and, memE, celE, w64, Nat.zero_add, Nat.add_zero, Nat.mul_one, putL, and_self, ldn, bld_move2]
  try simp only [List.append_assoc, List.cons_append, List.nil_append, List.append_nil]
  exact ⟨_, rfl, by (repeat (first | exact noRo_nil | assumption | apply noRo_own | apply noRo_dead | apply noRo_app)), rfl, by (repeat (first | exact noRo_nil | assumption | apply noRo_own | apply noRo_dead | apply noRo_app))⟩
theorem aeq3 (a b c x y z : Int) : aeqA false 3 (.agg #[.int .i64 a, .int .i64 b, .int .i64 c]) (.agg #[.int .i64 x, .int .i64 y, .int .i64 z]) = some (.bool ((a == x) && ((b == y) && ((c == z) && true)))) := rfl
theorem next_turn {N t f a : Nat} {fl : Int} (ht : t < N) (h : -10 ≤ fl) (hf : (N - t) * 462 + a < f + 1 + 441) : (N - (t + 1)) * 462 + ((10 : Int) - -10).toNat * 21 + (10 - fl).toNat < f + 441 := by
  obtain ⟨b, hb⟩ : ∃ b, b = f + 441 := ⟨_, rfl⟩
  have hf' : (N - t) * 462 + a < b + 1 := by omega
  rw [← hb]
  have e1 : ((10 : Int) - -10).toNat * 21 = 420 := rfl
  rw [e1]
  have e2 : (10 - fl).toNat ≤ 20 := by omega
  obtain ⟨d, hd⟩ : ∃ d, d = N - (t + 1) := ⟨_, rfl⟩
  rw [show N - t = d + 1 from by omega, Nat.succ_mul] at hf'
  rw [← hd]
  generalize d * 462 = z at hf' ⊢
  generalize (10 - fl).toNat = y at e2 ⊢
  clear hf hb e1 h ht
  omega
/-- The code within the scope, and what lies behind its label. -/
def scC : ACode := match c_impl_noMoveCostsLess with
  | .seq _ (.scope c) => c
  | _ => .skip
def scY : ACode := match scC with
  | .seq _ (.seq _ y) => y
  | _ => .skip
def scR : ACode := .seq .skip scY
theorem sc_find : findA scC 0 = some scR := rfl
theorem sc_code : ∃ a, c_impl_noMoveCostsLess = .seq a (.scope scC) := ⟨_, rfl⟩
theorem lab_rest {k : Kont} {s : St} (h : goC Try.prog 61 scR k s) : goC Try.prog 61 (.label 0) (.seq scY k) s := by
  rw [scR, goC_seq, goC_skip] at h
  rw [goC_label]
  exact h
theorem noMove_rc (m : Mem) (v vt : Value) (p : Pr) (T : List (List Int)) (h : ProcA m v p) (hT : TabA m vt T) (hG : GoodP p) (hv : tabVB p T = true) :
    RC Try.prog 91 [v, vt] m (AnsV (.bool ((List.range p.turns.toNat).all (underB p T)))) := by
  refine rc_of_run mixed ok_impl_noMoveCostsLess (by simp) (go_start _ _ _ ?_)
  obtain ⟨u, rfl, hu⟩ := h.ro
  have htu := hG.turns
  have hlen := hG.len
  have hfl := hG.floor
  have hTl := tabV_len hv
  obtain ⟨N, hN⟩ : ∃ N, N = p.turns.toNat := ⟨_, rfl⟩
  have hNt : p.turns = (N : Int) := by omega
  rw [← hN]
  obtain ⟨Q, hQ⟩ : ∃ Q, Q = bodyQ r_impl_noMoveCostsLess (newQ m (AnsV (.bool ((List.range N).all (underB p T))))) := ⟨_, rfl⟩
  have fin : ∀ (f t : Nat) (x y : Int) (s : St) (M : Mem) (id5 id6 : Nat), s.m = M → Ext m M → OwnB M id5 83 [.int .i64 t, .int .i64 x, .int .i64 y] → OwnB M id6 83 [.int .i64 N, .int .i64 (-10), .int .i64 p.floor] →
      s.t 5 = .pointer (some ⟨id5, 0, none⟩) → s.t 6 = .pointer (some ⟨id6, 0, none⟩) → t = N → (x = -10 ∧ y = p.floor) → (∀ j, j < t → underB p T j = true) → goC Try.prog 61 scR (.scope f scC (.done Q)) s := by
    intro f t x y s M id5 id6 tm hX h5 h6 t5 t6 ht hxy hall
    obtain ⟨rfl, rfl⟩ := hxy
    subst ht
    have hall' : (List.range t).all (underB p T) = true := by
      rw [List.all_eq_true]
      intro j hj
      exact hall j (List.mem_range.1 hj)
    obtain ⟨KK, hKK⟩ : ∃ KK, KK = Kont.scope f scC (.done Q) := ⟨_, rfl⟩
    rw [← hKK]
    simp only [scR, scY, scC, c_impl_noMoveCostsLess]
    simp (config := {implicitDefEqProofs := false, maxDischargeDepth := 20}) (disch := first | omega | (simp only [lenE]; done) | (simp only [lenE]; omega) | rfl | (simp only [lenE, markR_len]; done) | (simp only [lenE, markR_len]; omega)) only [runE, listE, initT_5, initT_6, initT_7, initT_8, resV, oneV, binA, unA, reduceCtorEq, Nat.reduceEqDiff, Nat.reduceAdd, Nat.reduceLT, Nat.reduceLeDiff, Nat.reduceMul, Nat.reduceSub, ↓reduceIte, decide_true, decide_false, Bool.true_eq_false, Bool.false_eq_true, Bool.not_true, Bool.not_false, if_true, if_false, and_true, true_and, memE, celE, w64, Nat.zero_add, Nat.add_zero, Nat.mul_one, putL, and_self, goC_both, row_aeq, ldn, tm, t5, t6, h5.rd, h6.rd, aeq3, beq_self_eq_true, Bool.true_and, Bool.and_true]
    rw [hKK, hQ]
    simp (config := {implicitDefEqProofs := false, maxDischargeDepth := 20}) (disch := first | omega | (simp only [lenE]; done) | (simp only [lenE]; omega) | rfl | (simp only [lenE, markR_len]; done) | (simp only [lenE, markR_len]; omega)) only [runE, listE, initT_5, initT_6, initT_7, initT_8, resV, oneV, binA, unA, reduceCtorEq, Nat.reduceEqDiff, Nat.reduceAdd, Nat.reduceLT, Nat.reduceLeDiff, Nat.reduceMul, Nat.reduceSub, ↓reduceIte, decide_true, decide_false, Bool.true_eq_false, Bool.false_eq_true, Bool.not_true, Bool.not_false, if_true, if_false, and_true, true_and, memE, celE, w64, Nat.zero_add, Nat.add_zero, Nat.mul_one, putL, and_self, goC_both, row_aeq, ldn, r_impl_noMoveCostsLess, goX_scope_ret, tm]
    refine ext_ansV3 hX ?_
    rw [hall']
  have rest : ∀ (f t : Nat) (x y : Int) (s : St) (M : Mem) (id5 id6 : Nat), s.m = M → Ext m M → OwnB M m.length 26 [.int .i64 p.turns, u, .int .i64 p.setup, .int .i64 p.unit, .int .i64 p.hold, .int .i64 p.back] → OwnB M id5 83 [.int .i64 t, .int .i64 x, .int .i64 y] → OwnB M id6 83 [.int .i64 N, .int .i64 (-10), .int .i64 p.floor] → id5 ≠ id6 → m.length < id5 → m.length < id6 →
      s.t 1 = vt → s.t 2 = .pointer (some ⟨m.length, 0, none⟩) → s.t 5 = .pointer (some ⟨id5, 0, none⟩) → s.t 6 = .pointer (some ⟨id6, 0, none⟩) → t ≤ N → (t < N → -10 ≤ x ∧ x ≤ 10 ∧ p.lo x ≤ y ∧ y ≤ 10) → (t = N → x = -10 ∧ y = p.floor) →
      (∀ j, j < t → underB p T j = true) → (t < N → ∀ i : Nat, (i : Int) < x + 10 → underI p T t i = true) → (t < N → ∀ z, p.lo x ≤ z → z < y → (T.getD t []).getD (x + 10).toNat 0 ≤ p.move (T.getD (t + 1) []) x z (N - 1 - t)) →
      (N - t) * 462 + (10 - x).toNat * 21 + (10 - y).toNat < f + 441 → goC Try.prog 61 scR (.scope f scC (.done Q)) s := by
    intro f
    induction f with
    | zero =>
      intro t x y s M id5 id6 tm hX hb h5 h6 hne h5m h6m t1 t2 t5 t6 htN hin hend hall hlev hz hf
      rcases Nat.lt_or_ge t N with e | e
      · omega
      · exact fin 0 t x y s M id5 id6 tm hX h5 h6 t5 t6 (by omega) (hend (by omega)) hall
    | succ f ih =>
      intro t x y s M id5 id6 tm hX hb h5 h6 hne h5m h6m t1 t2 t5 t6 htN hin hend hall hlev hz hf
      have hs : scR = scR := rfl
      rcases Nat.lt_or_ge t N with htl | htl
      · obtain ⟨hx1, hx2, hy1, hy2⟩ := hin htl
        have hlo := Pr.lo_in hG (x := x) ⟨hx1, hx2⟩
        have hne3 : ((t : Int) == (N : Int)) = false := by simp; omega
        have hr1 := tabV_row hv (t := t) (by omega)
        have hr2 := tabV_row hv (t := t + 1) (by omega)
        have hTM := hT.xt2 hX
        have a1 := hTM.at_z (z := (t : Int) + 1) (k := t + 1) (by omega) (by omega)
        obtain ⟨w1, a2, a3⟩ := hTM.ld (t + 1) (by omega)
        have b1 := hTM.at_ t (by omega)
        obtain ⟨w2, b2, b3⟩ := hTM.ld t (by omega)
        have hmay : p.may y := ⟨by omega, hy2⟩
        have hup := Pr.up_least hG (T.getD (t + 1) []) (x := x) ⟨hx1, hx2⟩ (N - 1 - t)
        have hi21 : (x + 10).toNat < 21 := by omega
        have hix : (((x + 10).toNat : Nat) : Int) - 10 = x := by omega
        have hui : underI p T t (x + 10).toNat = decide ((T.getD t []).getD (x + 10).toNat 0 ≤ p.move (T.getD (t + 1) []) x (p.up (T.getD (t + 1) []) x (N - 1 - t)) (N - 1 - t)) := by
          unfold underI; rw [hix, ← hN]
        have bad : p.move (T.getD (t + 1) []) x y (N - 1 - t) < (T.getD t []).getD (x + 10).toNat 0 → ∀ A, Ext m A → newQ m (AnsV (.bool ((List.range N).all (underB p T)))) (.bool false) A := fun hq A hA => by
          refine ext_ansV3 hA ?_
          have h1 : underI p T t (x + 10).toNat = false := by
            rw [hui]
            have : p.move (T.getD (t + 1) []) x (p.up (T.getD (t + 1) []) x (N - 1 - t)) (N - 1 - t) ≤ p.move (T.getD (t + 1) []) x y (N - 1 - t) := hup.2.2.1 y hy1 hy2
            exact decide_eq_false (by omega)
          have h2 := underB_no hi21 h1
          have : (List.range N).all (underB p T) = false := by
            cases hr : (List.range N).all (underB p T) with
            | false => rfl
            | true =>
              rw [List.all_eq_true] at hr
              rw [hr t (List.mem_range.2 htl)] at h2; cases h2
          rw [this]
        obtain ⟨KK, hKK⟩ : ∃ KK, KK = Kont.scope (f + 1) scC (.done Q) := ⟨_, rfl⟩
        rw [← hKK]
        simp only [scR, scY, scC, c_impl_noMoveCostsLess]
        simp (config := {implicitDefEqProofs := false, maxDischargeDepth := 20}) (disch := first | omega | (simp only [lenE]; done) | (simp only [lenE]; omega) | rfl | (simp only [lenE, markR_len]; done) | (simp only [lenE, markR_len]; omega)) only [runE, listE, initT_5, initT_6, initT_7, initT_8, resV, oneV, binA, unA, reduceCtorEq, Nat.reduceEqDiff, Nat.reduceAdd, Nat.reduceLT, Nat.reduceLeDiff, Nat.reduceMul, Nat.reduceSub, ↓reduceIte, decide_true, decide_false, Bool.true_eq_false, Bool.false_eq_true, Bool.not_true, Bool.not_false, if_true, if_false, and_true, true_and, memE, celE, w64, Nat.zero_add, Nat.add_zero, Nat.mul_one, putL, and_self, goC_both, row_aeq, ldn, tm, t1, t2, t5, t6, h5.rd, h6.rd, hb.rd, aeq3, hne3, Bool.false_and, a1, a2, b1, b2]
        refine rcallH_rc (moveCost_rc M _ w1 p (T.getD (t + 1) []) t x y (N - 1 - t) (ProcA.mk (hX.ints hu)) a3 hG hr2.1 (vals_in hr2.2) ⟨hx1, hx2⟩ hmay (by omega) (by omega) (by omega) (by omega)) ?_
        rintro r n1 ⟨rfl, nr1⟩
        simp (config := {implicitDefEqProofs := false, maxDischargeDepth := 20}) (disch := first | omega | (simp only [lenE]; done) | (simp only [lenE]; omega) | rfl | (simp only [lenE, markR_len]; done) | (simp only [lenE, markR_len]; omega)) only [runE, listE, initT_5, initT_6, initT_7, initT_8, resV, oneV, binA, unA, reduceCtorEq, Nat.reduceEqDiff, Nat.reduceAdd, Nat.reduceLT, Nat.reduceLeDiff, Nat.reduceMul, Nat.reduceSub, ↓reduceIte, decide_true, decide_false, Bool.true_eq_false, Bool.false_eq_true, Bool.not_true, Bool.not_false, if_true, if_false, and_true, true_and, memE, celE, w64, Nat.zero_add, Nat.add_zero, Nat.mul_one, putL, and_self, goC_both, row_aeq, ldn]
        refine rcallH_rc (placeOf_rc _ x ⟨hx1, hx2⟩) ?_
        rintro r n2 ⟨rfl, rfl⟩
        rw [List.append_nil]
        have hX1 := hX.app nr1
        have hb1 := hb.ext n1
        have h51 := h5.ext n1
        have h61 := h6.ext n1
        have c1 := at_z (b3.ext n1) (z := x + 10) (i := (x + 10).toNat) (by omega) (by omega)
        have c2 := (b3.ext n1).ld (x + 10).toNat (by omega)
        obtain ⟨M1, hM1⟩ : ∃ M', M' = M ++ n1 := ⟨_, rfl⟩
        rw [← hM1] at hX1 hb1 h51 h61 c2
        rw [← hM1]
        have hM1l := hX1.len
        by_cases hq : p.move (T.getD (t + 1) []) x y (N - 1 - t) < (T.getD t []).getD (x + 10).toNat 0
        · simp (config := {implicitDefEqProofs := false, maxDischargeDepth := 20}) (disch := first | omega | (simp only [lenE]; done) | (simp only [lenE]; omega) | rfl | (simp only [lenE, markR_len]; done) | (simp only [lenE, markR_len]; omega)) only [runE, listE, initT_5, initT_6, initT_7, initT_8, resV, oneV, binA, unA, reduceCtorEq, Nat.reduceEqDiff, Nat.reduceAdd, Nat.reduceLT, Nat.reduceLeDiff, Nat.reduceMul, Nat.reduceSub, ↓reduceIte, decide_true, decide_false, Bool.true_eq_false, Bool.false_eq_true, Bool.not_true, Bool.not_false, if_true, if_false, and_true, true_and, memE, celE, w64, Nat.zero_add, Nat.add_zero, Nat.mul_one, putL, and_self, goC_both, row_aeq, ldn, c1, c2, hq]
          rw [hKK, hQ]
          simp (config := {implicitDefEqProofs := false, maxDischargeDepth := 20}) (disch := first | omega | (simp only [lenE]; done) | (simp only [lenE]; omega) | rfl | (simp only [lenE, markR_len]; done) | (simp only [lenE, markR_len]; omega)) only [runE, listE, initT_5, initT_6, initT_7, initT_8, resV, oneV, binA, unA, reduceCtorEq, Nat.reduceEqDiff, Nat.reduceAdd, Nat.reduceLT, Nat.reduceLeDiff, Nat.reduceMul, Nat.reduceSub, ↓reduceIte, decide_true, decide_false, Bool.true_eq_false, Bool.false_eq_true, Bool.not_true, Bool.not_false, if_true, if_false, and_true, true_and, memE, celE, w64, Nat.zero_add, Nat.add_zero, Nat.mul_one, putL, and_self, goC_both, row_aeq, ldn, r_impl_noMoveCostsLess, goX_scope_ret]
          exact bad hq _ hX1
        · have hz' : ∀ z, p.lo x ≤ z → z < y + 1 → (T.getD t []).getD (x + 10).toNat 0 ≤ p.move (T.getD (t + 1) []) x z (N - 1 - t) := fun z h1 h2 => by
            by_cases e : z = y
            · rw [e]; omega
            · exact hz htl z h1 (by omega)
          by_cases hy : y < 10
          · have hst := h51.st (off := 2) (vs := [.int .i64 (y + 1)]) (by simp) rfl
            simp (config := {implicitDefEqProofs := false, maxDischargeDepth := 20}) (disch := first | omega | (simp only [lenE]; done) | (simp only [lenE]; omega) | rfl | (simp only [lenE, markR_len]; done) | (simp only [lenE, markR_len]; omega)) only [runE, listE, initT_5, initT_6, initT_7, initT_8, resV, oneV, binA, unA, reduceCtorEq, Nat.reduceEqDiff, Nat.reduceAdd, Nat.reduceLT, Nat.reduceLeDiff, Nat.reduceMul, Nat.reduceSub, ↓reduceIte, decide_true, decide_false, Bool.true_eq_false, Bool.false_eq_true, Bool.not_true, Bool.not_false, if_true, if_false, and_true, true_and, memE, celE, w64, Nat.zero_add, Nat.add_zero, Nat.mul_one, putL, and_self, goC_both, row_aeq, ldn, c1, c2, hq, t1, t2, t5, t6, h51.rd, hy, hst]
            rw [hKK]
            simp (config := {implicitDefEqProofs := false, maxDischargeDepth := 20}) (disch := first | omega | (simp only [lenE]; done) | (simp only [lenE]; omega) | rfl | (simp only [lenE, markR_len]; done) | (simp only [lenE, markR_len]; omega)) only [runE, listE, initT_5, initT_6, initT_7, initT_8, resV, oneV, binA, unA, reduceCtorEq, Nat.reduceEqDiff, Nat.reduceAdd, Nat.reduceLT, Nat.reduceLeDiff, Nat.reduceMul, Nat.reduceSub, ↓reduceIte, decide_true, decide_false, Bool.true_eq_false, Bool.false_eq_true, Bool.not_true, Bool.not_false, if_true, if_false, and_true, true_and, memE, celE, w64, Nat.zero_add, Nat.add_zero, Nat.mul_one, putL, and_self, goC_both, row_aeq, ldn, goC_goto, goX_seq_goto, goX_block_goto, goX_scope_goto, sc_find, goJ_some]
            exact ih t x (y + 1) _ _ id5 id6 rfl (hX1.put (by omega) _ _) (OwnB.set_ne hb1 (by omega) _) (h51.set_self _ _) (OwnB.set_ne h61 hne _) hne h5m h6m (by simp only [put_t, put_t', put_m, putT_t, putT_t', putT_m, init_t, init_m, initT_0, initT_1, initT_2, initT_3, initT_4, initT_5, initT_6, initT_7, initT_8, Nat.reduceEqDiff, ↓reduceIte, t1]) (by simp only [put_t, put_t', put_m, putT_t, putT_t', putT_m, init_t, init_m, initT_0, initT_1, initT_2, initT_3, initT_4, initT_5, initT_6, initT_7, initT_8, Nat.reduceEqDiff, ↓reduceIte, t2]) (by simp only [put_t, put_t', put_m, putT_t, putT_t', putT_m, init_t, init_m, initT_0, initT_1, initT_2, initT_3, initT_4, initT_5, initT_6, initT_7, initT_8, Nat.reduceEqDiff, ↓reduceIte, t5]) (by simp only [put_t, put_t', put_m, putT_t, putT_t', putT_m, init_t, init_m, initT_0, initT_1, initT_2, initT_3, initT_4, initT_5, initT_6, initT_7, initT_8, Nat.reduceEqDiff, ↓reduceIte, t6]) htN (fun _ => ⟨hx1, hx2, by omega, by omega⟩) (fun e => absurd e (by omega)) hall hlev (fun _ => hz') (by omega)
          · have hy10 : y = 10 := by omega
            have hlx : underI p T t (x + 10).toNat = true := by
              rw [hui]
              exact decide_eq_true (hz' _ hup.1 (by have := hup.2.1; omega))
            by_cases hx : x < 10
            · have hst := h51.st (off := 1) (vs := [.int .i64 (x + 1)]) (by simp) rfl
              have h52 : OwnB (M1.set id5 ⟨.own, 83, [.int .i64 t, .int .i64 (x + 1), .int .i64 y]⟩) id5 83 [.int .i64 t, .int .i64 (x + 1), .int .i64 y] := h51.set_self _ _
              have hb2 : OwnB (M1.set id5 ⟨.own, 83, [.int .i64 t, .int .i64 (x + 1), .int .i64 y]⟩) m.length 26 [.int .i64 p.turns, u, .int .i64 p.setup, .int .i64 p.unit, .int .i64 p.hold, .int .i64 p.back] := OwnB.set_ne hb1 (by omega) _
              have h62 : OwnB (M1.set id5 ⟨.own, 83, [.int .i64 t, .int .i64 (x + 1), .int .i64 y]⟩) id6 83 [.int .i64 N, .int .i64 (-10), .int .i64 p.floor] := OwnB.set_ne h61 hne _
              have hX2 : Ext m (M1.set id5 ⟨.own, 83, [.int .i64 t, .int .i64 (x + 1), .int .i64 y]⟩) := hX1.put (by omega) _ _
              simp (config := {implicitDefEqProofs := false, maxDischargeDepth := 20}) (disch := first | omega | (simp only [lenE]; done) | (simp only [lenE]; omega) | rfl | (simp only [lenE, markR_len]; done) | (simp only [lenE, markR_len]; omega)) only [runE, listE, initT_5, initT_6, initT_7, initT_8, resV, oneV, binA, unA, reduceCtorEq, Nat.reduceEqDiff, Nat.reduceAdd, Nat.reduceLT, Nat.reduceLeDiff, Nat.reduceMul, Nat.reduceSub, ↓reduceIte, decide_true, decide_false, Bool.true_eq_false, Bool.false_eq_true, Bool.not_true, Bool.not_false, if_true, if_false, and_true, true_and, memE, celE, w64, Nat.zero_add, Nat.add_zero, Nat.mul_one, putL, and_self, goC_both, row_aeq, ldn, c1, c2, hq, t1, t2, t5, t6, h51.rd, hy, hx, hst]
              obtain ⟨M2, hM2⟩ : ∃ M' : Mem, M' = M1.set id5 ⟨.own, 83, [.int .i64 t, .int .i64 (x + 1), .int .i64 y]⟩ := ⟨_, rfl⟩
              rw [← hM2] at h52 hb2 h62 hX2
              try rw [← hM2]
              simp (config := {implicitDefEqProofs := false, maxDischargeDepth := 20}) (disch := first | omega | (simp only [lenE]; done) | (simp only [lenE]; omega) | rfl | (simp only [lenE, markR_len]; done) | (simp only [lenE, markR_len]; omega)) only [runE, listE, initT_5, initT_6, initT_7, initT_8, resV, oneV, binA, unA, reduceCtorEq, Nat.reduceEqDiff, Nat.reduceAdd, Nat.reduceLT, Nat.reduceLeDiff, Nat.reduceMul, Nat.reduceSub, ↓reduceIte, decide_true, decide_false, Bool.true_eq_false, Bool.false_eq_true, Bool.not_true, Bool.not_false, if_true, if_false, and_true, true_and, memE, celE, w64, Nat.zero_add, Nat.add_zero, Nat.mul_one, putL, and_self, goC_both, row_aeq, ldn, t1, t2, t5, t6, h52.rd, hb2.rd]
              refine rcallH_rc (floorOf_rc M2 _ p (ProcA.mk (hX2.ints hu)) hlen.2) ?_
              rintro r n3 ⟨rfl, nr3⟩
              have h53 := h52.ext n3
              have hst3 := h53.st (off := 2) (vs := [.int .i64 (p.lo (x + 1))]) (by simp) rfl
              simp (config := {implicitDefEqProofs := false, maxDischargeDepth := 20}) (disch := first | omega | (simp only [lenE]; done) | (simp only [lenE]; omega) | rfl | (simp only [lenE, markR_len]; done) | (simp only [lenE, markR_len]; omega)) only [runE, listE, initT_5, initT_6, initT_7, initT_8, resV, oneV, binA, unA, reduceCtorEq, Nat.reduceEqDiff, Nat.reduceAdd, Nat.reduceLT, Nat.reduceLeDiff, Nat.reduceMul, Nat.reduceSub, ↓reduceIte, decide_true, decide_false, Bool.true_eq_false, Bool.false_eq_true, Bool.not_true, Bool.not_false, if_true, if_false, and_true, true_and, memE, celE, w64, Nat.zero_add, Nat.add_zero, Nat.mul_one, putL, and_self, goC_both, row_aeq, ldn, t1, t2, t5, t6, h53.rd, show max (x + 1) p.floor = p.lo (x + 1) from rfl, hst3]
              rw [hKK]
              simp (config := {implicitDefEqProofs := false, maxDischargeDepth := 20}) (disch := first | omega | (simp only [lenE]; done) | (simp only [lenE]; omega) | rfl | (simp only [lenE, markR_len]; done) | (simp only [lenE, markR_len]; omega)) only [runE, listE, initT_5, initT_6, initT_7, initT_8, resV, oneV, binA, unA, reduceCtorEq, Nat.reduceEqDiff, Nat.reduceAdd, Nat.reduceLT, Nat.reduceLeDiff, Nat.reduceMul, Nat.reduceSub, ↓reduceIte, decide_true, decide_false, Bool.true_eq_false, Bool.false_eq_true, Bool.not_true, Bool.not_false, if_true, if_false, and_true, true_and, memE, celE, w64, Nat.zero_add, Nat.add_zero, Nat.mul_one, putL, and_self, goC_both, row_aeq, ldn, goC_goto, goX_seq_goto, goX_block_goto, goX_scope_goto, sc_find, goJ_some]
              have hlo' := Pr.lo_in hG (x := x + 1) ⟨by omega, by omega⟩
              exact ih t (x + 1) (p.lo (x + 1)) _ _ id5 id6 rfl ((hX2.app nr3).put (by omega) _ _) (OwnB.set_ne (hb2.ext n3) (by omega) _) (h53.set_self _ _) (OwnB.set_ne (h62.ext n3) hne _) hne h5m h6m (by simp only [put_t, put_t', put_m, putT_t, putT_t', putT_m, init_t, init_m, initT_0, initT_1, initT_2, initT_3, initT_4, initT_5, initT_6, initT_7, initT_8, Nat.reduceEqDiff, ↓reduceIte, t1]) (by simp only [put_t, put_t', put_m, putT_t, putT_t', putT_m, init_t, init_m, initT_0, initT_1, initT_2, initT_3, initT_4, initT_5, initT_6, initT_7, initT_8, Nat.reduceEqDiff, ↓reduceIte, t2]) (by simp only [put_t, put_t', put_m, putT_t, putT_t', putT_m, init_t, init_m, initT_0, initT_1, initT_2, initT_3, initT_4, initT_5, initT_6, initT_7, initT_8, Nat.reduceEqDiff, ↓reduceIte, t5]) (by simp only [put_t, put_t', put_m, putT_t, putT_t', putT_m, init_t, init_m, initT_0, initT_1, initT_2, initT_3, initT_4, initT_5, initT_6, initT_7, initT_8, Nat.reduceEqDiff, ↓reduceIte, t6]) htN (fun _ => ⟨by omega, by omega, by omega, by omega⟩) (fun e => absurd e (by omega)) hall (fun _ i hi => by
                by_cases e : i = (x + 10).toNat
                · rw [e]; exact hlx
                · exact hlev htl i (by omega)) (fun _ z h1 h2 => absurd h2 (by omega)) (by omega)
            · have hx10 : x = 10 := by omega
              have hut : underB p T t = true := underB_yes fun i hi => by
                by_cases e : i = (x + 10).toNat
                · rw [e]; exact hlx
                · exact hlev htl i (by omega)
              simp (config := {implicitDefEqProofs := false, maxDischargeDepth := 20}) (disch := first | omega | (simp only [lenE]; done) | (simp only [lenE]; omega) | rfl | (simp only [lenE, markR_len]; done) | (simp only [lenE, markR_len]; omega)) only [runE, listE, initT_5, initT_6, initT_7, initT_8, resV, oneV, binA, unA, reduceCtorEq, Nat.reduceEqDiff, Nat.reduceAdd, Nat.reduceLT, Nat.reduceLeDiff, Nat.reduceMul, Nat.reduceSub, ↓reduceIte, decide_true, decide_false, Bool.true_eq_false, Bool.false_eq_true, Bool.not_true, Bool.not_false, if_true, if_false, and_true, true_and, memE, celE, w64, Nat.zero_add, Nat.add_zero, Nat.mul_one, putL, and_self, goC_both, row_aeq, ldn, c1, c2, hq, t1, t2, t5, t6, h51.rd, hy, hx, hb1.rd]
              refine callH_rc (firstMove_rc M1 _ p ((t : Int) + 1) (ProcA.mk (hX1.ints hu)) hlen.2) ?_
              rintro r n3 ⟨rfl, nr3⟩
              have h53 := h51.ext n3
              have hst3 := h53.st (off := 0) (vs := [.int .i64 ((t : Int) + 1), .int .i64 (-10), .int .i64 p.floor]) (by simp) rfl
              simp (config := {implicitDefEqProofs := false, maxDischargeDepth := 20}) (disch := first | omega | (simp only [lenE]; done) | (simp only [lenE]; omega) | rfl | (simp only [lenE, markR_len]; done) | (simp only [lenE, markR_len]; omega)) only [runE, listE, initT_5, initT_6, initT_7, initT_8, resV, oneV, binA, unA, reduceCtorEq, Nat.reduceEqDiff, Nat.reduceAdd, Nat.reduceLT, Nat.reduceLeDiff, Nat.reduceMul, Nat.reduceSub, ↓reduceIte, decide_true, decide_false, Bool.true_eq_false, Bool.false_eq_true, Bool.not_true, Bool.not_false, if_true, if_false, and_true, true_and, memE, celE, w64, Nat.zero_add, Nat.add_zero, Nat.mul_one, putL, and_self, goC_both, row_aeq, ldn, t1, t2, t5, t6, hst3]
              rw [hKK]
              simp (config := {implicitDefEqProofs := false, maxDischargeDepth := 20}) (disch := first | omega | (simp only [lenE]; done) | (simp only [lenE]; omega) | rfl | (simp only [lenE, markR_len]; done) | (simp only [lenE, markR_len]; omega)) only [runE, listE, initT_5, initT_6, initT_7, initT_8, resV, oneV, binA, unA, reduceCtorEq, Nat.reduceEqDiff, Nat.reduceAdd, Nat.reduceLT, Nat.reduceLeDiff, Nat.reduceMul, Nat.reduceSub, ↓reduceIte, decide_true, decide_false, Bool.true_eq_false, Bool.false_eq_true, Bool.not_true, Bool.not_false, if_true, if_false, and_true, true_and, memE, celE, w64, Nat.zero_add, Nat.add_zero, Nat.mul_one, putL, and_self, goC_both, row_aeq, ldn, goC_goto, goX_seq_goto, goX_block_goto, goX_scope_goto, sc_find, goJ_some]
              have hlo' : p.lo (-10) = p.floor := by unfold Pr.lo; omega
              have hme := next_turn htl (fl := p.floor) (a := (10 - x).toNat * 21 + (10 - y).toNat) hfl.1 (by rw [← Nat.add_assoc]; exact hf)
              refine ih (t + 1) (-10) p.floor _ _ id5 id6 rfl ((hX1.app nr3).put (by omega) _ _) (OwnB.set_ne (hb1.ext n3) (by omega) _) (h53.set_self _ _) (OwnB.set_ne (h61.ext n3) hne _) hne h5m h6m (by simp only [put_t, put_t', put_m, putT_t, putT_t', putT_m, init_t, init_m, initT_0, initT_1, initT_2, initT_3, initT_4, initT_5, initT_6, initT_7, initT_8, Nat.reduceEqDiff, ↓reduceIte, t1]) (by simp only [put_t, put_t', put_m, putT_t, putT_t', putT_m, init_t, init_m, initT_0, initT_1, initT_2, initT_3, initT_4, initT_5, initT_6, initT_7, initT_8, Nat.reduceEqDiff, ↓reduceIte, t2]) (by simp only [put_t, put_t', put_m, putT_t, putT_t', putT_m, init_t, init_m, initT_0, initT_1, initT_2, initT_3, initT_4, initT_5, initT_6, initT_7, initT_8, Nat.reduceEqDiff, ↓reduceIte, t5]) (by simp only [put_t, put_t', put_m, putT_t, putT_t', putT_m, init_t, init_m, initT_0, initT_1, initT_2, initT_3, initT_4, initT_5, initT_6, initT_7, initT_8, Nat.reduceEqDiff, ↓reduceIte, t6]) (by omega) (fun _ => ⟨by omega, by omega, by omega, by omega⟩) (fun _ => ⟨rfl, rfl⟩) (fun j hj => ?_) (fun _ i hi => absurd hi (by omega)) (fun _ z h1 h2 => absurd h2 (by omega)) hme
              by_cases e : j = t
              · rw [e]; exact hut
              · exact hall j (by omega)
      · exact fin (f + 1) t x y s M id5 id6 tm hX h5 h6 t5 t6 (by omega) (hend (by omega)) hall
  rw [hQ] at rest
  obtain ⟨F, hF⟩ : ∃ F, F = N * 462 + 1000 := ⟨_, rfl⟩
  simp (config := {implicitDefEqProofs := false, maxDischargeDepth := 20}) (disch := first | omega | (simp only [lenE]; done) | (simp only [lenE]; omega) | rfl | (simp only [lenE, markR_len]; done) | (simp only [lenE, markR_len]; omega)) only [runE, listE, initT_5, initT_6, initT_7, initT_8, resV, oneV, binA, unA, reduceCtorEq, Nat.reduceEqDiff, Nat.reduceAdd, Nat.reduceLT, Nat.reduceLeDiff, Nat.reduceMul, Nat.reduceSub, ↓reduceIte, decide_true, decide_false, Bool.true_eq_false, Bool.false_eq_true, Bool.not_true, Bool.not_false, if_true, if_false, and_true, true_and, memE, celE, w64, Nat.zero_add, Nat.add_zero, Nat.mul_one, putL, and_self, goC_both, row_aeq, ldn, c_impl_noMoveCostsLess, r_impl_noMoveCostsLess, goC_scope]
  refine scope_run mixed F ?_
  change goC _ _ _ (.scope F scC (.done (bodyQ r_impl_noMoveCostsLess (newQ m (AnsV (.bool ((List.range N).all (underB p T)))))))) _
  simp (config := {implicitDefEqProofs := false, maxDischargeDepth := 20}) (disch := first | omega | (simp only [lenE]; done) | (simp only [lenE]; omega) | rfl | (simp only [lenE, markR_len]; done) | (simp only [lenE, markR_len]; omega)) only [runE, listE, initT_5, initT_6, initT_7, initT_8, resV, oneV, binA, unA, reduceCtorEq, Nat.reduceEqDiff, Nat.reduceAdd, Nat.reduceLT, Nat.reduceLeDiff, Nat.reduceMul, Nat.reduceSub, ↓reduceIte, decide_true, decide_false, Bool.true_eq_false, Bool.false_eq_true, Bool.not_true, Bool.not_false, if_true, if_false, and_true, true_and, memE, celE, w64, Nat.zero_add, Nat.add_zero, Nat.mul_one, putL, and_self, goC_both, row_aeq, ldn]
  repeat' (with_reducible apply And.intro)
  all_goals
    refine rcallH_rc (firstMove_rc _ _ p 0 (ProcA.mk (by repeat (first | exact hu | apply IntsA.ext))) hlen.2) ?_
    rintro r n1 ⟨rfl, nr1⟩
    simp (config := {implicitDefEqProofs := false, maxDischargeDepth := 20}) (disch := first | omega | (simp only [lenE]; done) | (simp only [lenE]; omega) | rfl | (simp only [lenE, markR_len]; done) | (simp only [lenE, markR_len]; omega)) only [runE, listE, initT_5, initT_6, initT_7, initT_8, resV, oneV, binA, unA, reduceCtorEq, Nat.reduceEqDiff, Nat.reduceAdd, Nat.reduceLT, Nat.reduceLeDiff, Nat.reduceMul, Nat.reduceSub, ↓reduceIte, decide_true, decide_false, Bool.true_eq_false, Bool.false_eq_true, Bool.not_true, Bool.not_false, if_true, if_false, and_true, true_and, memE, celE, w64, Nat.zero_add, Nat.add_zero, Nat.mul_one, putL, and_self, goC_both, row_aeq, ldn]
    repeat' (with_reducible apply And.intro)
  all_goals
    refine rcallH_rc (firstMove_rc _ _ p p.turns (ProcA.mk (by repeat (first | exact hu | apply IntsA.ext))) hlen.2) ?_
    rintro r n2 ⟨rfl, nr2⟩
    simp (config := {implicitDefEqProofs := false, maxDischargeDepth := 20}) (disch := first | omega | (simp only [lenE]; done) | (simp only [lenE]; omega) | rfl | (simp only [lenE, markR_len]; done) | (simp only [lenE, markR_len]; omega)) only [runE, listE, initT_5, initT_6, initT_7, initT_8, resV, oneV, binA, unA, reduceCtorEq, Nat.reduceEqDiff, Nat.reduceAdd, Nat.reduceLT, Nat.reduceLeDiff, Nat.reduceMul, Nat.reduceSub, ↓reduceIte, decide_true, decide_false, Bool.true_eq_false, Bool.false_eq_true, Bool.not_true, Bool.not_false, if_true, if_false, and_true, true_and, memE, celE, w64, Nat.zero_add, Nat.add_zero, Nat.mul_one, putL, and_self, goC_both, row_aeq, ldn]
    repeat' (with_reducible apply And.intro)
  all_goals
    refine lab_rest ?_
    refine rest F 0 (-10) p.floor _ _ _ _ rfl ?_ ?_ ?_ ?_ ?_ ?_ ?_ rfl rfl rfl rfl (by omega) (fun _ => ⟨by omega, by omega, ?_, by omega⟩) (fun _ => ⟨rfl, rfl⟩) (fun j hj => absurd hj (by omega)) (fun _ i hi => absurd hi (by omega)) (fun _ z h1 h2 => absurd h2 ?_) (by omega)
    · repeat (first | exact Ext.refl m | apply Ext.one | refine Ext.app ?_ (by assumption))
    · repeat (first | exact OwnB.here (by simp [roM_len] <;> omega) | exact OwnB.here (by simp [roM_len]) | refine OwnB.ext ?_ _)
    · repeat (first | exact OwnB.here (by simp [roM_len] <;> omega) | exact OwnB.here (by simp [roM_len]) | refine OwnB.ext ?_ _)
    · rw [← hNt]
      repeat (first | exact OwnB.here (by simp [roM_len] <;> omega) | exact OwnB.here (by simp [roM_len]) | refine OwnB.ext ?_ _)
    · omega
    · omega
    · omega
    · unfold Pr.lo; omega
    · unfold Pr.lo at h1; omega
theorem implProof6_rc (m : Mem) (v vt : Value) (p : Pr) (T : List (List Int)) (h : ProcA m v p) (hT : TabA m vt T) : RC Try.prog 35 [v, vt] m (AnsV (.tuple #[.bool (p.good && proofB p T), .bool p.good])) := by
  refine rc_of_run mixed ok_impl_IsWorthProof (by simp) (go_start _ _ _ ?_)
  obtain ⟨u, rfl, hu⟩ := h.ro
  simp (config := {implicitDefEqProofs := false, maxDischargeDepth := 20}) (disch := first | omega | (simp only [lenE]; done) | (simp only [lenE]; omega) | rfl | (simp only [lenE, markR_len]; done) | (simp only [lenE, markR_len]; omega)) only [runE, mapE, listE, initT_5, initT_6, initT_7, initT_8, resV, oneV, binA, unA, reduceCtorEq, Nat.reduceEqDiff, Nat.reduceAdd, Nat.reduceLT, Nat.reduceLeDiff, Nat.reduceMul, Nat.reduceSub, ↓reduceIte, decide_true, decide_false, Bool.true_eq_false, Bool.false_eq_true, Bool.not_true, Bool.not_false, if_true, if_false, and_true, true_and, memE, celE, w64, Nat.zero_add, Nat.add_zero, Nat.mul_one, putL, and_self, ldn, c_impl_IsWorthProof, r_impl_IsWorthProof]
  refine callH_rc (implIsProcess_rc _ _ p (ProcA.mk (hu.ext _))) ?_
  rintro r n1 ⟨rfl, nr1⟩
  cases hg : p.good with
  | false =>
    simp (config := {implicitDefEqProofs := false, maxDischargeDepth := 20}) (disch := first | omega | (simp only [lenE]; done) | (simp only [lenE]; omega) | rfl | (simp only [lenE, markR_len]; done) | (simp only [lenE, markR_len]; omega)) only [runE, mapE, listE, initT_5, initT_6, initT_7, initT_8, resV, oneV, binA, unA, reduceCtorEq, Nat.reduceEqDiff, Nat.reduceAdd, Nat.reduceLT, Nat.reduceLeDiff, Nat.reduceMul, Nat.reduceSub, ↓reduceIte, decide_true, decide_false, Bool.true_eq_false, Bool.false_eq_true, Bool.not_true, Bool.not_false, if_true, if_false, and_true, true_and, memE, celE, w64, Nat.zero_add, Nat.add_zero, Nat.mul_one, putL, and_self, ldn]
    try simp only [List.append_assoc, List.cons_append, List.nil_append, List.append_nil]
    exact ⟨_, rfl, by (repeat (first | exact noRo_nil | assumption | apply noRo_own | apply noRo_dead | apply noRo_app)), by simp, by (repeat (first | exact noRo_nil | assumption | apply noRo_own | apply noRo_dead | apply noRo_app))⟩
  | true =>
    have hG := goodP_iff.1 hg
    simp (config := {implicitDefEqProofs := false, maxDischargeDepth := 20}) (disch := first | omega | (simp only [lenE]; done) | (simp only [lenE]; omega) | rfl | (simp only [lenE, markR_len]; done) | (simp only [lenE, markR_len]; omega)) only [runE, mapE, listE, initT_5, initT_6, initT_7, initT_8, resV, oneV, binA, unA, reduceCtorEq, Nat.reduceEqDiff, Nat.reduceAdd, Nat.reduceLT, Nat.reduceLeDiff, Nat.reduceMul, Nat.reduceSub, ↓reduceIte, decide_true, decide_false, Bool.true_eq_false, Bool.false_eq_true, Bool.not_true, Bool.not_false, if_true, if_false, and_true, true_and, memE, celE, w64, Nat.zero_add, Nat.add_zero, Nat.mul_one, putL, and_self, ldn]
    refine callH_rc (isValueTable_rc _ _ vt p T (ProcA.mk ((hu.ext _).ext _)) ((hT.ro.ext _).ext _) hG) ?_
    rintro r n2 ⟨rfl, nr2⟩
    cases hc : (tabVB p T && lastB p T) with
    | false =>
      simp (config := {implicitDefEqProofs := false, maxDischargeDepth := 20}) (disch := first | omega | (simp only [lenE]; done) | (simp only [lenE]; omega) | rfl | (simp only [lenE, markR_len]; done) | (simp only [lenE, markR_len]; omega)) only [runE, mapE, listE, initT_5, initT_6, initT_7, initT_8, resV, oneV, binA, unA, reduceCtorEq, Nat.reduceEqDiff, Nat.reduceAdd, Nat.reduceLT, Nat.reduceLeDiff, Nat.reduceMul, Nat.reduceSub, ↓reduceIte, decide_true, decide_false, Bool.true_eq_false, Bool.false_eq_true, Bool.not_true, Bool.not_false, if_true, if_false, and_true, true_and, memE, celE, w64, Nat.zero_add, Nat.add_zero, Nat.mul_one, putL, and_self, ldn]
      try simp only [List.append_assoc, List.cons_append, List.nil_append, List.append_nil]
      exact ⟨_, rfl, by (repeat (first | exact noRo_nil | assumption | apply noRo_own | apply noRo_dead | apply noRo_app)), by simp [proofB, hc], by (repeat (first | exact noRo_nil | assumption | apply noRo_own | apply noRo_dead | apply noRo_app))⟩
    | true =>
      have hv : tabVB p T = true := by
        rw [Bool.and_eq_true] at hc; exact hc.1
      simp (config := {implicitDefEqProofs := false, maxDischargeDepth := 20}) (disch := first | omega | (simp only [lenE]; done) | (simp only [lenE]; omega) | rfl | (simp only [lenE, markR_len]; done) | (simp only [lenE, markR_len]; omega)) only [runE, mapE, listE, initT_5, initT_6, initT_7, initT_8, resV, oneV, binA, unA, reduceCtorEq, Nat.reduceEqDiff, Nat.reduceAdd, Nat.reduceLT, Nat.reduceLeDiff, Nat.reduceMul, Nat.reduceSub, ↓reduceIte, decide_true, decide_false, Bool.true_eq_false, Bool.false_eq_true, Bool.not_true, Bool.not_false, if_true, if_false, and_true, true_and, memE, celE, w64, Nat.zero_add, Nat.add_zero, Nat.mul_one, putL, and_self, ldn]
      refine callH_rc (noMove_rc _ _ vt p T (ProcA.mk (((hu.ext _).ext _).ext _)) (((hT.ro.ext _).ext _).ext _) hG hv) ?_
      rintro r n3 ⟨rfl, nr3⟩
      simp (config := {implicitDefEqProofs := false, maxDischargeDepth := 20}) (disch := first | omega | (simp only [lenE]; done) | (simp only [lenE]; omega) | rfl | (simp only [lenE, markR_len]; done) | (simp only [lenE, markR_len]; omega)) only [runE, mapE, listE, initT_5, initT_6, initT_7, initT_8, resV, oneV, binA, unA, reduceCtorEq, Nat.reduceEqDiff, Nat.reduceAdd, Nat.reduceLT, Nat.reduceLeDiff, Nat.reduceMul, Nat.reduceSub, ↓reduceIte, decide_true, decide_false, Bool.true_eq_false, Bool.false_eq_true, Bool.not_true, Bool.not_false, if_true, if_false, and_true, true_and, memE, celE, w64, Nat.zero_add, Nat.add_zero, Nat.mul_one, putL, and_self, ldn]
      try simp only [List.append_assoc, List.cons_append, List.nil_append, List.append_nil]
      exact ⟨_, rfl, by (repeat (first | exact noRo_nil | assumption | apply noRo_own | apply noRo_dead | apply noRo_app)), by simp [proofB, hc], by (repeat (first | exact noRo_nil | assumption | apply noRo_own | apply noRo_dead | apply noRo_app))⟩
end Go.Proofs.Ytddnedngjijpoaa.Ab
