/- The function that lotsFrom gives. -/
import Derived.Test.YtonpeflncnccdaaAbDp
namespace Go.Proofs.Ytonpeflncnccdaa.Ab
open Go Go.RowKit
set_option linter.unusedVariables false
set_option linter.unusedSimpArgs false

theorem bld2 (x : Int) (A : Option Addr) (ln cp : Nat) : bldA [.int .i64 0, .slice none 0 0] [(0, 1, .int .i64 x), (1, 1, .slice A ln cp)] = some (.agg #[.int .i64 x, .slice A ln cp]) := rfl
theorem from_ac (k : Cs) (hg : Good k) (v1 v2 v3 v4 : Value) (kb cb nb fb mid : Nat) (e : TypeId) : ∀ (d first : Nat) (m : Mem) (es : List Value), first + d = k.need.length → LEnv k v1 v2 v3 v4 kb cb nb fb mid e es m →
    AC Try.prog 85 [.int .i64 first, .pointer (some ⟨kb, 0, none⟩), .pointer (some ⟨cb, 0, none⟩), .pointer (some ⟨nb, 0, none⟩), .pointer (some ⟨fb, 0, none⟩)] m fun r m' =>
      ∃ es', Gw mid m m' ∧ LEnv k v1 v2 v3 v4 kb cb nb fb mid e es' m' ∧ (∀ x : Int, x < first → lkE es' x = lkE es x) ∧ LotV m' r (costL k k.need.length (dp k k.need.length first)) (dp k k.need.length first) := by
  intro d
  induction d using Nat.strongRecOn with
  | _ d ih =>
    intro first m es hfd hE
    refine ac_of_run mixed ok_impl_lotsFrom_1 (by simp) (go_start _ _ _ ?_)
    have h8 := hg.n8
    obtain ⟨n, hn⟩ : ∃ n, n = k.need.length := ⟨_, rfl⟩
    have hkb := rdc_lt hE.rk
    have hcb := rdc_lt hE.c0
    have hnb := rdc_lt hE.rn
    have hfb := rdc_lt hE.rf
    have hmid := (List.getElem?_eq_some_iff.1 hE.g.mp).1
    have rk := hE.rk
    have c0 := hE.c0
    have c1 := hE.c1
    have c2 := hE.c2
    have c3 := hE.c3
    have rn := hE.rn
    rw [← hn] at h8 rn hfd
    have lk : ∀ R : Mem, lkA (m ++ R) true (.agg #[.int .i64 0, .slice none 0 0]) (.map (some mid)) (.int .i64 first) = some (.tuple #[(lkE es first).getD (.agg #[.int .i64 0, .slice none 0 0]), .bool (lkE es first).isSome]) := fun R => lkA_mp (hE.g.app R).mp _ _
    have g0 : Gw mid m m := Gw.refl fun b hb => by rw [hE.g.mp] at hb; cases hb; simp
    cases hl : lkE es first with
    | some v =>
      obtain ⟨j, hj, hjn, A, ln, cp, rfl, hrow⟩ := hE.g.ok _ _ hl
      have hj' : first = j := by omega
      subst hj'
      simp only [hl, Option.getD_some, Option.isSome_some] at lk
      simp (config := {implicitDefEqProofs := false, maxDischargeDepth := 20}) (disch := first | omega | (simp only [lenE]; done) | (simp only [lenE]; omega) | rfl | (simp only [lenE, markR_len]; done) | (simp only [lenE, markR_len]; omega)) only [runE, mapE, listE, initT_5, initT_6, initT_7, initT_8, resV, oneV, binA, unA, reduceCtorEq, Nat.reduceEqDiff, Nat.reduceAdd, Nat.reduceLT, Nat.reduceLeDiff, Nat.reduceMul, Nat.reduceSub, ↓reduceIte, decide_true, decide_false, Bool.true_eq_false, Bool.false_eq_true, Bool.not_true, Bool.not_false, if_true, if_false, and_true, true_and, memE, celE, w64, Nat.zero_add, Nat.add_zero, Nat.mul_one, putL, and_self, ldn, c_impl_lotsFrom_1, r_impl_lotsFrom_1, rk, lk, ext_2_0, ext_2_1, stP_aggL]
      have gw := (g0.one 50 [.int .i64 (costL k k.need.length (dp k k.need.length first)), .slice A ln cp]).one 50 [.int .i64 (costL k k.need.length (dp k k.need.length first)), .slice A ln cp]
      exact ⟨es, gw, hE.gw gw ((hE.g.app _).app _), fun x _ => rfl, A, ln, cp, rfl, hrow.keep fun id l ho => (ho.ext _).ext _⟩
    | none =>
      have hlt : first < n := by
        have := hE.g.end_
        rw [← hn] at this
        rcases Nat.lt_or_ge first n with h | h
        · exact h
        · have e1 : first = n := by omega
          rw [← e1, hl] at this
          cases this
      simp only [hl, Option.getD_none, Option.isSome_none] at lk
      simp (config := {implicitDefEqProofs := false, maxDischargeDepth := 20}) (disch := first | omega | (simp only [lenE]; done) | (simp only [lenE]; omega) | rfl | (simp only [lenE, markR_len]; done) | (simp only [lenE, markR_len]; omega)) only [runE, mapE, listE, initT_5, initT_6, initT_7, initT_8, resV, oneV, binA, unA, reduceCtorEq, Nat.reduceEqDiff, Nat.reduceAdd, Nat.reduceLT, Nat.reduceLeDiff, Nat.reduceMul, Nat.reduceSub, ↓reduceIte, decide_true, decide_false, Bool.true_eq_false, Bool.false_eq_true, Bool.not_true, Bool.not_false, if_true, if_false, and_true, true_and, memE, celE, w64, Nat.zero_add, Nat.add_zero, Nat.mul_one, putL, and_self, ldn, c_impl_lotsFrom_1, r_impl_lotsFrom_1, rk, lk, ext_2_0, ext_2_1, stP_aggL, c0, c1, c2, c3, rn]
      refine callH_rc (orderCost_rc _ _ k first n ((hE.hc.ext _).ext _) hg hlt (by omega)) ?_
      rintro r new ⟨rfl, nr⟩
      simp (config := {implicitDefEqProofs := false, maxDischargeDepth := 20}) (disch := first | omega | (simp only [lenE]; done) | (simp only [lenE]; omega) | rfl | (simp only [lenE, markR_len]; done) | (simp only [lenE, markR_len]; omega)) only [runE, mapE, listE, initT_5, initT_6, initT_7, initT_8, resV, oneV, binA, unA, reduceCtorEq, Nat.reduceEqDiff, Nat.reduceAdd, Nat.reduceLT, Nat.reduceLeDiff, Nat.reduceMul, Nat.reduceSub, ↓reduceIte, decide_true, decide_false, Bool.true_eq_false, Bool.false_eq_true, Bool.not_true, Bool.not_false, if_true, if_false, and_true, true_and, memE, celE, w64, Nat.zero_add, Nat.add_zero, Nat.mul_one, putL, and_self, ldn, bsl_one, stP_aggL, bld2]
      obtain ⟨M1, hM1⟩ : ∃ M1, M1 = m ++ [⟨.own, 50, [.int .i64 0, .slice none 0 0]⟩] ++ [⟨.own, 50, [.int .i64 0, .slice none 0 0]⟩] ++ new := ⟨_, rfl⟩
      have L1 : M1.length = m.length + 1 + 1 + new.length := by rw [hM1]; simp; omega
      have gw1 : Gw mid m M1 := by rw [hM1]; exact ((g0.one _ _).one _ _).app nr
      have mg1 : MG k mid e es M1 := by rw [hM1]; exact ((hE.g.app _).app _).app _
      have b61 : M1[m.length]? = some ⟨.own, 50, [.int .i64 0, .slice none 0 0]⟩ := by rw [hM1]; simp
      have o1 := OwnR.at_end M1 [(first : Int)]
      have hrow0 : RowV (M1 ++ [⟨.own, 3, [(first : Int)].map (Value.int .i64)⟩] ++ [⟨.own, 50, [.int .i64 (spanF k first n), .slice (some ⟨M1.length, 0, none⟩) 1 1]⟩]) (.slice (some ⟨M1.length, 0, none⟩) 1 1) [(first : Int)] :=
        .inr ⟨M1.length, 1, rfl, o1.ext _, by simp⟩
      have hb90 : (M1 ++ [⟨.own, 3, [(first : Int)].map (Value.int .i64)⟩] ++ [⟨.own, 50, [.int .i64 (spanF k first n), .slice (some ⟨M1.length, 0, none⟩) 1 1]⟩])[M1.length + 1]? = some ⟨.own, 50, [.int .i64 (spanF k first n), .slice (some ⟨M1.length, 0, none⟩) 1 1]⟩ := by simp
      have hc0 : spanF k first n = costL k n (dpLoop k n first (dp k n) (first + 1 - 1 - first)) := by
        rw [show first + 1 - 1 - first = 0 by omega, dpLoop, costL_cons, beg_nil, costL_nil]; simp
      have hl0 : [(first : Int)] = dpLoop k n first (dp k n) (first + 1 - 1 - first) := by
        rw [show first + 1 - 1 - first = 0 by omega, dpLoop]
      rw [← hM1, ← L1]
      refine loop_inv mixed (fun s => ∃ (nx : Nat) (M : Mem) (es1 : List Value) (A : Option Addr) (ln cp : Nat), first < nx ∧ nx ≤ n ∧ s.t 0 = .int .i64 first ∧ s.t 1 = .pointer (some ⟨kb, 0, none⟩) ∧ s.t 2 = .pointer (some ⟨cb, 0, none⟩) ∧ s.t 3 = .pointer (some ⟨nb, 0, none⟩) ∧ s.t 4 = .pointer (some ⟨fb, 0, none⟩) ∧ s.t 6 = .pointer (some ⟨m.length, 0, none⟩) ∧ s.t 9 = .pointer (some ⟨M1.length + 1, 0, none⟩) ∧ s.t 10 = .int .i64 nx ∧ s.m = M ∧
          Gw mid m M ∧ MG k mid e es1 M ∧ (∀ x : Int, x ≤ first → lkE es1 x = lkE es x) ∧ M[m.length]? = some ⟨.own, 50, [.int .i64 0, .slice none 0 0]⟩ ∧
          M[M1.length + 1]? = some ⟨.own, 50, [.int .i64 (costL k n (dpLoop k n first (dp k n) (nx - 1 - first))), .slice A ln cp]⟩ ∧ RowV M (.slice A ln cp) (dpLoop k n first (dp k n) (nx - 1 - first))) (fun s => n - (intOf (s.t 10)).toNat)
        ⟨first + 1, _, es, some ⟨M1.length, 0, none⟩, 1, 1, by omega, by omega, rfl, rfl, rfl, rfl, rfl, rfl, rfl, by simp only [put_t, put_t', put_m, putT_t, putT_t', putT_m, init_t, init_m, initT_0, initT_1, initT_2, initT_3, initT_4, initT_5, initT_6, initT_7, initT_8, Nat.reduceEqDiff, ↓reduceIte]; simp, rfl, (gw1.one _ _).one _ _, (mg1.app _).app _, fun x _ => rfl, ?_, ?_, ?_⟩ ?_
      · simp only [put_t, put_t', put_m, putT_t, putT_t', putT_m, init_t, init_m, initT_0, initT_1, initT_2, initT_3, initT_4, initT_5, initT_6, initT_7, initT_8, Nat.reduceEqDiff, ↓reduceIte]
        have := (List.getElem?_eq_some_iff.1 b61).1
        rw [List.getElem?_append_left (by simp; omega), List.getElem?_append_left (by omega)]; exact b61
      · rw [← hc0]; exact hb90
      · rw [← hl0]; exact hrow0
      rintro s ⟨nx, M, es1, A, ln, cp, hnx, hnn, t0, t1, t2, t3, t4, t6, t9, t10, tm, gw, mg, hpre, b6, b9, hrow⟩
      have hE1 := hE.gw gw mg
      have rk := hE1.rk
      have c0 := hE1.c0
      have c1 := hE1.c1
      have c2 := hE1.c2
      have c3 := hE1.c3
      have rn := hE1.rn
      have rf := hE1.rf
      rw [← hn] at rn
      have h6l := (List.getElem?_eq_some_iff.1 b6).1
      have h9l := (List.getElem?_eq_some_iff.1 b9).1
      by_cases hlt2 : nx < n
      · have hlt2' : (nx : Int) < n := by omega
        simp (config := {implicitDefEqProofs := false, maxDischargeDepth := 20}) (disch := first | omega | (simp only [lenE]; done) | (simp only [lenE]; omega) | rfl | (simp only [lenE, markR_len]; done) | (simp only [lenE, markR_len]; omega)) only [runE, mapE, listE, initT_5, initT_6, initT_7, initT_8, resV, oneV, binA, unA, reduceCtorEq, Nat.reduceEqDiff, Nat.reduceAdd, Nat.reduceLT, Nat.reduceLeDiff, Nat.reduceMul, Nat.reduceSub, ↓reduceIte, decide_true, decide_false, Bool.true_eq_false, Bool.false_eq_true, Bool.not_true, Bool.not_false, if_true, if_false, and_true, true_and, memE, celE, w64, Nat.zero_add, Nat.add_zero, Nat.mul_one, putL, and_self, ldn, t0, t1, t2, t3, t4, t6, t9, t10, tm, rn, hlt2', rf]
        refine callH_ac (ih (n - nx) (by omega) nx M es1 (by omega) hE1) ?_
        rintro r M2 ⟨es2, gw2, hE2, hpre2, A2, ln2, cp2, rfl, hrow2⟩
        rw [← hn] at hrow2 ⊢
        have gwt := gw.trans gw2
        have hne6 : m.length ≠ mid := by omega
        have hne9 : M1.length + 1 ≠ mid := by omega
        have b62 := gw2.blk b6 hne6
        have b92 := gw2.blk b9 hne9
        have hrow9 := hrow.keep fun id l ho => gw2.own hE1.g.mp ho
        have c0 := hE2.c0
        have c1 := hE2.c1
        have c2 := hE2.c2
        have c3 := hE2.c3
        have l2c := rdc_lt hE2.c0
        have h9l2 := (List.getElem?_eq_some_iff.1 b92).1
        have h6l2 := (List.getElem?_eq_some_iff.1 b62).1
        have hpre3 : ∀ x : Int, x ≤ first → lkE es2 x = lkE es x := fun x hx => (hpre2 x (by omega)).trans (hpre x hx)
        have hris := dp_rising (k := k) hnn
        have hdl := hris.len
        have ap := app_cons (x := (first : Int)) (id := M2.length + 1) (hrow2.ints.ext [⟨.own, 50, [.int .i64 (costL k n (dp k n nx)), .slice A2 ln2 cp2]⟩]) (by omega) (by simp)
        rw [Nat.add_comm 1, List.map_cons] at ap
        have hcl : spanF k first nx + costL k n (dp k n nx) = costL k n ((first : Int) :: dp k n nx) := by rw [costL_cons, dp_beg hnn]; simp
        have hri1 : Rising ((first : Int) :: dp k n nx) n := hris.cons (by omega) (by rw [dp_beg hnn]; omega)
        have cb0 := costL_in hg (ps := (first : Int) :: dp k n nx) (by rw [← hn]; exact hri1)
        rw [← hn] at cb0
        have hc3 := hE2.hc
        simp (config := {implicitDefEqProofs := false, maxDischargeDepth := 20}) (disch := first | omega | (simp only [lenE]; done) | (simp only [lenE]; omega) | rfl | (simp only [lenE, markR_len]; done) | (simp only [lenE, markR_len]; omega)) only [runE, mapE, listE, initT_5, initT_6, initT_7, initT_8, resV, oneV, binA, unA, reduceCtorEq, Nat.reduceEqDiff, Nat.reduceAdd, Nat.reduceLT, Nat.reduceLeDiff, Nat.reduceMul, Nat.reduceSub, ↓reduceIte, decide_true, decide_false, Bool.true_eq_false, Bool.false_eq_true, Bool.not_true, Bool.not_false, if_true, if_false, and_true, true_and, memE, celE, w64, Nat.zero_add, Nat.add_zero, Nat.mul_one, putL, and_self, ldn, t0, t1, t2, t3, t4, t6, t9, t10, bld2, stP_aggL, bsl_one, ap, c0, c1, c2, c3]
        obtain ⟨M3, hM3⟩ : ∃ M3, M3 = M2 ++ [⟨.own, 50, [.int .i64 (costL k n (dp k n nx)), .slice A2 ln2 cp2]⟩] ++ [deadB] ++ [⟨.own, 3, .int .i64 first :: (dp k n nx).map (Value.int .i64)⟩] := ⟨_, rfl⟩
        have L3 : M3.length = M2.length + 1 + 1 + 1 := by rw [hM3]; simp
        have hc3 : CaseA M3 (.agg #[v1, v2, v3, v4]) k := by rw [hM3]; exact ((hc3.ext _).ext _).ext _
        have facts : ∀ X : Mem, NoRo X → Gw mid m (M3 ++ X) ∧ MG k mid e es2 (M3 ++ X) ∧ (M3 ++ X)[m.length]? = some ⟨.own, 50, [.int .i64 0, .slice none 0 0]⟩ ∧
            (M3 ++ X)[M1.length + 1]? = some ⟨.own, 50, [.int .i64 (costL k n (dpLoop k n first (dp k n) (nx - 1 - first))), .slice A ln cp]⟩ ∧ RowV (M3 ++ X) (.slice A ln cp) (dpLoop k n first (dp k n) (nx - 1 - first)) ∧ OwnR (M3 ++ X) (M2.length + 1 + 1) ((first : Int) :: dp k n nx) := by
          intro X hX
          have hR : M3 ++ X = M2 ++ ([⟨.own, 50, [.int .i64 (costL k n (dp k n nx)), .slice A2 ln2 cp2]⟩] ++ [deadB] ++ [⟨.own, 3, .int .i64 first :: (dp k n nx).map (Value.int .i64)⟩] ++ X) := by rw [hM3]; simp
          refine ⟨?_, ?_, ?_, ?_, ?_, ?_⟩
          · rw [hM3]; exact (((gwt.one _ _).app (noRo_dead noRo_nil)).one _ _).app hX
          · rw [hR]; exact hE2.g.app _
          · rw [hR, List.getElem?_append_left h6l2]; exact b62
          · rw [hR, List.getElem?_append_left h9l2]; exact b92
          · rw [hR]; exact hrow9.keep fun id l ho => ho.ext _
          · rw [hM3]
            exact (OwnR.end' (l := (first : Int) :: dp k n nx) (by simp)).ext X
        rw [← hM3]
        have dls : dpLoop k n first (dp k n) (nx + 1 - 1 - first) = if bef (costL k n ((first : Int) :: dp k n nx), (first : Int) :: dp k n nx) (costL k n (dpLoop k n first (dp k n) (nx - 1 - first)), dpLoop k n first (dp k n) (nx - 1 - first)) = true then (first : Int) :: dp k n nx else dpLoop k n first (dp k n) (nx - 1 - first) := by
          rw [show nx + 1 - 1 - first = (nx - 1 - first) + 1 by omega, dpLoop, show first + 1 + (nx - 1 - first) = nx by omega]
        have done : ∀ (M6 : Mem) (X : Mem), NoRo X → M6 = M3 ++ X → ∀ b, bef (costL k n ((first : Int) :: dp k n nx), (first : Int) :: dp k n nx) (costL k n (dpLoop k n first (dp k n) (nx - 1 - first)), dpLoop k n first (dp k n) (nx - 1 - first)) = b →
            (b = false → Gw mid m M6 ∧ MG k mid e es2 M6 ∧ M6[m.length]? = some ⟨.own, 50, [.int .i64 0, .slice none 0 0]⟩ ∧ M6[M1.length + 1]? = some ⟨.own, 50, [.int .i64 (costL k n (dpLoop k n first (dp k n) (nx + 1 - 1 - first))), .slice A ln cp]⟩ ∧ RowV M6 (.slice A ln cp) (dpLoop k n first (dp k n) (nx + 1 - 1 - first))) ∧
            (b = true → ∀ M7, M7 = M6.set (M1.length + 1) ⟨.own, 50, [.int .i64 (costL k n ((first : Int) :: dp k n nx)), .slice (some ⟨M2.length + 1 + 1, 0, none⟩) ((dp k n nx).length + 1) 1]⟩ → Gw mid m M7 ∧ MG k mid e es2 M7 ∧ M7[m.length]? = some ⟨.own, 50, [.int .i64 0, .slice none 0 0]⟩ ∧ M7[M1.length + 1]? = some ⟨.own, 50, [.int .i64 (costL k n (dpLoop k n first (dp k n) (nx + 1 - 1 - first))), .slice (some ⟨M2.length + 1 + 1, 0, none⟩) ((dp k n nx).length + 1) 1]⟩ ∧ RowV M7 (.slice (some ⟨M2.length + 1 + 1, 0, none⟩) ((dp k n nx).length + 1) 1) (dpLoop k n first (dp k n) (nx + 1 - 1 - first))) := by
          intro M6 X hX h6 b hb
          obtain ⟨f1, f2, f3, f4, f5, f6⟩ := facts X hX
          rw [← h6] at f1 f2 f3 f4 f5 f6
          refine ⟨fun hbf => ?_, fun hbt M7 h7 => ?_⟩
          · rw [dls, hb, hbf, if_neg (by simp)]
            exact ⟨f1, f2, f3, f4, f5⟩
          · rw [dls, hb, hbt, if_pos rfl, h7]
            refine ⟨f1.set (.inl (by omega)) (by simp), f2.box f4 (by decide), ?_, ?_, .inr ⟨_, 1, rfl, ?_, by simp; omega⟩⟩
            · rw [List.getElem?_set_ne (by omega)]; exact f3
            · rw [List.getElem?_set_self (List.getElem?_eq_some_iff.1 f4).1]
            · refine f6.set_ne fun e2 => ?_
              have : M6[M2.length + 1 + 1]? = some (rowB ((first : Int) :: dp k n nx)) := f6
              rw [← e2, f4] at this
              cases this
        refine ⟨?_, ?_⟩
        · refine rcallH_rc (orderCost_rc _ _ k first nx hc3 hg hnx (by omega)) ?_
          rintro r new3 ⟨rfl, nr3⟩
          obtain ⟨f1, f2, f3, f4, f5, f6⟩ := facts new3 nr3
          have q0 := rd_own (k := 0) f4
          have q1 := rd_own (k := 1) f4
          have hl9 := (List.getElem?_eq_some_iff.1 f4).1
          obtain ⟨M4, hM4⟩ : ∃ M4, M4 = M3 ++ new3 := ⟨_, rfl⟩
          rw [← hM4] at f1 f2 f3 f4 f5 f6 q0 q1 hl9 ⊢
          simp (config := {implicitDefEqProofs := false, maxDischargeDepth := 20}) (disch := first | omega | (simp only [lenE]; done) | (simp only [lenE]; omega) | rfl | (simp only [lenE, markR_len]; done) | (simp only [lenE, markR_len]; omega)) only [runE, mapE, listE, initT_5, initT_6, initT_7, initT_8, resV, oneV, binA, unA, reduceCtorEq, Nat.reduceEqDiff, Nat.reduceAdd, Nat.reduceLT, Nat.reduceLeDiff, Nat.reduceMul, Nat.reduceSub, ↓reduceIte, decide_true, decide_false, Bool.true_eq_false, Bool.false_eq_true, Bool.not_true, Bool.not_false, if_true, if_false, and_true, true_and, memE, celE, w64, Nat.zero_add, Nat.add_zero, Nat.mul_one, putL, and_self, ldn, t0, t1, t2, t3, t4, t6, t9, t10, hcl, bld2, stP_aggL, q0, q1]
          obtain ⟨M5, hM5⟩ : ∃ M5, M5 = M4 ++ [⟨.own, 50, [.int .i64 (costL k n ((first : Int) :: dp k n nx)), .slice (some ⟨M2.length + 1 + 1, 0, none⟩) ((dp k n nx).length + 1) 1]⟩] := ⟨_, rfl⟩
          have hsh : ∃ X, NoRo X ∧ M5 = M3 ++ X := ⟨new3 ++ [⟨.own, 50, [.int .i64 (costL k n ((first : Int) :: dp k n nx)), .slice (some ⟨M2.length + 1 + 1, 0, none⟩) ((dp k n nx).length + 1) 1]⟩], noRo_app nr3 (noRo_own noRo_nil), by rw [hM5, hM4, List.append_assoc]⟩
          have L4 : M4.length = M3.length + new3.length := by rw [hM4]; simp
          obtain ⟨b13, hb13⟩ : ∃ b13, b13 = M4.length := ⟨_, rfl⟩
          have b13e : M5[b13]? = some ⟨.own, 50, [.int .i64 (costL k n ((first : Int) :: dp k n nx)), .slice (some ⟨M2.length + 1 + 1, 0, none⟩) ((dp k n nx).length + 1) 1]⟩ := by rw [hM5, hb13]; simp
          rw [← hM5, ← hb13]
          obtain ⟨p1, p2, p3, p4, p5, p6⟩ := (by obtain ⟨X, hX, h5⟩ := hsh; rw [h5]; exact facts X hX : Gw mid m M5 ∧ MG k mid e es2 M5 ∧ M5[m.length]? = some ⟨.own, 50, [.int .i64 0, .slice none 0 0]⟩ ∧
            M5[M1.length + 1]? = some ⟨.own, 50, [.int .i64 (costL k n (dpLoop k n first (dp k n) (nx - 1 - first))), .slice A ln cp]⟩ ∧ RowV M5 (.slice A ln cp) (dpLoop k n first (dp k n) (nx - 1 - first)) ∧ OwnR M5 (M2.length + 1 + 1) ((first : Int) :: dp k n nx))
          have iz : IntsA M5 (.slice (some ⟨M2.length + 1 + 1, 0, none⟩) ((dp k n nx).length + 1) 1) ((first : Int) :: dp k n nx) := p6.ints (by simp; omega) 1
          refine callH_rc (comesBefore_rc _ _ _ _ _ ((first : Int) :: dp k n nx) (dpLoop k n first (dp k n) (nx - 1 - first)) iz p5.ints) ?_
          rintro r new6 ⟨rfl, nr6⟩
          obtain ⟨M6, hM6⟩ : ∃ M6, M6 = M5 ++ new6 := ⟨_, rfl⟩
          have b136 : M6[b13]? = some ⟨.own, 50, [.int .i64 (costL k n ((first : Int) :: dp k n nx)), .slice (some ⟨M2.length + 1 + 1, 0, none⟩) ((dp k n nx).length + 1) 1]⟩ := by rw [hM6, List.getElem?_append_left (List.getElem?_eq_some_iff.1 b13e).1]; exact b13e
          have s0 := rd_own (k := 0) b136
          have s1 := rd_own (k := 1) b136
          rw [← hM6]
          have p46 : M6[M1.length + 1]? = some ⟨.own, 50, [.int .i64 (costL k n (dpLoop k n first (dp k n) (nx - 1 - first))), .slice A ln cp]⟩ := by rw [hM6, List.getElem?_append_left (List.getElem?_eq_some_iff.1 p4).1]; exact p4
          have w6 := st2_own p46 (costL k n ((first : Int) :: dp k n nx)) (some ⟨M2.length + 1 + 1, 0, none⟩) ((dp k n nx).length + 1) 1
          obtain ⟨M7, hM7⟩ : ∃ M7, M7 = M6.set (M1.length + 1) ⟨.own, 50, [.int .i64 (costL k n ((first : Int) :: dp k n nx)), .slice (some ⟨M2.length + 1 + 1, 0, none⟩) ((dp k n nx).length + 1) 1]⟩ := ⟨_, rfl⟩
          rw [← hM7] at w6
          obtain ⟨X, hX, hX5⟩ := hsh
          have dn := done M6 (X ++ new6) (noRo_app hX nr6) (by rw [hM6, hX5, List.append_assoc])
          cases hb : bef (costL k n ((first : Int) :: dp k n nx), (first : Int) :: dp k n nx) (costL k n (dpLoop k n first (dp k n) (nx - 1 - first)), dpLoop k n first (dp k n) (nx - 1 - first)) with
          | false =>
            obtain ⟨z1, z2, z3, z4, z5⟩ := (dn false hb).1 rfl
            simp (config := {implicitDefEqProofs := false, maxDischargeDepth := 20}) (disch := first | omega | (simp only [lenE]; done) | (simp only [lenE]; omega) | rfl | (simp only [lenE, markR_len]; done) | (simp only [lenE, markR_len]; omega)) only [runE, mapE, listE, initT_5, initT_6, initT_7, initT_8, resV, oneV, binA, unA, reduceCtorEq, Nat.reduceEqDiff, Nat.reduceAdd, Nat.reduceLT, Nat.reduceLeDiff, Nat.reduceMul, Nat.reduceSub, ↓reduceIte, decide_true, decide_false, Bool.true_eq_false, Bool.false_eq_true, Bool.not_true, Bool.not_false, if_true, if_false, and_true, true_and, memE, celE, w64, Nat.zero_add, Nat.add_zero, Nat.mul_one, putL, and_self, ldn, t0, t1, t2, t3, t4, t6, t9, t10]
            exact ⟨⟨nx + 1, M6, es2, A, ln, cp, by omega, by omega, by simp, rfl, z1, z2, hpre3, z3, z4, z5⟩, by simp [intOf]; omega⟩
          | true =>
            obtain ⟨z1, z2, z3, z4, z5⟩ := (dn true hb).2 rfl M7 hM7
            simp (config := {implicitDefEqProofs := false, maxDischargeDepth := 20}) (disch := first | omega | (simp only [lenE]; done) | (simp only [lenE]; omega) | rfl | (simp only [lenE, markR_len]; done) | (simp only [lenE, markR_len]; omega)) only [runE, mapE, listE, initT_5, initT_6, initT_7, initT_8, resV, oneV, binA, unA, reduceCtorEq, Nat.reduceEqDiff, Nat.reduceAdd, Nat.reduceLT, Nat.reduceLeDiff, Nat.reduceMul, Nat.reduceSub, ↓reduceIte, decide_true, decide_false, Bool.true_eq_false, Bool.false_eq_true, Bool.not_true, Bool.not_false, if_true, if_false, and_true, true_and, memE, celE, w64, Nat.zero_add, Nat.add_zero, Nat.mul_one, putL, and_self, ldn, t0, t1, t2, t3, t4, t6, t9, t10, s0, s1, stP_aggL, w6]
            exact ⟨⟨nx + 1, M7, es2, _, _, _, by omega, by omega, by simp, rfl, z1, z2, hpre3, z3, z4, z5⟩, by simp [intOf]; omega⟩
        · obtain ⟨f1, f2, f3, f4, f5, f6⟩ := facts [] noRo_nil
          rw [List.append_nil] at f1 f2 f3 f4 f5 f6
          obtain ⟨M4, hM4⟩ : ∃ M4, M4 = M3 ++ [⟨.own, 50, [.int .i64 0, .slice none 0 0]⟩] := ⟨_, rfl⟩
          have hc4 : CaseA M4 (.agg #[v1, v2, v3, v4]) k := by rw [hM4]; exact hc3.ext _
          rw [← hM4]
          refine rcallH_rc (orderCost_rc _ _ k first nx hc4 hg hnx (by omega)) ?_
          rintro r new3 ⟨rfl, nr3⟩
          have b130 : (M4 ++ new3)[M3.length]? = some ⟨.own, 50, [.int .i64 0, .slice none 0 0]⟩ := by rw [hM4, List.append_assoc]; simp
          have w3 := st2_own b130 (costL k n ((first : Int) :: dp k n nx)) (some ⟨M2.length + 1 + 1, 0, none⟩) ((dp k n nx).length + 1) 1
          obtain ⟨M5, hM5⟩ : ∃ M5, M5 = (M4 ++ new3).set M3.length ⟨.own, 50, [.int .i64 (costL k n ((first : Int) :: dp k n nx)), .slice (some ⟨M2.length + 1 + 1, 0, none⟩) ((dp k n nx).length + 1) 1]⟩ := ⟨_, rfl⟩
          rw [← hM5] at w3
          have hsh : ∃ X, NoRo X ∧ M5 = M3 ++ X := ⟨[⟨.own, 50, [.int .i64 (costL k n ((first : Int) :: dp k n nx)), .slice (some ⟨M2.length + 1 + 1, 0, none⟩) ((dp k n nx).length + 1) 1]⟩] ++ new3, noRo_app (noRo_own noRo_nil) nr3, by rw [hM5, hM4, List.append_assoc, List.set_append_right _ _ (Nat.le_refl _), Nat.sub_self]; rfl⟩
          obtain ⟨b13, hb13⟩ : ∃ b13, b13 = M3.length := ⟨_, rfl⟩
          have b13e : M5[b13]? = some ⟨.own, 50, [.int .i64 (costL k n ((first : Int) :: dp k n nx)), .slice (some ⟨M2.length + 1 + 1, 0, none⟩) ((dp k n nx).length + 1) 1]⟩ := by rw [hM5, hb13, List.getElem?_set_self (List.getElem?_eq_some_iff.1 b130).1]
          obtain ⟨p1, p2, p3, p4, p5, p6⟩ := (by obtain ⟨X, hX, h5⟩ := hsh; rw [h5]; exact facts X hX : Gw mid m M5 ∧ MG k mid e es2 M5 ∧ M5[m.length]? = some ⟨.own, 50, [.int .i64 0, .slice none 0 0]⟩ ∧
            M5[M1.length + 1]? = some ⟨.own, 50, [.int .i64 (costL k n (dpLoop k n first (dp k n) (nx - 1 - first))), .slice A ln cp]⟩ ∧ RowV M5 (.slice A ln cp) (dpLoop k n first (dp k n) (nx - 1 - first)) ∧ OwnR M5 (M2.length + 1 + 1) ((first : Int) :: dp k n nx))
          have q0 := rd_own (k := 0) p4
          have q1 := rd_own (k := 1) p4
          have q2 := rd_own (k := 0) b13e
          have q3 := rd_own (k := 1) b13e
          obtain ⟨M45, hM45⟩ : ∃ M45, M45 = M4 ++ new3 := ⟨_, rfl⟩
          rw [← hM45] at w3 ⊢
          have hb13' : b13 = M2.length + 1 + 1 + 1 := by rw [hb13, L3]
          rw [← hb13] at w3
          rw [← hb13']
          simp (config := {implicitDefEqProofs := false, maxDischargeDepth := 20}) (disch := first | omega | (simp only [lenE]; done) | (simp only [lenE]; omega) | rfl | (simp only [lenE, markR_len]; done) | (simp only [lenE, markR_len]; omega)) only [runE, mapE, listE, initT_5, initT_6, initT_7, initT_8, resV, oneV, binA, unA, reduceCtorEq, Nat.reduceEqDiff, Nat.reduceAdd, Nat.reduceLT, Nat.reduceLeDiff, Nat.reduceMul, Nat.reduceSub, ↓reduceIte, decide_true, decide_false, Bool.true_eq_false, Bool.false_eq_true, Bool.not_true, Bool.not_false, if_true, if_false, and_true, true_and, memE, celE, w64, Nat.zero_add, Nat.add_zero, Nat.mul_one, putL, and_self, ldn, t0, t1, t2, t3, t4, t6, t9, t10, hcl, bld2, stP_aggL, w3, q0, q1, q2, q3]
          have iz : IntsA M5 (.slice (some ⟨M2.length + 1 + 1, 0, none⟩) ((dp k n nx).length + 1) 1) ((first : Int) :: dp k n nx) := p6.ints (by simp; omega) 1
          refine callH_rc (comesBefore_rc _ _ _ _ _ ((first : Int) :: dp k n nx) (dpLoop k n first (dp k n) (nx - 1 - first)) iz p5.ints) ?_
          rintro r new6 ⟨rfl, nr6⟩
          obtain ⟨M6, hM6⟩ : ∃ M6, M6 = M5 ++ new6 := ⟨_, rfl⟩
          have b136 : M6[b13]? = some ⟨.own, 50, [.int .i64 (costL k n ((first : Int) :: dp k n nx)), .slice (some ⟨M2.length + 1 + 1, 0, none⟩) ((dp k n nx).length + 1) 1]⟩ := by rw [hM6, List.getElem?_append_left (List.getElem?_eq_some_iff.1 b13e).1]; exact b13e
          have s0 := rd_own (k := 0) b136
          have s1 := rd_own (k := 1) b136
          rw [← hM6]
          have p46 : M6[M1.length + 1]? = some ⟨.own, 50, [.int .i64 (costL k n (dpLoop k n first (dp k n) (nx - 1 - first))), .slice A ln cp]⟩ := by rw [hM6, List.getElem?_append_left (List.getElem?_eq_some_iff.1 p4).1]; exact p4
          have w6 := st2_own p46 (costL k n ((first : Int) :: dp k n nx)) (some ⟨M2.length + 1 + 1, 0, none⟩) ((dp k n nx).length + 1) 1
          obtain ⟨M7, hM7⟩ : ∃ M7, M7 = M6.set (M1.length + 1) ⟨.own, 50, [.int .i64 (costL k n ((first : Int) :: dp k n nx)), .slice (some ⟨M2.length + 1 + 1, 0, none⟩) ((dp k n nx).length + 1) 1]⟩ := ⟨_, rfl⟩
          rw [← hM7] at w6
          obtain ⟨X, hX, hX5⟩ := hsh
          have dn := done M6 (X ++ new6) (noRo_app hX nr6) (by rw [hM6, hX5, List.append_assoc])
          cases hb : bef (costL k n ((first : Int) :: dp k n nx), (first : Int) :: dp k n nx) (costL k n (dpLoop k n first (dp k n) (nx - 1 - first)), dpLoop k n first (dp k n) (nx - 1 - first)) with
          | false =>
            obtain ⟨z1, z2, z3, z4, z5⟩ := (dn false hb).1 rfl
            simp (config := {implicitDefEqProofs := false, maxDischargeDepth := 20}) (disch := first | omega | (simp only [lenE]; done) | (simp only [lenE]; omega) | rfl | (simp only [lenE, markR_len]; done) | (simp only [lenE, markR_len]; omega)) only [runE, mapE, listE, initT_5, initT_6, initT_7, initT_8, resV, oneV, binA, unA, reduceCtorEq, Nat.reduceEqDiff, Nat.reduceAdd, Nat.reduceLT, Nat.reduceLeDiff, Nat.reduceMul, Nat.reduceSub, ↓reduceIte, decide_true, decide_false, Bool.true_eq_false, Bool.false_eq_true, Bool.not_true, Bool.not_false, if_true, if_false, and_true, true_and, memE, celE, w64, Nat.zero_add, Nat.add_zero, Nat.mul_one, putL, and_self, ldn, t0, t1, t2, t3, t4, t6, t9, t10]
            exact ⟨⟨nx + 1, M6, es2, A, ln, cp, by omega, by omega, by simp, rfl, z1, z2, hpre3, z3, z4, z5⟩, by simp [intOf]; omega⟩
          | true =>
            obtain ⟨z1, z2, z3, z4, z5⟩ := (dn true hb).2 rfl M7 hM7
            simp (config := {implicitDefEqProofs := false, maxDischargeDepth := 20}) (disch := first | omega | (simp only [lenE]; done) | (simp only [lenE]; omega) | rfl | (simp only [lenE, markR_len]; done) | (simp only [lenE, markR_len]; omega)) only [runE, mapE, listE, initT_5, initT_6, initT_7, initT_8, resV, oneV, binA, unA, reduceCtorEq, Nat.reduceEqDiff, Nat.reduceAdd, Nat.reduceLT, Nat.reduceLeDiff, Nat.reduceMul, Nat.reduceSub, ↓reduceIte, decide_true, decide_false, Bool.true_eq_false, Bool.false_eq_true, Bool.not_true, Bool.not_false, if_true, if_false, and_true, true_and, memE, celE, w64, Nat.zero_add, Nat.add_zero, Nat.mul_one, putL, and_self, ldn, t0, t1, t2, t3, t4, t6, t9, t10, s0, s1, stP_aggL, w6]
            exact ⟨⟨nx + 1, M7, es2, _, _, _, by omega, by omega, by simp, rfl, z1, z2, hpre3, z3, z4, z5⟩, by simp [intOf]; omega⟩
      · have hlt2' : ¬ ((nx : Int) < n) := by omega
        have e0 : nx = n := by omega
        subst e0
        have hes : lkE es1 first = none := by rw [hpre _ (Int.le_refl _)]; exact hl
        have dl := dp_loop k hlt
        rw [← dl] at hrow b9
        obtain ⟨M8, hM8⟩ : ∃ M8, M8 = M.set mid ⟨.dead, e, .bool true :: (es1 ++ [.tuple #[.int .i64 first, .agg #[.int .i64 (costL k nx (dp k nx first)), .slice A ln cp]]])⟩ := ⟨_, rfl⟩
        have mu := mupA_mp mg.mp hes (.agg #[.int .i64 (costL k nx (dp k nx first)), .slice A ln cp])
        rw [← hM8] at mu
        have hne6 : mid ≠ m.length := by omega
        have hne9 : mid ≠ M1.length + 1 := by omega
        have r90 := rd_own (k := 0) b9
        have r91 := rd_own (k := 1) b9
        have b98 : M8[M1.length + 1]? = some ⟨.own, 50, [.int .i64 (costL k nx (dp k nx first)), .slice A ln cp]⟩ := by rw [hM8, List.getElem?_set_ne hne9]; exact b9
        have b68 : M8[m.length]? = some ⟨.own, 50, [.int .i64 0, .slice none 0 0]⟩ := by rw [hM8, List.getElem?_set_ne hne6]; exact b6
        have r80 := rd_own (k := 0) b98
        have r81 := rd_own (k := 1) b98
        have w8 := st2_own b68 (costL k nx (dp k nx first)) A ln cp
        obtain ⟨M9, hM9⟩ : ∃ M9, M9 = M8.set m.length ⟨.own, 50, [.int .i64 (costL k nx (dp k nx first)), .slice A ln cp]⟩ := ⟨_, rfl⟩
        rw [← hM9] at w8
        have b99 : M9[m.length]? = some ⟨.own, 50, [.int .i64 (costL k nx (dp k nx first)), .slice A ln cp]⟩ := by rw [hM9, List.getElem?_set_self (List.getElem?_eq_some_iff.1 b68).1]
        have s90 := rd_own (k := 0) b99
        have s91 := rd_own (k := 1) b99
        simp (config := {implicitDefEqProofs := false, maxDischargeDepth := 20}) (disch := first | omega | (simp only [lenE]; done) | (simp only [lenE]; omega) | rfl | (simp only [lenE, markR_len]; done) | (simp only [lenE, markR_len]; omega)) only [runE, mapE, listE, initT_5, initT_6, initT_7, initT_8, resV, oneV, binA, unA, reduceCtorEq, Nat.reduceEqDiff, Nat.reduceAdd, Nat.reduceLT, Nat.reduceLeDiff, Nat.reduceMul, Nat.reduceSub, ↓reduceIte, decide_true, decide_false, Bool.true_eq_false, Bool.false_eq_true, Bool.not_true, Bool.not_false, if_true, if_false, and_true, true_and, memE, celE, w64, Nat.zero_add, Nat.add_zero, Nat.mul_one, putL, and_self, ldn, t0, t1, t2, t3, t4, t6, t9, t10, tm, rn, hlt2', rk, r90, r91, mu, stP_aggL, r80, r81, w8, s90, s91]
        have hml : mid < M.length := (List.getElem?_eq_some_iff.1 mg.mp).1
        have keepO : ∀ id l, OwnR M id l → OwnR M9 id l := fun id l ho => by
          rw [hM9, hM8]
          refine (ho.set_ne fun e2 => ?_).set_ne fun e2 => ?_
          · subst e2
            have : M[mid]? = some (rowB l) := ho
            rw [mg.mp] at this
            cases this
          · subst e2
            have : M[m.length]? = some (rowB l) := ho
            rw [b6] at this
            cases this
        have gw9 : Gw mid m M9 := by rw [hM9, hM8]; exact (gw.set (.inr rfl) (by simp)).set (.inl (Nat.le_refl _)) (by simp)
        have mid9 : M9[mid]? = some ⟨.dead, e, .bool true :: (es1 ++ [.tuple #[.int .i64 first, .agg #[.int .i64 (costL k nx (dp k nx first)), .slice A ln cp]]])⟩ := by
          rw [hM9, List.getElem?_set_ne (Ne.symm hne6), hM8, List.getElem?_set_self hml]
        rw [← hn]
        refine ⟨_, gw9, hE.gw gw9 ⟨mid9, fun x v hv => ?_, ?_⟩, fun x hx => ?_, A, ln, cp, rfl, hrow.keep keepO⟩
        · rw [lkE_app] at hv
          cases hx : lkE es1 x with
          | some u =>
            rw [hx] at hv
            cases hv
            obtain ⟨j, h1, h2, h3⟩ := mg.ok x _ hx
            exact ⟨j, h1, h2, h3.keep keepO⟩
          | none =>
            rw [hx] at hv
            simp only [] at hv
            split at hv
            · rename_i hfx
              cases hv
              refine ⟨first, hfx.symm, by omega, ?_⟩
              rw [← hn]
              exact ⟨A, ln, cp, rfl, hrow.keep keepO⟩
            · cases hv
        · rw [lkE_app]
          have := mg.end_
          cases hx : lkE es1 k.need.length with
          | some u => rfl
          | none => rw [hx] at this; cases this
        · rw [lkE_app, hpre x (by omega)]
          cases lkE es x with
          | some u => rfl
          | none => rw [if_neg (by omega)]
end Go.Proofs.Ytonpeflncnccdaa.Ab
